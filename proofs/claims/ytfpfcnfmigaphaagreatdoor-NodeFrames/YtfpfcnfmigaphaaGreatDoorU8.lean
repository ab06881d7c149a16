/-
  Laws that the proof stands on.
-/
import Derived.Test.YtfpfcnfmigaphaaGreatDoorU7
import Derived.Test.YtfpfcnfmigaphaaGreatDoorChecked
import Derived.Conc.LoneSelect
namespace Go.Proofs.YtfpfcnfmigaphaaGreatDoor
open Go.RowKit
set_option linter.unusedVariables false
set_option linter.unusedSimpArgs false
set_option maxRecDepth 4000
variable {w:World}
structure ER where
 kd:Int
 n:Int
 now:Int
 s:ByteArray
 a:Option Addr
 dn:Nat
 dc:Nat
 xs:List Nat
def ER.dflt:ER:=⟨0,0,0,⟨#[]⟩,none,0,0,[]⟩
def BX(w:World)(b off:Nat)(d:ER):Prop:=
 w.cell? ⟨b,off,none⟩=some (.int .i64 d.kd)/\w.cell? ⟨b,off+1,none⟩=some (.int .i64 d.n)/\w.cell? ⟨b,off+2,none⟩=some (.int .i64 d.now)/\w.cell? ⟨b,off+3,none⟩=some (.string d.s)/\w.cell? ⟨b,off+4,none⟩=some (.slice d.a d.dn d.dc)
theorem BX.belowB{w':World}{b off B:Nat}{d:ER}(h:BX w b off d)(f:Below B w w')(e:b<B):BX w' b off d:=
 ⟨(f.cell (p:=⟨b,off,none⟩) e).trans h.1,(f.cell (p:=⟨b,off+1,none⟩) e).trans h.2.1,(f.cell (p:=⟨b,off+2,none⟩) e).trans h.2.2.1,(f.cell (p:=⟨b,off+3,none⟩) e).trans h.2.2.2.1,(f.cell (p:=⟨b,off+4,none⟩) e).trans h.2.2.2.2⟩
def DH(w:World)(a:Option Addr)(n:Nat)(ds:List ER):Prop:=
 ds.length=n/\(∀i,i<n->RowAt w (ds.getD i .dflt).a (ds.getD i .dflt).dn (ds.getD i .dflt).xs)/\(n=0\/∃b off,a=some ⟨b,off,none⟩/\∀i,i<n->BX w b (off+i*5) (ds.getD i .dflt))
theorem DH.at{a:Option Addr}{n:Nat}{ds:List ER}(h:DH w a n ds){i:Nat}(e:i<n):∃b off,a=some ⟨b,off,none⟩/\∀i,i<n->BX w b (off+i*5) (ds.getD i .dflt):=by
 rcases h.2.2 with d|d
 ·omega
 ·exact d
theorem DH.below{w':World}{a:Option Addr}{n:Nat}{ds:List ER}(h:DH w a n ds)(e:Below w.heap.size w w'):DH w' a n ds:=by
 refine⟨h.1,fun i d=>(h.2.1 i d).below e,?_⟩;rcases h.2.2 with g|⟨b,off,rfl,f⟩
 ·exact .inl g
 ·exact .inr ⟨b,off,rfl,fun i d=>(f i d).belowB e (World.block_lt_of_cell? w _ (f i d).1)⟩
def JI(ds:List ER):Prop:=ds.length<=60/\∀i,(ds.getD i .dflt).s.size<=2000/\(ds.getD i .dflt).dn<=300
set_option maxHeartbeats 400000 in
theorem jD(a:Option Addr)(n c:Nat)(ds:List ER)(w:World)(h:DH w a n ds)(O:n<=9223372036854775807)(d:∀i,(ds.getD i .dflt).s.size<=9223372036854775807/\(ds.getD i .dflt).dn<=9223372036854775807):
  Calls Tryz.prog 8 #[.slice a n c] w fun e w'=>((e=.returned (.int .i64 1)/\JI ds)\/(e=.returned (.int .i64 0)/\¬JI ds))/\w'=w:=by
 obtain rfl:=h.1;by_cases L:60<ds.length
 ·have G:decide (60<(ds.length:Int))=true:=by simp;omega
  clear h;go_enter Tryz.func8,Tryz.ntmps8;go_wp2;go_ret;exact⟨.inr ⟨rfl,fun h=>by have:=h.1;omega⟩,rfl⟩
 ·have G:decide (60<(ds.length:Int))=false:=by simp;omega
  go_enter Tryz.func8,Tryz.ntmps8;go_wp2;go_loop [3] (fun i=> ∃k:Nat,k<=ds.length/\i=.int .i64 k/\Hid (∀j,j<k->(ds.getD j .dflt).s.size<=2000/\(ds.getD j .dflt).dn<=300)) (fun i=>ds.length-(intOf i).toNat)
  case atStart=>exact⟨0,Nat.zero_le _,rfl,Ab (fun j I=>by omega)⟩
  case round=>
   obtain⟨k,N,rfl,l⟩:=hrel;by_cases g:k<ds.length
   ·obtain⟨b,off,rfl,q⟩:=h.at g
    obtain⟨-, -, -,D,E⟩:=q k g;have u:(k:Int)<(ds.length:Int):=by omega
    have C:=d k;clear q h;by_cases J:2000<(ds.getD k .dflt).s.size
    ·have m:decide (2000<((ds.getD k .dflt).s.size:Int))=true:=by simp only[decide_eq_true_eq];omega
     have f:Hid (¬JI ds):=Ab (fun h=>by have:=(h.2 k).1;omega);clear d;generalize ds.getD k .dflt=x at*;go_wp2;go_ret;exact⟨.inr ⟨rfl,Aa f⟩,rfl⟩
    ·have m:decide (2000<((ds.getD k .dflt).s.size:Int))=false:=by simp only[decide_eq_false_iff_not];omega
     by_cases K:300<(ds.getD k .dflt).dn
     ·have p:decide (300<((ds.getD k .dflt).dn:Int))=true:=by simp only[decide_eq_true_eq];omega
      have f:Hid (¬JI ds):=Ab (fun h=>by have:=(h.2 k).2;omega);clear d;generalize ds.getD k .dflt=x at*;go_wp2;go_ret;exact⟨.inr ⟨rfl,Aa f⟩,rfl⟩
     ·have p:decide (300<((ds.getD k .dflt).dn:Int))=false:=by simp only[decide_eq_false_iff_not];omega
      have y:=Ab (show∀j,j<k+1->(ds.getD j .dflt).s.size<=2000/\(ds.getD j .dflt).dn<=300 from fun j I=>by
       by_cases e:j=k
       ·rw[e];omega
       ·exact Aa l j (by omega))
      generalize ds.getD k .dflt=x at*;clear l d;go_wp2;go_round
      case rel=>exact⟨k+1,by omega,by go_num,y⟩
      case measure=>simp[intOf];omega
   ·have f:Hid (JI ds):=Ab ⟨by omega,fun i=>by
     by_cases H:i<k
     ·exact Aa l i H
     ·rw[List.getD_eq_getElem?_getD,List.getElem?_eq_none (by omega)]
      exact⟨Nat.zero_le _,Nat.zero_le _⟩⟩
    clear h l d;go_wp2;go_ret;exact⟨.inl ⟨rfl,Aa f⟩,rfl⟩
set_option maxHeartbeats 400000 in
theorem dw(f:Ca)(w:World)(j:f.obj.size<=9223372036854775807):
  Calls Tryz.prog 7 #[f.val] w fun e w'=>((e=.returned (.int .i64 1)/\600<f.obj.size)\/(e=.returned (.int .i64 0)/\f.obj.size<=600))/\Below w.heap.size w w':=by
 obtain⟨a,n,c,ds,obj,size,spread,buffer,queue,cache,rate,timeout,target⟩:=f;simp only[Ca.val]at j⊢;have d:=Ab (AB w (.cells #[.slice a n c,.string obj,.int .i64 size,.int .i64 spread,.int .i64 buffer,.int .i64 queue,.int .i64 cache,.float .f64 rate,.int .i64 timeout,.int .i64 target] 25));by_cases h:600<obj.size
 ·have g:decide (600<(obj.size:Int))=true:=by simp only[decide_eq_true_eq];omega
  go_enter Tryz.func7,Tryz.ntmps7;go_wp2;go_ret;exact⟨.inl ⟨rfl,h⟩,Aa d⟩
 ·have g:decide (600<(obj.size:Int))=false:=by simp only[decide_eq_false_iff_not];omega
  go_enter Tryz.func7,Tryz.ntmps7;go_wp2;go_ret;exact⟨.inr ⟨rfl,by omega⟩,Aa d⟩
end Go.Proofs.YtfpfcnfmigaphaaGreatDoor
namespace Go.Proofs.YtfpfcnfmigaphaaGreatDoor
open Go.ChangeShapes Go.WideShapes Go.ChangeAt Go.RowKit
set_option linter.unusedVariables false
set_option linter.unusedSimpArgs false
set_option maxRecDepth 4000
theorem Xt:Tryz.prog.cellsOf 34=5:=by kernel_rfl
theorem nZ{W:World}{H:Type}{enc:TypeId×Value->H}{f:Nat}{cs:List Value}{x:DataW H×List MemPlace}(k:cs.length=5)
  (h:DataW.trod enc Tryz.prog W 0 (fun _=>true) true f 34 cs=some x):∃d:ER,cs=[.int .i64 d.kd,.int .i64 d.n,.int .i64 d.now,.string d.s,.slice d.a d.dn d.dc]/\RowAt W d.a d.dn d.xs/\d.s.size<=9223372036854775807/\d.dn<=9223372036854775807:=by
 match cs,k with
 |[c0,c1,c2,c3,c4],_=>
  obtain⟨e,n,_,_,_,j,g⟩:=DataW.trod_struct Tryz.underlying34 h;have K:e.length=5:=j;obtain⟨L,m⟩:=DM (l:=e) (i:=0) (by omega);obtain⟨N,p⟩:=DM (l:=e) (i:=1) (by omega);obtain⟨O,q⟩:=DM (l:=e) (i:=2) (by omega);obtain⟨R,u⟩:=DM (l:=e) (i:=3) (by omega);obtain⟨S,y⟩:=DM (l:=e) (i:=4) (by omega);obtain⟨G,rfl⟩:=FT ((g 0 _ rfl).trans m);obtain⟨I,rfl⟩:=FT ((g 1 _ rfl).trans p);obtain⟨J,rfl⟩:=FT ((g 2 _ rfl).trans q);obtain⟨s,rfl,E⟩:=UY ((g 3 _ rfl).trans u);obtain⟨a,l,c,xs,rfl,D,C,_⟩:=kX ((g 4 _ rfl).trans y);exact⟨⟨G,I,J,s,a,l,c,xs⟩,rfl,D,E,C⟩
theorem TS(Q:Nat->ER->Prop):∀n,(∀i,i<n->∃r,Q i r)->∃rs:List ER,rs.length=n/\∀i,i<n->Q i (rs.getD i .dflt)
 |0,_=>⟨[],rfl,fun i d=>by omega⟩
 |n+1,h=>by
  obtain⟨rs,f,g⟩:=TS Q n (fun i d=>h i (by omega));obtain⟨r,hp⟩:=h n (by omega);refine⟨rs++[r],by simp[f],fun i d=>?_⟩;by_cases e:i<n
  ·have:=g i e
   rwa[show(rs++[r]).getD i .dflt=rs.getD i .dflt from by simp[List.getD_eq_getElem?_getD,List.getElem?_append_left (show i<rs.length by omega)]]
  ·obtain rfl:i=n:=by omega
   rwa[show(rs++[r]).getD i .dflt=r from by simp[List.getD_eq_getElem?_getD,<-f]]
theorem YR{W:World}{H:Type}{enc:TypeId×Value->H}{a:Option Addr}{len cap:Nat}{d:DataW H}{ps:List MemPlace}
  (h:DataW.Trod enc Tryz.prog W 0 (fun _=>true) true 26 (.slice a len cap) d ps):∃C,DH W a len C/\len<=9223372036854775807/\∀i,(C.getD i .dflt).s.size<=9223372036854775807/\(C.getD i .dflt).dn<=9223372036854775807:=by
 obtain⟨K,V⟩:=h;rcases Go.Deep.open_slice Tryz.underlying26 V with⟨e,_⟩|⟨x,l,c,m,n,D,Pl,e,_,hl,X,I,_,hx⟩
 ·simp[Value.cells]at e
  obtain⟨rfl,rfl,rfl⟩:=e;exact⟨[],⟨rfl,fun i k=>by omega,.inl rfl⟩,by decide,fun i=>⟨Nat.zero_le _,Nat.zero_le _⟩⟩
 ·simp[Value.cells]at e
  obtain⟨rfl,rfl,rfl⟩:=e;have Y:m=cap:=by simpa using I
  have N:=Kz X
  obtain⟨C,J,G⟩:=TS (fun i d=>(∀j u,[(.int .i64 d.kd:Value),.int .i64 d.n,.int .i64 d.now,.string d.s,.slice d.a d.dn d.dc][j]? =some u->W.cell? ((x.add (i*5)).add j)=some u)/\RowAt W d.a d.dn d.xs/\d.s.size<=9223372036854775807/\d.dn<=9223372036854775807) len (fun i k=>by
   obtain⟨R,L,T⟩:=hx i (by omega);rw[Xt]at L;obtain⟨_,y,g⟩:=World.cells?_some L;obtain⟨p,rfl,Z⟩:=nZ y T;exact⟨p,fun j u O=>(g j (by have:=(List.getElem?_eq_some_iff.1 O).1;simpa using this)).trans O,Z⟩)
  refine⟨C,⟨J,fun i k=>(G i k).2.1,?_⟩,by omega,fun i=>?_⟩
  ·by_cases S:len=0
   ·exact .inl S
   ·obtain⟨b,off,E⟩:=x
    have f:=(G 0 (by omega)).1 0 _ rfl;have q:E=none:=by simpa [Addr.add]using World.cell?_spot f
    subst q;refine .inr ⟨b,off,rfl,fun i k=>?_⟩;have f:=(G i k).1;refine⟨?_,?_,?_,?_,?_⟩
    ·have:=f 0 _ rfl;rwa[D6,D6]at this
    ·have:=f 1 _ rfl;rwa[D6,D6]at this
    ·have:=f 2 _ rfl;rwa[D6,D6]at this
    ·have:=f 3 _ rfl;rwa[D6,D6]at this
    ·have:=f 4 _ rfl;rwa[D6,D6]at this
  ·by_cases k:i<len
   ·exact(G i k).2.2
   ·rw[List.getD_eq_getElem?_getD,List.getElem?_eq_none (by omega)]
    exact⟨Nat.zero_le _,Nat.zero_le _⟩
end Go.Proofs.YtfpfcnfmigaphaaGreatDoor
namespace Go.Proofs.YtfpfcnfmigaphaaGreatDoor
open Go.RowKit Go.Conc
set_option linter.unusedVariables false
set_option linter.unusedSimpArgs false
set_option maxRecDepth 4000
def G9(P:Program)(c:Code)(Q:Exit->Act->World->Prop)(a:Act)(w:World):Prop:=
 ∀(b:Frame) (k:List Item) (cs:List Frame),b.kind≠ .early->∃e d w',Q e d w'/\Arrives P (lone (b.at a (.code c::k)) cs w) b k cs e d w'
section
variable {P:Program} {Q:Exit->Act->World->Prop} {a:Act} {w:World}
theorem MA{c:Code}(h:c.wp P Q a w):G9 P c Q a w:=fun b k cs _=>h b k cs
theorem Mc{x y:Code}(h:G9 P x (Exit.then (G9 P y Q) Q) a w):G9 P (.seq x y) Q a w:=by
 intro b k cs j;obtain⟨e,n,w1,l,m⟩:=h b (.code y::k) cs j;by_cases d:e=.normal
 ·subst d
  obtain⟨q,p,w2,f,g⟩:=l b k cs j;exact⟨q,p,w2,f,Arrives.of_steps (Steps.head step_seq m) g⟩
 ·have u:=Arrives.of_steps (Steps.one (step_seq (P:=P) (b:=b) (a:=a) (k:=k) (cs:=cs) (w:=w) (x:=x) (y:=y))) (Arrives.pass (x:=.code y) rfl (fun _ _=>.inl d) m)
  refine⟨e,n,w1,?_,u⟩;cases e<;>first|exact absurd rfl d|exact l
theorem Gz{x y:Code}(h:∀K:Act->World->Prop,(∀a w,G9 P y Q a w->K a w)->x.wp P (Exit.then K Q) a w):G9 P (.seq x y) Q a w:=
 Mc (MA (h _ fun _ _ h=>h))
theorem MY{f:FuncId}{d:Func}{c:Code}{args:Array Value}{R:Ending->World->Prop}
  (p:P.funcs[f]? =some d) (y:d.body=some c) (n:∀w',¬R .outgrown w')
  (h:G9 P c (bodyPost P d R) {tmps:=args++Array.replicate (d.ntmps-args.size) undef,defers:=[]} w):Calls P f args w R:=by
 refine calls_of_loneTo (fun cs=>?_) n;have q:Frame.enter P f args .normal=(base f).at {tmps:=args++Array.replicate (d.ntmps-args.size) undef,defers:=[]} [.code c]:=by
  simp[Frame.enter,Frame.at,p,y,base]
 rw[q];obtain⟨e,C,w',j,k⟩:=h (base f) [] cs (by simp[base])
 match e,j,k with
 | .normal,⟨m,v,u,l⟩,k=>exact⟨_,w',k.trans (.one step_end),.returned v,_,rfl,l,rfl,rfl,m,rfl,d,p,u⟩
 | .ret,⟨m,v,u,l⟩,⟨_,k⟩=>exact⟨_,w',k,.returned v,_,rfl,l,rfl,rfl,m,rfl,d,p,u⟩
 | .panic g,⟨m,l⟩,⟨_,k⟩=>exact⟨_,w',k,.panicked g,_,rfl,l,rfl,rfl,m,d,p⟩
 | .exit _,j,_=>exact j.elim
 | .goto _,j,_=>exact j.elim
 | .outgrown,j,_=>exact absurd j (n _)
def K0(P:Program)(o:Oper)(a:Act)(w:World)(v:Value)(w':World):Prop:=
 ∀(b:Frame) (ops:Array Oper) (i:Nat) (rest:List Nat) (k:List Item) (cs:List Frame),b.kind≠ .early->ops[i]? =some o->Region.wanted o (yielded ops a.tmps)=true->
  step P (lone (b.at a (.inRegion ops (i::rest)::k)) cs w)=.next (lone (b.at (a.put o.dst v) (.inRegion ops rest::k)) cs w')
theorem Ob{id:Nat}{o:Oper}{l:List Oper}{v:Value}{w':World}(y:o.guard=none)(u:K0 P o a w v w')
  (h:wpList P (o::l).toArray Q l (a.put o.dst v) w'):G9 P (.region id (o::l).toArray false) Q a w:=by
 intro b k cs q;have D:Region.wanted o (yielded (o::l).toArray a.tmps)=true:=by simp[Region.wanted,y]
 have m:=u b (o::l).toArray 0 (List.range' 1 l.length) k cs q (by simp) D;have n:=wpOps_eq_wpList (P:=P) (ops:=(o::l).toArray) (Q:=Q) l 1 (fun j=>by simp[Nat.add_comm 1 j]);rw[<-n]at h;obtain⟨e,g,E,C,d⟩:=wp_ops _ _ _ h b k cs;have f:=step_region (P:=P) (b:=b) (a:=a) (k:=k) (cs:=cs) (w:=w) (ops:=(o::l).toArray) (id:=id);have p:List.range (o::l).toArray.size=0::List.range' 1 l.length:=by
  rw[List.size_toArray,List.length_cons,List.range_eq_range',List.range'_succ]
 rw[p]at f;exact⟨e,g,E,C,.of_steps (.head f (.one m)) d⟩
section
variable {o:Oper} {c cap s r:Nat} {buf:Array Value} {z v:Value} {tm:Bool}
theorem aV(h:(execOp a.eval o).run P w=.ok (.comm #[scase c v z] false .select) w)(g:w.heap[c]? =some (.chan cap buf false s r tm))(d:buf.size<cap):
  K0 P o a w (.tuple #[goInt 0,.bool false]) (w.setChan c cap (buf.push v) false (s+1) r tm):=by
 intro b ops i rest k cs f e j;rw[lone_eq_solo,step_lone_select_send_room (stepG_comm e j f h) g d,Frame.finish_at,e];rfl
theorem aU(h:(execOp a.eval o).run P w=.ok (.comm #[scase c v z] false .select) w)(g:w.heap[c]? =some (.chan cap buf false s r tm))(d:cap<=buf.size):
  K0 P o a w (.tuple #[goInt (-1),.bool false]) w:=by
 intro b ops i rest k cs f e j;rw[lone_eq_solo,step_lone_select_send_full (stepG_comm e j f h) g d,Frame.finish_at,e];rfl
theorem aT(h:(execOp a.eval o).run P w=.ok (.comm #[rcase c z] false .select) w)(g:w.heap[c]? =some (.chan cap buf false s r tm))(d:0<buf.size):
  K0 P o a w (.tuple #[goInt 0,.bool true,buf.getD 0 undef]) (w.setChan c cap (buf.extract 1 buf.size) false s (r+1) tm):=by
 intro b ops i rest k cs f e j;rw[lone_eq_solo,step_lone_select_recv_buf (stepG_comm e j f h) g d,Frame.finish_at,e];rfl
end
end
end Go.Proofs.YtfpfcnfmigaphaaGreatDoor
namespace Go.Proofs.YtfpfcnfmigaphaaGreatDoor
open Go.RowKit
set_option linter.unusedVariables false
set_option linter.unusedSimpArgs false
set_option maxRecDepth 4000
variable {F:Nat->Prop}{w w1 w2 w':World}
structure Tu(F:Nat->Prop)(w w':World):Prop where
 os:w'.os=w.os
 tape:w'.tape=w.tape
 output:w'.output=w.output
 size:w.heap.size<=w'.heap.size
 block:∀k,k<w.heap.size->¬F k->w'.heap[k]? =w.heap[k]?
theorem Tu.refl(F:Nat->Prop)(w:World):Tu F w w:=⟨rfl,rfl,rfl,Nat.le_refl _,fun _ _ _=>rfl⟩
theorem Tu.trans{G:Nat->Prop}(h:Tu F w w1)(k:Tu G w1 w2)(g:∀j,j<w.heap.size->G j->F j):Tu F w w2:=
 ⟨k.os.trans h.os,k.tape.trans h.tape,k.output.trans h.output,Nat.le_trans h.size k.size,fun j d e=>(k.block j (Nat.lt_of_lt_of_le d h.size) fun f=>e (g j d f)).trans (h.block j d e)⟩
theorem Tu.of_below(h:Below w.heap.size w w'):Tu F w w':=⟨h.os,h.tape,h.output,h.size,fun j d _=>h.block j d⟩
theorem Tu.of_gb{r:Option Nat}(h:w.grownBy w' r)(g:∀j,j<w.heap.size->r=some j->F j):Tu F w w':=
 ⟨h.os,h.tape,h.output,h.size,fun j d f=>h.block j d fun e=>f (g j d e.symm)⟩
theorem Tu.below(h:Tu F w w'){B:Nat}(e:B<=w.heap.size)(f:∀j,j<B->¬F j):Below B w w':=
 ⟨h.os,h.tape,h.output,h.size,fun j d=>h.block j (Nat.lt_of_lt_of_le d e) (f j d)⟩
theorem Tu.then(h:Tu F w w1)(k:Below w1.heap.size w1 w2):Tu F w w2:=h.trans (Tu.of_below (F:=F) k) fun _ _ h=>h
theorem Tu.after(h:Below w.heap.size w w1)(k:Tu F w1 w2):Tu F w w2:=(Tu.of_below (F:=F) h).trans k fun _ _ h=>h
theorem Own.blkU{B g:Nat}{v:Value}{xs:List Nat}(h:Own w B v xs)(e:v.ownBlock=some g):∃d,w.heap[g]? =some (.cells d 69 (0,0)):=by
 rcases h.2.2 with⟨rfl,_⟩|⟨g',cap,d,rfl,_,f,_⟩
 ·cases e
 ·simp only[Value.ownBlock,Option.some.injEq]at e
  exact⟨d,e▸f⟩
theorem Own.tu{B:Nat}{v:Value}{xs:List Nat}(h:Own w B v xs)(ht:Tu F w w')(l:∀j,v.ownBlock=some j->¬F j):Own w' B v xs:=by
 refine⟨h.1,h.2.1,?_⟩;rcases h.2.2 with k|⟨g,cap,e,f,m,d,r⟩
 ·exact .inl k
 ·exact .inr ⟨g,cap,e,f,m,(ht.block g (Array.getElem?_eq_some_iff.1 d).1 (l g (by rw[f];rfl))).trans d,r⟩
theorem GR{q:Nat}(h:Below w.heap.size w w1)(ht:Tu (fun j=>j=q) w1 w2)(f:w.heap.size<=q):Below w.heap.size w w2:=
 h.trans (ht.below h.size fun j d e=>by omega)
end Go.Proofs.YtfpfcnfmigaphaaGreatDoor
namespace Go.Proofs.YtfpfcnfmigaphaaGreatDoor.Ech
variable {B A:List Nat}{x i b:Nat}
def JH:Nat->Nat->Nat
 |0,_=>0
 |f+1,x=>if x%2=1 then 0 else JH f (x/2)+1
def low(x:Nat):Nat:=JH x x
theorem NR:∀f x,x≠0->x<=f->x.testBit (JH f x)=true/\∀j,j<JH f x->x.testBit j=false
 |0,x,h,d=>absurd (Nat.le_zero.1 d) h
 |f+1,x,h,d=>by
  unfold JH;by_cases e:x%2=1
  ·rw[if_pos e]
   exact⟨by rw[Nat.testBit_zero];simpa using e,fun j l=>by omega⟩
  ·rw[if_neg e]
   obtain⟨g,k⟩:=NR f (x/2) (by omega) (by omega);refine⟨by rw[Nat.testBit_succ];exact g,fun j l=>?_⟩;cases j with
   |zero=>rw[Nat.testBit_zero];simpa using e
   |succ j=>rw[Nat.testBit_succ];exact k j (by omega)
theorem low_bit(h:x≠0):x.testBit (low x)=true:=(NR x x h (Nat.le_refl _)).1
theorem low_none{j:Nat}(h:x≠0)(d:j<low x):x.testBit j=false:=(NR x x h (Nat.le_refl _)).2 j d
theorem ne_of_bit(h:x.testBit i=true):x≠0:=by
 rintro rfl;simp at h
theorem low_unique(h:x.testBit i=true)(f:∀j,j<i->x.testBit j=false):low x=i:=by
 have e:=ne_of_bit h;rcases Nat.lt_trichotomy (low x) i with d|d|d
 ·have:=f _ d;rw[low_bit e]at this;cases this
 ·exact d
 ·have:=low_none e d;rw[h]at this;cases this
theorem WL(h:x.testBit i=true):low x<=i:=by
 rcases Nat.lt_or_ge i (low x)with d|d
 ·have:=low_none (ne_of_bit h) d;rw[h]at this;cases this
 ·exact d
theorem RT(b p q:Nat):(b^^^p)^^^(b^^^q)=p^^^q:=by
 apply Nat.eq_of_testBit_eq;intro i;simp only[Nat.testBit_xor];cases b.testBit i<;>cases p.testBit i<;>cases q.testBit i<;>rfl
theorem UK(b p q:Nat):(b^^^p)^^^q=b^^^(p^^^q):=Nat.xor_assoc b p q
theorem O8(b p q:Nat):p^^^(b^^^q)=b^^^(p^^^q):=by
 apply Nat.eq_of_testBit_eq;intro i;simp only[Nat.testBit_xor];cases b.testBit i<;>cases p.testBit i<;>cases q.testBit i<;>rfl
theorem eq_of_xor{a:Nat}(h:a^^^b=0):a=b:=by
 apply Nat.eq_of_testBit_eq;intro i;have:=congrArg (fun x=>x.testBit i) h;simp only[Nat.testBit_xor,Nat.zero_testBit]at this;revert this;cases a.testBit i<;>cases b.testBit i<;>simp
theorem pU(a b:Nat):(a^^^b)^^^b=a:=by rw[Nat.xor_assoc,Nat.xor_self,Nat.xor_zero]
def red(B:List Nat)(v:Nat):Nat:=B.foldl (fun r b=>if b≠0/\r.testBit (low b)=true then r^^^b else r) v
def BT:List Nat->Nat->Nat
 |[],_=>0
 |b::B,x=>if x.testBit (low b)=true then b^^^BT B x else BT B x
def Red(B:List Nat):Prop:=(∀b∈B,b≠0)/\B.Pairwise fun a b=>low a<low b/\a.testBit (low b)=false
def Sp(B:List Nat)(x:Nat):Prop:=∃l:List Nat,(∀b∈l,b∈B)/\l.foldr (fun b a=>b^^^a) 0=x
theorem Sp.zero:Sp B 0:=⟨[],(fun _ h=>by cases h),rfl⟩
theorem Sp.add(g:b∈B)(h:Sp B x):Sp B (b^^^x):=by
 obtain⟨l,f,rfl⟩:=h;refine⟨b::l,fun c d=>?_,rfl⟩;rcases List.mem_cons.1 d with e|d
 ·rw[e];exact g
 ·exact f c d
theorem Sp.ind{P:Nat->Prop}(e:P 0)(g:∀b x,b∈B->P x->P (b^^^x)){x:Nat}(h:Sp B x):P x:=by
 obtain⟨l,d,rfl⟩:=h
 induction l with
 |nil=>exact e
 |cons b l j=>exact g b _ (d b List.mem_cons_self) (j fun c f=>d c (List.mem_cons_of_mem _ f))
theorem Sp.of_mem(h:b∈B):Sp B b:=by
 have:=Sp.add h Sp.zero;rwa[Nat.xor_zero]at this
theorem Sp.xor{y:Nat}(h:Sp B x)(k:Sp B y):Sp B (x^^^y):=by
 refine Sp.ind (P:=fun x=>Sp B (x^^^y)) (by rw[Nat.zero_xor];exact k) (fun b x d e=>?_) h;rw[UK];exact .add d e
theorem Sp.of(h:∀a∈A,Sp B a)(k:Sp A x):Sp B x:=by
 exact Sp.ind (P:=fun x=>Sp B x) .zero (fun b x d e=>(h _ d).xor e) k
theorem Sp.mono(h:∀a∈A,a∈B)(k:Sp A x):Sp B x:=k.of fun a d=>.of_mem (h a d)
theorem UA(B:List Nat)(x y:Nat):BT B (x^^^y)=BT B x^^^BT B y:=by
 induction B with
 |nil=>simp[BT]
 |cons b B d=>
  simp only[BT,Nat.testBit_xor,d];cases x.testBit (low b)<;>cases y.testBit (low b)
  ·simp
  ·simp[O8]
  ·simp[UK]
  ·simp only[Bool.xor_self,if_true]
   rw[RT];rfl
theorem Lw(h:∀b∈B,x.testBit (low b)=false):BT B x=0:=by
 induction B with
 |nil=>rfl
 |cons b B e=>
  simp only[BT];rw[h b List.mem_cons_self,if_neg (by decide)];exact e fun b d=>h b (List.mem_cons_of_mem _ d)
theorem M1(h:∀b∈B,b.testBit i=false):(BT B x).testBit i=false:=by
 induction B with
 |nil=>simp[BT]
 |cons b B g=>
  have e:=h b List.mem_cons_self;have d:=g fun b f=>h b (List.mem_cons_of_mem _ f);simp only[BT];split
  ·rw[Nat.testBit_xor,e,d];rfl
  ·exact d
theorem Pe(B:List Nat)(x:Nat):Sp B (BT B x):=by
 induction B with
 |nil=>exact .zero
 |cons b B f=>
  have d:Sp (b::B) (BT B x):=f.mono fun a e=>List.mem_cons_of_mem _ e;simp only[BT];split
  ·exact .add List.mem_cons_self d
  ·exact d
theorem Red.tail(h:Red (b::B)):Red B:=⟨fun a d=>h.1 a (List.mem_cons_of_mem _ d),(List.pairwise_cons.1 h.2).2⟩
theorem Red.head(h:Red (b::B)):∀a∈B,low b<low a/\b.testBit (low a)=false:=(List.pairwise_cons.1 h.2).1
theorem Red.low_lt(h:Red (b::B)){j:Nat}(e:j<=low b):∀a∈B,a.testBit j=false:=fun a d=>
 low_none (h.1 a (List.mem_cons_of_mem _ d)) (Nat.lt_of_le_of_lt e (h.head a d).1)
theorem Red.nil:Red []:=⟨(fun _ h=>by cases h),List.Pairwise.nil⟩
theorem Red.two:∀{B:List Nat},Red B->∀{a c:Nat},a∈B->c∈B->a≠c->low a≠low c/\a.testBit (low c)=false
 |[],_,_,_,j,_,_=>by cases j
 |b::B,h,a,c,j,l,f=>by
  rcases List.mem_cons.1 j with k|d
  ·rcases List.mem_cons.1 l with g|e
   ·exact absurd (k.trans g.symm) f
   ·have:=h.head c e
    rw[k];exact⟨by omega,this.2⟩
  ·rcases List.mem_cons.1 l with g|e
   ·have:=h.head a d
    rw[g];exact⟨by omega,h.low_lt (Nat.le_refl _) a d⟩
   ·exact h.tail.two d e f
theorem Uz:∀{B:List Nat},Red B->∀{b:Nat},b∈B->BT B b=b
 |[],_,_,f=>by cases f
 |c::B,h,b,f=>by
  simp only[BT];rcases List.mem_cons.1 f with e|d
  ·rw[e,if_pos (low_bit (h.1 c List.mem_cons_self)),Lw (fun a g=>(h.head a g).2),Nat.xor_zero]
  ·rw[h.low_lt (Nat.le_refl _) b d,if_neg (by decide)]
   exact Uz h.tail d
theorem OY(h:Red B){x:Nat}(k:Sp B x):BT B x=x:=by
 refine Sp.ind (P:=fun x=>BT B x=x) (Lw fun b _=>Nat.zero_testBit _) (fun b x d e=>?_) k;rw[UA,Uz h d,e]
theorem Uy:∀{B:List Nat},Red B->∀{b:Nat} (x:Nat),b∈B->(BT B x).testBit (low b)=x.testBit (low b)
 |[],_,_,_,f=>by cases f
 |c::B,h,b,x,f=>by
  simp only[BT];rcases List.mem_cons.1 f with e|d
  ·have j:=M1 (x:=x) (h.low_lt (Nat.le_refl (low c)))
   rw[e];split
   ·rename_i g;rw[Nat.testBit_xor,j,low_bit (h.1 c List.mem_cons_self),g];rfl
   ·rename_i g;rw[j];simpa using g
  ·have k:=Uy h.tail x d
   split
   ·rw[Nat.testBit_xor,(h.head b d).2,k];simp
   ·exact k
theorem KJ:∀{B:List Nat},Red B->∀v,red B v=v^^^BT B v
 |[],_,v=>by simp[red,BT]
 |c::B,h,v=>by
  show red B _=_;rw[KJ h.tail];simp only[BT];by_cases d:v.testBit (low c)=true
  ·rw[if_pos ⟨h.1 c List.mem_cons_self,d⟩,if_pos d,UA,Lw (fun a e=>(h.head a e).2),Nat.xor_zero,Nat.xor_assoc]
  ·rw[if_neg (fun k=>d k.2),if_neg d]
theorem Pc(h:Red B)(v:Nat){b:Nat}(d:b∈B):(red B v).testBit (low b)=false:=by
 rw[KJ h,Nat.testBit_xor,Uy h v d];cases v.testBit (low b)<;>rfl
theorem red_zero(h:Red B)(v:Nat):red B v=0↔Sp B v:=by
 rw[KJ h];constructor
 ·intro k
  rw[eq_of_xor k];exact Pe B v
 ·intro k
  rw[OY h k,Nat.xor_self]
def upd(r b:Nat):Nat:=if b.testBit (low r)=true then b^^^r else b
def put(r:Nat):List Nat->List Nat
 |[]=>[r]
 |b::B=>if low r<low b then r::b::B else b::put r B
def ins(B:List Nat)(v:Nat):List Nat:=if red B v=0 then B else put (red B v) (B.map (upd (red B v)))
theorem II{r x:Nat}:∀{B:List Nat},x∈put r B↔x=r\/x∈B
 |[]=>by simp[put]
 |b::B=>by
  simp only[put];split
  ·simp
  ·rw[List.mem_cons,II,List.mem_cons]
   constructor
   ·rintro(h|h|h)
    ·exact .inr (.inl h)
    ·exact .inl h
    ·exact .inr (.inr h)
   ·rintro(h|h|h)
    ·exact .inr (.inl h)
    ·exact .inl h
    ·exact .inr (.inr h)
theorem Se(r:Nat):∀B:List Nat,(put r B).length=B.length+1
 |[]=>rfl
 |b::B=>by
  simp only[put];split
  ·rfl
  ·simp[Se r B]
theorem Tz{r:Nat}:∀{C:List Nat},(C.Pairwise fun a b=>low a<low b/\a.testBit (low b)=false)->(∀c∈C,low c≠low r/\c.testBit (low r)=false/\r.testBit (low c)=false)->
  (put r C).Pairwise fun a b=>low a<low b/\a.testBit (low b)=false
 |[],_,_=>by simp[put]
 |c::C,h,k=>by
  obtain⟨j,l⟩:=List.pairwise_cons.1 h;simp only[put];split
  ·rename_i g
   refine List.pairwise_cons.2 ⟨fun a f=>?_,h⟩;refine⟨?_,(k a f).2.2⟩;rcases List.mem_cons.1 f with e|d
   ·rw[e];exact g
   ·have:=(j a d).1;omega
  ·rename_i g
   have m:=k c List.mem_cons_self;refine List.pairwise_cons.2 ⟨fun a f=>?_,Tz l fun a f=>k a (List.mem_cons_of_mem _ f)⟩;rcases II.1 f with e|d
   ·rw[e];exact⟨by omega,m.2.1⟩
   ·exact j a d
theorem upd_low(h:Red B){v b:Nat}(l:red B v≠0)(k:b∈B):low (upd (red B v) b)=low b/\upd (red B v) b≠0:=by
 have f:=Pc h v k;have d:=h.1 b k;unfold upd;split
 ·rename_i m
  have p:low b<low (red B v):=by
   have q:=WL m;have u:low b≠low (red B v):=by
    intro e;rw[e,low_bit l]at f;cases f
   omega
  have g:(b^^^red B v).testBit (low b)=true:=by rw[Nat.testBit_xor,low_bit d,f];rfl
  exact⟨low_unique g fun j n=>by rw[Nat.testBit_xor,low_none d n,low_none l (by omega)];rfl,ne_of_bit g⟩
 ·exact⟨rfl,d⟩
theorem Zh(h:Red B){v b c:Nat}(d:c∈B):(upd (red B v) b).testBit (low c)=b.testBit (low c):=by
 unfold upd;split
 ·rw[Nat.testBit_xor,Pc h v d];simp
 ·rfl
theorem Zi{r:Nat}(e:r≠0):(upd r b).testBit (low r)=false:=by
 unfold upd;split
 ·rename_i d;rw[Nat.testBit_xor,d,low_bit e];rfl
 ·rename_i d;simpa using d
theorem Red.ins(h:Red B)(v:Nat):Red (ins B v):=by
 unfold Ech.ins;split
 ·exact h
 ·rename_i f
  refine⟨fun x n=>?_,Tz ?_ ?_⟩
  ·rcases II.1 n with e|k
   ·rw[e];exact f
   ·obtain⟨b,d,rfl⟩:=List.mem_map.1 k
    exact(upd_low h f d).2
  ·rw[List.pairwise_map]
   refine List.Pairwise.imp_of_mem ?_ h.2;intro a b l d g;rw[(upd_low h f l).1,(upd_low h f d).1,Zh h d];exact g
  ·intro c m
   obtain⟨b,d,rfl⟩:=List.mem_map.1 m;have j:=Pc h v d;rw[(upd_low h f d).1];refine⟨fun e=>?_,Zi f,j⟩;rw[e,low_bit f]at j;cases j
theorem qC(r b:Nat):b=upd r b\/b=r^^^upd r b:=by
 unfold upd;split
 ·right
  rw[O8,Nat.xor_self,Nat.xor_zero]
 ·exact .inl rfl
theorem PG(h:Red B)(v x:Nat):Sp (ins B v) x↔Sp (v::B) x:=by
 have y:Sp (v::B) (BT B v):=(Pe B v).mono fun a f=>List.mem_cons_of_mem _ f;have j:Sp (v::B) (red B v):=by rw[KJ h];exact(Sp.of_mem List.mem_cons_self).xor y
 unfold ins;split
 ·rename_i q
  have m:=(red_zero h v).1 q
  exact⟨fun k=>k.mono fun a f=>List.mem_cons_of_mem _ f,fun k=>k.of fun a f=>by
   rcases List.mem_cons.1 f with e|d
   ·rw[e];exact m
   ·exact .of_mem d⟩
 ·rename_i q
  have p:∀b∈B,Sp (put (red B v) (B.map (upd (red B v)))) b:=fun b l=>by
   have n:Sp (put (red B v) (B.map (upd (red B v)))) (upd (red B v) b):=.of_mem (II.2 (.inr (List.mem_map.2 ⟨b,l,rfl⟩)));rcases qC (red B v) b with e|e
   ·rw[e];exact n
   ·rw[e];exact(Sp.of_mem (II.2 (.inl rfl))).xor n
  constructor
  ·intro k
   refine k.of fun a f=>?_;rcases II.1 f with e|d
   ·rw[e];exact j
   ·obtain⟨b,l,rfl⟩:=List.mem_map.1 d
    have g:Sp (v::B) b:=.of_mem (List.mem_cons_of_mem _ l);unfold upd;split
    ·exact g.xor j
    ·exact g
  ·intro k
   refine k.of fun a f=>?_;rcases List.mem_cons.1 f with e|d
   ·have m:v=red B v^^^BT B v:=by rw[KJ h,pU]
    have u:=(Sp.of_mem (II.2 (.inl rfl))).xor ((Pe B v).of p);rw[<-m]at u;rw[e];exact u
   ·exact p a d
theorem eJ(B:List Nat)(v:Nat):(ins B v).length<=B.length+1:=by
 unfold ins;split
 ·omega
 ·rw[Se,List.length_map];exact Nat.le_refl _
def basis(l:List Nat):List Nat:=l.foldl ins []
theorem N0:∀(l B:List Nat),Red B->Red (l.foldl ins B)/\(∀x,Sp (l.foldl ins B) x↔Sp (B++l) x)/\(l.foldl ins B).length<=B.length+l.length
 |[],B,h=>⟨h,fun x=>by simp,by simp⟩
 |v::l,B,h=>by
  obtain⟨g,j,m⟩:=N0 l (ins B v) (h.ins v);refine⟨g,fun x=>?_,?_⟩
  ·show Sp (l.foldl ins (ins B v)) x↔_
   rw[j];constructor
   ·intro k
    refine k.of fun a d=>?_;rcases List.mem_append.1 d with d|d
    ·refine((PG h v a).1 (.of_mem d)).mono fun c f=>?_
     rcases List.mem_cons.1 f with e|f
     ·rw[e];simp
     ·simp[f]
    ·exact .of_mem (by simp[d])
   ·intro k
    refine k.of fun a d=>?_;rcases List.mem_append.1 d with d|d
    ·exact((PG h v a).2 (.of_mem (List.mem_cons_of_mem _ d))).mono fun c f=>List.mem_append_left _ f
    ·rcases List.mem_cons.1 d with e|d
     ·rw[e]
      exact((PG h v v).2 (.of_mem List.mem_cons_self)).mono fun c f=>List.mem_append_left _ f
     ·exact .of_mem (List.mem_append_right _ d)
  ·show(l.foldl ins (ins B v)).length<=_
   have:=eJ B v;simp only[List.length_cons];omega
theorem red_basis(l:List Nat):Red (basis l):=(N0 l [] .nil).1
theorem sp_basis(l:List Nat)(x:Nat):Sp (basis l) x↔Sp l x:=(N0 l [] .nil).2.1 x
theorem TV:∀{A:List Nat},Red A->∀{x:Nat},BT A x≠0->∃a∈A,low (BT A x)=low a
 |[],_,x,h=>by simp[BT]at h
 |c::A,h,x,d=>by
  simp only[BT]at d⊢;split
  ·have g:=h.1 c List.mem_cons_self
   refine⟨c,List.mem_cons_self,low_unique ?_ fun j f=>?_⟩
   ·rw[Nat.testBit_xor,low_bit g,M1 (h.low_lt (Nat.le_refl _))];rfl
   ·rw[Nat.testBit_xor,low_none g f,M1 (h.low_lt (Nat.le_of_lt f))];rfl
  ·rename_i l
   rw[if_neg l]at d;obtain⟨a,k,e⟩:=TV h.tail d;exact⟨a,List.mem_cons_of_mem _ k,e⟩
theorem WM(h:Red A){x:Nat}(k:Sp A x)(d:x≠0):∃a∈A,low x=low a:=by
 have e:=OY h k;have:=TV h (x:=x) (by rw[e];exact d);rwa[e]at this
theorem Va(f:Red A)(k:Red B)(p:∀x,Sp A x↔Sp B x):∀a∈A,a∈B:=by
 intro a g;obtain⟨b,l,h⟩:=WM k ((p a).1 (.of_mem g)) (f.1 a g);have C:Sp A (a^^^b):=(Sp.of_mem g).xor ((p b).2 (.of_mem l));have q:BT A (a^^^b)=0:=by
  refine Lw fun c m=>?_;rw[Nat.testBit_xor];by_cases e:a=c
  ·subst e
   rw[low_bit (f.1 a g),h,low_bit (k.1 b l)];rfl
  ·obtain⟨d,y,j⟩:=WM k ((p c).1 (.of_mem m)) (f.1 c m)
   have u:=f.two g m e;have n:b≠d:=by
    rintro rfl;exact u.1 (h.trans j.symm)
   rw[u.2,j,(k.two l y n).2];rfl
 rw[OY f C]at q;rw[eq_of_xor q];exact l
theorem Rf:∀{A B:List Nat},Red A->Red B->(∀x,x∈A↔x∈B)->A=B
 |[],[],_,_,_=>rfl
 |[],b::B,_,_,h=>by have:=(h b).2 List.mem_cons_self;cases this
 |a::A,[],_,_,h=>by have:=(h a).1 List.mem_cons_self;cases this
 |a::A,b::B,d,f,h=>by
  have e:a=b:=by
   rcases List.mem_cons.1 ((h a).1 List.mem_cons_self)with e|m
   ·exact e
   ·rcases List.mem_cons.1 ((h b).2 List.mem_cons_self)with e|n
    ·exact e.symm
    ·have p:=(f.head a m).1
     have q:=(d.head b n).1;omega
  subst e;have g:a∉A:=fun k=>by have:=(d.head a k).1;omega
  have j:a∉B:=fun k=>by have:=(f.head a k).1;omega
  rw[Rf d.tail f.tail fun x=>?_];constructor
  ·intro k
   rcases List.mem_cons.1 ((h x).1 (List.mem_cons_of_mem _ k))with e|l
   ·rw[e]at k;exact absurd k g
   ·exact l
  ·intro k
   rcases List.mem_cons.1 ((h x).2 (List.mem_cons_of_mem _ k))with e|l
   ·rw[e]at k;exact absurd k j
   ·exact l
theorem uniq(d:Red A)(e:Red B)(f:∀x,Sp A x↔Sp B x):A=B:=
 Rf d e fun x=>⟨Va d e f x,Va e d (fun y=>(f y).symm) x⟩
end Go.Proofs.YtfpfcnfmigaphaaGreatDoor.Ech
