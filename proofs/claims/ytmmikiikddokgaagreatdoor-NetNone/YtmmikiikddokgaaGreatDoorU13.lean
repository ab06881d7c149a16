/-
  Laws that the proof stands on.
-/
import Derived.Test.YtmmikiikddokgaaGreatDoorU12
import Derived.Test.YtmmikiikddokgaaGreatDoorChecked
import Derived.Conc.LoneSelect
import Derived.Conc.LoneSelectN
namespace Go.Proofs.YtmmikiikddokgaaGreatDoor
open Go.RowKit Go.Sort Go.Conc
set_option linter.unusedVariables false
set_option linter.unusedSimpArgs false
set_option maxRecDepth 4000
set_option maxHeartbeats 8000000
def JR(n:Nat)(ds:List F1):Prop:=(1<=n/\n<=8)/\(∀i,i<n->(1<=(ds.getD i .dflt).kd/\(ds.getD i .dflt).kd<=3)/\CU (ds.getD i .dflt).tos i n)/\srcN ds n=1
theorem eT(a:Option Addr)(n c:Nat)(ds:List F1)(w:World)(h:BW w a n ds)(hn:n<=9223372036854775807)(S:∀i,i<n->(ds.getD i .dflt).n<=9223372036854775807/\(ds.getD i .dflt).n<=(ds.getD i .dflt).c):
  Calls Tryz.prog 23 #[.slice a n c] w fun e w'=>((e=.returned (.bool true)/\JR n ds)\/(e=.returned (.bool false)/\¬JR n ds))/\Below w.heap.size w w':=by
 by_cases k0:1<=(n:Int)/\(n:Int)<=8
 case neg=>
  clear h;go_enter Tryz.func23,Tryz.ntmps23
  go_wp2_with (first
   |(go_at_call 41;refine(GG _ _ _ _ k0).mono ?_;rintro e w1 ⟨rfl,y⟩;obtain rfl:=y.symm;clear y)
   |fail)
  go_ret;exact⟨.inr ⟨rfl,fun p=>k0 ⟨by have:=p.1;omega,by have:=p.1;omega⟩⟩,Below.refl _ _⟩
 have H:=Ab h;have O:=Ab S;clear h S;go_enter Tryz.func23,Tryz.ntmps23
 go_wp2_with (first
  |(go_at_call 41;refine(Fe _ _ _ _ k0).mono ?_;rintro e w1 ⟨rfl,y⟩;obtain rfl:=y.symm;clear y)
  |fail)
 go_loopw [3,12] (fun s i wr=> ∃k:Nat,k<=n/\i=.int .i64 k/\s=.int .i64 (srcN ds k:Nat)/\Hid (Below w.heap.size w wr)/\Hid (∀j,j<k->(1<=(ds.getD j .dflt).kd/\(ds.getD j .dflt).kd<=3)/\CU (ds.getD j .dflt).tos j n)) (fun _ i _=>n-(intOf i).toNat)
 case atStart=>exact⟨0,Nat.zero_le _,rfl,rfl,Ab (Below.refl _ _),Ab (fun j hj=>by omega)⟩
 case round=>
  obtain⟨k,hk,rfl,rfl,W,G⟩:=hrel;rename_i wr;have ab:=Zd ds k;by_cases f:k<n
  ·have aa:(k:Int)<(n:Int):=by omega
   have hd:=(Aa H).below (Aa W);obtain⟨b,off,rfl,hc⟩:=hd.at f;obtain⟨Y,Z⟩:=hc k f;have T:=hd.2.1 k f;have X:=Ab (fun wx (hb:Below wr.heap.size wr wx)=>pU _ _ (ds.getD k .dflt).c _ k n wx (T.below hb) ((Aa O) k f).1 ((Aa O) k f).2 (by omega) f);have l:=Ab (show(¬((1<=(ds.getD k .dflt).kd/\(ds.getD k .dflt).kd<=3)/\CU (ds.getD k .dflt).tos k n))->¬JR n ds from fun e p=>e (p.2.1 k f));have u:=Ab (show srcN ds (k+1)=srcN ds k+if (ds.getD k .dflt).kd=1 then 1 else 0 from rfl)
   have B:=Ab (fun(e:(1<=(ds.getD k .dflt).kd/\(ds.getD k .dflt).kd<=3)/\CU (ds.getD k .dflt).tos k n)=>show∀j,j<k+1->(1<=(ds.getD j .dflt).kd/\(ds.getD j .dflt).kd<=3)/\CU (ds.getD j .dflt).tos j n from fun j hj=>by
    by_cases q:j=k
    ·rw[q];exact e
    ·exact Aa G j (by omega))
   clear hc T hd;generalize ds.getD k .dflt=d at*;obtain⟨s1,I⟩:∃s1,srcN ds (k+1)=s1:=⟨_,rfl⟩;rw[I]at u;have N:=Ab I;clear I;generalize srcN ds k=s0 at*;have K:=Ab (Ax wr (.cells #[.int .i64 d.kd,.slice d.a d.n d.c] 29));have A:=Ab (Ad (Aa W) (Aa K));go_wp2_with fail;refine(iS d.kd _).mono ?_;rintro e w2 ⟨⟨rfl,V⟩|⟨rfl,V⟩,C⟩
   ·obtain rfl:=C.symm
    clear C;go_wp2_with fail;refine(Aa X _ (Aa K)).mono ?_;rintro e w3 ⟨⟨rfl,x⟩|⟨rfl,x⟩,D⟩
    ·obtain rfl:=D.symm
     have R:=Ab (Aa B ⟨V,x⟩);clear D l B G x X Y Z;by_cases J:d.kd=1
     ·have hs:s1=s0+1:=by rw[Aa u,if_pos J]
      have e2:(d.kd==1)=true:=by rw[beq_iff_eq];exact J
      clear V J u;go_wp2;go_roundw
      case rel=>exact⟨k+1,f,by go_num,by rw[Aa N,hs];go_num,A,R⟩
      case measure=>simp[intOf];omega
     ·have hs:s1=s0:=by rw[Aa u,if_neg J,Nat.add_zero]
      have e2:(d.kd==1)=false:=by rw[beq_eq_false_iff_ne];exact J
      clear V J u;go_wp2;go_roundw
      case rel=>exact⟨k+1,f,by go_num,by rw[Aa N,hs],A,R⟩
      case measure=>simp[intOf];omega
    ·obtain rfl:=D.symm
     have E:=Ab ((Aa l) fun p=>x p.2);clear D l B G x X;go_wp2;go_ret;exact⟨.inr ⟨rfl,Aa E⟩,Aa A⟩
   ·obtain rfl:=C.symm
    have E:=Ab ((Aa l) fun p=>V p.1);clear C l B G X;go_wp2;go_ret;exact⟨.inr ⟨rfl,Aa E⟩,Aa A⟩
  ·obtain rfl:k=n:=by omega
   by_cases q:srcN ds k=1
   ·have E:=Ab (show JR k ds from⟨by omega,Aa G,q⟩)
    rw[q];clear G q;go_wp2;go_ret;exact⟨.inl ⟨rfl,Aa E⟩,Aa W⟩
   ·have E:=Ab (show¬JR k ds from fun p=>q p.2.2)
    have e2:(((srcN ds k:Nat):Int)==1)=false:=by rw[beq_eq_false_iff_ne];omega
    clear G q;go_wp2;go_ret;exact⟨.inr ⟨rfl,Aa E⟩,Aa W⟩
def Lp(f:BU):Prop:=(0<=f.spread/\f.spread<=128)/\(1<=f.buffer/\f.buffer<=256)/\(1<=f.queue/\f.queue<=256)/\(0<=f.cache/\f.cache<=256)/\(0<=f.timeout/\f.timeout<=1048576)/\(1<=f.target/\f.target<=128)
theorem O1(f:BU):Lq f↔JR f.n f.ds/\Lp f:=
 ⟨fun⟨⟨a,b⟩,c,d⟩=>⟨⟨a,c,d⟩,b⟩,fun⟨⟨a,c,d⟩,b⟩=>⟨⟨a,b⟩,c,d⟩⟩
theorem cZ(f:BU)(w:World):Calls Tryz.prog 24 #[f.val] w fun e w'=>((e=.returned (.bool true)/\Lp f)\/(e=.returned (.bool false)/\¬Lp f))/\Below w.heap.size w w':=by
 obtain⟨a,n,c,ds,obj,size,spread,buffer,queue,cache,rate,timeout,target⟩:=f;simp only[BU.val,Lp];have d:=Ab (Ax w (.cells #[.slice a n c,.string obj,.int .i64 size,.int .i64 spread,.int .i64 buffer,.int .i64 queue,.int .i64 cache,.float .f64 rate,.int .i64 timeout,.int .i64 target] 25));by_cases h:(0<=spread/\spread<=128)
 case neg=>
  go_enter Tryz.func24,Tryz.ntmps24
  go_wp2_with (first
   |(go_at_call 41;first|(refine(Fe _ _ _ _ (by assumption)).mono ?_;rintro e w1 ⟨rfl,b⟩;obtain rfl:=b.symm;clear b)|(refine(GG _ _ _ _ (by assumption)).mono ?_;rintro e w1 ⟨rfl,b⟩;obtain rfl:=b.symm;clear b))
   |fail)
  go_ret;exact⟨.inr ⟨rfl,fun p=>h p.1⟩,Aa d⟩
 by_cases i:(1<=buffer/\buffer<=256)
 case neg=>
  go_enter Tryz.func24,Tryz.ntmps24
  go_wp2_with (first
   |(go_at_call 41;first|(refine(Fe _ _ _ _ (by assumption)).mono ?_;rintro e w1 ⟨rfl,b⟩;obtain rfl:=b.symm;clear b)|(refine(GG _ _ _ _ (by assumption)).mono ?_;rintro e w1 ⟨rfl,b⟩;obtain rfl:=b.symm;clear b))
   |fail)
  go_ret;exact⟨.inr ⟨rfl,fun p=>i p.2.1⟩,Aa d⟩
 by_cases j:(1<=queue/\queue<=256)
 case neg=>
  go_enter Tryz.func24,Tryz.ntmps24
  go_wp2_with (first
   |(go_at_call 41;first|(refine(Fe _ _ _ _ (by assumption)).mono ?_;rintro e w1 ⟨rfl,b⟩;obtain rfl:=b.symm;clear b)|(refine(GG _ _ _ _ (by assumption)).mono ?_;rintro e w1 ⟨rfl,b⟩;obtain rfl:=b.symm;clear b))
   |fail)
  go_ret;exact⟨.inr ⟨rfl,fun p=>j p.2.2.1⟩,Aa d⟩
 by_cases k:(0<=cache/\cache<=256)
 case neg=>
  go_enter Tryz.func24,Tryz.ntmps24
  go_wp2_with (first
   |(go_at_call 41;first|(refine(Fe _ _ _ _ (by assumption)).mono ?_;rintro e w1 ⟨rfl,b⟩;obtain rfl:=b.symm;clear b)|(refine(GG _ _ _ _ (by assumption)).mono ?_;rintro e w1 ⟨rfl,b⟩;obtain rfl:=b.symm;clear b))
   |fail)
  go_ret;exact⟨.inr ⟨rfl,fun p=>k p.2.2.2.1⟩,Aa d⟩
 by_cases l:(0<=timeout/\timeout<=1048576)
 case neg=>
  go_enter Tryz.func24,Tryz.ntmps24
  go_wp2_with (first
   |(go_at_call 41;first|(refine(Fe _ _ _ _ (by assumption)).mono ?_;rintro e w1 ⟨rfl,b⟩;obtain rfl:=b.symm;clear b)|(refine(GG _ _ _ _ (by assumption)).mono ?_;rintro e w1 ⟨rfl,b⟩;obtain rfl:=b.symm;clear b))
   |fail)
  go_ret;exact⟨.inr ⟨rfl,fun p=>l p.2.2.2.2.1⟩,Aa d⟩
 by_cases q:(1<=target/\target<=128)
 case neg=>
  go_enter Tryz.func24,Tryz.ntmps24
  go_wp2_with (first
   |(go_at_call 41;first|(refine(Fe _ _ _ _ (by assumption)).mono ?_;rintro e w1 ⟨rfl,b⟩;obtain rfl:=b.symm;clear b)|(refine(GG _ _ _ _ (by assumption)).mono ?_;rintro e w1 ⟨rfl,b⟩;obtain rfl:=b.symm;clear b))
   |fail)
  go_ret;exact⟨.inr ⟨rfl,fun p=>q p.2.2.2.2.2⟩,Aa d⟩
 go_enter Tryz.func24,Tryz.ntmps24
 go_wp2_with (first
  |(go_at_call 41;first|(refine(Fe _ _ _ _ (by assumption)).mono ?_;rintro e w1 ⟨rfl,b⟩;obtain rfl:=b.symm;clear b)|(refine(GG _ _ _ _ (by assumption)).mono ?_;rintro e w1 ⟨rfl,b⟩;obtain rfl:=b.symm;clear b))
  |fail)
 go_ret;exact⟨.inl ⟨rfl,h,i,j,k,l,q⟩,Aa d⟩
theorem Tz(f:BU)(w:World)(h:Cd w f)(l:∀i,i<f.n->(f.ds.getD i .dflt).n<=(f.ds.getD i .dflt).c):
  Calls Tryz.prog 10 #[f.val] w fun e w'=> ∃en:Int,e=.returned (.int .i64 en)/\Cm f en/\Below w.heap.size w w':=by
 have y:=Ab (Ax w (.cells #[.slice f.a f.n f.c,.string f.obj,.int .i64 f.size,.int .i64 f.spread,.int .i64 f.buffer,.int .i64 f.queue,.int .i64 f.cache,.float .f64 f.rate,.int .i64 f.timeout,.int .i64 f.target] 25));have J:=Ab (AO 25 w [.slice f.a f.n f.c,.string f.obj,.int .i64 f.size,.int .i64 f.spread,.int .i64 f.buffer,.int .i64 f.queue,.int .i64 f.cache,.float .f64 f.rate,.int .i64 f.timeout,.int .i64 f.target]);have N:=h.len;have Z:=h.obj;have I:=Ab (fun wx (K:Below w.heap.size w wx)=>eT f.a f.n f.c f.ds wx (h.nds.below K) N fun i E=>⟨(h.tos i E).1,l i E⟩);have A:=Ab (fun wx=>Vl (f.obj.size:Int) f.size wx (by omega));clear h l;rw[show f.val=.agg #[.slice f.a f.n f.c,.string f.obj,.int .i64 f.size,.int .i64 f.spread,.int .i64 f.buffer,.int .i64 f.queue,.int .i64 f.cache,.float .f64 f.rate,.int .i64 f.timeout,.int .i64 f.target] from rfl];go_enter Tryz.func10,Tryz.ntmps10;go_wp2_with fail;refine(Aa I _ (Aa y)).mono ?_;rintro e w1 ⟨⟨rfl,C⟩|⟨rfl,C⟩,d⟩
 ·have b:=(Aa J).below d
  have O:=b.at 0 rfl;have G:=b.at 1 rfl;have H:=b.at 2 rfl;have R:=b.at 3 rfl;have S:=b.at 4 rfl;have T:=b.at 5 rfl;have V:=b.at 6 rfl;have W:=b.at 7 rfl;have X:=b.at 8 rfl;have Y:=b.at 9 rfl;have B:=Ab b;have k:=Ab (Ad (Aa y) d);clear b d;go_wp2_with fail;refine(cZ f _).mono ?_;clear O G H R S T V W X Y;rintro e w2 ⟨⟨rfl,D⟩|⟨rfl,D⟩,j⟩
  ·have b:=(Aa B).below j
   have G:=b.at 1 rfl;have H:=b.at 2 rfl;have q:=Ab (Ad (Aa k) j);have u:=Ab (show Cm f (planE f.obj.size f.size) from .inl ⟨(O1 f).2 ⟨C,D⟩,rfl⟩);clear b j
   go_wp2_with (first
    |(go_at_call 25;refine(Aa A _).mono ?_;rintro e w3 ⟨rfl,x⟩;obtain rfl:=x.symm;clear x)
    |fail)
   go_ret;exact⟨_,rfl,Aa u,Aa q⟩
  ·have q:=Ab (Ad (Aa k) j)
   have u:=Ab (show Cm f 1 from .inr ⟨fun p=>D ((O1 f).1 p).2,rfl⟩);clear j;go_wp2;go_ret;exact⟨1,rfl,Aa u,Aa q⟩
 ·have k:=Ab (Ad (Aa y) d)
  have u:=Ab (show Cm f 1 from .inr ⟨fun p=>C ((O1 f).1 p).1,rfl⟩);clear d;go_wp2;go_ret;exact⟨1,rfl,Aa u,Aa k⟩
def H4(P:Program)(c:Code)(Q:Exit->Act->World->Prop)(a:Act)(w:World):Prop:=
 ∀(b:Frame) (k:List Item) (cs:List Frame),b.kind≠ .early->∃e d w',Q e d w'/\Arrives P (lone (b.at a (.code c::k)) cs w) b k cs e d w'
section
variable {P:Program} {Q:Exit->Act->World->Prop} {a:Act} {w:World}
theorem MT{c:Code}(h:c.wp P Q a w):H4 P c Q a w:=fun b k cs _=>h b k cs
theorem MH{x y:Code}(h:H4 P x (Exit.then (H4 P y Q) Q) a w):H4 P (.seq x y) Q a w:=by
 intro b k cs j;obtain⟨e,p,w1,l,n⟩:=h b (.code y::k) cs j;by_cases d:e=.normal
 ·subst d
  obtain⟨u,q,w2,f,i⟩:=l b k cs j;exact⟨u,q,w2,f,Arrives.of_steps (Steps.head step_seq n) i⟩
 ·have A:=Arrives.of_steps (Steps.one (step_seq (P:=P) (b:=b) (a:=a) (k:=k) (cs:=cs) (w:=w) (x:=x) (y:=y))) (Arrives.pass (x:=.code y) rfl (fun _ _=>.inl d) n)
  refine⟨e,p,w1,?_,A⟩;cases e<;>first|exact absurd rfl d|exact l
theorem G1{x y:Code}(h:∀K:Act->World->Prop,(∀a w,H4 P y Q a w->K a w)->x.wp P (Exit.then K Q) a w):H4 P (.seq x y) Q a w:=
 MH (MT (h _ fun _ _ h=>h))
theorem Np{f:FuncId}{b:Func}{c:Code}{args:Array Value}{R:Ending->World->Prop}
  (p:P.funcs[f]? =some b) (x:b.body=some c) (n:∀w',¬R .outgrown w')
  (h:H4 P c (bodyPost P b R) {tmps:=args++Array.replicate (b.ntmps-args.size) undef,defers:=[]} w):Calls P f args w R:=by
 refine calls_of_loneTo (fun cs=>?_) n;have q:Frame.enter P f args .normal=(base f).at {tmps:=args++Array.replicate (b.ntmps-args.size) undef,defers:=[]} [.code c]:=by
  simp[Frame.enter,Frame.at,p,x,base]
 rw[q];obtain⟨e,y,w',i,j⟩:=h (base f) [] cs (by simp[base])
 match e,i,j with
 | .normal,⟨l,v,u,k⟩,j=>exact⟨_,w',j.trans (.one step_end),.returned v,_,rfl,k,rfl,rfl,l,rfl,b,p,u⟩
 | .ret,⟨l,v,u,k⟩,⟨_,j⟩=>exact⟨_,w',j,.returned v,_,rfl,k,rfl,rfl,l,rfl,b,p,u⟩
 | .panic d,⟨l,k⟩,⟨_,j⟩=>exact⟨_,w',j,.panicked d,_,rfl,k,rfl,rfl,l,b,p⟩
 | .exit _,i,_=>exact i.elim
 | .goto _,i,_=>exact i.elim
 | .outgrown,i,_=>exact absurd i (n _)
def Lo(P:Program)(o:Oper)(a:Act)(w:World)(v:Value)(w':World):Prop:=
 ∀(b:Frame) (ops:Array Oper) (i:Nat) (rest:List Nat) (k:List Item) (cs:List Frame),b.kind≠ .early->ops[i]? =some o->Region.wanted o (yielded ops a.tmps)=true->
  step P (lone (b.at a (.inRegion ops (i::rest)::k)) cs w)=.next (lone (b.at (a.put o.dst v) (.inRegion ops rest::k)) cs w')
theorem OM{id:Nat}{o:Oper}{l:List Oper}{v:Value}{w':World}(y:o.guard=none)(x:Lo P o a w v w')
  (h:wpList P (o::l).toArray Q l (a.put o.dst v) w'):H4 P (.region id (o::l).toArray false) Q a w:=by
 intro b k cs u;have B:Region.wanted o (yielded (o::l).toArray a.tmps)=true:=by simp[Region.wanted,y]
 have n:=x b (o::l).toArray 0 (List.range' 1 l.length) k cs u (by simp) B;have p:=wpOps_eq_wpList (P:=P) (ops:=(o::l).toArray) (Q:=Q) l 1 (fun j=>by simp[Nat.add_comm 1 j]);rw[<-p]at h;obtain⟨e,i,C,A,d⟩:=wp_ops _ _ _ h b k cs;have f:=step_region (P:=P) (b:=b) (a:=a) (k:=k) (cs:=cs) (w:=w) (ops:=(o::l).toArray) (id:=id);have q:List.range (o::l).toArray.size=0::List.range' 1 l.length:=by
  rw[List.size_toArray,List.length_cons,List.range_eq_range',List.range'_succ]
 rw[q]at f;exact⟨e,i,C,A,.of_steps (.head f (.one n)) d⟩
section
variable {o:Oper} {c cap s r:Nat} {buf:Array Value} {z v:Value} {tm:Bool}
theorem bT(j:(execOp a.eval o).run P w=.ok (.comm #[scase c v z] false .select) w)(h:w.heap[c]? =some (.chan cap buf false s r tm))(d:buf.size<cap):
  Lo P o a w (.tuple #[goInt 0,.bool false]) (w.setChan c cap (buf.push v) false (s+1) r tm):=by
 intro b ops i rest k cs f e l;rw[lone_eq_solo,step_lone_select_send_room (stepG_comm e l f j) h d,Frame.finish_at,e];rfl
theorem bS(j:(execOp a.eval o).run P w=.ok (.comm #[scase c v z] false .select) w)(h:w.heap[c]? =some (.chan cap buf false s r tm))(d:cap<=buf.size):
  Lo P o a w (.tuple #[goInt (-1),.bool false]) w:=by
 intro b ops i rest k cs f e l;rw[lone_eq_solo,step_lone_select_send_full (stepG_comm e l f j) h d,Frame.finish_at,e];rfl
theorem bR(j:(execOp a.eval o).run P w=.ok (.comm #[rcase c z] false .select) w)(h:w.heap[c]? =some (.chan cap buf false s r tm))(d:0<buf.size):
  Lo P o a w (.tuple #[goInt 0,.bool true,buf.getD 0 undef]) (w.setChan c cap (buf.extract 1 buf.size) false s (r+1) tm):=by
 intro b ops i rest k cs f e l;rw[lone_eq_solo,step_lone_select_recv_buf (stepG_comm e l f j) h d,Frame.finish_at,e];rfl
end
end
def capN(n:Int):Nat:=min (max n 0).toNat 256
theorem JG(n:Int):capN n<=256:=Nat.min_le_right _ _
theorem XE(n:Int):min (max n 0) 256=(capN n:Int):=by unfold capN;omega
theorem MC(n:Int)(b:Array TypeId)(t:TypeId)(w:World):(Builtin.max_ b t #[.int .i64 n,.int .i64 0]).run Tryz.prog w=.ok (.int .i64 (max n 0)) w:=by
 rw[run_max_int2];congr 2;split<;>omega
theorem Mx(n:Int)(b:Array TypeId)(t:TypeId)(w:World):(Builtin.min_ b t #[.int .i64 (max n 0),.int .i64 256]).run Tryz.prog w=.ok (.int .i64 (capN n:Int)) w:=by
 rw[run_min_int2,<-XE];congr 2;split<;>omega
variable {L:List ByteArray}{g c m lo:Nat}{w w':World}
structure AI(w:World)(g c m:Nat)(L:List ByteArray)(lo:Nat):Prop where
 blk:BkA 234 w g [.chan (some c),.int .i64 (lo:Int)]
 chn:∃s r,w.heap[c]? =some (.chan m (BG L).toArray false s r false)
 len:L.length<=m
 most:m<=256
def quF(g c:Nat)(j:Nat):Prop:=j=g\/j=c
theorem AI.lt(h:AI w g c m L lo):g<w.heap.size/\c<w.heap.size:=by
 obtain⟨s,r,b⟩:=h.chn;exact⟨h.blk.lt,(Array.getElem?_eq_some_iff.1 b).1⟩
theorem AI.tu{F:Nat->Prop}(h:AI w g c m L lo)(ht:Tu F w w')(d:¬F g)(b:¬F c):AI w' g c m L lo:=by
 obtain⟨s,r,e⟩:=h.chn;exact⟨h.blk.tu ht d,⟨s,r,(ht.block c h.lt.2 b).trans e⟩,h.len,h.most⟩
theorem AI.below(h:AI w g c m L lo)(b:Below w.heap.size w w'):AI w' g c m L lo:=
 h.tu (F:=fun _=>False) (Tu.of_below b) id id
theorem AI.belowB{B:Nat}(h:AI w g c m L lo)(b:Below B w w')(e:g<B)(d:c<B):AI w' g c m L lo:=by
 obtain⟨s,r,f⟩:=h.chn;exact⟨h.blk.belowB b e,⟨s,r,(b.block c d).trans f⟩,h.len,h.most⟩
theorem AI.ne(h:AI w g c m L lo):g≠c:=fun e=>by
 obtain⟨s,r,b⟩:=h.chn;have:=h.blk;unfold BkA at this;rw[e,b]at this;cases this
theorem AI.apart{g' d j b:Nat}{L':List ByteArray}(h:AI w g c m L lo)(f:AI w g' d j L' b):g≠d:=fun e=>by
 obtain⟨s,r,i⟩:=f.chn;have:=h.blk;unfold BkA at this;rw[e,i]at this;cases this
theorem Pz(w:World)(c cap:Nat)(buf:Array Value)(b:Bool)(s r:Nat)(tm:Bool):Tu (fun j=>j=c) w (w.setChan c cap buf b s r tm):=
 ⟨rfl,rfl,rfl,by rw[size_setChan];exact Nat.le_refl _,fun k _ d=>by simp only[World.setChan];rw[Array.getElem?_setIfInBounds_ne (fun e=>d e.symm)]⟩
theorem Tu.wide{F G:Nat->Prop}(h:Tu F w w')(f:∀j,F j->G j):Tu G w w':=⟨h.os,h.tape,h.output,h.size,fun k d e=>h.block k d fun b=>e (f k b)⟩
theorem AI.chan{L':List ByteArray}(h:AI w g c m L lo)(b:L'.length<=m)(s r:Nat):AI (w.setChan c m (BG L').toArray false s r false) g c m L' lo:=
 ⟨h.blk.tu (Pz _ _ _ _ _ _ _ _) h.ne,⟨s,r,heap_setChan _ _ _ _ _ _ _ _ h.lt.2⟩,b,h.most⟩
theorem AI.lost(h:AI w g c m L lo)(b:Nat):AI (w.setCell ⟨g,1,none⟩ (.int .i64 (b:Int))) g c m L b:=by
 obtain⟨s,r,d⟩:=h.chn;exact⟨h.blk.set 1 _,⟨s,r,((Be w g 1 _).block c h.lt.2 (fun e=>h.ne e.symm)).trans d⟩,h.len,h.most⟩
theorem Kl(L:List ByteArray):(BG L).toArray.size=L.length:=by rw[List.size_toArray,cE]
theorem lO(n:Int)(w:World):(Instr.makeChan 232 (.int .i64 (capN n:Int))).run Tryz.prog w=.ok (.chan (some w.heap.size)) (w.alloc (.chan (capN n) #[] false 0 0 false)):=by
 obtain⟨h,d,e,f,b⟩:=info_parts Mb;have:=JG n;exact run_makeChan (P:=Tryz.prog) (w:=w) Tryz.underlying232 d .i64 (capN n) (by omega) (by rw[b];omega)
theorem mH(n:Int)(w:World):
  Calls Tryz.prog 101 #[.int .i64 n] w fun e w'=> ∃g c,e=.returned (.pointer (some ⟨g,0,none⟩))/\w.heap.size<=g/\w.heap.size<=c/\AI w' g c (capN n) [] 0/\Below w.heap.size w w':=by
 have f:=MC n;have h:=Mx n;have i:=lO n;have d:=JG n;generalize capN n=m at*;go_enter Tryz.func101,Tryz.ntmps101;go_wp2;go_ret
 have b:Below w.heap.size w ((w.alloc (.chan m #[] false 0 0 false)).alloc (.cells #[.chan (some w.heap.size),.int .i64 0] 234)):=
  ((Below.refl _ _).alloc (Nat.le_refl _) _).trans (((Below.refl _ _).alloc (Nat.le_refl _) _).mono (by simp))
 refine⟨_,w.heap.size,rfl,by simp,Nat.le_refl _,⟨?_,⟨0,0,?_⟩,Nat.zero_le _,d⟩,b⟩
 ·have:=AO 234 (w.alloc (.chan m #[] false 0 0 false)) [.chan (some w.heap.size),.int .i64 0]
  simpa using this
 ·rw[Below.heap_alloc _ _ _ (by simp)]
  exact heap_alloc_new w _
theorem LW(g c m lo:Nat)(L:List ByteArray)(w:World)(h:AI w g c m L lo):Calls Tryz.prog 129 #[.pointer (some ⟨g,0,none⟩)] w fun e w'=>e=.returned (.int .i64 (L.length:Int))/\w'=w:=by
 have f:=h.blk.at 0 rfl;obtain⟨s,r,b⟩:=h.chn;have d:=run_len_chan (P:=Tryz.prog) (w:=w) 232 3 Tryz.underlying232 b;rw[Kl]at d;generalize L.length=n at*;clear b h;go_enter Tryz.func129,Tryz.ntmps129;go_wp2;go_ret;exact⟨rfl,rfl⟩
theorem dm(L:List ByteArray)(s:ByteArray):(BG L).toArray.push (.string s)=(BG (L++[s])).toArray:=by simp[BG]
theorem ej(s:ByteArray)(L:List ByteArray):(BG (s::L)).toArray.extract 1 (BG (s::L)).toArray.size=(BG L).toArray:=by
 simp[BG,List.take_of_length_le]
theorem mI (g c m lo : Nat) (L : List ByteArray) (s : ByteArray) (w : World) (h : AI w g c m L lo) (l : s.size <= 1048576) (x : L.length < m) :
    Calls Tryz.prog 112 #[.pointer (some ⟨g, 0, none⟩), .string s] w fun e w' => e = .returned (.bool true) /\ AI w' g c m (L ++ [s]) lo /\ Tu (quF g c) w w' := by
  have y := h.blk.at 0 rfl;have H := Ab h;have q := Ab l;clear h l;refine Np Tryz.func112 rfl (fun _ h => by cases h.1) ?_
  simp only [Tryz.ntmps112, List.size_toArray, List.length_cons, List.length_nil, Nat.reduceAdd, Nat.reduceSub, Array.replicate_succ,
     Array.replicate_zero, List.push_toArray, List.append_toArray, List.nil_append, List.cons_append]
  refine G1 (fun K i => ?_);go_wp2;refine G1 (fun K i => ?_);go_wp2;refine G1 (fun K i => ?_)
  go_wp2_with (first
    | (go_at_call 33; refine (GF _ _ (Aa q)).mono ?_; rintro e w1 ⟨rfl, b⟩; have f := Ab b; clear b)
    | fail)
  have d := Ab ((Aa H).below (Aa f));obtain ⟨n, r, k⟩ := (Aa d).chn;refine MH (OM rfl (bT (z := .string ⟨#[]⟩) (v := .string s) (c := c) (by simp [go_sem, execOp, scase, Act.eval]) k (by rw [Kl]; exact x)) ?_);rw [dm];have p := Ab ((Aa d).chan (L' := L ++ [s]) (by rw [List.length_append, List.length_singleton]; omega) (n + 1) r);have u := Ab (Tu.after (Aa f) ((Pz w1 c m (BG (L ++ [s])).toArray false (n + 1) r false).wide (G := quF g c) fun j e => .inr e));clear k;generalize w1.setChan c m (BG (L ++ [s])).toArray false (n + 1) r false = w2 at *;go_wp2;refine MT ?_;go_wp2;go_ret;exact ⟨rfl, Aa p, Aa u⟩
theorem pH (g c m lo : Nat) (L : List ByteArray) (s : ByteArray) (w : World) (h : AI w g c m L lo) (p : s.size <= 1048576) (x : m <= L.length) (u : lo <= 1099511627776) :
    Calls Tryz.prog 112 #[.pointer (some ⟨g, 0, none⟩), .string s] w fun e w' => e = .returned (.bool false) /\ AI w' g c m L (lo + 1) /\ Tu (quF g c) w w' := by
  have y := h.blk.at 0 rfl;have H := Ab h;have q := Ab p;clear h p;refine Np Tryz.func112 rfl (fun _ h => by cases h.1) ?_
  simp only [Tryz.ntmps112, List.size_toArray, List.length_cons, List.length_nil, Nat.reduceAdd, Nat.reduceSub, Array.replicate_succ,
     Array.replicate_zero, List.push_toArray, List.append_toArray, List.nil_append, List.cons_append]
  refine G1 (fun K k => ?_);go_wp2;refine G1 (fun K k => ?_);go_wp2;refine G1 (fun K k => ?_)
  go_wp2_with (first
    | (go_at_call 33; refine (GF _ _ (Aa q)).mono ?_; rintro e w1 ⟨rfl, b⟩; have f := Ab b; clear b)
    | fail)
  have d := Ab ((Aa H).below (Aa f));obtain ⟨n, r, l⟩ := (Aa d).chn;refine MH (OM rfl (bS (z := .string ⟨#[]⟩) (v := .string s) (c := c) (by simp [go_sem, execOp, scase, Act.eval]) l (by rw [Kl]; exact x)) ?_);clear l;go_wp2;refine MT ?_;have A := (Aa d).blk.at 1 rfl;have B := (Aa d).blk.frz 1;have C : IntKind.i64.wrap ((lo : Int) + 1) = (lo : Int) + 1 := by rw [IntKind.wrap_i64]; omega
  go_wp2;go_ret;have i := (Aa d).lost (lo + 1);rw [Int.natCast_add] at i;exact ⟨rfl, i, Tu.after (Aa f) ((Be w1 g 1 _).wide (G := quF g c) fun j e => .inl e)⟩
theorem ip (g c m lo : Nat) (s : ByteArray) (L : List ByteArray) (w : World) (h : AI w g c m (s :: L) lo) :
    Calls Tryz.prog 108 #[.pointer (some ⟨g, 0, none⟩)] w fun e w' => e = .returned (.tuple #[.string s, .bool true]) /\ AI w' g c m L lo /\ Tu (quF g c) w w' := by
  have l := h.blk.at 0 rfl;have H := Ab h;clear h;refine Np Tryz.func108 rfl (fun _ h => by cases h.1) ?_
  simp only [Tryz.ntmps108, List.size_toArray, List.length_cons, List.length_nil, Nat.reduceAdd, Nat.reduceSub, Array.replicate_succ,
     Array.replicate_zero, List.push_toArray, List.append_toArray, List.nil_append, List.cons_append]
  refine G1 (fun K b => ?_);go_wp2;refine G1 (fun K b => ?_);go_wp2;refine G1 (fun K b => ?_);go_wp2;obtain ⟨n, r, d⟩ := (Aa H).chn;refine MH (OM rfl (bR (z := .string ⟨#[]⟩) (c := c) (by simp [go_sem, execOp, rcase, Act.eval]) d (by rw [Kl]; exact Nat.succ_pos _)) ?_);rw [ej];have f : (BG (s :: L)).toArray.getD 0 undef = .string s := by simp [BG]
  rw [f];have i := Ab ((Aa H).chan (L' := L) (by have := (Aa H).len; rw [List.length_cons] at this; omega) n (r + 1));have k := Ab ((Pz w c m (BG L).toArray false n (r + 1) false).wide (G := quF g c) fun j e => .inr e);clear d f;generalize w.setChan c m (BG L).toArray false n (r + 1) false = w2 at *;go_wp2;refine MT ?_;go_wp2;go_ret2;exact ⟨rfl, Aa i, Aa k⟩
end Go.Proofs.YtmmikiikddokgaaGreatDoor
