/-
  Laws that the proof stands on.
-/
import Derived.Test.YtmmikiikddokgaaGreatDoorU22
import Derived.Shelf.Sort.Plain
import Derived.Shelf.Slices.In.SortNone
import Derived.Sort.OwnSortedInts
namespace Go.Proofs.YtmmikiikddokgaaGreatDoor
open Go.RowKit Go.Sort Go.Shelf
set_option linter.unusedVariables false
set_option linter.unusedSimpArgs false
set_option maxRecDepth 4000
set_option maxHeartbeats 8000000
def emitD(L:List PD)(b:Nat)(t:Int):Option PD:=H7 L (A7 (Gc (BD (vecsD L) t b 31).ch L.length))
theorem fN{L:List PD}{b:List Int}{d:PD}(h:H7 L b=some d):∃q Q,FM .dflt L b=q::Q/\EW (q::Q)=some d/\d.xs=E1 (q::Q)/\d.s=st (Ho (q::Q))/\(∀p∈q::Q,p∈L):=by
 have a:EW (FM .dflt L b)=some d:=h;cases c:FM .dflt L b with
 |nil=>rw[c]at a;cases a
 |cons q Q=>
  rw[c]at a;refine⟨q,Q,rfl,a,?_,?_,fun p hp=>VV (by rw[c];exact hp)⟩
  all_goals
   rw[Kq]at a;split at a
   ·obtain rfl:=Option.some.inj a;rfl
   ·cases a
theorem X6{L:List PD}{i:List Int}{d:PD}(b:∀p∈L,BO p=true)(h:H7 L i=some d):BO d=true/\1<=d.h:=by
 obtain⟨q,Q,_,c,_,_,a⟩:=fN h;obtain⟨f,n⟩:=Z6 (fun p hp=>b p (a p hp)) c;have m:=MR (q:=q) (Q:=Q) (p:=q) List.mem_cons_self;obtain⟨⟨_,_,_,e⟩,_⟩:=Gf.1 (b q (a q List.mem_cons_self));have l:0<=q.h:=e.1;exact⟨f,by omega⟩
variable {L:List Int}{xs:List Nat}{k d g:Nat}{sv:Value}{w:World}
def E3(L:List Int)(k:Nat)(sv:Value)(d:Nat):List Value:=cellsZ L++[.int .i64 (k:Int),sv,.int .i64 (d:Int)]
theorem Wh(b:L.length=32){i:Nat}(a:i<32):(E3 L k sv d)[i]? =some (.int .i64 (L.getD i 0)):=by
 unfold E3;rw[List.getElem?_append_left (by rw[F9];omega),G8 L i (by omega)]
theorem PP(a:L.length=32)(j:Nat):(E3 L k sv d)[32+j]? =[Value.int .i64 (k:Int),sv,.int .i64 (d:Int)][j]? :=by
 unfold E3;rw[List.getElem?_append_right (by rw[F9];omega),F9,a,Nat.add_sub_cancel_left]
theorem Xl(b:L.length=32){i:Nat}(a:i<32)(x:Int):(E3 L k sv d).set i (.int .i64 x)=E3 (L.set i x) k sv d:=by
 unfold E3;rw[List.set_append_left _ _ (by rw[F9];omega),NR]
theorem O0(a:L.length=32)(j:Nat)(x:Value):(E3 L k sv d).set (32+j) x=cellsZ L++[Value.int .i64 (k:Int),sv,.int .i64 (d:Int)].set j x:=by
 unfold E3;rw[List.set_append_right _ _ (by rw[F9];omega),F9,a,Nat.add_sub_cancel_left]
structure CcAt(w:World)(g:Nat)(L:List Int)(k:Nat)(sv:Value)(xs:List Nat)(d:Nat):Prop where
 blk:BkA 334 w g (E3 L k sv d)
 len:L.length=32
 own:Own w (g+1) sv xs
theorem CcAt.below{w':World}(h:CcAt w g L k sv xs d)(a:Below w.heap.size w w'):CcAt w' g L k sv xs d:=⟨h.blk.below a,h.len,h.own.below a⟩
theorem CcAt.at(h:CcAt w g L k sv xs d):w.cell? ⟨g,32,none⟩=some (.int .i64 (k:Int))/\w.cell? ⟨g,33,none⟩=some sv/\w.cell? ⟨g,34,none⟩=some (.int .i64 (d:Int)):=
 ⟨h.blk.at 32 (PP h.len 0),h.blk.at 33 (PP h.len 1),h.blk.at 34 (PP h.len 2)⟩
theorem CcAt.ints(h:CcAt w g L k sv xs d)(b:k<=32):IntzAt w (some ⟨g,0,none⟩) k (L.take k):=by
 refine⟨by rw[List.length_take,h.len];omega,.inr ⟨g,0,rfl,fun i a=>?_⟩⟩;rw[Nat.zero_add,h.blk.at i (Wh h.len (by omega)),List.getD_eq_getElem?_getD,List.getD_eq_getElem?_getD,List.getElem?_take,if_pos a]
theorem CcAt.new(w:World):CcAt (w.alloc (.cells (E3 (List.replicate 32 0) 0 (.slice none 0 0) 0).toArray 334)) w.heap.size (List.replicate 32 0) 0 (.slice none 0 0) [] 0:=
 ⟨AO _ _ _,by simp,Own.nil _ _⟩
theorem CcAt.place(h:CcAt w g L k sv xs d){i:Nat}(a:i<32)(x:Int):CcAt (w.setCell ⟨g,i,none⟩ (.int .i64 x)) g (L.set i x) k sv xs d:=by
 refine⟨?_,by rw[List.length_set];exact h.len,h.own.other _ _ (Nat.lt_succ_self _)⟩;have:=h.blk.set i (.int .i64 x);rwa[Xl h.len a]at this
theorem CcAt.count(h:CcAt w g L k sv xs d)(a:Nat):CcAt (w.setCell ⟨g,32,none⟩ (.int .i64 (a:Int))) g L a sv xs d:=by
 refine⟨?_,h.len,h.own.other _ _ (Nat.lt_succ_self _)⟩;have:=h.blk.set 32 (.int .i64 (a:Int));rwa[show(32:Nat)=32+0 from rfl,O0 h.len 0]at this
theorem CcAt.sum(h:CcAt w g L k sv xs d){u:Value}{a:List Nat}(b:Own w (g+1) u a):CcAt (w.setCell ⟨g,33,none⟩ u) g L k u a d:=by
 refine⟨?_,h.len,b.other _ _ (Nat.lt_succ_self _)⟩;have:=h.blk.set 33 u;rwa[show(33:Nat)=32+1 from rfl,O0 h.len 1]at this
theorem CcAt.deg(h:CcAt w g L k sv xs d)(a:Nat):CcAt (w.setCell ⟨g,34,none⟩ (.int .i64 (a:Int))) g L k sv xs a:=by
 refine⟨?_,h.len,h.own.other _ _ (Nat.lt_succ_self _)⟩;have:=h.blk.set 34 (.int .i64 (a:Int));rwa[show(34:Nat)=32+2 from rfl,O0 h.len 2]at this
theorem XO(g:Nat)(L:List Int)(k:Nat)(sv:Value)(xs:List Nat)(d:Nat)(x:Int)(w:World)(h:CcAt w g L k sv xs d)(o:k<=32):
  Calls Tryz.prog 272 #[.pointer (some ⟨g,0,none⟩),.int .i64 x] w fun e w'=>e=.returned (.bool (decide (x∈L.take k)))/\Below w.heap.size w w':=by
 have q:(k:Int)<=32:=by omega
 have r:=cell_regrown h.at.1;have l:=Cq (W:=w) (fun w' n=>SI (Rm (some ⟨g,0,none⟩) k 32 (L.take k) x w' ((h.below n).ints o) (by omega)));generalize decide (x∈L.take k)=b at*;clear h;go_enter Tryz.func272,Tryz.ntmps272;go_wp2_with fail;refine wp_region_quiet_below (by kernel_rfl) (by kernel_rfl) ?_
 repeat (with_reducible refine wpQuiet_step (fun K c=>?_);go_simp;first|(with_reducible refine c _ ?_;clear c K)|(apply Exists.intro;apply And.intro;(intro _;first|(go_at_call 75;exact l _ _));with_reducible refine c _ ?_;clear c K))
 refine wpQuiet_nil ?_;intro _ f;obtain⟨⟨m,i⟩,a⟩:=f;subst a;go_wp2;go_ret;exact⟨rfl,below_regrown _ m i⟩
theorem dt(g:Nat)(L:List Int)(k:Nat)(sv:Value)(xs:List Nat)(a:Option Addr)(m c:Nat)(b:List Nat)(w:World)(h:CcAt w g L k sv xs (cnt xs))(z:RowAt w a m b)(hx:xs.length<=10)(hm:m<=10):
  Calls Tryz.prog 273 #[.pointer (some ⟨g,0,none⟩),.slice a m c] w fun e w'=>e=.returned (.int .i64 ((cnt (xorL xs b):Nat):Int))/\Below w.heap.size w w':=by
 obtain rfl:=z.1;obtain⟨I,sc,rfl,hs⟩:=h.own.row;have ad:=h.own.cap;have x:=I3 xs.length b.length;have X:=Ul I xs.length sc (min xs.length b.length) (by omega);obtain⟨ag,v⟩:=oi xs b;have V:min xs.length b.length<=xs.length:=Nat.min_le_left _ _;have Y:=List.length_take_le (min xs.length b.length) xs;have o:=hs.take V;generalize min xs.length b.length=l at*;have k1:=cell_regrown h.at.2.1;have Hh:=Ab h;have HR:=Ab z;have ae:=K3 xs;have af:=K3 (xorL (xs.take l) b);have ac:=BT (xs.take l) b;have Z:(xs.take l).length=l:=o.1;have S:=Ab (fun wx (h1:RowAt wx I l (xs.take l)) (h2:RowAt wx a b.length b)=>I5 I l sc (xs.take l) a b.length c b wx h1 h2 (by omega) (by omega));generalize xorL (xs.take l) b=J at*;generalize xs.take l=ts at*;have D:J.length<=10:=by omega
 have HT:=Ab o;have N:=Ab v;generalize cnt (xorL xs b)=R at*;generalize b.length=ym at*;generalize xs.length=xm at*;clear v Y ac Z;clear h z hs o;go_enter Tryz.func273,Tryz.ntmps273;go_wp2_with fail;refine wp_region_quiet_below (by kernel_rfl) (by kernel_rfl) ?_
 repeat (with_reducible refine wpQuiet_step (fun K hK=>?_);go_simp;first|(with_reducible refine hK _ ?_;clear hK K))
 refine wpQuiet_nil ?_;intro _ aa;obtain⟨⟨dq,E⟩,B⟩:=aa;subst B;have s:=below_regrown w dq E;generalize grow (redrawn w dq) E=W at*;have n:=(Aa Hh).below s;have q:=(Aa HT).below s;have C:=(Aa HR).below s;have HB:=Ab s;have O:=Ab (fun wx (f:Below W.heap.size W wx)=>GC I l sc ts wx (q.below f) (by omega));have T:=Ab (fun wx (f:Below W.heap.size W wx)=>Aa S wx (q.below f) (C.below f));have P:=Ab (fun wx (f:Below W.heap.size W wx)=>(n.below f).at.2.2);have q0:=n.at.2.2;clear n q C s Hh HT HR k1 X x;go_wp2_with fail
 go_region_held3 (fun w'=>w'.cell? ⟨g,34,none⟩=some (.int .i64 (cnt xs:Int))) (go_keep) (first
  |(go_at_call 274;refine(Aa T _ (by first|exact Aa r|exact(Below.refl _ _).drew)).mono ?_;rintro e w1 ⟨v1,rfl,y,u⟩;obtain⟨a2,m2,c2,rfl,A,ah⟩:∃a m c,v1=Value.slice a m c/\RowAt w1 a m J/\m<=10:=(by obtain⟨a,c,e,z⟩:=y.row;exact⟨a,_,c,e,z,D⟩);have G:=Ab (show Below W.heap.size W w1 from Ad (by first|exact Aa r|exact(Below.refl _ _).drew) u);have Q:=Ab A;have q0:=Aa P w1 (Aa G);clear y u A)
  |(go_at_call 180;refine(GC a2 m2 c2 J _ (Aa Q) (by omega)).mono ?_;rintro e w1 ⟨rfl,i⟩;have H:=Ab (show Below W.heap.size W w1 from by rw[i];first|exact Aa r|exact Aa G);have q0:=Aa P w1 (Aa H);clear i)
  |(go_at_call 180;refine(Aa O _ (by first|exact Aa H|exact Aa G|exact(Below.refl _ _).drew)).mono ?_;rintro e w1 ⟨rfl,i⟩;have r:=Ab (show Below W.heap.size W w1 from by rw[i];first|exact Aa H|exact Aa G|exact(Below.refl _ _).drew);have q0:=Aa P w1 (Aa r);clear i))
 have ab:IntKind.i64.wrap (IntKind.i64.wrap (((cnt xs:Nat):Int)-((cnt ts:Nat):Int))+((cnt J:Nat):Int))=((R:Nat):Int):=by
  have h2:=Aa N;rw[IntKind.wrap_i64,IntKind.wrap_i64];omega
 rw[ab];have HD:Hid (Below W.heap.size W w1):=by first|exact H|exact r
 go_wp2;go_ret;exact⟨rfl,Ad (Aa HB) (Aa HD)⟩
theorem oT(W:World)(L:List Int)(k:Nat)(sv:Value)(xs:List Nat)(d:Nat)(p:Nat)(a:Option Addr)(m c:Nat)(o:List Nat)(w:World)(h:CcAt w W.heap.size L k sv xs d)(I:Below W.heap.size W w)(E:RowAt W a m o)(J:k<32)(hx:xs.length<=10)(hm:m<=10):
  Calls Tryz.prog 242 #[.pointer (some ⟨W.heap.size,0,none⟩),.int .i64 (p:Int),.slice a m c] w fun e w'=>e=.returned (.tuple #[])/\(∃u,CcAt w' W.heap.size (L.set k (p:Int)) (k+1) u (xorL xs o) (cnt (xorL xs o)))/\Below W.heap.size W w':=by
 obtain rfl:=E.1;have T:(k:Int)<32:=by omega
 obtain⟨Z,sc,rfl,_⟩:=h.own.row;obtain⟨N,O,P⟩:=h.at;have f0:=h.blk.frz k;have Y:=h.blk.at k (Wh h.len J);have H:=Ab h;have G:=Ab I;have R:=Ab E;clear h E I;go_enter Tryz.func242,Tryz.ntmps242;go_wp2_with fail;go_region;have l:=((Aa H).place J (p:Int)).below (Below.refl _ _).drew;have s:=((Aa G).setCell (p:=⟨W.heap.size,k,none⟩) (Nat.le_refl _) (.int .i64 (p:Int))).trans ((Below.refl _ _).drew);generalize (w.setCell ⟨W.heap.size,k,none⟩ (.int .i64 (p:Int))).drew=w1 at*;clear N O P f0 Y H G;have f1:=l.blk.frz 32;obtain⟨N,O,P⟩:=l.at;obtain⟨j,hj,x⟩:∃j:Nat,(k:Int)+1=(j:Int)/\j=k+1:=⟨k+1,by omega,rfl⟩;have Q:=Ab x;have z:=Ab (l.count j);have i:=Ab (s.setCell (p:=⟨W.heap.size,32,none⟩) (Nat.le_refl _) (.int .i64 (j:Int)));obtain⟨_,r1,_⟩:=(l.count j).at;have v:=(l.count j).blk.lt;have f3:=fun(wx:World) (D:Below (w1.setCell ⟨W.heap.size,32,none⟩ (.int .i64 (j:Int))).heap.size (w1.setCell ⟨W.heap.size,32,none⟩ (.int .i64 (j:Int))) wx)=>((l.count j).below D).blk.frz 33;clear l s x;generalize V:w1.setCell ⟨W.heap.size,32,none⟩ (.int .i64 (j:Int))=w2 at*;have q:=Ab (I5 Z xs.length sc xs a o.length c o w2 (by obtain⟨_,_,e,f⟩:=(Aa z).own.row;simp only[Value.slice.injEq,true_and]at e;obtain⟨rfl,rfl⟩:=e;exact f) ((Aa R).below (Aa i)) (by omega) (by omega));have X:(xorL xs o).length<=10:=by rw[BT];omega
 have C:=Ab f3;clear f3
 go_wp2_with (first
  |(go_at_call 274;refine(Aa q).mono ?_;rintro e w3 ⟨v3,rfl,n,b⟩;obtain⟨a3,K,c3,rfl⟩:∃a m c,v3=Value.slice a m c:=(by obtain⟨a,c,e,_⟩:=n.row;exact⟨a,_,c,e⟩);have r:=((Aa z).below b).sum (n.mono (show W.heap.size+1<=_ from v));have B:=Ab (((Aa i).trans (b.mono (Nat.le_of_lt v))).setCell (p:=⟨W.heap.size,33,none⟩) (Nat.le_refl _) (.slice a3 K c3));have f3:=Aa C w3 b;have s1:=((Aa z).below b).at.2.1;have s2:=r.at.2.1;have s3:=r.at.2.2;have f4:=r.blk.frz 34;have A:=Ab r;clear n b r q z i)
  |(go_at_call 180;refine(GC a3 K c3 (xorL xs o) _ (by obtain⟨_,_,e,f⟩:=(Aa A).own.row;simp only[Value.slice.injEq]at e;obtain⟨rfl,rfl,rfl⟩:=e;exact f) (by have S:=(Aa A).own.row;obtain⟨_,_,e,f⟩:=S;simp only[Value.slice.injEq]at e;omega)).mono ?_;rintro e w5 ⟨rfl,y⟩;obtain rfl:=y.symm;clear y))
 go_end0;obtain rfl:=Aa Q;exact⟨rfl,⟨_,(Aa A).deg _⟩,(Aa B).setCell (p:=⟨W.heap.size,34,none⟩) (Nat.le_refl _) _⟩
def Ld:Option Nat->Int
 |none=> -1
 |some b=>b
def AY(rs:List RV):List (List Nat):=rs.map fun r=>r.xs
theorem L1(rs:List RV):(AY rs).length=rs.length:=by simp[AY]
theorem L0{rs:List RV}{i:Nat}(a:i<rs.length):(AY rs).getD i []=(rs.getD i .dflt).xs:=by
 unfold AY;rw[List.getD_eq_getElem?_getD,List.getElem?_map,List.getElem?_eq_getElem a,List.getD_eq_getElem?_getD,List.getElem?_eq_getElem a];rfl
theorem Vd(V:List (List Nat))(ch:List Bool)(v:List Nat)(t:Int):∀n,0<=(BJ V ch v t n).2
 |0=>OC _ _
 |n+1=>by
  by_cases h:Gj V ch v t n (BJ V ch v t n).2
  ·rw[N3 h];exact OC _ _
  ·rw[Ov h];exact Vd V ch v t n
theorem iu(g:Nat)(L:List Int)(k:Nat)(sv:Value)(xs:List Nat)(a:Option Addr)(n c:Nat)(rs:List RV)(t:Int)(ch:List Bool)(ps:List Nat)(w:World)(h:CcAt w g L k sv xs (cnt xs))(hr:Aj w a n rs)(hs:Af rs)(hn:n<=300)(hx:xs.length<=10)(hk:k<=32)(hC:E4 n ch ps)(hL:L.take k=A7 ps)(ht: -1099511627776<=t/\t<=1099511627776):
  Calls Tryz.prog 241 #[.pointer (some ⟨g,0,none⟩),.slice a n c,.int .i64 t] w fun e w'=>e=.returned (.int .i64 (if k=32 then -1 else Ld (BJ (AY rs) ch xs t n).1))/\Below w.heap.size w w':=by
 obtain rfl:=hr.1;obtain⟨q0,q1,q2⟩:=h.at;by_cases ac:k=32
 ·subst ac
  rw[if_pos rfl];have au:w.cell? ⟨g,32,none⟩=some (.int .i64 32):=q0;clear q0 h hr hC hL;go_enter Tryz.func241,Tryz.ntmps241;go_wp2;go_ret;exact⟨rfl,Below.refl _ _⟩
 ·rw[if_neg ac]
  have ap:¬((k:Int)=32):=by omega
  have ai:cnt xs<=1048576:=by have:=K3 xs;omega
  have Y:=Ab (Rv (cnt xs) t ai ht w);have Hh:=Ab h;have HR:=Ab hr;have HS:=Ab hs;have ae:=Ab (show∀i,i<rs.length->decide ((i:Int)∈L.take k)=ch.getD i false from fun i hi=>by rw[hL,nX,hC.mem i hi]);have aa:=Ab (show(distN (cnt xs) t:Int)=((BJ (AY rs) ch xs t 0).2.toNat:Int) from rfl);generalize hd:cnt xs=d at*;clear h hr hs hC hL;go_enter Tryz.func241,Tryz.ntmps241;go_wp2_with (go_at_call 271;refine(Aa Y).mono ?_;rintro e w1 ⟨rfl,ad⟩;obtain rfl:=ad.symm;clear ad Y);go_loopw [7,8,26] (fun b l i wr=> ∃m:Nat,m<=rs.length/\i=.int .i64 m/\b=.int .i64 (Ld (BJ (AY rs) ch xs t m).1)/\l=.int .u64 ((BJ (AY rs) ch xs t m).2.toNat:Int)/\Hid (Below w.heap.size w wr)) (fun _ _ i _=>rs.length-(intOf i).toNat)
  case atStart=>exact⟨0,Nat.zero_le _,rfl,rfl,by rw[Aa aa],Ab (Below.refl _ _)⟩
  case round=>
   obtain⟨m,hm,rfl,rfl,rfl,HB⟩:=hrel;clear aa;by_cases E:m<rs.length
   ·have hR:=(Aa HR).below (Aa HB)
    obtain⟨b,off,rfl,ab⟩:=hR.at E;obtain⟨ao,al⟩:=ab m E;have G:=hR.2.1 m E;have ak:=(Aa HS m).1;have am:(m:Int)<(rs.length:Int):=by omega
    have hH:=(Aa Hh).below (Aa HB);have Q:FT (AY rs) xs m=cnt (xorL xs (rs.getD m .dflt).xs):=by unfold FT;rw[L0 E]
    have ar:=G.1;have D:=Ab (fun O=>N3 (V:=AY rs) (ch:=ch) (v:=xs) (t:=t) (i:=m) O);have x:=Ab (fun O=>Ov (V:=AY rs) (ch:=ch) (v:=xs) (t:=t) (i:=m) O);have aq:=Vd (AY rs) ch xs t m;have y:=Aa ae m E;clear ab hR;generalize rs.getD m .dflt=r at*;have J:Below wr.heap.size wr (wr.alloc (.cells #[.slice r.a r.n r.c,.string r.s] 73)):=(Below.refl _ _).alloc (Nat.le_refl _) _;have f:=GH wr (.slice r.a r.n r.c) (.string r.s);generalize an:wr.alloc (.cells #[.slice r.a r.n r.c,.string r.s] 73)=w2 at*;have W:=hH.below J;have z:=Ab (XO g L k sv xs d (m:Int) w2 W hk);have H:=Ab (Ad (Aa HB) J);have T:=Ab (fun wx (K:Below w2.heap.size w2 wx)=>dt g L k sv xs r.a r.n r.c r.xs wx (hd▸W.below K) ((G.below J).below K) hx ak);have R:=Ab (fun wx (K:Below w2.heap.size w2 wx)=>f.below K);have aj:cnt (xorL xs r.xs)<=1048576:=by have P:=K3 (xorL xs r.xs);rw[BT]at P;omega
    have X:=Ab Q;clear hH W G J f Q;generalize cnt (xorL xs r.xs)=I at*;have S:=Ab (fun wx=>Rv I t aj ht wx);cases N:ch.getD m false
    ·rw[N]at y
     rw[y]at z
     have A:=Ab (show Gj (AY rs) ch xs t m (BJ (AY rs) ch xs t m).2↔0<I/\distN I t<(BJ (AY rs) ch xs t m).2.toNat from by
      unfold Gj;rw[Aa X,N];have h5:=Sq I t;constructor
      ·rintro⟨_,P,h2⟩;exact⟨P,by omega⟩
      ·rintro⟨P,h2⟩;exact⟨rfl,P,by omega⟩)
     have af:=Ab (show(DO (FT (AY rs) xs m) t).toNat=distN I t from by rw[Aa X];rfl);generalize hZ:BJ (AY rs) ch xs t m=Z at*;generalize distN I t=f1 at*;by_cases P:0<I
     ·have ag:(0:Int)<(I:Int):=by omega
      by_cases h2:f1<Z.2.toNat
      ·have ah:(f1:Int)<(Z.2.toNat:Int):=by omega
       have C:=Ab (Aa D ((Aa A).2 ⟨P,h2⟩));clear D x A
       go_wp2_with (first
        |(go_at_call 272;refine(Aa z).mono ?_;rintro e w3 ⟨rfl,f⟩;have o:=Ab f;obtain⟨x0,x1⟩:=Aa R w3 f;clear f)
        |(go_at_call 273;refine(Aa T _ (Aa o)).mono ?_;rintro e w4 ⟨rfl,q⟩;have B:=Ab (Ad (Aa o) q);clear q)
        |(go_at_call 271;refine(Aa S _).mono ?_;rintro e w5 ⟨rfl,u⟩;obtain rfl:=u.symm;clear u))
       go_roundw
       case rel=>exact⟨m+1,by omega,by go_num,by rw[Aa C];rfl,by rw[Aa C];show _=Value.int .u64 (((DO (FT (AY rs) xs m) t).toNat:Nat):Int);rw[Aa af],Ab (Ad (Aa H) (Aa B))⟩
       case measure=>simp[intOf];omega
      ·have ah:¬(f1:Int)<(Z.2.toNat:Int):=by omega
       have C:=Ab (Aa x fun O=>h2 ((Aa A).1 O).2);clear D x A
       go_wp2_with (first
        |(go_at_call 272;refine(Aa z).mono ?_;rintro e w3 ⟨rfl,f⟩;have o:=Ab f;obtain⟨x0,x1⟩:=Aa R w3 f;clear f)
        |(go_at_call 273;refine(Aa T _ (Aa o)).mono ?_;rintro e w4 ⟨rfl,q⟩;have B:=Ab (Ad (Aa o) q);clear q)
        |(go_at_call 271;refine(Aa S _).mono ?_;rintro e w5 ⟨rfl,u⟩;obtain rfl:=u.symm;clear u))
       go_roundw
       case rel=>exact⟨m+1,by omega,by go_num,by rw[Aa C],by rw[Aa C,Int.ofNat_toNat],Ab (Ad (Aa H) (Aa B))⟩
       case measure=>simp[intOf];omega
     ·have ag:¬(0:Int)<(I:Int):=by omega
      have C:=Ab (Aa x fun O=>P ((Aa A).1 O).1);clear D x A
      go_wp2_with (first
       |(go_at_call 272;refine(Aa z).mono ?_;rintro e w3 ⟨rfl,f⟩;have o:=Ab f;obtain⟨x0,x1⟩:=Aa R w3 f;clear f)
       |(go_at_call 273;refine(Aa T _ (Aa o)).mono ?_;rintro e w4 ⟨rfl,q⟩;have B:=Ab (Ad (Aa o) q);clear q)
       |(go_at_call 271;refine(Aa S _).mono ?_;rintro e w5 ⟨rfl,u⟩;obtain rfl:=u.symm;clear u))
      go_roundw
      case rel=>exact⟨m+1,by omega,by go_num,by rw[Aa C],by rw[Aa C,Int.ofNat_toNat],Ab (Ad (Aa H) (Aa B))⟩
      case measure=>simp[intOf];omega
    ·rw[N]at y
     rw[y]at z;have C:=Ab (Aa x fun O=>absurd (N.symm.trans O.1) (by decide));clear D x
     go_wp2_with (first
      |(go_at_call 272;refine(Aa z).mono ?_;rintro e w3 ⟨rfl,f⟩;have o:=Ab f;clear f))
     go_roundw
     case rel=>exact⟨m+1,by omega,by go_num,by rw[Aa C],by rw[Aa C,Int.ofNat_toNat],Ab (Ad (Aa H) (Aa o))⟩
     case measure=>simp[intOf];omega
   ·obtain rfl:m=rs.length:=by omega
    go_wp2;go_ret;exact⟨rfl,Aa HB⟩
def aC:Ren:=⟨fun|125=>267|128=>294|129=>295|189=>237|215=>314|216=>302|257=>270|294=>296|295=>297|296=>298|297=>299|298=>300|299=>301|300=>303|301=>304|328=>309|329=>310|330=>311|331=>312|332=>313|343=>316|n=>n,fun|0=>0|3=>3|4=>4|5=>5|9=>9|28=>27|46=>305|51=>112|53=>265|131=>253|182=>388|183=>389|218=>400|222=>403|228=>406|229=>128|n=>n,fun|n=>n⟩
theorem V0:Lays.n189 Tryz.prog aC:={
 mixed:=by kernel_rfl
 f125:=Tryz.func267.trans (congrArg some (by kernel_rfl))
 f128:=Tryz.func294.trans (congrArg some (by kernel_rfl))
 f129:=Tryz.func295.trans (congrArg some (by kernel_rfl))
 f189:=Tryz.func237.trans (congrArg some (by kernel_rfl))
 f215:=Tryz.func314.trans (congrArg some (by kernel_rfl))
 f216:=Tryz.func302.trans (congrArg some (by kernel_rfl))
 f257:=Tryz.func270.trans (congrArg some (by kernel_rfl))
 f294:=Tryz.func296.trans (congrArg some (by kernel_rfl))
 f295:=Tryz.func297.trans (congrArg some (by kernel_rfl))
 f296:=Tryz.func298.trans (congrArg some (by kernel_rfl))
 f297:=Tryz.func299.trans (congrArg some (by kernel_rfl))
 f298:=Tryz.func300.trans (congrArg some (by kernel_rfl))
 f299:=Tryz.func301.trans (congrArg some (by kernel_rfl))
 f300:=Tryz.func303.trans (congrArg some (by kernel_rfl))
 f301:=Tryz.func304.trans (congrArg some (by kernel_rfl))
 f328:=Tryz.func309.trans (congrArg some (by kernel_rfl))
 f329:=Tryz.func310.trans (congrArg some (by kernel_rfl))
 f330:=Tryz.func311.trans (congrArg some (by kernel_rfl))
 f331:=Tryz.func312.trans (congrArg some (by kernel_rfl))
 f332:=Tryz.func313.trans (congrArg some (by kernel_rfl))
 f343:=Tryz.func316.trans (congrArg some (by kernel_rfl))
 t0:=Tryz.underlying0
 a0:=Tryz.isAgg0
 z0:=Tryz.sizeOf0
 v0:=Tryz.zeroValue0
 t3:=Tryz.underlying3
 a3:=Tryz.isAgg3
 z3:=Tryz.sizeOf3
 v3:=Tryz.zeroValue3
 t4:=Tryz.underlying4
 a4:=Tryz.isAgg4
 z4:=Tryz.sizeOf4
 v4:=Tryz.zeroValue4
 t5:=Tryz.underlying5
 a5:=Tryz.isAgg5
 z5:=Tryz.sizeOf5
 v5:=Tryz.zeroValue5
 t9:=Tryz.underlying9
 a9:=Tryz.isAgg9
 z9:=Tryz.sizeOf9
 v9:=Tryz.zeroValue9
 t28:=Tryz.underlying27
 a28:=Tryz.isAgg27
 z28:=Tryz.sizeOf27
 v28:=Tryz.zeroValue27
 t46:=Tryz.underlying305
 a46:=Tryz.isAgg305
 z46:=Tryz.sizeOf305
 v46:=Tryz.zeroValue305
 t51:=Tryz.underlying112
 a51:=Tryz.isAgg112
 z51:=Tryz.sizeOf112
 v51:=Tryz.zeroValue112
 t53:=Tryz.underlying265
 a53:=Tryz.isAgg265
 z53:=Tryz.sizeOf265
 v53:=Tryz.zeroValue265
 t131:=Tryz.underlying253
 a131:=Tryz.isAgg253
 z131:=Tryz.sizeOf253
 v131:=Tryz.zeroValue253
 t182:=Tryz.underlying388
 a182:=Tryz.isAgg388
 z182:=Tryz.sizeOf388
 v182:=Tryz.zeroValue388
 t183:=Tryz.underlying389
 a183:=Tryz.isAgg389
 z183:=Tryz.sizeOf389
 v183:=Tryz.zeroValue389
 t218:=Tryz.underlying400
 a218:=Tryz.isAgg400
 z218:=Tryz.sizeOf400
 v218:=Tryz.zeroValue400
 t222:=Tryz.underlying403
 a222:=Tryz.isAgg403
 z222:=Tryz.sizeOf403
 v222:=Tryz.zeroValue403
 t228:=Tryz.underlying406
 a228:=Tryz.isAgg406
 z228:=Tryz.sizeOf406
 v228:=Tryz.zeroValue406
 t229:=Tryz.underlying128
 a229:=Tryz.isAgg128
 z229:=Tryz.sizeOf128
 v229:=Tryz.zeroValue128}
theorem Sm(xs:List Int):cellsZ xs=xs.map (Value.int .i64):=rfl
theorem V3(B:Nat)(v:Value)(xs:List Int)(w:World)(h:Am w B v xs)(z:xs.length<=1048576):
  Calls Tryz.prog 237 #[v] w fun e w'=>e=.returned (.tuple #[])/\Am w' B v (xs.mergeSort fun x y=>decide (x<=y))/\w.grownBy w' v.ownBlock:=by
 have l:w.ownsRow B 3 1 v xs.length (cellsZ xs):=h;rcases l.2 with⟨rfl,u⟩|⟨g,cap,i,rfl,o,a,b,r,c,ht⟩
 ·obtain rfl:xs=[]:=List.eq_nil_of_length_eq_zero u
  refine(calls_of_every_depth fun D=>AnyS.slices_Sort_int_none_in V0 D none 0 w).mono ?_;rintro e w' ⟨rfl,s⟩;obtain rfl:=s.symm;exact⟨rfl,by simpa using h,Ge _ _⟩
 ·have m:Holds (Value.int .i64) w g 0 xs.toArray:=holds_of_blockI a (by simpa [Sm]using ht)
  refine(Any.slices_Sort_int V0 g 0 cap xs w m (Array.getElem?_eq_some_iff.1 a).1 (by omega)).mono ?_;rintro e w' ⟨rfl,q,os,rfl⟩;have f:(xs.mergeSort fun x y=>decide (x<=y)).length=xs.length:=by simp
  refine⟨rfl,?_,by simpa [Value.ownBlock]using grownBy_sortedI _⟩;show World.ownsRow _ B 3 1 _ (xs.mergeSort fun x y=>decide (x<=y)).length _;have:=ownsRow_sortedI (n:=q) (os:=os) f o a b r c;rw[f,Sm];exact this
variable {t pl:Int}{L:List Int}{xs ps:List Nat}{rs:List RV}{p j d:Nat}
theorem gv(g:Nat)(L:List Int)(k:Nat)(sv:Value)(xs:List Nat)(d:Nat)(w:World)(h:CcAt w g L k sv xs d)(z:k<=32):
  Calls Tryz.prog 243 #[.pointer (some ⟨g,0,none⟩)] w fun e w'=> ∃v,e=.returned v/\Am w' w.heap.size v ((L.take k).mergeSort fun x y=>decide (x<=y))/\Below w.heap.size w w':=by
 have G:(k:Int)<=32:=by omega
 obtain⟨I,J,K⟩:=h.at;have H:(L.take k).length<=32:=by rw[List.length_take,h.len];omega
 have q:=Ab (fun wx (u:Below w.heap.size w wx)=>Sn ⟨g,0,none⟩ k 32 (L.take k) wx ((h.below u).ints z) (by omega));have D:=Ab (fun wx (u:Below w.heap.size w wx)=>(h.below u).at.1);clear h J K;generalize E:L.take k=T at*;clear E;go_enter Tryz.func243,Tryz.ntmps243;go_wp2_with fail
 go_region_held3 (fun w'=>w'.cell? ⟨g,32,none⟩=some (.int .i64 (k:Int))) (go_keep) (first
  |(go_at_call 68;refine(Aa q _ (Below.refl _ _).drew).mono ?_;rintro e w1 ⟨N,rfl,b,f⟩;obtain⟨B,C,c1,rfl⟩:∃a m c,N=Value.slice a m c:=(by obtain⟨a,c,e,_⟩:=b.ints;exact⟨a,_,c,e⟩);have n:=Ab (show Below w.heap.size w w1 from Ad (Below.refl _ _).drew f);have I:=Aa D w1 (Aa n);have A:=Ab (show Am w1 w.heap.size (.slice B C c1) T from b);clear b f))
 have s:=Ab (V3 w.heap.size (.slice B C c1) T w1 (Aa A) (by omega));go_wp2_with (go_at_call 237;refine(Aa s).mono ?_;rintro e w2 ⟨rfl,l,i⟩;have r:=Ab l;have o:=Ab ((Aa n).trans (CJ i (Aa n).size fun k z=>(World.ownsRow.lt (Aa A) k z).1));clear l i);go_ret;exact⟨_,rfl,Aa r,Aa o⟩
def GR(rs:List RV)(t:Int)(p j:Nat)(L:List Int)(xs:List Nat)(d:Nat)(ps:List Nat)(pl:Int):Prop:=
 j<=32/\L.take j=A7 ps/\((j=0/\xs=[]/\ps=[]/\pl=(p:Int))\/
  (1<=j/\xs=(BD (AY rs) t p (j-1)).v/\d=cnt xs/\E4 rs.length (BD (AY rs) t p (j-1)).ch ps/\pl=if j=32 then -1 else Ld (BJ (AY rs) (BD (AY rs) t p (j-1)).ch xs t rs.length).1))
theorem GR.go(h:GR rs t p j L xs d ps pl)(hp:p<rs.length)(s:L.length=32)(c:0<=pl):
  ∃b:Nat,pl=(b:Int)/\b<rs.length/\j<32/\xorL xs (rs.getD b .dflt).xs=(BD (AY rs) t p j).v/\E4 rs.length (BD (AY rs) t p j).ch (ps++[b])/\(L.set j (b:Int)).take (j+1)=A7 (ps++[b]):=by
 obtain⟨y,q,r⟩:=h
 have n:∀b:Nat,j<32->(L.set j (b:Int)).take (j+1)=A7 (ps++[b]):=fun b i=>by
  have m:j<(L.set j (b:Int)).length:=by rw[List.length_set,s];exact i
  rw[List.take_succ_eq_append_getElem m,List.take_set_of_le (Nat.le_refl _),q,Rp,List.getElem_set_self];rfl
 rcases r with⟨rfl,rfl,rfl,rfl⟩|⟨u,rfl,x,o,a⟩
 ·refine⟨p,rfl,hp,by omega,?_,?_,n p (by omega)⟩
  ·rw[KG,Mq,<-L0 hp]
   rfl
  ·show E4 _ ((List.replicate (AY rs).length false).set p true) _
   rw[L1];exact Xp hp
 ·by_cases i:j=32
  ·rw[if_pos i]at a;omega
  ·rw[if_neg i]at a
   obtain⟨_,_,f⟩:=Tx (AY rs) (BD (AY rs) t p (j-1)).ch (BD (AY rs) t p (j-1)).v t rs.length;cases l:(BJ (AY rs) (BD (AY rs) t p (j-1)).ch (BD (AY rs) t p (j-1)).v t rs.length).1 with
   |none=>rw[l]at a;rw[a]at c;exact absurd c (by decide)
   |some b=>
    rw[l]at a f;have e:BD (AY rs) t p j=⟨(BD (AY rs) t p (j-1)).ch.set b true,xorL (BD (AY rs) t p (j-1)).v ((AY rs).getD b [])⟩:=by
     have:BD (AY rs) t p (j-1+1)=Hf (AY rs) t (BD (AY rs) t p (j-1)):=rfl;rw[show j-1+1=j by omega]at this;rw[this,lW (by rw[L1];exact l)]
    refine⟨b,a,f.1,by omega,?_,?_,n b (by omega)⟩
    ·rw[e,L0 f.1]
    ·rw[e]
     exact o.snoc f.1 f.2.1.1
theorem GR.last(h:GR rs t p j L xs d ps pl)(c:¬0<=pl):
  (L.take j).mergeSort (fun x y=>decide (x<=y))=A7 (Gc (BD (AY rs) t p 31).ch rs.length):=by
 obtain⟨r,l,m⟩:=h;rcases m with⟨rfl,rfl,rfl,rfl⟩|⟨o,rfl,q,i,a⟩
 ·omega
 ·have e:BD (AY rs) t p (j-1)=BD (AY rs) t p 31:=by
   by_cases f:j=32
   ·rw[f]
   ·rw[if_neg f]at a
    refine ir (by omega) ?_;rw[L1];cases n:(BJ (AY rs) (BD (AY rs) t p (j-1)).ch (BD (AY rs) t p (j-1)).v t rs.length).1 with
    |none=>rfl
    |some b=>rw[n]at a;exact absurd (show 0<=pl by rw[a];exact Int.natCast_nonneg _) c
  rw[l,i.sort,e]
theorem GR.len(h:GR rs t p j L xs d ps pl)(a:∀i,((AY rs).getD i []).length<=10):xs.length<=10:=by
 rcases h.2.2 with⟨_,rfl,_⟩|⟨_,rfl,_⟩
 ·exact Nat.zero_le _
 ·exact Uy a _
def cntOf(w:World)(g:Nat):Nat:=match w.cell? ⟨g,32,none⟩with
 |some v=>(intOf v).toNat
 |none=>0
theorem CcAt.cntOf{w:World}{g:Nat}{k:Nat}{sv:Value}(h:CcAt w g L k sv xs d):cntOf w g=k:=by
 unfold Go.Proofs.YtmmikiikddokgaaGreatDoor.cntOf;rw[h.at.1];simp[intOf]
def Ir(rs:List RV)(b t:Int):List Int:=if rs.length=0 then []else A7 (Gc (BD (AY rs) t (placeN b rs.length) 31).ch rs.length)
theorem qj{w:World}{a:Option Addr}{n:Nat}(c:Aj w a n rs)(e:Af rs):∀i,((AY rs).getD i []).length<=10:=fun i=>by
 by_cases b:i<rs.length
 ·rw[L0 b,(c.2.1 i (by rw[<-c.1];exact b)).1]
  exact(e i).1
 ·rw[List.getD_eq_getElem?_getD,List.getElem?_eq_none (by rw[L1];omega)]
  exact Nat.zero_le _
theorem eo(a:Option Addr)(n c:Nat)(rs:List RV)(b t:Int)(w:World)(P:Aj w a n rs)(hs:Af rs)(hn:n<=300)(hb: -9223372036854775808<=b/\b<=9223372036854775807)(ht: -1099511627776<=t/\t<=1099511627776):
  Calls Tryz.prog 199 #[.slice a n c,.int .i64 b,.int .i64 t] w fun e w'=> ∃v,e=.returned v/\Am w' w.heap.size v (Ir rs b t)/\Below w.heap.size w w':=by
 obtain rfl:=P.1;unfold Ir;by_cases h0:rs.length=0
 ·rw[if_pos h0]
  have Z:(rs.length:Int)=0:=by omega
  clear P;go_enter Tryz.func199,Tryz.ntmps199;go_wp2;go_ret;exact⟨_,rfl,Am.nil _ _,Below.refl _ _⟩
 ·rw[if_neg h0]
  have Z:¬(rs.length:Int)=0:=by omega
  have ad:=(Vk b (show 0<rs.length by omega)).2;have C:=Ab (fun wx=>ev b rs.length (by omega) (by omega) hb wx);have s:=CcAt.new w;have o:Below w.heap.size w (w.alloc (.cells (E3 (List.replicate 32 0) 0 (.slice none 0 0) 0).toArray 334)):=(Below.refl _ _).alloc (Nat.le_refl _) _;have i:(E3 (List.replicate 32 0) 0 (.slice none 0 0) 0).toArray=#[.int .i64 0,.int .i64 0,.int .i64 0,.int .i64 0,.int .i64 0,.int .i64 0,.int .i64 0,.int .i64 0,.int .i64 0,.int .i64 0,.int .i64 0,.int .i64 0,.int .i64 0,.int .i64 0,.int .i64 0,.int .i64 0,.int .i64 0,.int .i64 0,.int .i64 0,.int .i64 0,.int .i64 0,.int .i64 0,.int .i64 0,.int .i64 0,.int .i64 0,.int .i64 0,.int .i64 0,.int .i64 0,.int .i64 0,.int .i64 0,.int .i64 0,.int .i64 0,.int .i64 0,.slice none 0 0,.int .i64 0]:=rfl;rw[i]at s o;have HV:=Ab (qj P hs);have I:=Ab (show∃L sv xs d ps,CcAt (w.alloc (.cells #[.int .i64 0,.int .i64 0,.int .i64 0,.int .i64 0,.int .i64 0,.int .i64 0,.int .i64 0,.int .i64 0,.int .i64 0,.int .i64 0,.int .i64 0,.int .i64 0,.int .i64 0,.int .i64 0,.int .i64 0,.int .i64 0,.int .i64 0,.int .i64 0,.int .i64 0,.int .i64 0,.int .i64 0,.int .i64 0,.int .i64 0,.int .i64 0,.int .i64 0,.int .i64 0,.int .i64 0,.int .i64 0,.int .i64 0,.int .i64 0,.int .i64 0,.int .i64 0,.int .i64 0,.slice none 0 0,.int .i64 0] 334)) w.heap.size L 0 sv xs d/\GR rs t (placeN b rs.length) 0 L xs d ps ((placeN b rs.length:Nat):Int) from⟨_,_,_,_,[],s,by omega,rfl,.inl ⟨rfl,rfl,rfl,rfl⟩⟩);have D:=Ab o;have X:=Ab P;have J:=Ab hs;generalize placeN b rs.length=p at*;generalize hW:w.alloc (.cells #[.int .i64 0,.int .i64 0,.int .i64 0,.int .i64 0,.int .i64 0,.int .i64 0,.int .i64 0,.int .i64 0,.int .i64 0,.int .i64 0,.int .i64 0,.int .i64 0,.int .i64 0,.int .i64 0,.int .i64 0,.int .i64 0,.int .i64 0,.int .i64 0,.int .i64 0,.int .i64 0,.int .i64 0,.int .i64 0,.int .i64 0,.int .i64 0,.int .i64 0,.int .i64 0,.int .i64 0,.int .i64 0,.int .i64 0,.int .i64 0,.int .i64 0,.int .i64 0,.int .i64 0,.slice none 0 0,.int .i64 0] 334)=W1 at*
  clear P hs s o i;go_enter Tryz.func199,Tryz.ntmps199;go_wp2_with (go_at_call 240;refine(Aa C _).mono ?_;rintro e w1 ⟨rfl,Q⟩;obtain rfl:=Q.symm;clear Q C);clear hW;go_loopw [8] (fun pl wr=> ∃z:Int,∃j:Nat,pl=.int .i64 z/\Hid (∃L sv xs d ps,CcAt wr w.heap.size L j sv xs d/\GR rs t p j L xs d ps z)/\Hid (Below w.heap.size w wr)) (fun _ wr=>33-cntOf wr w.heap.size)
  case atStart=>exact⟨_,0,rfl,I,D⟩
  case round=>
   obtain⟨z,j,rfl,HS,R⟩:=hrel;clear I D;obtain⟨L,sv,xs,d,ps,A,B⟩:=Aa HS;clear HS;have hx:=B.len (Aa HV);have ab:=A.cntOf;by_cases hz:0<=z
   ·obtain⟨h,rfl,q,hj,N,x,y⟩:=B.go ad A.len hz
    have af:(h:Int)<(rs.length:Int):=by omega
    have hR:=(Aa X).below (Aa R);obtain⟨bb,off,rfl,i⟩:=hR.at q;obtain⟨ag,ah⟩:=i h q;have l:=(Aa X).2.1 h q;have ae:=(Aa J h).1;generalize rs.getD h .dflt=r at*;have S:=Ab (oT w L j sv xs d h r.a r.n r.c r.xs wr A (Aa R) l hj hx ae);have hy:(xorL xs r.xs).length<=10:=by rw[BT,l.1];omega
    have V:=Ab (fun wx u (ac:CcAt wx w.heap.size (L.set j (h:Int)) (j+1) u (xorL xs r.xs) (cnt (xorL xs r.xs))) (aa:Below w.heap.size w wx)=>iu w.heap.size (L.set j (h:Int)) (j+1) u (xorL xs r.xs) (some ⟨bb,off,none⟩) rs.length c rs t _ (ps++[h]) wx ac ((Aa X).below aa) (Aa J) hn hy (by omega) x y ht);have T:=Ab (show GR rs t p (j+1) (L.set j (h:Int)) (xorL xs r.xs) (cnt (xorL xs r.xs)) (ps++[h]) (if j+1=32 then -1 else Ld (BJ (AY rs) (BD (AY rs) t p j).ch (xorL xs r.xs) t rs.length).1) from⟨by omega,y,.inr ⟨by omega,by rw[N];rfl,rfl,x,rfl⟩⟩);clear B N x y hR i A l;generalize xorL xs r.xs=ys at*;generalize (if j+1=32 then -1 else Ld (BJ (AY rs) (BD (AY rs) t p j).ch ys t rs.length).1)=z2 at*
    go_wp2_with (first
     |(go_at_call 242;refine(Aa S).mono ?_;rintro e w1 ⟨rfl,⟨u,hu⟩,K⟩;have G:=Ab hu;have E:=Ab K;clear hu K)
     |(go_at_call 241;refine(Aa V _ u (Aa G) (Aa E)).mono ?_;rintro e w2 ⟨rfl,f⟩;have H:=Ab ((Aa G).below f);have m:=Ab (Ad (Aa E) f);clear f))
    go_roundw
    case rel=>exact⟨_,j+1,rfl,Ab ⟨_,_,_,_,_,Aa H,Aa T⟩,m⟩
    case measure=>
     rw[ab,(Aa H).cntOf];omega
   ·have Y:=Ab (gv w.heap.size L j sv xs d wr A B.1)
    have HE:=Ab (B.last hz);clear B A;go_wp2_with (go_at_call 243;refine(Aa Y).mono ?_;rintro e w2 ⟨v2,rfl,O,f⟩;have W:=Ab O;have m:=Ab (Ad (Aa R) f);clear O f);go_ret;exact⟨_,rfl,by rw[<-Aa HE];exact(Aa W).mono (Aa R).size,Aa m⟩
variable {rs:List RV}{w:World}
def De(w wr:World)(n:Nat)(c:List Nat):Prop:=Am wr w.heap.size (.slice (some ⟨w.heap.size,0,none⟩) n n) (A7 c)/\Below w.heap.size w wr/\w.heap.size<wr.heap.size
theorem De.new(w:World)(n:Nat)(a:n<=1048576):De w (w.alloc (.cells (madeCells #[.int .i64 0] n) 3)) n (List.replicate n 0):=
 ⟨LR w n a _ (by simp[A7]),(Below.refl _ _).alloc (Nat.le_refl _) _,by simp⟩
theorem De.cell{wr:World}{n:Nat}{c:List Nat}(h:De w wr n c)(l:c.length=n){i:Nat}(f:i<n):wr.cell? ⟨w.heap.size,i,none⟩=some (.int .i64 ((c.getD i 0:Nat):Int))/\wr.frozen? ⟨w.heap.size,i,none⟩=false:=by
 obtain⟨g,cap,e,_,_,a,b⟩:=h.1.at (by rw[Ig];omega);simp only[Value.slice.injEq,Option.some.injEq,Addr.mk.injEq]at e;obtain⟨⟨rfl,_⟩,_⟩:=e;exact⟨by rw[a i (by rw[Ig];omega),LN],b i⟩
theorem jN(c:List Nat)(i x:Nat):(A7 c).set i ((x:Nat):Int)=A7 (c.set i x):=by unfold A7;rw[List.map_set]
theorem De.more{wr:World}{n:Nat}{c:List Nat}(h:De w wr n c)(i x:Nat):De w (wr.setCell ⟨w.heap.size,i,none⟩ (.int .i64 ((x:Nat):Int))) n (c.set i x):=by
 refine⟨?_,h.2.1.setCell (p:=⟨w.heap.size,i,none⟩) (Nat.le_refl _) _,by rw[World.size_setCell];exact h.2.2⟩;have:=h.1.stored i ((x:Nat):Int);rwa[jN]at this
theorem gY(n:Nat)(a:List Int)(k:Nat)(b:k<a.length):Cv n (a.take (k+1))=if 0<=a.getD k 0/\a.getD k 0<(n:Int)then(Cv n (a.take k)).set (a.getD k 0).toNat ((Cv n (a.take k)).getD (a.getD k 0).toNat 0+1)else Cv n (a.take k):=by
 have e:a.take (k+1)=a.take k++[a.getD k 0]:=by
  rw[List.take_succ_eq_append_getElem b];simp[List.getD_eq_getElem?_getD,List.getElem?_eq_getElem b]
 rw[e,Ju]
theorem lp(h:Af rs){r:RV}(b:r∈rs):r.n<=10/\r.s.size<=1000:=by
 obtain⟨i,a,rfl⟩:=List.mem_iff_getElem.1 b;have:=h i;rwa[List.getD_eq_getElem?_getD,List.getElem?_eq_getElem a]at this
theorem rM(h:∀r∈rs,r.n<=10/\r.s.size<=1000):Af rs:=fun i=>by
 by_cases a:i<rs.length
 ·rw[List.getD_eq_getElem?_getD,List.getElem?_eq_getElem a]
  exact h _ (List.getElem_mem a)
 ·rw[List.getD_eq_getElem?_getD,List.getElem?_eq_none (by omega)]
  exact⟨Nat.zero_le _,Nat.zero_le _⟩
theorem Ae.sub{us:List RV}(h:Ae w rs)(b:∀r∈us,r∈rs):Ae w us:=fun r a=>h r (b r a)
theorem jO(b:Ae w rs)(h:Af rs):(AN rs).length<=10:=Pi rs fun r a=>by rw[(b r a).1.1];exact(lp h a).1
theorem OwnP.grownLow{w':World}{B:Nat}{v:Value}{ps:List PKV}(h:OwnP w B v ps)(b:w.grownBy w' v.ownBlock)(a:B<=w.heap.size):Below B w w':=CJ b a fun k c=>(World.ownsRow.lt h k c).1
theorem Xz(a:Option Addr)(n c:Nat)(ps:List PKV)(a':Option Addr)(m c':Nat)(f:List Int)(w:World)(h:PksAt w a n ps)(hw:IntzAt w a' m f)(hn:n<=300)(hm:m<=300):
  Calls Tryz.prog 244 #[.slice a n c,.slice a' m c'] w fun e w'=> ∃v,e=.returned v/\OwnP w' w.heap.size v (atL .dflt ps f)/\Below w.heap.size w w':=by
 obtain rfl:=h.1;obtain rfl:=hw.1;have a2:=LS ps.length (by omega) w;have HS:=Ab (De.new w ps.length (by omega));have Hh:=Ab h;have HW:=Ab hw;clear h hw;go_enter Tryz.func244,Tryz.ntmps244;go_wp2;go_loopw [16] (fun i wr=> ∃k:Nat,k<=f.length/\i=.int .i64 k/\Hid (De w wr ps.length (Cv ps.length (f.take k)))) (fun i _=>f.length-(intOf i).toNat)
 case atStart=>exact⟨0,Nat.zero_le _,rfl,HS⟩
 case round=>
  obtain⟨k,hk,rfl,E⟩:=hrel;clear HS;by_cases P:k<f.length
  ·obtain⟨b,off,rfl,B⟩:=((Aa HW).below (Aa E).2.1).at P
   have O:=B k P;have ao:(k:Int)<(f.length:Int):=by omega
   have T:=Ab (gY ps.length f k P);have HL:=Ab (Wd ps.length (f.take k));have N:=Ab (KC ps.length (f.take k));generalize f.getD k 0=i at*;generalize hQ:Cv ps.length (f.take k)=q at*;clear B hQ;by_cases h0:0<=i
   ·by_cases h1:i<(ps.length:Int)
    ·obtain⟨j,rfl⟩:∃j:Nat,i=(j:Int):=⟨i.toNat,by omega⟩
     have hj:j<ps.length:=by omega
     obtain⟨aa,az⟩:=(Aa E).cell (Aa N) hj;have a0:q.getD j 0<=300:=by
      have h5:=Aa HL j;have h6:=List.length_take_le k f;omega
     have C:=Ab (show Cv ps.length (f.take (k+1))=q.set j (q.getD j 0+1) from by rw[Aa T,if_pos ⟨h0,h1⟩];rfl);generalize q.getD j 0=x at*;clear T HL;go_wp2;go_roundw
     case rel=>exact⟨k+1,by omega,by go_num,Ab (by rw[Aa C];exact(Aa E).more j (x+1))⟩
     case measure=>simp[intOf];omega
    ·have C:=Ab (show Cv ps.length (f.take (k+1))=q from by rw[Aa T,if_neg (fun e=>h1 e.2)])
     clear T HL;go_wp2;go_roundw
     case rel=>exact⟨k+1,by omega,by go_num,Ab (by rw[Aa C];exact Aa E)⟩
     case measure=>simp[intOf];omega
   ·have C:=Ab (show Cv ps.length (f.take (k+1))=q from by rw[Aa T,if_neg (fun e=>h0 e.1)])
    clear T HL;go_wp2;go_roundw
    case rel=>exact⟨k+1,by omega,by go_num,Ab (by rw[Aa C];exact Aa E)⟩
    case measure=>simp[intOf];omega
  ·have ac:f.take k=f:=List.take_of_length_le (by omega)
   rw[ac]at E;obtain⟨wo,rfl⟩:∃wo,wo=wr:=⟨wr,rfl⟩;have N:=Ab (KC ps.length f);have af:=Ab (Wd ps.length f);have ae:=Ab (show BZ .dflt ps (Cv ps.length f) ps.length=atL .dflt ps f from rfl);generalize Cv ps.length f=q at*;have HC:=Ab (fun(wx:World) (hb:Below (w.heap.size+1) wo wx) (t:Nat) (ht:t<ps.length)=>(hb.cell (p:=⟨w.heap.size,t,none⟩) (Nat.lt_succ_self _)).trans ((Aa E).cell (Aa N) ht).1);have X:=Ab (Aa E).2.1;have S:=(Aa E).2.2;clear E ac HW;go_wp2;go_loopw [8,37] (fun o i wx=> ∃t:Nat,∃V:Option Addr,∃W c1:Nat,t<=ps.length/\i=.int .i64 t/\o=.slice V W c1/\Hid (OwnP wx (w.heap.size+1) (.slice V W c1) (BZ .dflt ps q t)/\Below (w.heap.size+1) wo wx)) (fun _ i _=>ps.length-(intOf i).toNat)
   case atStart=>exact⟨0,none,0,0,Nat.zero_le _,rfl,rfl,Ab ⟨OwnP.nil _ _,Below.refl _ _⟩⟩
   case round=>
    obtain⟨t,V,W,c1,ht,rfl,rfl,y⟩:=hrel;by_cases K:t<ps.length
    ·have O:=Aa HC _ (Aa y).2 t K
     have hR:=(Aa X).trans ((Aa y).2.mono (Nat.le_succ _));obtain⟨b,off,rfl,B⟩:=(Aa Hh).at K;have Z:b<w.heap.size:=World.block_lt_of_cell? w _ (B t K).1;obtain⟨ah,ai,aa,aj,ak,al,am⟩:=(B t K).belowB hR Z;have ap:(t:Int)<(ps.length:Int):=by omega
     have J:w.heap.size+1<=wr.heap.size:=Nat.le_trans S (Aa y).2.size;have an:(BZ .dflt ps q t).length<=600:=by
      have:∀t,(BZ .dflt ps q t).length<=2*t:=fun t=>by
       induction t with
       |zero=>exact Nat.zero_le _
       |succ t ih=>
        by_cases z:q.getD t 0=0
        ·rw[Fh z];omega
        ·by_cases z2:q.getD t 0%2=0
         ·rw[EK z z2];simp only[List.length_append,List.length_singleton];omega
         ·rw[Ec z z2];simp only[List.length_append,List.length_singleton];omega
      have:=this t;omega
     clear hR B;have H:=Ab (fun h=>Fh (dd:=.dflt) (l:=ps) (c:=q) (k:=t) h);have G:=Ab (fun h h2=>EK (dd:=.dflt) (l:=ps) (c:=q) (k:=t) h h2);have I:=Ab (fun h h2=>Ec (dd:=.dflt) (l:=ps) (c:=q) (k:=t) h h2);have a3:=Aa af t;generalize q.getD t 0=x at*;generalize ps.getD t .dflt=p at*;generalize hT:BZ .dflt ps q t=us at*;by_cases z:x=0
     ·subst z
      have C:=Ab (Aa H rfl);clear H G I;go_wp2;go_roundw
      case rel=>exact⟨t+1,V,W,c1,by omega,by go_num,rfl,Ab (by rw[Aa C];exact Aa y)⟩
      case measure=>simp[intOf];omega
     ·have z':¬((x:Int)=0):=by omega
      by_cases z2:x%2=0
      ·have C:=Ab (Aa G z z2)
       clear H G I;have ad:((x:Nat):Int).tmod 2=0:=by rw[show((x:Nat):Int).tmod 2=((x%2:Nat):Int) from(Int.ofNat_tmod x 2).symm];omega
       go_wp2_with (first|(at_builtin;refine NM rfl (.tmp 44) (.tmp 49) rfl (w.heap.size+1) (.slice V W c1) us p rfl rfl (Aa y).1 J (by omega) ?_;intro g4 c4 w4 u D _;have A:=OwnP.grownLow (Aa y).1 D J;obtain⟨m4,s⟩:∃m,m=us.length+1:=⟨_,rfl⟩;rw[<-s]at u;rw[<-s];clear s;have r:=Ab (And.intro u ((Aa y).2.trans A));obtain⟨aq,ar,au,av,aw,ax,ay⟩:=AX.belowB (p:=p) ⟨ah,ai,aa,aj,ak,al,am⟩ A (Nat.lt_succ_of_lt Z);clear u D A)|(at_builtin;refine NM rfl (.tmp 54) (.tmp 59) rfl (w.heap.size+1) (.slice (some ⟨g4,0,none⟩) m4 c4) (us++[p]) p rfl rfl (Aa r).1 (Nat.le_trans S (Aa r).2.size) (by simp;omega) ?_;intro g5 c5 w5 R ab _;have Y:=OwnP.grownLow (Aa r).1 ab (Nat.le_trans S (Aa r).2.size);obtain⟨m5,Q⟩:∃m,m=(us++[p]).length+1:=⟨_,rfl⟩;rw[<-Q]at R;rw[<-Q];clear Q;have ag:=Ab (And.intro R ((Aa r).2.trans Y));clear R ab Y));go_roundw
       case rel=>exact⟨t+1,some ⟨g5,0,none⟩,m5,c5,by omega,by go_num,rfl,Ab (by rw[Aa C];exact Aa ag)⟩
       case measure=>simp[intOf];omega
      ·have C:=Ab (Aa I z z2)
       clear H G I;have ad:¬((x:Nat):Int).tmod 2=0:=by rw[show((x:Nat):Int).tmod 2=((x%2:Nat):Int) from(Int.ofNat_tmod x 2).symm];omega
       go_wp2_with (first|(at_builtin;refine NM rfl (.tmp 44) (.tmp 49) rfl (w.heap.size+1) (.slice V W c1) us p rfl rfl (Aa y).1 J (by omega) ?_;intro g4 c4 w4 u D _;have A:=OwnP.grownLow (Aa y).1 D J;obtain⟨m4,s⟩:∃m,m=us.length+1:=⟨_,rfl⟩;rw[<-s]at u;rw[<-s];clear s;have r:=Ab (And.intro u ((Aa y).2.trans A));clear u D A));go_roundw
       case rel=>exact⟨t+1,some ⟨g4,0,none⟩,m4,c4,by omega,by go_num,rfl,Ab (by rw[Aa C];exact Aa r)⟩
       case measure=>simp[intOf];omega
    ·obtain rfl:t=ps.length:=by omega
     rw[Aa ae]at y;go_wp2;go_ret;exact⟨_,rfl,(Aa y).1.mono (Nat.le_succ _),(Aa X).trans ((Aa y).2.mono (Nat.le_succ _))⟩
end Go.Proofs.YtmmikiikddokgaaGreatDoor
