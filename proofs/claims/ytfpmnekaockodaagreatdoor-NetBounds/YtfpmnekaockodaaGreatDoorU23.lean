/- Laws for the proof. -/
import Derived.Test.YtfpmnekaockodaaGreatDoorU22
import Derived.Test.YtfpmnekaockodaaGreatDoorU13
import Derived.Shelf.Sort.Plain
import Derived.Shelf.Slices.In.SortNone
import Derived.Sort.OwnSortedInts
namespace Go.Proofs.YtfpmnekaockodaaGreatDoor
open Go.RowKit Go.Sort Go.Shelf
set_option linter.all false
set_option maxRecDepth 4000
set_option maxHeartbeats 8000000
def emitD(L:List PD)(b:Nat)(t:Int):Option PD:=Ig L (A8 (Gl (BI (vecsD L) t b 31).ch L.length))
theorem jG{L:List PD}{b:List Int}{d:PD}(h:Ig L b=some d):∃q Q,F1 .dflt L b=q::Q/\E9 (q::Q)=some d/\d.xs=Fc (q::Q)/\d.s=st (Hy (q::Q))/\(∀p∈q::Q,p∈L):=by
 have a:E9 (F1 .dflt L b)=some d:=h;cases c:F1 .dflt L b with
 |nil=>rw[c]at a;cases a
 |cons q Q=>
  rw[c]at a;refine⟨q,Q,rfl,a,?_,?_,fun p hp=>Wy (by rw[c];exact hp)⟩
  all_goals
   rw[KI]at a;split at a
   ·obtain rfl:=Option.some.inj a;rfl
   ·cases a
theorem Zn{L:List PD}{i:List Int}{d:PD}(b:∀p∈L,BT p=true)(h:Ig L i=some d):BT d=true/\1<=d.h:=by
 obtain⟨q,Q,_,c,_,_,a⟩:=jG h;obtain⟨f,n⟩:=Z9 (fun p hp=>b p (a p hp)) c;have m:=M3 (q:=q) (Q:=Q) (p:=q) List.mem_cons_self;obtain⟨⟨_,_,_,e⟩,_⟩:=Gp.1 (b q (a q List.mem_cons_self));have l:0<=q.h:=e.1;exact⟨f,by omega⟩
variable {L:List Int}{xs:List Nat}{k d g:Nat}{sv:Value}{w:World}
theorem SF(a:Addr)(n c:Nat)(xs:List Int)(w:World)(h:IntzAt w (some a) n xs)(K:n<=1048576):
  Calls Tryz.prog 68 #[.slice (some a) n c] w fun e w'=> ∃v,e=.returned v/\Am w' w.heap.size v xs/\Below w.heap.size w w':=by
 have y:=fun wx=>Lib.run_eql_slice_nil (P:=Tryz.prog) wx 27 3 (some a) n c 0 0 Tryz.underlying27;obtain⟨J,D,q,r,s⟩:=info_parts OL;go_enter Tryz.func68,Tryz.ntmps68;go_wp2_with (first|(at_builtin;refine wpList_append_own _ rfl (.tmp 5) (.tmp 6) 27 rfl w.heap.size 3 J (.int .i64 0) 1 8 Tryz.underlying27 D q r s rfl (by decide) _ _ _ rfl (World.ownsRow_lit _ #[] 0 (Nat.le_refl _) (by decide) rfl) a n c (cellsZ xs) rfl ?c0 ?c1 ?c2 ?c3 ?c4 ?c5 ?_))
 case c0=>rw[Gi,h.1,Nat.mul_one]
 case c1=>
  have B:=h.below ((Below.refl _ _).alloc (Nat.le_refl _) (.cells #[] 3));intro j u o;obtain⟨b,off,e,C⟩:=B.at (i:=j) (by have:=(List.getElem?_eq_some_iff.1 o).1;rw[Gi,h.1]at this;exact this);simp only[Option.some.injEq]at e;subst e;have m:j<n:=by have:=(List.getElem?_eq_some_iff.1 o).1;rw[Gi,h.1]at this;exact this
  rw[Hl xs j (by rw[h.1];exact m)]at o;rw[show(⟨b,off,none⟩:Addr).add j=⟨b,off+j,none⟩ by unfold Addr.add;split<;>simp_all,C j m];exact o
 case c2=>intro u I;obtain⟨x,_,rfl⟩:=List.mem_map.1 I;rfl
 case c3=>unfold maxLen;omega
 case c4=>omega
 case c5=>simp
 intro v' w1 l f _;have z:=Ab (show Below w.heap.size w w1 from((Below.refl _ _).alloc (Nat.le_refl _) _).grown f (by simp) (fun k E=>by simp[Value.ownBlock]at E;omega));have A:=Ab (show Am w1 w.heap.size v' xs from by have H:=h.1;show w1.ownsRow _ _ _ _ xs.length _;rw[H];simpa using l);clear l f;go_wp2;go_ret;exact⟨_,rfl,Aa A,Aa z⟩
theorem iW(b:Int){n:Nat}(a:0<n):((placeN b n:Nat):Int)=(b.tmod n+n)%n:=by
 rw[(Wh b a).1];have c: -(n:Int)<b.tmod n:=by
  have:=Int.lt_tmod_of_pos b (show(0:Int)<n by omega);omega
 exact Int.tmod_eq_emod_of_nonneg (by omega)
theorem fX(b:Int)(n:Nat)(c:0<n)(m:n<=1048576)(l: -9223372036854775808<=b/\b<=9223372036854775807)(w:World):
  Calls Tryz.prog 240 #[.int .i64 b,.int .i64 (n:Int)] w fun e w'=>e=.returned (.int .i64 ((placeN b n:Nat):Int))/\w'=w:=by
 have f:¬((n:Int)=0):=by omega
 have a:=iW b c;have h:(b.tmod n)<n:=Int.tmod_lt_of_pos _ (by omega);have i: -(n:Int)<b.tmod n:=by
  have:=Int.lt_tmod_of_pos b (show(0:Int)<n by omega);omega
 go_enter Tryz.func240,Tryz.ntmps240;go_wp2;go_ret;exact⟨congrArg (fun x=>Ending.returned (.int .i64 x)) a.symm,rfl⟩
theorem kT(d:Nat)(t:Int)(a:d<=1048576)(ht: -1099511627776<=t/\t<=1099511627776):IntKind.u64.wrap (max (d:Int) t-IntKind.u64.wrap (min (d:Int) t))=((distN d t:Nat):Int):=by
 rw[IntKind.wrap_u64,IntKind.wrap_u64,SH];unfold DU;split<;>omega
theorem RW(d:Nat)(t:Int)(c:d<=1048576)(ht: -1099511627776<=t/\t<=1099511627776)(w:World):
  Calls Tryz.prog 271 #[.int .i64 (d:Int),.int .i64 t] w fun e w'=>e=.returned (.int .u64 ((distN d t:Nat):Int))/\w'=w:=by
 have a:=JM (d:Int) t;have b:=Iy (d:Int) t;go_enter Tryz.func271,Tryz.ntmps271;go_wp2;go_ret;exact⟨congrArg (fun x=>Ending.returned (.int .u64 x)) (kT d t c ht),rfl⟩
def Ff(L:List Int)(k:Nat)(sv:Value)(d:Nat):List Value:=cellsZ L++[.int .i64 (k:Int),sv,.int .i64 (d:Int)]
theorem WT(b:L.length=32){i:Nat}(a:i<32):(Ff L k sv d)[i]? =some (.int .i64 (L.getD i 0)):=by
 unfold Ff;rw[List.getElem?_append_left (by rw[Gi];omega),Hl L i (by omega)]
theorem Qm(a:L.length=32)(j:Nat):(Ff L k sv d)[32+j]? =[Value.int .i64 (k:Int),sv,.int .i64 (d:Int)][j]? :=by
 unfold Ff;rw[List.getElem?_append_right (by rw[Gi];omega),Gi,a,Nat.add_sub_cancel_left]
theorem YF(b:L.length=32){i:Nat}(a:i<32)(x:Int):(Ff L k sv d).set i (.int .i64 x)=Ff (L.set i x) k sv d:=by
 unfold Ff;rw[List.set_append_left _ _ (by rw[Gi];omega),Ol]
theorem Pg(a:L.length=32)(j:Nat)(x:Value):(Ff L k sv d).set (32+j) x=cellsZ L++[Value.int .i64 (k:Int),sv,.int .i64 (d:Int)].set j x:=by
 unfold Ff;rw[List.set_append_right _ _ (by rw[Gi];omega),Gi,a,Nat.add_sub_cancel_left]
structure CcAt(w:World)(g:Nat)(L:List Int)(k:Nat)(sv:Value)(xs:List Nat)(d:Nat):Prop where
 blk:BkA 334 w g (Ff L k sv d)
 len:L.length=32
 own:Own w (g+1) sv xs
theorem CcAt.below{w':World}(h:CcAt w g L k sv xs d)(a:Below w.heap.size w w'):CcAt w' g L k sv xs d:=⟨h.blk.below a,h.len,h.own.below a⟩
theorem CcAt.at(h:CcAt w g L k sv xs d):w.cell? ⟨g,32,none⟩=some (.int .i64 (k:Int))/\w.cell? ⟨g,33,none⟩=some sv/\w.cell? ⟨g,34,none⟩=some (.int .i64 (d:Int)):=
 ⟨h.blk.at 32 (Qm h.len 0),h.blk.at 33 (Qm h.len 1),h.blk.at 34 (Qm h.len 2)⟩
theorem CcAt.ints(h:CcAt w g L k sv xs d)(b:k<=32):IntzAt w (some ⟨g,0,none⟩) k (L.take k):=by
 refine⟨by rw[List.length_take,h.len];omega,.inr ⟨g,0,rfl,fun i a=>?_⟩⟩;rw[Nat.zero_add,h.blk.at i (WT h.len (by omega)),List.getD_eq_getElem?_getD,List.getD_eq_getElem?_getD,List.getElem?_take,if_pos a]
theorem CcAt.new(w:World):CcAt (w.alloc (.cells (Ff (List.replicate 32 0) 0 (.slice none 0 0) 0).toArray 334)) w.heap.size (List.replicate 32 0) 0 (.slice none 0 0) [] 0:=
 ⟨AN _ _ _,by simp,Own.nil _ _⟩
theorem CcAt.place(h:CcAt w g L k sv xs d){i:Nat}(a:i<32)(x:Int):CcAt (w.setCell ⟨g,i,none⟩ (.int .i64 x)) g (L.set i x) k sv xs d:=by
 refine⟨?_,by rw[List.length_set];exact h.len,h.own.other _ _ (Nat.lt_succ_self _)⟩;have:=h.blk.set i (.int .i64 x);rwa[YF h.len a]at this
theorem CcAt.count(h:CcAt w g L k sv xs d)(a:Nat):CcAt (w.setCell ⟨g,32,none⟩ (.int .i64 (a:Int))) g L a sv xs d:=by
 refine⟨?_,h.len,h.own.other _ _ (Nat.lt_succ_self _)⟩;have:=h.blk.set 32 (.int .i64 (a:Int));rwa[show(32:Nat)=32+0 from rfl,Pg h.len 0]at this
theorem CcAt.sum(h:CcAt w g L k sv xs d){u:Value}{a:List Nat}(b:Own w (g+1) u a):CcAt (w.setCell ⟨g,33,none⟩ u) g L k u a d:=by
 refine⟨?_,h.len,b.other _ _ (Nat.lt_succ_self _)⟩;have:=h.blk.set 33 u;rwa[show(33:Nat)=32+1 from rfl,Pg h.len 1]at this
theorem CcAt.deg(h:CcAt w g L k sv xs d)(a:Nat):CcAt (w.setCell ⟨g,34,none⟩ (.int .i64 (a:Int))) g L k sv xs a:=by
 refine⟨?_,h.len,h.own.other _ _ (Nat.lt_succ_self _)⟩;have:=h.blk.set 34 (.int .i64 (a:Int));rwa[show(34:Nat)=32+2 from rfl,Pg h.len 2]at this
theorem Yv(g:Nat)(L:List Int)(k:Nat)(sv:Value)(xs:List Nat)(d:Nat)(x:Int)(w:World)(h:CcAt w g L k sv xs d)(o:k<=32):
  Calls Tryz.prog 272 #[.pointer (some ⟨g,0,none⟩),.int .i64 x] w fun e w'=>e=.returned (.bool (decide (x∈L.take k)))/\Below w.heap.size w w':=by
 have q:(k:Int)<=32:=by omega
 have r:=cell_regrown h.at.1;have l:=Cr (W:=w) (fun w' n=>Th (RG (some ⟨g,0,none⟩) k 32 (L.take k) x w' ((h.below n).ints o) (by omega)));generalize decide (x∈L.take k)=b at*;clear h;go_enter Tryz.func272,Tryz.ntmps272;go_wp2_with fail;refine wp_region_quiet_below (by kernel_rfl) (by kernel_rfl) ?_
 repeat (with_reducible refine wpQuiet_step (fun K c=>?_);go_simp;first|(with_reducible refine c _ ?_;clear c K)|(apply Exists.intro;apply And.intro;(intro _;first|(go_at_call 75;exact l _ _));with_reducible refine c _ ?_;clear c K))
 refine wpQuiet_nil ?_;intro _ f;obtain⟨⟨m,i⟩,a⟩:=f;subst a;go_wp2;go_ret;exact⟨rfl,below_regrown _ m i⟩
theorem eJ(g:Nat)(L:List Int)(k:Nat)(sv:Value)(xs:List Nat)(a:Option Addr)(m c:Nat)(b:List Nat)(w:World)(h:CcAt w g L k sv xs (cnt xs))(z:RowAt w a m b)(hx:xs.length<=10)(hm:m<=10):
  Calls Tryz.prog 273 #[.pointer (some ⟨g,0,none⟩),.slice a m c] w fun e w'=>e=.returned (.int .i64 ((cnt (xorL xs b):Nat):Int))/\Below w.heap.size w w':=by
 obtain rfl:=z.1;obtain⟨J,sc,rfl,hs⟩:=h.own.row;have ae:=h.own.cap;have x:=Jc xs.length b.length;have Y:=UQ J xs.length sc (min xs.length b.length) (by omega);obtain⟨ah,v⟩:=oV xs b;have X:min xs.length b.length<=xs.length:=Nat.min_le_left _ _;have Z:=List.length_take_le (min xs.length b.length) xs;have o:=hs.take X;generalize min xs.length b.length=l at*;have k1:=cell_regrown h.at.2.1;have Hh:=Ab h;have HR:=Ab z;have af:=Li xs;have ag:=Li (xorL (xs.take l) b);have ad:=BY (xs.take l) b;have aa:(xs.take l).length=l:=o.1;have T:=Ab (fun wx (h1:RowAt wx J l (xs.take l)) (h2:RowAt wx a b.length b)=>Jf J l sc (xs.take l) a b.length c b wx h1 h2 (by omega) (by omega));generalize xorL (xs.take l) b=N at*;generalize xs.take l=ts at*;have D:N.length<=10:=by omega
 have HT:=Ab o;have O:=Ab v;generalize cnt (xorL xs b)=R at*;generalize b.length=ym at*;generalize xs.length=xm at*;clear v Z ad aa;clear h z hs o;go_enter Tryz.func273,Tryz.ntmps273;go_wp2_with fail;refine wp_region_quiet_below (by kernel_rfl) (by kernel_rfl) ?_
 repeat (with_reducible refine wpQuiet_step (fun K hK=>?_);go_simp;first|(with_reducible refine hK _ ?_;clear hK K))
 refine wpQuiet_nil ?_;intro _ ab;obtain⟨⟨dq,E⟩,B⟩:=ab;subst B;have s:=below_regrown w dq E;generalize grow (redrawn w dq) E=W at*;have n:=(Aa Hh).below s;have q:=(Aa HT).below s;have C:=(Aa HR).below s;have HB:=Ab s;have P:=Ab (fun wx (f:Below W.heap.size W wx)=>GP J l sc ts wx (q.below f) (by omega));have V:=Ab (fun wx (f:Below W.heap.size W wx)=>Aa T wx (q.below f) (C.below f));have Q:=Ab (fun wx (f:Below W.heap.size W wx)=>(n.below f).at.2.2);have q0:=n.at.2.2;clear n q C s Hh HT HR k1 Y x;go_wp2_with fail
 go_region_held3 (fun w'=>w'.cell? ⟨g,34,none⟩=some (.int .i64 (cnt xs:Int))) (go_keep) (first
  |(go_at_call 274;refine(Aa V _ (by first|exact Aa r|exact(Below.refl _ _).drew)).mono ?_;rintro e w1 ⟨v1,rfl,y,u⟩;obtain⟨a2,m2,c2,rfl,A,ai⟩:∃a m c,v1=Value.slice a m c/\RowAt w1 a m N/\m<=10:=(by obtain⟨a,c,e,z⟩:=y.row;exact⟨a,_,c,e,z,D⟩);have H:=Ab (show Below W.heap.size W w1 from Ad (by first|exact Aa r|exact(Below.refl _ _).drew) u);have S:=Ab A;have q0:=Aa Q w1 (Aa H);clear y u A)
  |(go_at_call 180;refine(GP a2 m2 c2 N _ (Aa S) (by omega)).mono ?_;rintro e w1 ⟨rfl,i⟩;have I:=Ab (show Below W.heap.size W w1 from by rw[i];first|exact Aa r|exact Aa H);have q0:=Aa Q w1 (Aa I);clear i)
  |(go_at_call 180;refine(Aa P _ (by first|exact Aa I|exact Aa H|exact(Below.refl _ _).drew)).mono ?_;rintro e w1 ⟨rfl,i⟩;have r:=Ab (show Below W.heap.size W w1 from by rw[i];first|exact Aa I|exact Aa H|exact(Below.refl _ _).drew);have q0:=Aa Q w1 (Aa r);clear i))
 have ac:IntKind.i64.wrap (IntKind.i64.wrap (((cnt xs:Nat):Int)-((cnt ts:Nat):Int))+((cnt N:Nat):Int))=((R:Nat):Int):=by
  have h2:=Aa O;rw[IntKind.wrap_i64,IntKind.wrap_i64];omega
 rw[ac];have HD:Hid (Below W.heap.size W w1):=by first|exact I|exact r
 go_wp2;go_ret;exact⟨rfl,Ad (Aa HB) (Aa HD)⟩
theorem pO(W:World)(L:List Int)(k:Nat)(sv:Value)(xs:List Nat)(d:Nat)(p:Nat)(a:Option Addr)(m c:Nat)(o:List Nat)(w:World)(h:CcAt w W.heap.size L k sv xs d)(J:Below W.heap.size W w)(E:RowAt W a m o)(K:k<32)(hx:xs.length<=10)(hm:m<=10):
  Calls Tryz.prog 242 #[.pointer (some ⟨W.heap.size,0,none⟩),.int .i64 (p:Int),.slice a m c] w fun e w'=>e=.returned (.tuple #[])/\(∃u,CcAt w' W.heap.size (L.set k (p:Int)) (k+1) u (xorL xs o) (cnt (xorL xs o)))/\Below W.heap.size W w':=by
 obtain rfl:=E.1;have V:(k:Int)<32:=by omega
 obtain⟨sa,sc,rfl,_⟩:=h.own.row;obtain⟨O,P,Q⟩:=h.at;have f0:=h.blk.frz k;have Z:=h.blk.at k (WT h.len K);have I:=Ab h;have H:=Ab J;have S:=Ab E;clear h E J;go_enter Tryz.func242,Tryz.ntmps242;go_wp2_with fail;go_region;have l:=((Aa I).place K (p:Int)).below (Below.refl _ _).drew;have s:=((Aa H).setCell (p:=⟨W.heap.size,k,none⟩) (Nat.le_refl _) (.int .i64 (p:Int))).trans ((Below.refl _ _).drew);generalize (w.setCell ⟨W.heap.size,k,none⟩ (.int .i64 (p:Int))).drew=w1 at*;clear O P Q f0 Z I H;have f1:=l.blk.frz 32;obtain⟨O,P,Q⟩:=l.at;obtain⟨j,hj,x⟩:∃j:Nat,(k:Int)+1=(j:Int)/\j=k+1:=⟨k+1,by omega,rfl⟩;have R:=Ab x;have z:=Ab (l.count j);have i:=Ab (s.setCell (p:=⟨W.heap.size,32,none⟩) (Nat.le_refl _) (.int .i64 (j:Int)));obtain⟨_,r1,_⟩:=(l.count j).at;have v:=(l.count j).blk.lt;have f3:=fun(wx:World) (D:Below (w1.setCell ⟨W.heap.size,32,none⟩ (.int .i64 (j:Int))).heap.size (w1.setCell ⟨W.heap.size,32,none⟩ (.int .i64 (j:Int))) wx)=>((l.count j).below D).blk.frz 33;clear l s x;generalize X:w1.setCell ⟨W.heap.size,32,none⟩ (.int .i64 (j:Int))=w2 at*;have q:=Ab (Jf sa xs.length sc xs a o.length c o w2 (by obtain⟨_,_,e,f⟩:=(Aa z).own.row;simp only[Value.slice.injEq,true_and]at e;obtain⟨rfl,rfl⟩:=e;exact f) ((Aa S).below (Aa i)) (by omega) (by omega));have Y:(xorL xs o).length<=10:=by rw[BY];omega
 have C:=Ab f3;clear f3
 go_wp2_with (first
  |(go_at_call 274;refine(Aa q).mono ?_;rintro e w3 ⟨v3,rfl,n,b⟩;obtain⟨a3,N,c3,rfl⟩:∃a m c,v3=Value.slice a m c:=(by obtain⟨a,c,e,_⟩:=n.row;exact⟨a,_,c,e⟩);have r:=((Aa z).below b).sum (n.mono (show W.heap.size+1<=_ from v));have B:=Ab (((Aa i).trans (b.mono (Nat.le_of_lt v))).setCell (p:=⟨W.heap.size,33,none⟩) (Nat.le_refl _) (.slice a3 N c3));have f3:=Aa C w3 b;have s1:=((Aa z).below b).at.2.1;have s2:=r.at.2.1;have s3:=r.at.2.2;have f4:=r.blk.frz 34;have A:=Ab r;clear n b r q z i)
  |(go_at_call 180;refine(GP a3 N c3 (xorL xs o) _ (by obtain⟨_,_,e,f⟩:=(Aa A).own.row;simp only[Value.slice.injEq]at e;obtain⟨rfl,rfl,rfl⟩:=e;exact f) (by have T:=(Aa A).own.row;obtain⟨_,_,e,f⟩:=T;simp only[Value.slice.injEq]at e;omega)).mono ?_;rintro e w5 ⟨rfl,y⟩;obtain rfl:=y.symm;clear y))
 go_end0;obtain rfl:=Aa R;exact⟨rfl,⟨_,(Aa A).deg _⟩,(Aa B).setCell (p:=⟨W.heap.size,34,none⟩) (Nat.le_refl _) _⟩
def Lt:Option Nat->Int
 |none=> -1
 |some b=>b
def AZ(rs:List RV):List (List Nat):=rs.map fun r=>r.xs
theorem L9(rs:List RV):(AZ rs).length=rs.length:=by simp[AZ]
theorem L8{rs:List RV}{i:Nat}(a:i<rs.length):(AZ rs).getD i []=(rs.getD i .dflt).xs:=by
 unfold AZ;rw[List.getD_eq_getElem?_getD,List.getElem?_map,List.getElem?_eq_getElem a,List.getD_eq_getElem?_getD,List.getElem?_eq_getElem a];rfl
theorem U5(V:List (List Nat))(ch:List Bool)(v:List Nat)(t:Int):∀n,0<=(BP V ch v t n).2
 |0=>OD _ _
 |n+1=>by
  by_cases h:Gt V ch v t n (BP V ch v t n).2
  ·rw[Ow h];exact OD _ _
  ·rw[Oz h];exact U5 V ch v t n
theorem kx(g:Nat)(L:List Int)(k:Nat)(sv:Value)(xs:List Nat)(a:Option Addr)(n c:Nat)(rs:List RV)(t:Int)(ch:List Bool)(ps:List Nat)(w:World)(h:CcAt w g L k sv xs (cnt xs))(hr:Aj w a n rs)(hs:Af rs)(hn:n<=300)(hx:xs.length<=10)(hk:k<=32)(hC:Fg n ch ps)(hL:L.take k=A8 ps)(ht: -1099511627776<=t/\t<=1099511627776):
  Calls Tryz.prog 241 #[.pointer (some ⟨g,0,none⟩),.slice a n c,.int .i64 t] w fun e w'=>e=.returned (.int .i64 (if k=32 then -1 else Lt (BP (AZ rs) ch xs t n).1))/\Below w.heap.size w w':=by
 obtain rfl:=hr.1;obtain⟨q0,q1,q2⟩:=h.at;by_cases ad:k=32
 ·subst ad
  rw[if_pos rfl];have av:w.cell? ⟨g,32,none⟩=some (.int .i64 32):=q0;clear q0 h hr hC hL;go_enter Tryz.func241,Tryz.ntmps241;go_wp2;go_ret;exact⟨rfl,Below.refl _ _⟩
 ·rw[if_neg ad]
  have aq:¬((k:Int)=32):=by omega
  have aj:cnt xs<=1048576:=by have:=Li xs;omega
  have aa:=Ab (RW (cnt xs) t aj ht w);have Hh:=Ab h;have HR:=Ab hr;have HS:=Ab hs;have af:=Ab (show∀i,i<rs.length->decide ((i:Int)∈L.take k)=ch.getD i false from fun i hi=>by rw[hL,qV,hC.mem i hi]);have ab:=Ab (show(distN (cnt xs) t:Int)=((BP (AZ rs) ch xs t 0).2.toNat:Int) from rfl);generalize hd:cnt xs=d at*;clear h hr hs hC hL;go_enter Tryz.func241,Tryz.ntmps241;go_wp2_with (go_at_call 271;refine(Aa aa).mono ?_;rintro e w1 ⟨rfl,ae⟩;obtain rfl:=ae.symm;clear ae aa);go_loopw [7,8,26] (fun b l i wr=> ∃m:Nat,m<=rs.length/\i=.int .i64 m/\b=.int .i64 (Lt (BP (AZ rs) ch xs t m).1)/\l=.int .u64 ((BP (AZ rs) ch xs t m).2.toNat:Int)/\Hid (Below w.heap.size w wr)) (fun _ _ i _=>rs.length-(intOf i).toNat)
  case atStart=>exact⟨0,Nat.zero_le _,rfl,rfl,by rw[Aa ab],Ab (Below.refl _ _)⟩
  case round=>
   obtain⟨m,hm,rfl,rfl,rfl,HB⟩:=hrel;clear ab;by_cases E:m<rs.length
   ·have hR:=(Aa HR).below (Aa HB)
    obtain⟨b,off,rfl,ac⟩:=hR.at E;obtain⟨ap,am⟩:=ac m E;have H:=hR.2.1 m E;have al:=(Aa HS m).1;have an:(m:Int)<(rs.length:Int):=by omega
    have hH:=(Aa Hh).below (Aa HB);have R:F4 (AZ rs) xs m=cnt (xorL xs (rs.getD m .dflt).xs):=by unfold F4;rw[L8 E]
    have au:=H.1;have D:=Ab (fun P=>Ow (V:=AZ rs) (ch:=ch) (v:=xs) (t:=t) (i:=m) P);have x:=Ab (fun P=>Oz (V:=AZ rs) (ch:=ch) (v:=xs) (t:=t) (i:=m) P);have ar:=U5 (AZ rs) ch xs t m;have y:=Aa af m E;clear ac hR;generalize rs.getD m .dflt=r at*;have K:Below wr.heap.size wr (wr.alloc (.cells #[.slice r.a r.n r.c,.string r.s] 73)):=(Below.refl _ _).alloc (Nat.le_refl _) _;have f:=GT wr (.slice r.a r.n r.c) (.string r.s);generalize ao:wr.alloc (.cells #[.slice r.a r.n r.c,.string r.s] 73)=w2 at*;have X:=hH.below K;have z:=Ab (Yv g L k sv xs d (m:Int) w2 X hk);have I:=Ab (Ad (Aa HB) K);have W:=Ab (fun wx (N:Below w2.heap.size w2 wx)=>eJ g L k sv xs r.a r.n r.c r.xs wx (hd▸X.below N) ((H.below K).below N) hx al);have S:=Ab (fun wx (N:Below w2.heap.size w2 wx)=>f.below N);have ak:cnt (xorL xs r.xs)<=1048576:=by have Q:=Li (xorL xs r.xs);rw[BY]at Q;omega
    have Y:=Ab R;clear hH X H K f R;generalize cnt (xorL xs r.xs)=J at*;have T:=Ab (fun wx=>RW J t ak ht wx);cases O:ch.getD m false
    ·rw[O]at y
     rw[y]at z
     have A:=Ab (show Gt (AZ rs) ch xs t m (BP (AZ rs) ch xs t m).2↔0<J/\distN J t<(BP (AZ rs) ch xs t m).2.toNat from by
      unfold Gt;rw[Aa Y,O];have h5:=SH J t;constructor
      ·rintro⟨_,Q,h2⟩;exact⟨Q,by omega⟩
      ·rintro⟨Q,h2⟩;exact⟨rfl,Q,by omega⟩)
     have ag:=Ab (show(DU (F4 (AZ rs) xs m) t).toNat=distN J t from by rw[Aa Y];rfl);generalize hZ:BP (AZ rs) ch xs t m=Z at*;generalize distN J t=f1 at*;by_cases Q:0<J
     ·have ah:(0:Int)<(J:Int):=by omega
      by_cases h2:f1<Z.2.toNat
      ·have ai:(f1:Int)<(Z.2.toNat:Int):=by omega
       have C:=Ab (Aa D ((Aa A).2 ⟨Q,h2⟩));clear D x A
       go_wp2_with (first
        |(go_at_call 272;refine(Aa z).mono ?_;rintro e w3 ⟨rfl,f⟩;have o:=Ab f;obtain⟨x0,x1⟩:=Aa S w3 f;clear f)
        |(go_at_call 273;refine(Aa W _ (Aa o)).mono ?_;rintro e w4 ⟨rfl,q⟩;have B:=Ab (Ad (Aa o) q);clear q)
        |(go_at_call 271;refine(Aa T _).mono ?_;rintro e w5 ⟨rfl,u⟩;obtain rfl:=u.symm;clear u))
       go_roundw
       case rel=>exact⟨m+1,by omega,by go_num,by rw[Aa C];rfl,by rw[Aa C];show _=Value.int .u64 (((DU (F4 (AZ rs) xs m) t).toNat:Nat):Int);rw[Aa ag],Ab (Ad (Aa I) (Aa B))⟩
       case measure=>simp[intOf];omega
      ·have ai:¬(f1:Int)<(Z.2.toNat:Int):=by omega
       have C:=Ab (Aa x fun P=>h2 ((Aa A).1 P).2);clear D x A
       go_wp2_with (first
        |(go_at_call 272;refine(Aa z).mono ?_;rintro e w3 ⟨rfl,f⟩;have o:=Ab f;obtain⟨x0,x1⟩:=Aa S w3 f;clear f)
        |(go_at_call 273;refine(Aa W _ (Aa o)).mono ?_;rintro e w4 ⟨rfl,q⟩;have B:=Ab (Ad (Aa o) q);clear q)
        |(go_at_call 271;refine(Aa T _).mono ?_;rintro e w5 ⟨rfl,u⟩;obtain rfl:=u.symm;clear u))
       go_roundw
       case rel=>exact⟨m+1,by omega,by go_num,by rw[Aa C],by rw[Aa C,Int.ofNat_toNat],Ab (Ad (Aa I) (Aa B))⟩
       case measure=>simp[intOf];omega
     ·have ah:¬(0:Int)<(J:Int):=by omega
      have C:=Ab (Aa x fun P=>Q ((Aa A).1 P).1);clear D x A
      go_wp2_with (first
       |(go_at_call 272;refine(Aa z).mono ?_;rintro e w3 ⟨rfl,f⟩;have o:=Ab f;obtain⟨x0,x1⟩:=Aa S w3 f;clear f)
       |(go_at_call 273;refine(Aa W _ (Aa o)).mono ?_;rintro e w4 ⟨rfl,q⟩;have B:=Ab (Ad (Aa o) q);clear q)
       |(go_at_call 271;refine(Aa T _).mono ?_;rintro e w5 ⟨rfl,u⟩;obtain rfl:=u.symm;clear u))
      go_roundw
      case rel=>exact⟨m+1,by omega,by go_num,by rw[Aa C],by rw[Aa C,Int.ofNat_toNat],Ab (Ad (Aa I) (Aa B))⟩
      case measure=>simp[intOf];omega
    ·rw[O]at y
     rw[y]at z;have C:=Ab (Aa x fun P=>absurd (O.symm.trans P.1) (by decide));clear D x
     go_wp2_with (first
      |(go_at_call 272;refine(Aa z).mono ?_;rintro e w3 ⟨rfl,f⟩;have o:=Ab f;clear f))
     go_roundw
     case rel=>exact⟨m+1,by omega,by go_num,by rw[Aa C],by rw[Aa C,Int.ofNat_toNat],Ab (Ad (Aa I) (Aa o))⟩
     case measure=>simp[intOf];omega
   ·obtain rfl:m=rs.length:=by omega
    go_wp2;go_ret;exact⟨rfl,Aa HB⟩
def dA:Ren:=⟨fun|125=>267|128=>294|129=>295|189=>237|215=>314|216=>302|257=>270|294=>296|295=>297|296=>298|297=>299|298=>300|299=>301|300=>303|301=>304|328=>309|329=>310|330=>311|331=>312|332=>313|343=>316|n=>n,fun|0=>0|3=>3|4=>4|5=>5|9=>9|28=>27|46=>305|51=>112|53=>265|131=>253|182=>388|183=>389|218=>400|222=>403|228=>406|229=>128|n=>n,fun|n=>n⟩
theorem WC:Lays.n189 Tryz.prog dA:={
 mixed:=by kernel_rfl
 f125:=Tryz.func267.trans (congrArg some (by kernel_rfl))
 f128:=Tryz.func294.trans (congrArg some (by kernel_rfl))
 f129:=Tryz.func295.trans (congrArg some (by kernel_rfl))
 f189:=Tryz.func237.trans (congrArg some (by kernel_rfl))
 f215:=Tryz.func314.trans (congrArg some (by kernel_rfl))
 f216:=Tryz.func302.trans (congrArg some (by kernel_rfl))
 f257:=Tryz.func270.trans (congrArg some (by kernel_rfl))
 f294:=Tryz.func296.trans (congrArg some (by kernel_rfl))
 f295:=Tryz.func297.trans (congrArg some (by kernel_rfl))
 f296:=Tryz.func298.trans (congrArg some (by kernel_rfl))
 f297:=Tryz.func299.trans (congrArg some (by kernel_rfl))
 f298:=Tryz.func300.trans (congrArg some (by kernel_rfl))
 f299:=Tryz.func301.trans (congrArg some (by kernel_rfl))
 f300:=Tryz.func303.trans (congrArg some (by kernel_rfl))
 f301:=Tryz.func304.trans (congrArg some (by kernel_rfl))
 f328:=Tryz.func309.trans (congrArg some (by kernel_rfl))
 f329:=Tryz.func310.trans (congrArg some (by kernel_rfl))
 f330:=Tryz.func311.trans (congrArg some (by kernel_rfl))
 f331:=Tryz.func312.trans (congrArg some (by kernel_rfl))
 f332:=Tryz.func313.trans (congrArg some (by kernel_rfl))
 f343:=Tryz.func316.trans (congrArg some (by kernel_rfl))
 t0:=Tryz.underlying0
 a0:=Tryz.isAgg0
 z0:=Tryz.sizeOf0
 v0:=Tryz.zeroValue0
 t3:=Tryz.underlying3
 a3:=Tryz.isAgg3
 z3:=Tryz.sizeOf3
 v3:=Tryz.zeroValue3
 t4:=Tryz.underlying4
 a4:=Tryz.isAgg4
 z4:=Tryz.sizeOf4
 v4:=Tryz.zeroValue4
 t5:=Tryz.underlying5
 a5:=Tryz.isAgg5
 z5:=Tryz.sizeOf5
 v5:=Tryz.zeroValue5
 t9:=Tryz.underlying9
 a9:=Tryz.isAgg9
 z9:=Tryz.sizeOf9
 v9:=Tryz.zeroValue9
 t28:=Tryz.underlying27
 a28:=Tryz.isAgg27
 z28:=Tryz.sizeOf27
 v28:=Tryz.zeroValue27
 t46:=Tryz.underlying305
 a46:=Tryz.isAgg305
 z46:=Tryz.sizeOf305
 v46:=Tryz.zeroValue305
 t51:=Tryz.underlying112
 a51:=Tryz.isAgg112
 z51:=Tryz.sizeOf112
 v51:=Tryz.zeroValue112
 t53:=Tryz.underlying265
 a53:=Tryz.isAgg265
 z53:=Tryz.sizeOf265
 v53:=Tryz.zeroValue265
 t131:=Tryz.underlying253
 a131:=Tryz.isAgg253
 z131:=Tryz.sizeOf253
 v131:=Tryz.zeroValue253
 t182:=Tryz.underlying388
 a182:=Tryz.isAgg388
 z182:=Tryz.sizeOf388
 v182:=Tryz.zeroValue388
 t183:=Tryz.underlying389
 a183:=Tryz.isAgg389
 z183:=Tryz.sizeOf389
 v183:=Tryz.zeroValue389
 t218:=Tryz.underlying400
 a218:=Tryz.isAgg400
 z218:=Tryz.sizeOf400
 v218:=Tryz.zeroValue400
 t222:=Tryz.underlying403
 a222:=Tryz.isAgg403
 z222:=Tryz.sizeOf403
 v222:=Tryz.zeroValue403
 t228:=Tryz.underlying406
 a228:=Tryz.isAgg406
 z228:=Tryz.sizeOf406
 v228:=Tryz.zeroValue406
 t229:=Tryz.underlying128
 a229:=Tryz.isAgg128
 z229:=Tryz.sizeOf128
 v229:=Tryz.zeroValue128}
theorem SE(xs:List Int):cellsZ xs=xs.map (Value.int .i64):=rfl
theorem VQ(B:Nat)(v:Value)(xs:List Int)(w:World)(h:Am w B v xs)(z:xs.length<=1048576):
  Calls Tryz.prog 237 #[v] w fun e w'=>e=.returned (.tuple #[])/\Am w' B v (xs.mergeSort fun x y=>decide (x<=y))/\w.grownBy w' v.ownBlock:=by
 have l:w.ownsRow B 3 1 v xs.length (cellsZ xs):=h;rcases l.2 with⟨rfl,u⟩|⟨g,cap,i,rfl,o,a,b,r,c,ht⟩
 ·obtain rfl:xs=[]:=List.eq_nil_of_length_eq_zero u
  refine(calls_of_every_depth fun D=>AnyS.slices_Sort_int_none_in WC D none 0 w).mono ?_;rintro e w' ⟨rfl,s⟩;obtain rfl:=s.symm;exact⟨rfl,by simpa using h,Gn _ _⟩
 ·have m:Holds (Value.int .i64) w g 0 xs.toArray:=holds_of_blockI a (by simpa [SE]using ht)
  refine(Any.slices_Sort_int WC g 0 cap xs w m (Array.getElem?_eq_some_iff.1 a).1 (by omega)).mono ?_;rintro e w' ⟨rfl,q,os,rfl⟩;have f:(xs.mergeSort fun x y=>decide (x<=y)).length=xs.length:=by simp
  refine⟨rfl,?_,by simpa [Value.ownBlock]using grownBy_sortedI _⟩;show World.ownsRow _ B 3 1 _ (xs.mergeSort fun x y=>decide (x<=y)).length _;have:=ownsRow_sortedI (n:=q) (os:=os) f o a b r c;rw[f,SE];exact this
variable {t pl:Int}{L:List Int}{xs ps:List Nat}{rs:List RV}{p j d:Nat}
theorem ip(g:Nat)(L:List Int)(k:Nat)(sv:Value)(xs:List Nat)(d:Nat)(w:World)(h:CcAt w g L k sv xs d)(z:k<=32):
  Calls Tryz.prog 243 #[.pointer (some ⟨g,0,none⟩)] w fun e w'=> ∃v,e=.returned v/\Am w' w.heap.size v ((L.take k).mergeSort fun x y=>decide (x<=y))/\Below w.heap.size w w':=by
 have H:(k:Int)<=32:=by omega
 obtain⟨J,K,N⟩:=h.at;have I:(L.take k).length<=32:=by rw[List.length_take,h.len];omega
 have q:=Ab (fun wx (u:Below w.heap.size w wx)=>SF ⟨g,0,none⟩ k 32 (L.take k) wx ((h.below u).ints z) (by omega));have D:=Ab (fun wx (u:Below w.heap.size w wx)=>(h.below u).at.1);clear h K N;generalize E:L.take k=T at*;clear E;go_enter Tryz.func243,Tryz.ntmps243;go_wp2_with fail
 go_region_held3 (fun w'=>w'.cell? ⟨g,32,none⟩=some (.int .i64 (k:Int))) (go_keep) (first
  |(go_at_call 68;refine(Aa q _ (Below.refl _ _).drew).mono ?_;rintro e w1 ⟨O,rfl,b,f⟩;obtain⟨B,C,c1,rfl⟩:∃a m c,O=Value.slice a m c:=(by obtain⟨a,c,e,_⟩:=b.ints;exact⟨a,_,c,e⟩);have n:=Ab (show Below w.heap.size w w1 from Ad (Below.refl _ _).drew f);have J:=Aa D w1 (Aa n);have A:=Ab (show Am w1 w.heap.size (.slice B C c1) T from b);clear b f))
 have s:=Ab (VQ w.heap.size (.slice B C c1) T w1 (Aa A) (by omega));go_wp2_with (go_at_call 237;refine(Aa s).mono ?_;rintro e w2 ⟨rfl,l,i⟩;have r:=Ab l;have o:=Ab ((Aa n).trans (CK i (Aa n).size fun k z=>(World.ownsRow.lt (Aa A) k z).1));clear l i);go_ret;exact⟨_,rfl,Aa r,Aa o⟩
def G6(rs:List RV)(t:Int)(p j:Nat)(L:List Int)(xs:List Nat)(d:Nat)(ps:List Nat)(pl:Int):Prop:=
 j<=32/\L.take j=A8 ps/\((j=0/\xs=[]/\ps=[]/\pl=(p:Int))\/
  (1<=j/\xs=(BI (AZ rs) t p (j-1)).v/\d=cnt xs/\Fg rs.length (BI (AZ rs) t p (j-1)).ch ps/\pl=if j=32 then -1 else Lt (BP (AZ rs) (BI (AZ rs) t p (j-1)).ch xs t rs.length).1))
theorem G6.go(h:G6 rs t p j L xs d ps pl)(hp:p<rs.length)(s:L.length=32)(c:0<=pl):
  ∃b:Nat,pl=(b:Int)/\b<rs.length/\j<32/\xorL xs (rs.getD b .dflt).xs=(BI (AZ rs) t p j).v/\Fg rs.length (BI (AZ rs) t p j).ch (ps++[b])/\(L.set j (b:Int)).take (j+1)=A8 (ps++[b]):=by
 obtain⟨y,q,r⟩:=h
 have n:∀b:Nat,j<32->(L.set j (b:Int)).take (j+1)=A8 (ps++[b]):=fun b i=>by
  have m:j<(L.set j (b:Int)).length:=by rw[List.length_set,s];exact i
  rw[List.take_succ_eq_append_getElem m,List.take_set_of_le (Nat.le_refl _),q,RP,List.getElem_set_self];rfl
 rcases r with⟨rfl,rfl,rfl,rfl⟩|⟨u,rfl,x,o,a⟩
 ·refine⟨p,rfl,hp,by omega,?_,?_,n p (by omega)⟩
  ·rw[KP,MI,<-L8 hp]
   rfl
  ·show Fg _ ((List.replicate (AZ rs).length false).set p true) _
   rw[L9];exact YL hp
 ·by_cases i:j=32
  ·rw[if_pos i]at a;omega
  ·rw[if_neg i]at a
   obtain⟨_,_,f⟩:=TY (AZ rs) (BI (AZ rs) t p (j-1)).ch (BI (AZ rs) t p (j-1)).v t rs.length;cases l:(BP (AZ rs) (BI (AZ rs) t p (j-1)).ch (BI (AZ rs) t p (j-1)).v t rs.length).1 with
   |none=>rw[l]at a;rw[a]at c;exact absurd c (by decide)
   |some b=>
    rw[l]at a f;have e:BI (AZ rs) t p j=⟨(BI (AZ rs) t p (j-1)).ch.set b true,xorL (BI (AZ rs) t p (j-1)).v ((AZ rs).getD b [])⟩:=by
     have:BI (AZ rs) t p (j-1+1)=Hq (AZ rs) t (BI (AZ rs) t p (j-1)):=rfl;rw[show j-1+1=j by omega]at this;rw[this,nr (by rw[L9];exact l)]
    refine⟨b,a,f.1,by omega,?_,?_,n b (by omega)⟩
    ·rw[e,L8 f.1]
    ·rw[e]
     exact o.snoc f.1 f.2.1.1
theorem G6.last(h:G6 rs t p j L xs d ps pl)(c:¬0<=pl):
  (L.take j).mergeSort (fun x y=>decide (x<=y))=A8 (Gl (BI (AZ rs) t p 31).ch rs.length):=by
 obtain⟨r,l,m⟩:=h;rcases m with⟨rfl,rfl,rfl,rfl⟩|⟨o,rfl,q,i,a⟩
 ·omega
 ·have e:BI (AZ rs) t p (j-1)=BI (AZ rs) t p 31:=by
   by_cases f:j=32
   ·rw[f]
   ·rw[if_neg f]at a
    refine kw (by omega) ?_;rw[L9];cases n:(BP (AZ rs) (BI (AZ rs) t p (j-1)).ch (BI (AZ rs) t p (j-1)).v t rs.length).1 with
    |none=>rfl
    |some b=>rw[n]at a;exact absurd (show 0<=pl by rw[a];exact Int.natCast_nonneg _) c
  rw[l,i.sort,e]
theorem G6.len(h:G6 rs t p j L xs d ps pl)(a:∀i,((AZ rs).getD i []).length<=10):xs.length<=10:=by
 rcases h.2.2 with⟨_,rfl,_⟩|⟨_,rfl,_⟩
 ·exact Nat.zero_le _
 ·exact VC a _
def cntOf(w:World)(g:Nat):Nat:=match w.cell? ⟨g,32,none⟩with
 |some v=>(intOf v).toNat
 |none=>0
theorem CcAt.cntOf{w:World}{g:Nat}{k:Nat}{sv:Value}(h:CcAt w g L k sv xs d):cntOf w g=k:=by
 unfold Go.Proofs.YtfpmnekaockodaaGreatDoor.cntOf;rw[h.at.1];simp[intOf]
def ID(rs:List RV)(b t:Int):List Int:=if rs.length=0 then []else A8 (Gl (BI (AZ rs) t (placeN b rs.length) 31).ch rs.length)
theorem XO{w:World}{a:Option Addr}{n:Nat}(c:Aj w a n rs)(e:Af rs):∀i,((AZ rs).getD i []).length<=10:=fun i=>by
 by_cases b:i<rs.length
 ·rw[L8 b,(c.2.1 i (by rw[<-c.1];exact b)).1]
  exact(e i).1
 ·rw[List.getD_eq_getElem?_getD,List.getElem?_eq_none (by rw[L9];omega)]
  exact Nat.zero_le _
theorem gi(a:Option Addr)(n c:Nat)(rs:List RV)(b t:Int)(w:World)(Q:Aj w a n rs)(hs:Af rs)(hn:n<=300)(hb: -9223372036854775808<=b/\b<=9223372036854775807)(ht: -1099511627776<=t/\t<=1099511627776):
  Calls Tryz.prog 199 #[.slice a n c,.int .i64 b,.int .i64 t] w fun e w'=> ∃v,e=.returned v/\Am w' w.heap.size v (ID rs b t)/\Below w.heap.size w w':=by
 obtain rfl:=Q.1;unfold ID;by_cases h0:rs.length=0
 ·rw[if_pos h0]
  have aa:(rs.length:Int)=0:=by omega
  clear Q;go_enter Tryz.func199,Tryz.ntmps199;go_wp2;go_ret;exact⟨_,rfl,Am.nil _ _,Below.refl _ _⟩
 ·rw[if_neg h0]
  have aa:¬(rs.length:Int)=0:=by omega
  have ae:=(Wh b (show 0<rs.length by omega)).2;have C:=Ab (fun wx=>fX b rs.length (by omega) (by omega) hb wx);have s:=CcAt.new w;have o:Below w.heap.size w (w.alloc (.cells (Ff (List.replicate 32 0) 0 (.slice none 0 0) 0).toArray 334)):=(Below.refl _ _).alloc (Nat.le_refl _) _;have i:(Ff (List.replicate 32 0) 0 (.slice none 0 0) 0).toArray=#[.int .i64 0,.int .i64 0,.int .i64 0,.int .i64 0,.int .i64 0,.int .i64 0,.int .i64 0,.int .i64 0,.int .i64 0,.int .i64 0,.int .i64 0,.int .i64 0,.int .i64 0,.int .i64 0,.int .i64 0,.int .i64 0,.int .i64 0,.int .i64 0,.int .i64 0,.int .i64 0,.int .i64 0,.int .i64 0,.int .i64 0,.int .i64 0,.int .i64 0,.int .i64 0,.int .i64 0,.int .i64 0,.int .i64 0,.int .i64 0,.int .i64 0,.int .i64 0,.int .i64 0,.slice none 0 0,.int .i64 0]:=rfl;rw[i]at s o;have HV:=Ab (XO Q hs);have J:=Ab (show∃L sv xs d ps,CcAt (w.alloc (.cells #[.int .i64 0,.int .i64 0,.int .i64 0,.int .i64 0,.int .i64 0,.int .i64 0,.int .i64 0,.int .i64 0,.int .i64 0,.int .i64 0,.int .i64 0,.int .i64 0,.int .i64 0,.int .i64 0,.int .i64 0,.int .i64 0,.int .i64 0,.int .i64 0,.int .i64 0,.int .i64 0,.int .i64 0,.int .i64 0,.int .i64 0,.int .i64 0,.int .i64 0,.int .i64 0,.int .i64 0,.int .i64 0,.int .i64 0,.int .i64 0,.int .i64 0,.int .i64 0,.int .i64 0,.slice none 0 0,.int .i64 0] 334)) w.heap.size L 0 sv xs d/\G6 rs t (placeN b rs.length) 0 L xs d ps ((placeN b rs.length:Nat):Int) from⟨_,_,_,_,[],s,by omega,rfl,.inl ⟨rfl,rfl,rfl,rfl⟩⟩);have D:=Ab o;have Y:=Ab Q;have K:=Ab hs;generalize placeN b rs.length=p at*;generalize hW:w.alloc (.cells #[.int .i64 0,.int .i64 0,.int .i64 0,.int .i64 0,.int .i64 0,.int .i64 0,.int .i64 0,.int .i64 0,.int .i64 0,.int .i64 0,.int .i64 0,.int .i64 0,.int .i64 0,.int .i64 0,.int .i64 0,.int .i64 0,.int .i64 0,.int .i64 0,.int .i64 0,.int .i64 0,.int .i64 0,.int .i64 0,.int .i64 0,.int .i64 0,.int .i64 0,.int .i64 0,.int .i64 0,.int .i64 0,.int .i64 0,.int .i64 0,.int .i64 0,.int .i64 0,.int .i64 0,.slice none 0 0,.int .i64 0] 334)=W1 at*
  clear Q hs s o i;go_enter Tryz.func199,Tryz.ntmps199;go_wp2_with (go_at_call 240;refine(Aa C _).mono ?_;rintro e w1 ⟨rfl,R⟩;obtain rfl:=R.symm;clear R C);clear hW;go_loopw [8] (fun pl wr=> ∃z:Int,∃j:Nat,pl=.int .i64 z/\Hid (∃L sv xs d ps,CcAt wr w.heap.size L j sv xs d/\G6 rs t p j L xs d ps z)/\Hid (Below w.heap.size w wr)) (fun _ wr=>33-cntOf wr w.heap.size)
  case atStart=>exact⟨_,0,rfl,J,D⟩
  case round=>
   obtain⟨z,j,rfl,HS,S⟩:=hrel;clear J D;obtain⟨L,sv,xs,d,ps,A,B⟩:=Aa HS;clear HS;have hx:=B.len (Aa HV);have ac:=A.cntOf;by_cases hz:0<=z
   ·obtain⟨h,rfl,q,hj,O,x,y⟩:=B.go ae A.len hz
    have ag:(h:Int)<(rs.length:Int):=by omega
    have hR:=(Aa Y).below (Aa S);obtain⟨bb,off,rfl,i⟩:=hR.at q;obtain⟨ah,ai⟩:=i h q;have l:=(Aa Y).2.1 h q;have af:=(Aa K h).1;generalize rs.getD h .dflt=r at*;have T:=Ab (pO w L j sv xs d h r.a r.n r.c r.xs wr A (Aa S) l hj hx af);have hy:(xorL xs r.xs).length<=10:=by rw[BY,l.1];omega
    have W:=Ab (fun wx u (ad:CcAt wx w.heap.size (L.set j (h:Int)) (j+1) u (xorL xs r.xs) (cnt (xorL xs r.xs))) (ab:Below w.heap.size w wx)=>kx w.heap.size (L.set j (h:Int)) (j+1) u (xorL xs r.xs) (some ⟨bb,off,none⟩) rs.length c rs t _ (ps++[h]) wx ad ((Aa Y).below ab) (Aa K) hn hy (by omega) x y ht);have V:=Ab (show G6 rs t p (j+1) (L.set j (h:Int)) (xorL xs r.xs) (cnt (xorL xs r.xs)) (ps++[h]) (if j+1=32 then -1 else Lt (BP (AZ rs) (BI (AZ rs) t p j).ch (xorL xs r.xs) t rs.length).1) from⟨by omega,y,.inr ⟨by omega,by rw[O];rfl,rfl,x,rfl⟩⟩);clear B O x y hR i A l;generalize xorL xs r.xs=ys at*;generalize (if j+1=32 then -1 else Lt (BP (AZ rs) (BI (AZ rs) t p j).ch ys t rs.length).1)=z2 at*
    go_wp2_with (first
     |(go_at_call 242;refine(Aa T).mono ?_;rintro e w1 ⟨rfl,⟨u,hu⟩,N⟩;have H:=Ab hu;have E:=Ab N;clear hu N)
     |(go_at_call 241;refine(Aa W _ u (Aa H) (Aa E)).mono ?_;rintro e w2 ⟨rfl,f⟩;have I:=Ab ((Aa H).below f);have m:=Ab (Ad (Aa E) f);clear f))
    go_roundw
    case rel=>exact⟨_,j+1,rfl,Ab ⟨_,_,_,_,_,Aa I,Aa V⟩,m⟩
    case measure=>
     rw[ac,(Aa I).cntOf];omega
   ·have Z:=Ab (ip w.heap.size L j sv xs d wr A B.1)
    have HE:=Ab (B.last hz);clear B A;go_wp2_with (go_at_call 243;refine(Aa Z).mono ?_;rintro e w2 ⟨v2,rfl,P,f⟩;have X:=Ab P;have m:=Ab (Ad (Aa S) f);clear P f);go_ret;exact⟨_,rfl,by rw[<-Aa HE];exact(Aa X).mono (Aa S).size,Aa m⟩
variable {rs:List RV}{w:World}
def De(w wr:World)(n:Nat)(c:List Nat):Prop:=Am wr w.heap.size (.slice (some ⟨w.heap.size,0,none⟩) n n) (A8 c)/\Below w.heap.size w wr/\w.heap.size<wr.heap.size
theorem De.new(w:World)(n:Nat)(a:n<=1048576):De w (w.alloc (.cells (madeCells #[.int .i64 0] n) 3)) n (List.replicate n 0):=
 ⟨Mf w n a _ (by simp[A8]),(Below.refl _ _).alloc (Nat.le_refl _) _,by simp⟩
theorem De.cell{wr:World}{n:Nat}{c:List Nat}(h:De w wr n c)(l:c.length=n){i:Nat}(f:i<n):wr.cell? ⟨w.heap.size,i,none⟩=some (.int .i64 ((c.getD i 0:Nat):Int))/\wr.frozen? ⟨w.heap.size,i,none⟩=false:=by
 obtain⟨g,cap,e,_,_,a,b⟩:=h.1.at (by rw[Ip];omega);simp only[Value.slice.injEq,Option.some.injEq,Addr.mk.injEq]at e;obtain⟨⟨rfl,_⟩,_⟩:=e;exact⟨by rw[a i (by rw[Ip];omega),L2],b i⟩
theorem kt(c:List Nat)(i x:Nat):(A8 c).set i ((x:Nat):Int)=A8 (c.set i x):=by unfold A8;rw[List.map_set]
theorem De.more{wr:World}{n:Nat}{c:List Nat}(h:De w wr n c)(i x:Nat):De w (wr.setCell ⟨w.heap.size,i,none⟩ (.int .i64 ((x:Nat):Int))) n (c.set i x):=by
 refine⟨?_,h.2.1.setCell (p:=⟨w.heap.size,i,none⟩) (Nat.le_refl _) _,by rw[World.size_setCell];exact h.2.2⟩;have:=h.1.stored i ((x:Nat):Int);rwa[kt]at this
theorem js(n:Nat)(a:List Int)(k:Nat)(b:k<a.length):Cw n (a.take (k+1))=if 0<=a.getD k 0/\a.getD k 0<(n:Int)then(Cw n (a.take k)).set (a.getD k 0).toNat ((Cw n (a.take k)).getD (a.getD k 0).toNat 0+1)else Cw n (a.take k):=by
 have e:a.take (k+1)=a.take k++[a.getD k 0]:=by
  rw[List.take_succ_eq_append_getElem b];simp[List.getD_eq_getElem?_getD,List.getElem?_eq_getElem b]
 rw[e,JC]
theorem mJ(h:Af rs){r:RV}(b:r∈rs):r.n<=10/\r.s.size<=1000:=by
 obtain⟨i,a,rfl⟩:=List.mem_iff_getElem.1 b;have:=h i;rwa[List.getD_eq_getElem?_getD,List.getElem?_eq_getElem a]at this
theorem rM(h:∀r∈rs,r.n<=10/\r.s.size<=1000):Af rs:=fun i=>by
 by_cases a:i<rs.length
 ·rw[List.getD_eq_getElem?_getD,List.getElem?_eq_getElem a]
  exact h _ (List.getElem_mem a)
 ·rw[List.getD_eq_getElem?_getD,List.getElem?_eq_none (by omega)]
  exact⟨Nat.zero_le _,Nat.zero_le _⟩
theorem Ae.sub{us:List RV}(h:Ae w rs)(b:∀r∈us,r∈rs):Ae w us:=fun r a=>h r (b r a)
theorem jy(b:Ae w rs)(h:Af rs):(AO rs).length<=10:=Pm rs fun r a=>by rw[(b r a).1.1];exact(mJ h a).1
theorem OwnP.grownLow{w':World}{B:Nat}{v:Value}{ps:List PKV}(h:OwnP w B v ps)(b:w.grownBy w' v.ownBlock)(a:B<=w.heap.size):Below B w w':=CK b a fun k c=>(World.ownsRow.lt h k c).1
theorem Yz(a:Option Addr)(n c:Nat)(ps:List PKV)(a':Option Addr)(m c':Nat)(f:List Int)(w:World)(h:PksAt w a n ps)(hw:IntzAt w a' m f)(hn:n<=300)(hm:m<=300):
  Calls Tryz.prog 244 #[.slice a n c,.slice a' m c'] w fun e w'=> ∃v,e=.returned v/\OwnP w' w.heap.size v (atL .dflt ps f)/\Below w.heap.size w w':=by
 obtain rfl:=h.1;obtain rfl:=hw.1;have a2:=Mg ps.length (by omega) w;have HS:=Ab (De.new w ps.length (by omega));have Hh:=Ab h;have HW:=Ab hw;clear h hw;go_enter Tryz.func244,Tryz.ntmps244;go_wp2;go_loopw [16] (fun i wr=> ∃k:Nat,k<=f.length/\i=.int .i64 k/\Hid (De w wr ps.length (Cw ps.length (f.take k)))) (fun i _=>f.length-(intOf i).toNat)
 case atStart=>exact⟨0,Nat.zero_le _,rfl,HS⟩
 case round=>
  obtain⟨k,hk,rfl,E⟩:=hrel;clear HS;by_cases Q:k<f.length
  ·obtain⟨b,off,rfl,B⟩:=((Aa HW).below (Aa E).2.1).at Q
   have P:=B k Q;have ap:(k:Int)<(f.length:Int):=by omega
   have V:=Ab (js ps.length f k Q);have HL:=Ab (VZ ps.length (f.take k));have O:=Ab (KM ps.length (f.take k));generalize f.getD k 0=i at*;generalize hQ:Cw ps.length (f.take k)=q at*;clear B hQ;by_cases h0:0<=i
   ·by_cases h1:i<(ps.length:Int)
    ·obtain⟨j,rfl⟩:∃j:Nat,i=(j:Int):=⟨i.toNat,by omega⟩
     have hj:j<ps.length:=by omega
     obtain⟨ab,az⟩:=(Aa E).cell (Aa O) hj;have a0:q.getD j 0<=300:=by
      have h5:=Aa HL j;have h6:=List.length_take_le k f;omega
     have C:=Ab (show Cw ps.length (f.take (k+1))=q.set j (q.getD j 0+1) from by rw[Aa V,if_pos ⟨h0,h1⟩];rfl);generalize q.getD j 0=x at*;clear V HL;go_wp2;go_roundw
     case rel=>exact⟨k+1,by omega,by go_num,Ab (by rw[Aa C];exact(Aa E).more j (x+1))⟩
     case measure=>simp[intOf];omega
    ·have C:=Ab (show Cw ps.length (f.take (k+1))=q from by rw[Aa V,if_neg (fun e=>h1 e.2)])
     clear V HL;go_wp2;go_roundw
     case rel=>exact⟨k+1,by omega,by go_num,Ab (by rw[Aa C];exact Aa E)⟩
     case measure=>simp[intOf];omega
   ·have C:=Ab (show Cw ps.length (f.take (k+1))=q from by rw[Aa V,if_neg (fun e=>h0 e.1)])
    clear V HL;go_wp2;go_roundw
    case rel=>exact⟨k+1,by omega,by go_num,Ab (by rw[Aa C];exact Aa E)⟩
    case measure=>simp[intOf];omega
  ·have ad:f.take k=f:=List.take_of_length_le (by omega)
   rw[ad]at E;obtain⟨wo,rfl⟩:∃wo,wo=wr:=⟨wr,rfl⟩;have O:=Ab (KM ps.length f);have ag:=Ab (VZ ps.length f);have af:=Ab (show Ca .dflt ps (Cw ps.length f) ps.length=atL .dflt ps f from rfl);generalize Cw ps.length f=q at*;have HC:=Ab (fun(wx:World) (hb:Below (w.heap.size+1) wo wx) (t:Nat) (ht:t<ps.length)=>(hb.cell (p:=⟨w.heap.size,t,none⟩) (Nat.lt_succ_self _)).trans ((Aa E).cell (Aa O) ht).1);have Y:=Ab (Aa E).2.1;have T:=(Aa E).2.2;clear E ad HW;go_wp2;go_loopw [8,37] (fun o i wx=> ∃t:Nat,∃W:Option Addr,∃X c1:Nat,t<=ps.length/\i=.int .i64 t/\o=.slice W X c1/\Hid (OwnP wx (w.heap.size+1) (.slice W X c1) (Ca .dflt ps q t)/\Below (w.heap.size+1) wo wx)) (fun _ i _=>ps.length-(intOf i).toNat)
   case atStart=>exact⟨0,none,0,0,Nat.zero_le _,rfl,rfl,Ab ⟨OwnP.nil _ _,Below.refl _ _⟩⟩
   case round=>
    obtain⟨t,W,X,c1,ht,rfl,rfl,y⟩:=hrel;by_cases N:t<ps.length
    ·have P:=Aa HC _ (Aa y).2 t N
     have hR:=(Aa Y).trans ((Aa y).2.mono (Nat.le_succ _));obtain⟨b,off,rfl,B⟩:=(Aa Hh).at N;have aa:b<w.heap.size:=World.block_lt_of_cell? w _ (B t N).1;obtain⟨ai,aj,ab,ak,al,am,an⟩:=(B t N).belowB hR aa;have aq:(t:Int)<(ps.length:Int):=by omega
     have K:w.heap.size+1<=wr.heap.size:=Nat.le_trans T (Aa y).2.size;have ao:(Ca .dflt ps q t).length<=600:=by
      have:∀t,(Ca .dflt ps q t).length<=2*t:=fun t=>by
       induction t with
       |zero=>exact Nat.zero_le _
       |succ t ih=>
        by_cases z:q.getD t 0=0
        ·rw[Fs z];omega
        ·by_cases z2:q.getD t 0%2=0
         ·rw[EU z z2];simp only[List.length_append,List.length_singleton];omega
         ·rw[Eh z z2];simp only[List.length_append,List.length_singleton];omega
      have:=this t;omega
     clear hR B;have I:=Ab (fun h=>Fs (dd:=.dflt) (l:=ps) (c:=q) (k:=t) h);have H:=Ab (fun h h2=>EU (dd:=.dflt) (l:=ps) (c:=q) (k:=t) h h2);have J:=Ab (fun h h2=>Eh (dd:=.dflt) (l:=ps) (c:=q) (k:=t) h h2);have a3:=Aa ag t;generalize q.getD t 0=x at*;generalize ps.getD t .dflt=p at*;generalize hT:Ca .dflt ps q t=us at*;by_cases z:x=0
     ·subst z
      have C:=Ab (Aa I rfl);clear I H J;go_wp2;go_roundw
      case rel=>exact⟨t+1,W,X,c1,by omega,by go_num,rfl,Ab (by rw[Aa C];exact Aa y)⟩
      case measure=>simp[intOf];omega
     ·have z':¬((x:Int)=0):=by omega
      by_cases z2:x%2=0
      ·have C:=Ab (Aa H z z2)
       clear I H J;have ae:((x:Nat):Int).tmod 2=0:=by rw[show((x:Nat):Int).tmod 2=((x%2:Nat):Int) from(Int.ofNat_tmod x 2).symm];omega
       go_wp2_with (first|(at_builtin;refine N1 rfl (.tmp 44) (.tmp 49) rfl (w.heap.size+1) (.slice W X c1) us p rfl rfl (Aa y).1 K (by omega) ?_;intro g4 c4 w4 u D _;have A:=OwnP.grownLow (Aa y).1 D K;obtain⟨m4,s⟩:∃m,m=us.length+1:=⟨_,rfl⟩;rw[<-s]at u;rw[<-s];clear s;have r:=Ab (And.intro u ((Aa y).2.trans A));obtain⟨ar,au,av,aw,ax,hd5,ay⟩:=AY.belowB (p:=p) ⟨ai,aj,ab,ak,al,am,an⟩ A (Nat.lt_succ_of_lt aa);clear u D A)|(at_builtin;refine N1 rfl (.tmp 54) (.tmp 59) rfl (w.heap.size+1) (.slice (some ⟨g4,0,none⟩) m4 c4) (us++[p]) p rfl rfl (Aa r).1 (Nat.le_trans T (Aa r).2.size) (by simp;omega) ?_;intro g5 c5 w5 S ac _;have Z:=OwnP.grownLow (Aa r).1 ac (Nat.le_trans T (Aa r).2.size);obtain⟨m5,R⟩:∃m,m=(us++[p]).length+1:=⟨_,rfl⟩;rw[<-R]at S;rw[<-R];clear R;have ah:=Ab (And.intro S ((Aa r).2.trans Z));clear S ac Z));go_roundw
       case rel=>exact⟨t+1,some ⟨g5,0,none⟩,m5,c5,by omega,by go_num,rfl,Ab (by rw[Aa C];exact Aa ah)⟩
       case measure=>simp[intOf];omega
      ·have C:=Ab (Aa J z z2)
       clear I H J;have ae:¬((x:Nat):Int).tmod 2=0:=by rw[show((x:Nat):Int).tmod 2=((x%2:Nat):Int) from(Int.ofNat_tmod x 2).symm];omega
       go_wp2_with (first|(at_builtin;refine N1 rfl (.tmp 44) (.tmp 49) rfl (w.heap.size+1) (.slice W X c1) us p rfl rfl (Aa y).1 K (by omega) ?_;intro g4 c4 w4 u D _;have A:=OwnP.grownLow (Aa y).1 D K;obtain⟨m4,s⟩:∃m,m=us.length+1:=⟨_,rfl⟩;rw[<-s]at u;rw[<-s];clear s;have r:=Ab (And.intro u ((Aa y).2.trans A));clear u D A));go_roundw
       case rel=>exact⟨t+1,some ⟨g4,0,none⟩,m4,c4,by omega,by go_num,rfl,Ab (by rw[Aa C];exact Aa r)⟩
       case measure=>simp[intOf];omega
    ·obtain rfl:t=ps.length:=by omega
     rw[Aa af]at y;go_wp2;go_ret;exact⟨_,rfl,(Aa y).1.mono (Nat.le_succ _),(Aa Y).trans ((Aa y).2.mono (Nat.le_succ _))⟩
end Go.Proofs.YtfpmnekaockodaaGreatDoor
