/- Laws for the proof. -/
import Derived.Test.YtfpmnekaockodaaGreatDoorU22
import Derived.Shelf.Sort.Plain
import Derived.Shelf.Slices.In.SortNone
import Derived.Sort.OwnSortedInts
set_option linter.all false
open Go.Proofs.Tryz
open Go.IntKind renaming i64->U,wrap_u64->Ε,wrap_i64->Η
open Go.Value renaming int->α,slice->θ,int->φ,pointer->Α,slice->Ζ
open List renaming getD_eq_getElem?_getD->β,getElem?_eq_getElem->ι,replicate->ο,take_succ_eq_append_getElem->ς,getElem?_eq_none->χ,length_singleton->ψ,length_take_le->ω,mem_cons_self->Β,length_append->Γ
open Go.RowKit.Below renaming refl->γ
open Option renaming some->δ,none->ζ
open Go.RowKit renaming Below->ε
open Nat renaming le_refl->η,zero_le->ξ,lt_succ_self->π,add_sub_cancel_left->τ,le_trans->Δ,le_succ->Θ
open Go renaming World->κ,Value->σ,Calls->υ
open Go.Proofs.Tryz renaming prog->μ
open Go.Ending renaming returned->ν,returned->Ι
open Go.Value.slice renaming injEq->ρ
namespace Go.Proofs.YtfpmnekaockodaaGreatDoor
open Go.RowKit Go.Sort Go.Shelf
set_option maxRecDepth 4000
set_option maxHeartbeats 8000000
def emitD(L:List PD)(b:Nat)(t:Int):Option PD:=Ij L (A4 (Gk (BC (vecsD L) t b 31).ch L.length))
def jY{L:List PD}{b:List Int}{d:PD}(h:Ij L b=δ d):∃q Q,F0 .dflt L b=q::Q/\E5 (q::Q)=δ d/\d.xs=E6 (q::Q)/\d.s=st (Hd (q::Q))/\(∀p∈q::Q,p∈L):=by
 have a:E5 (F0 .dflt L b)=δ d:=h;cases c:F0 .dflt L b with
 |nil=>rw[c]at a;cases a
 |cons q Q=>
  rw[c]at a;refine⟨q,Q,rfl,a,?_,?_,fun p hp=>VU (by rw[c];exact hp)⟩
  all_goals
   rw[KD]at a;split at a
   ·obtain rfl:=Option.some.inj a;rfl
   ·cases a
def ZJ{L:List PD}{i:List Int}{d:PD}(b:∀p∈L,BM p=true)(h:Ij L i=δ d):BM d=true/\1<=d.h:=by
 obtain⟨q,Q,_,c,_,_,a⟩:=jY h;obtain⟨f,n⟩:=ZZ (fun p hp=>b p (a p hp)) c;have m:=M4 (q:=q) (Q:=Q) (p:=q) Β;obtain⟨⟨_,_,_,e⟩,_⟩:=Gp.1 (b q (a q Β));have l:0<=q.h:=e.1;exact⟨f,by omega⟩
variable {L:List Int}{xs:List Nat}{k d g:Nat}{sv:σ}{w:κ}
def Sr(a:Addr)(n c:Nat)(xs:List Int)(w:κ)(h:IntzAt w (δ a) n xs)(K:n<=1048576):
  υ μ 68 #[.slice (δ a) n c] w fun e w'=> ∃v,e=ν v/\Am w' w.heap.size v xs/\ε w.heap.size w w':=by
 have y:=fun wx=>Lib.run_eql_slice_nil (P:=μ) wx 27 3 (δ a) n c 0 0 underlying27;obtain⟨J,D,q,r,s⟩:=info_parts OL;go_enter func68,ntmps68;go_wp2_with (first|(at_builtin;refine wpList_append_own _ rfl (.tmp 5) (.tmp 6) 27 rfl w.heap.size 3 J (.int U 0) 1 8 underlying27 D q r s rfl (by decide) _ _ _ rfl (World.ownsRow_lit _ #[] 0 (η _) (by decide) rfl) a n c (cellsZ xs) rfl ?c0 ?c1 ?c2 ?c3 ?c4 ?c5 ?_))
 case c0=>rw[Gi,h.1,Nat.mul_one]
 case c1=>
  have B:=h.below ((γ _ _).alloc (η _) (.cells #[] 3));intro j u o;obtain⟨b,off,e,C⟩:=B.at (i:=j) (by have:=(List.getElem?_eq_some_iff.1 o).1;rw[Gi,h.1]at this;exact this);simp only[Option.some.injEq]at e;subst e;have m:j<n:=by have:=(List.getElem?_eq_some_iff.1 o).1;rw[Gi,h.1]at this;exact this
  rw[Hp xs j (by rw[h.1];exact m)]at o;rw[show(⟨b,off,ζ⟩:Addr).add j=⟨b,off+j,ζ⟩ by unfold Addr.add;split<;>simp_all,C j m];exact o
 case c2=>intro u I;obtain⟨x,_,rfl⟩:=List.mem_map.1 I;rfl
 case c3=>unfold maxLen;omega
 case c4=>omega
 case c5=>simp
 intro v' w1 l f _;have z:=Ab (show ε w.heap.size w w1 from((γ _ _).alloc (η _) _).grown f (by simp) (fun k E=>by simp[Value.ownBlock]at E;omega));have A:=Ab (show Am w1 w.heap.size v' xs from by have H:=h.1;show w1.ownsRow _ _ _ _ xs.length _;rw[H];simpa using l);clear l f;go_wp2;go_ret;exact⟨_,rfl,Aa A,Aa z⟩
def iu(b:Int){n:Nat}(a:0<n):((placeN b n:Nat):Int)=(b.tmod n+n)%n:=by
 rw[(Wv b a).1];have c: -(n:Int)<b.tmod n:=by
  have:=Int.lt_tmod_of_pos b (show(0:Int)<n by omega);omega
 exact Int.tmod_eq_emod_of_nonneg (by omega)
def gj(b:Int)(n:Nat)(c:0<n)(m:n<=1048576)(l: -9223372036854775808<=b/\b<=9223372036854775807)(w:κ):
  υ μ 240 #[.int U b,.int U (n:Int)] w fun e w'=>e=ν (.int U ((placeN b n:Nat):Int))/\w'=w:=by
 have f:¬((n:Int)=0):=by omega
 have a:=iu b c;have h:(b.tmod n)<n:=Int.tmod_lt_of_pos _ (by omega);have i: -(n:Int)<b.tmod n:=by
  have:=Int.lt_tmod_of_pos b (show(0:Int)<n by omega);omega
 go_enter func240,ntmps240;go_wp2;go_ret;exact⟨congrArg (fun x=>Ι (.int U x)) a.symm,rfl⟩
def ko(d:Nat)(t:Int)(a:d<=1048576)(ht: -1099511627776<=t/\t<=1099511627776):IntKind.u64.wrap (max (d:Int) t-IntKind.u64.wrap (min (d:Int) t))=((distN d t:Nat):Int):=by
 rw[Ε,Ε,St];unfold DN;split<;>omega
def RY(d:Nat)(t:Int)(c:d<=1048576)(ht: -1099511627776<=t/\t<=1099511627776)(w:κ):
  υ μ 271 #[.int U (d:Int),.int U t] w fun e w'=>e=ν (α .u64 ((distN d t:Nat):Int))/\w'=w:=by
 have a:=JJ (d:Int) t;have b:=Iz (d:Int) t;go_enter func271,ntmps271;go_wp2;go_ret;exact⟨congrArg (fun x=>Ι (α .u64 x)) (ko d t c ht),rfl⟩
def E9(L:List Int)(k:Nat)(sv:σ)(d:Nat):List σ:=cellsZ L++[.int U (k:Int),sv,.int U (d:Int)]
def WU(b:L.length=32){i:Nat}(a:i<32):(E9 L k sv d)[i]? =δ (.int U (L.getD i 0)):=by
 unfold E9;rw[List.getElem?_append_left (by rw[Gi];omega),Hp L i (by omega)]
def Qp(a:L.length=32)(j:Nat):(E9 L k sv d)[32+j]? =[φ U (k:Int),sv,.int U (d:Int)][j]? :=by
 unfold E9;rw[List.getElem?_append_right (by rw[Gi];omega),Gi,a,τ]
def YZ(b:L.length=32){i:Nat}(a:i<32)(x:Int):(E9 L k sv d).set i (.int U x)=E9 (L.set i x) k sv d:=by
 unfold E9;rw[List.set_append_left _ _ (by rw[Gi];omega),Oj]
def O8(a:L.length=32)(j:Nat)(x:σ):(E9 L k sv d).set (32+j) x=cellsZ L++[φ U (k:Int),sv,.int U (d:Int)].set j x:=by
 unfold E9;rw[List.set_append_right _ _ (by rw[Gi];omega),Gi,a,τ]
structure CcAt(w:κ)(g:Nat)(L:List Int)(k:Nat)(sv:σ)(xs:List Nat)(d:Nat):Prop where
 blk:BkA 334 w g (E9 L k sv d)
 len:L.length=32
 own:Own w (g+1) sv xs
def CcAt.below{w':κ}(h:CcAt w g L k sv xs d)(a:ε w.heap.size w w'):CcAt w' g L k sv xs d:=⟨h.blk.below a,h.len,h.own.below a⟩
def CcAt.at(h:CcAt w g L k sv xs d):w.cell? ⟨g,32,ζ⟩=δ (.int U (k:Int))/\w.cell? ⟨g,33,ζ⟩=δ sv/\w.cell? ⟨g,34,ζ⟩=δ (.int U (d:Int)):=
 ⟨h.blk.at 32 (Qp h.len 0),h.blk.at 33 (Qp h.len 1),h.blk.at 34 (Qp h.len 2)⟩
def CcAt.ints(h:CcAt w g L k sv xs d)(b:k<=32):IntzAt w (δ ⟨g,0,ζ⟩) k (L.take k):=by
 refine⟨by rw[List.length_take,h.len];omega,.inr ⟨g,0,rfl,fun i a=>?_⟩⟩;rw[Nat.zero_add,h.blk.at i (WU h.len (by omega)),β,β,List.getElem?_take,if_pos a]
def CcAt.new(w:κ):CcAt (w.alloc (.cells (E9 (ο 32 0) 0 (θ none 0 0) 0).toArray 334)) w.heap.size (ο 32 0) 0 (θ none 0 0) [] 0:=
 ⟨AI _ _ _,by simp,Own.nil _ _⟩
def CcAt.place(h:CcAt w g L k sv xs d){i:Nat}(a:i<32)(x:Int):CcAt (w.setCell ⟨g,i,ζ⟩ (.int U x)) g (L.set i x) k sv xs d:=by
 refine⟨?_,by rw[List.length_set];exact h.len,h.own.other _ _ (π _)⟩;have:=h.blk.set i (.int U x);rwa[YZ h.len a]at this
def CcAt.count(h:CcAt w g L k sv xs d)(a:Nat):CcAt (w.setCell ⟨g,32,ζ⟩ (.int U (a:Int))) g L a sv xs d:=by
 refine⟨?_,h.len,h.own.other _ _ (π _)⟩;have:=h.blk.set 32 (.int U (a:Int));rwa[show(32:Nat)=32+0 from rfl,O8 h.len 0]at this
def CcAt.sum(h:CcAt w g L k sv xs d){u:σ}{a:List Nat}(b:Own w (g+1) u a):CcAt (w.setCell ⟨g,33,ζ⟩ u) g L k u a d:=by
 refine⟨?_,h.len,b.other _ _ (π _)⟩;have:=h.blk.set 33 u;rwa[show(33:Nat)=32+1 from rfl,O8 h.len 1]at this
def CcAt.deg(h:CcAt w g L k sv xs d)(a:Nat):CcAt (w.setCell ⟨g,34,ζ⟩ (.int U (a:Int))) g L k sv xs a:=by
 refine⟨?_,h.len,h.own.other _ _ (π _)⟩;have:=h.blk.set 34 (.int U (a:Int));rwa[show(34:Nat)=32+2 from rfl,O8 h.len 2]at this
def Zz(g:Nat)(L:List Int)(k:Nat)(sv:σ)(xs:List Nat)(d:Nat)(x:Int)(w:κ)(h:CcAt w g L k sv xs d)(o:k<=32):
  υ μ 272 #[.pointer (δ ⟨g,0,ζ⟩),.int U x] w fun e w'=>e=ν (.bool (decide (x∈L.take k)))/\ε w.heap.size w w':=by
 have q:(k:Int)<=32:=by omega
 have r:=cell_regrown h.at.1;have l:=Cf (W:=w) (fun w' n=>Tr (RJ (δ ⟨g,0,ζ⟩) k 32 (L.take k) x w' ((h.below n).ints o) (by omega)));generalize decide (x∈L.take k)=b at*;clear h;go_enter func272,ntmps272;go_wp2_with fail;refine wp_region_quiet_below (by kernel_rfl) (by kernel_rfl) ?_
 repeat (with_reducible refine wpQuiet_step (fun K c=>?_);go_simp;first|(with_reducible refine c _ ?_;clear c K)|(apply Exists.intro;apply And.intro;(intro _;first|(go_at_call 75;exact l _ _));with_reducible refine c _ ?_;clear c K))
 refine wpQuiet_nil ?_;intro _ f;obtain⟨⟨m,i⟩,a⟩:=f;subst a;go_wp2;go_ret;exact⟨rfl,below_regrown _ m i⟩
def fV(g:Nat)(L:List Int)(k:Nat)(sv:σ)(xs:List Nat)(a:Option Addr)(m c:Nat)(b:List Nat)(w:κ)(h:CcAt w g L k sv xs (cnt xs))(z:RowAt w a m b)(hx:xs.length<=10)(hm:m<=10):
  υ μ 273 #[.pointer (δ ⟨g,0,ζ⟩),θ a m c] w fun e w'=>e=ν (.int U ((cnt (xorL xs b):Nat):Int))/\ε w.heap.size w w':=by
 obtain rfl:=z.1;obtain⟨J,sc,rfl,hs⟩:=h.own.row;have ae:=h.own.cap;have x:=Jc xs.length b.length;have Y:=Uw J xs.length sc (min xs.length b.length) (by omega);obtain⟨ah,v⟩:=pD xs b;have X:min xs.length b.length<=xs.length:=Nat.min_le_left _ _;have Z:=ω (min xs.length b.length) xs;have o:=hs.take X;generalize min xs.length b.length=l at*;have k1:=cell_regrown h.at.2.1;have Hh:=Ab h;have HR:=Ab z;have af:=Le xs;have ag:=Le (xorL (xs.take l) b);have ad:=BS (xs.take l) b;have aa:(xs.take l).length=l:=o.1;have T:=Ab (fun wx (h1:RowAt wx J l (xs.take l)) (h2:RowAt wx a b.length b)=>Jf J l sc (xs.take l) a b.length c b wx h1 h2 (by omega) (by omega));generalize xorL (xs.take l) b=N at*;generalize xs.take l=ts at*;have D:N.length<=10:=by omega
 have HT:=Ab o;have O:=Ab v;generalize cnt (xorL xs b)=R at*;generalize b.length=ym at*;generalize xs.length=xm at*;clear v Z ad aa;clear h z hs o;go_enter func273,ntmps273;go_wp2_with fail;refine wp_region_quiet_below (by kernel_rfl) (by kernel_rfl) ?_
 repeat (with_reducible refine wpQuiet_step (fun K hK=>?_);go_simp;first|(with_reducible refine hK _ ?_;clear hK K))
 refine wpQuiet_nil ?_;intro _ ab;obtain⟨⟨dq,E⟩,B⟩:=ab;subst B;have s:=below_regrown w dq E;generalize grow (redrawn w dq) E=W at*;have n:=(Aa Hh).below s;have q:=(Aa HT).below s;have C:=(Aa HR).below s;have HB:=Ab s;have P:=Ab (fun wx (f:ε W.heap.size W wx)=>GO J l sc ts wx (q.below f) (by omega));have V:=Ab (fun wx (f:ε W.heap.size W wx)=>Aa T wx (q.below f) (C.below f));have Q:=Ab (fun wx (f:ε W.heap.size W wx)=>(n.below f).at.2.2);have q0:=n.at.2.2;clear n q C s Hh HT HR k1 Y x;go_wp2_with fail
 go_region_held3 (fun w'=>w'.cell? ⟨g,34,ζ⟩=δ (.int U (cnt xs:Int))) (go_keep) (first
  |(go_at_call 274;refine(Aa V _ (by first|exact Aa r|exact(γ _ _).drew)).mono ?_;rintro e w1 ⟨v1,rfl,y,u⟩;obtain⟨a2,m2,c2,rfl,A,ai⟩:∃a m c,v1=Ζ a m c/\RowAt w1 a m N/\m<=10:=(by obtain⟨a,c,e,z⟩:=y.row;exact⟨a,_,c,e,z,D⟩);have H:=Ab (show ε W.heap.size W w1 from Ad (by first|exact Aa r|exact(γ _ _).drew) u);have S:=Ab A;have q0:=Aa Q w1 (Aa H);clear y u A)
  |(go_at_call 180;refine(GO a2 m2 c2 N _ (Aa S) (by omega)).mono ?_;rintro e w1 ⟨rfl,i⟩;have I:=Ab (show ε W.heap.size W w1 from by rw[i];first|exact Aa r|exact Aa H);have q0:=Aa Q w1 (Aa I);clear i)
  |(go_at_call 180;refine(Aa P _ (by first|exact Aa I|exact Aa H|exact(γ _ _).drew)).mono ?_;rintro e w1 ⟨rfl,i⟩;have r:=Ab (show ε W.heap.size W w1 from by rw[i];first|exact Aa I|exact Aa H|exact(γ _ _).drew);have q0:=Aa Q w1 (Aa r);clear i))
 have ac:IntKind.i64.wrap (IntKind.i64.wrap (((cnt xs:Nat):Int)-((cnt ts:Nat):Int))+((cnt N:Nat):Int))=((R:Nat):Int):=by
  have h2:=Aa O;rw[Η,Η];omega
 rw[ac];have HD:Hid (ε W.heap.size W w1):=by first|exact I|exact r
 go_wp2;go_ret;exact⟨rfl,Ad (Aa HB) (Aa HD)⟩
def ol(W:κ)(L:List Int)(k:Nat)(sv:σ)(xs:List Nat)(d:Nat)(p:Nat)(a:Option Addr)(m c:Nat)(o:List Nat)(w:κ)(h:CcAt w W.heap.size L k sv xs d)(J:ε W.heap.size W w)(E:RowAt W a m o)(K:k<32)(hx:xs.length<=10)(hm:m<=10):
  υ μ 242 #[.pointer (δ ⟨W.heap.size,0,ζ⟩),.int U (p:Int),θ a m c] w fun e w'=>e=ν (.tuple #[])/\(∃u,CcAt w' W.heap.size (L.set k (p:Int)) (k+1) u (xorL xs o) (cnt (xorL xs o)))/\ε W.heap.size W w':=by
 obtain rfl:=E.1;have V:(k:Int)<32:=by omega
 obtain⟨sa,sc,rfl,_⟩:=h.own.row;obtain⟨O,P,Q⟩:=h.at;have f0:=h.blk.frz k;have Z:=h.blk.at k (WU h.len K);have I:=Ab h;have H:=Ab J;have S:=Ab E;clear h E J;go_enter func242,ntmps242;go_wp2_with fail;go_region;have l:=((Aa I).place K (p:Int)).below (γ _ _).drew;have s:=((Aa H).setCell (p:=⟨W.heap.size,k,ζ⟩) (η _) (.int U (p:Int))).trans ((γ _ _).drew);generalize (w.setCell ⟨W.heap.size,k,ζ⟩ (.int U (p:Int))).drew=w1 at*;clear O P Q f0 Z I H;have f1:=l.blk.frz 32;obtain⟨O,P,Q⟩:=l.at;obtain⟨j,hj,x⟩:∃j:Nat,(k:Int)+1=(j:Int)/\j=k+1:=⟨k+1,by omega,rfl⟩;have R:=Ab x;have z:=Ab (l.count j);have i:=Ab (s.setCell (p:=⟨W.heap.size,32,ζ⟩) (η _) (.int U (j:Int)));obtain⟨_,r1,_⟩:=(l.count j).at;have v:=(l.count j).blk.lt;have f3:=fun(wx:κ) (D:ε (w1.setCell ⟨W.heap.size,32,ζ⟩ (.int U (j:Int))).heap.size (w1.setCell ⟨W.heap.size,32,ζ⟩ (.int U (j:Int))) wx)=>((l.count j).below D).blk.frz 33;clear l s x;generalize X:w1.setCell ⟨W.heap.size,32,ζ⟩ (.int U (j:Int))=w2 at*;have q:=Ab (Jf sa xs.length sc xs a o.length c o w2 (by obtain⟨_,_,e,f⟩:=(Aa z).own.row;simp only[ρ,true_and]at e;obtain⟨rfl,rfl⟩:=e;exact f) ((Aa S).below (Aa i)) (by omega) (by omega));have Y:(xorL xs o).length<=10:=by rw[BS];omega
 have C:=Ab f3;clear f3
 go_wp2_with (first
  |(go_at_call 274;refine(Aa q).mono ?_;rintro e w3 ⟨v3,rfl,n,b⟩;obtain⟨a3,N,c3,rfl⟩:∃a m c,v3=Ζ a m c:=(by obtain⟨a,c,e,_⟩:=n.row;exact⟨a,_,c,e⟩);have r:=((Aa z).below b).sum (n.mono (show W.heap.size+1<=_ from v));have B:=Ab (((Aa i).trans (b.mono (Nat.le_of_lt v))).setCell (p:=⟨W.heap.size,33,ζ⟩) (η _) (θ a3 N c3));have f3:=Aa C w3 b;have s1:=((Aa z).below b).at.2.1;have s2:=r.at.2.1;have s3:=r.at.2.2;have f4:=r.blk.frz 34;have A:=Ab r;clear n b r q z i)
  |(go_at_call 180;refine(GO a3 N c3 (xorL xs o) _ (by obtain⟨_,_,e,f⟩:=(Aa A).own.row;simp only[ρ]at e;obtain⟨rfl,rfl,rfl⟩:=e;exact f) (by have T:=(Aa A).own.row;obtain⟨_,_,e,f⟩:=T;simp only[ρ]at e;omega)).mono ?_;rintro e w5 ⟨rfl,y⟩;obtain rfl:=y.symm;clear y))
 go_end0;obtain rfl:=Aa R;exact⟨rfl,⟨_,(Aa A).deg _⟩,(Aa B).setCell (p:=⟨W.heap.size,34,ζ⟩) (η _) _⟩
def Ls:Option Nat->Int
 |none=> -1
 |some b=>b
def AV(rs:List RV):List (List Nat):=rs.map fun r=>r.xs
def L9(rs:List RV):(AV rs).length=rs.length:=by simp[AV]
def L8{rs:List RV}{i:Nat}(a:i<rs.length):(AV rs).getD i []=(rs.getD i .dflt).xs:=by
 unfold AV;rw[β,List.getElem?_map,ι a,β,ι a];rfl
def Wn(V:List (List Nat))(ch:List Bool)(v:List Nat)(t:Int):∀n,0<=(BI V ch v t n).2
 |0=>OD _ _
 |n+1=>by
  by_cases h:Gt V ch v t n (BI V ch v t n).2
  ·rw[Ow h];exact OD _ _
  ·rw[OT h];exact Wn V ch v t n
def lM(g:Nat)(L:List Int)(k:Nat)(sv:σ)(xs:List Nat)(a:Option Addr)(n c:Nat)(rs:List RV)(t:Int)(ch:List Bool)(ps:List Nat)(w:κ)(h:CcAt w g L k sv xs (cnt xs))(hr:Aj w a n rs)(hs:Af rs)(hn:n<=300)(hx:xs.length<=10)(hk:k<=32)(hC:Fa n ch ps)(hL:L.take k=A4 ps)(ht: -1099511627776<=t/\t<=1099511627776):
  υ μ 241 #[.pointer (δ ⟨g,0,ζ⟩),θ a n c,.int U t] w fun e w'=>e=ν (.int U (if k=32 then -1 else Ls (BI (AV rs) ch xs t n).1))/\ε w.heap.size w w':=by
 obtain rfl:=hr.1;obtain⟨q0,q1,q2⟩:=h.at;by_cases ad:k=32
 ·subst ad
  rw[if_pos rfl];have av:w.cell? ⟨g,32,ζ⟩=δ (.int U 32):=q0;clear q0 h hr hC hL;go_enter func241,ntmps241;go_wp2;go_ret;exact⟨rfl,γ _ _⟩
 ·rw[if_neg ad]
  have aq:¬((k:Int)=32):=by omega
  have aj:cnt xs<=1048576:=by have:=Le xs;omega
  have aa:=Ab (RY (cnt xs) t aj ht w);have Hh:=Ab h;have HR:=Ab hr;have HS:=Ab hs;have af:=Ab (show∀i,i<rs.length->decide ((i:Int)∈L.take k)=ch.getD i false from fun i hi=>by rw[hL,qv,hC.mem i hi]);have ab:=Ab (show(distN (cnt xs) t:Int)=((BI (AV rs) ch xs t 0).2.toNat:Int) from rfl);generalize hd:cnt xs=d at*;clear h hr hs hC hL;go_enter func241,ntmps241;go_wp2_with (go_at_call 271;refine(Aa aa).mono ?_;rintro e w1 ⟨rfl,ae⟩;obtain rfl:=ae.symm;clear ae aa);go_loopw [7,8,26] (fun b l i wr=> ∃m:Nat,m<=rs.length/\i=.int U m/\b=.int U (Ls (BI (AV rs) ch xs t m).1)/\l=α .u64 ((BI (AV rs) ch xs t m).2.toNat:Int)/\Hid (ε w.heap.size w wr)) (fun _ _ i _=>rs.length-(intOf i).toNat)
  case atStart=>exact⟨0,ξ _,rfl,rfl,by rw[Aa ab],Ab (γ _ _)⟩
  case round=>
   obtain⟨m,hm,rfl,rfl,rfl,HB⟩:=hrel;clear ab;by_cases E:m<rs.length
   ·have hR:=(Aa HR).below (Aa HB)
    obtain⟨b,off,rfl,ac⟩:=hR.at E;obtain⟨ap,am⟩:=ac m E;have H:=hR.2.1 m E;have al:=(Aa HS m).1;have an:(m:Int)<(rs.length:Int):=by omega
    have hH:=(Aa Hh).below (Aa HB);have R:F1 (AV rs) xs m=cnt (xorL xs (rs.getD m .dflt).xs):=by unfold F1;rw[L8 E]
    have au:=H.1;have D:=Ab (fun P=>Ow (V:=AV rs) (ch:=ch) (v:=xs) (t:=t) (i:=m) P);have x:=Ab (fun P=>OT (V:=AV rs) (ch:=ch) (v:=xs) (t:=t) (i:=m) P);have ar:=Wn (AV rs) ch xs t m;have y:=Aa af m E;clear ac hR;generalize rs.getD m .dflt=r at*;have K:ε wr.heap.size wr (wr.alloc (.cells #[.slice r.a r.n r.c,.string r.s] 73)):=(γ _ _).alloc (η _) _;have f:=GT wr (.slice r.a r.n r.c) (.string r.s);generalize ao:wr.alloc (.cells #[.slice r.a r.n r.c,.string r.s] 73)=w2 at*;have X:=hH.below K;have z:=Ab (Zz g L k sv xs d (m:Int) w2 X hk);have I:=Ab (Ad (Aa HB) K);have W:=Ab (fun wx (N:ε w2.heap.size w2 wx)=>fV g L k sv xs r.a r.n r.c r.xs wx (hd▸X.below N) ((H.below K).below N) hx al);have S:=Ab (fun wx (N:ε w2.heap.size w2 wx)=>f.below N);have ak:cnt (xorL xs r.xs)<=1048576:=by have Q:=Le (xorL xs r.xs);rw[BS]at Q;omega
    have Y:=Ab R;clear hH X H K f R;generalize cnt (xorL xs r.xs)=J at*;have T:=Ab (fun wx=>RY J t ak ht wx);cases O:ch.getD m false
    ·rw[O]at y
     rw[y]at z
     have A:=Ab (show Gt (AV rs) ch xs t m (BI (AV rs) ch xs t m).2↔0<J/\distN J t<(BI (AV rs) ch xs t m).2.toNat from by
      unfold Gt;rw[Aa Y,O];have h5:=St J t;constructor
      ·rintro⟨_,Q,h2⟩;exact⟨Q,by omega⟩
      ·rintro⟨Q,h2⟩;exact⟨rfl,Q,by omega⟩)
     have ag:=Ab (show(DN (F1 (AV rs) xs m) t).toNat=distN J t from by rw[Aa Y];rfl);generalize hZ:BI (AV rs) ch xs t m=Z at*;generalize distN J t=f1 at*;by_cases Q:0<J
     ·have ah:(0:Int)<(J:Int):=by omega
      by_cases h2:f1<Z.2.toNat
      ·have ai:(f1:Int)<(Z.2.toNat:Int):=by omega
       have C:=Ab (Aa D ((Aa A).2 ⟨Q,h2⟩));clear D x A
       go_wp2_with (first
        |(go_at_call 272;refine(Aa z).mono ?_;rintro e w3 ⟨rfl,f⟩;have o:=Ab f;obtain⟨x0,x1⟩:=Aa S w3 f;clear f)
        |(go_at_call 273;refine(Aa W _ (Aa o)).mono ?_;rintro e w4 ⟨rfl,q⟩;have B:=Ab (Ad (Aa o) q);clear q)
        |(go_at_call 271;refine(Aa T _).mono ?_;rintro e w5 ⟨rfl,u⟩;obtain rfl:=u.symm;clear u))
       go_roundw
       case rel=>exact⟨m+1,by omega,by go_num,by rw[Aa C];rfl,by rw[Aa C];show _=φ .u64 (((DN (F1 (AV rs) xs m) t).toNat:Nat):Int);rw[Aa ag],Ab (Ad (Aa I) (Aa B))⟩
       case measure=>simp[intOf];omega
      ·have ai:¬(f1:Int)<(Z.2.toNat:Int):=by omega
       have C:=Ab (Aa x fun P=>h2 ((Aa A).1 P).2);clear D x A
       go_wp2_with (first
        |(go_at_call 272;refine(Aa z).mono ?_;rintro e w3 ⟨rfl,f⟩;have o:=Ab f;obtain⟨x0,x1⟩:=Aa S w3 f;clear f)
        |(go_at_call 273;refine(Aa W _ (Aa o)).mono ?_;rintro e w4 ⟨rfl,q⟩;have B:=Ab (Ad (Aa o) q);clear q)
        |(go_at_call 271;refine(Aa T _).mono ?_;rintro e w5 ⟨rfl,u⟩;obtain rfl:=u.symm;clear u))
       go_roundw
       case rel=>exact⟨m+1,by omega,by go_num,by rw[Aa C],by rw[Aa C,Int.ofNat_toNat],Ab (Ad (Aa I) (Aa B))⟩
       case measure=>simp[intOf];omega
     ·have ah:¬(0:Int)<(J:Int):=by omega
      have C:=Ab (Aa x fun P=>Q ((Aa A).1 P).1);clear D x A
      go_wp2_with (first
       |(go_at_call 272;refine(Aa z).mono ?_;rintro e w3 ⟨rfl,f⟩;have o:=Ab f;obtain⟨x0,x1⟩:=Aa S w3 f;clear f)
       |(go_at_call 273;refine(Aa W _ (Aa o)).mono ?_;rintro e w4 ⟨rfl,q⟩;have B:=Ab (Ad (Aa o) q);clear q)
       |(go_at_call 271;refine(Aa T _).mono ?_;rintro e w5 ⟨rfl,u⟩;obtain rfl:=u.symm;clear u))
      go_roundw
      case rel=>exact⟨m+1,by omega,by go_num,by rw[Aa C],by rw[Aa C,Int.ofNat_toNat],Ab (Ad (Aa I) (Aa B))⟩
      case measure=>simp[intOf];omega
    ·rw[O]at y
     rw[y]at z;have C:=Ab (Aa x fun P=>absurd (O.symm.trans P.1) (by decide));clear D x
     go_wp2_with (first
      |(go_at_call 272;refine(Aa z).mono ?_;rintro e w3 ⟨rfl,f⟩;have o:=Ab f;clear f))
     go_roundw
     case rel=>exact⟨m+1,by omega,by go_num,by rw[Aa C],by rw[Aa C,Int.ofNat_toNat],Ab (Ad (Aa I) (Aa o))⟩
     case measure=>simp[intOf];omega
   ·obtain rfl:m=rs.length:=by omega
    go_wp2;go_ret;exact⟨rfl,Aa HB⟩
def cX:Ren:=⟨fun|125=>267|128=>294|129=>295|189=>237|215=>314|216=>302|257=>270|294=>296|295=>297|296=>298|297=>299|298=>300|299=>301|300=>303|301=>304|328=>309|329=>310|330=>311|331=>312|332=>313|343=>316|n=>n,fun|0=>0|3=>3|4=>4|5=>5|9=>9|28=>27|46=>305|51=>112|53=>265|131=>253|182=>388|183=>389|218=>400|222=>403|228=>406|229=>128|n=>n,fun|n=>n⟩
def VY:Lays.n189 μ cX:={
 mixed:=by kernel_rfl
 f125:=func267.trans (congrArg δ (by kernel_rfl))
 f128:=func294.trans (congrArg δ (by kernel_rfl))
 f129:=func295.trans (congrArg δ (by kernel_rfl))
 f189:=func237.trans (congrArg δ (by kernel_rfl))
 f215:=func314.trans (congrArg δ (by kernel_rfl))
 f216:=func302.trans (congrArg δ (by kernel_rfl))
 f257:=func270.trans (congrArg δ (by kernel_rfl))
 f294:=func296.trans (congrArg δ (by kernel_rfl))
 f295:=func297.trans (congrArg δ (by kernel_rfl))
 f296:=func298.trans (congrArg δ (by kernel_rfl))
 f297:=func299.trans (congrArg δ (by kernel_rfl))
 f298:=func300.trans (congrArg δ (by kernel_rfl))
 f299:=func301.trans (congrArg δ (by kernel_rfl))
 f300:=func303.trans (congrArg δ (by kernel_rfl))
 f301:=func304.trans (congrArg δ (by kernel_rfl))
 f328:=func309.trans (congrArg δ (by kernel_rfl))
 f329:=func310.trans (congrArg δ (by kernel_rfl))
 f330:=func311.trans (congrArg δ (by kernel_rfl))
 f331:=func312.trans (congrArg δ (by kernel_rfl))
 f332:=func313.trans (congrArg δ (by kernel_rfl))
 f343:=func316.trans (congrArg δ (by kernel_rfl))
 t0:=underlying0
 a0:=Tryz.isAgg0
 z0:=Tryz.sizeOf0
 v0:=Tryz.zeroValue0
 t3:=underlying3
 a3:=Tryz.isAgg3
 z3:=Tryz.sizeOf3
 v3:=Tryz.zeroValue3
 t4:=underlying4
 a4:=Tryz.isAgg4
 z4:=Tryz.sizeOf4
 v4:=Tryz.zeroValue4
 t5:=underlying5
 a5:=Tryz.isAgg5
 z5:=Tryz.sizeOf5
 v5:=Tryz.zeroValue5
 t9:=underlying9
 a9:=Tryz.isAgg9
 z9:=Tryz.sizeOf9
 v9:=Tryz.zeroValue9
 t28:=underlying27
 a28:=Tryz.isAgg27
 z28:=Tryz.sizeOf27
 v28:=Tryz.zeroValue27
 t46:=underlying305
 a46:=Tryz.isAgg305
 z46:=Tryz.sizeOf305
 v46:=Tryz.zeroValue305
 t51:=underlying112
 a51:=Tryz.isAgg112
 z51:=Tryz.sizeOf112
 v51:=Tryz.zeroValue112
 t53:=underlying265
 a53:=Tryz.isAgg265
 z53:=Tryz.sizeOf265
 v53:=Tryz.zeroValue265
 t131:=underlying253
 a131:=Tryz.isAgg253
 z131:=Tryz.sizeOf253
 v131:=Tryz.zeroValue253
 t182:=underlying388
 a182:=Tryz.isAgg388
 z182:=Tryz.sizeOf388
 v182:=Tryz.zeroValue388
 t183:=underlying389
 a183:=Tryz.isAgg389
 z183:=Tryz.sizeOf389
 v183:=Tryz.zeroValue389
 t218:=underlying400
 a218:=Tryz.isAgg400
 z218:=Tryz.sizeOf400
 v218:=Tryz.zeroValue400
 t222:=underlying403
 a222:=Tryz.isAgg403
 z222:=Tryz.sizeOf403
 v222:=Tryz.zeroValue403
 t228:=underlying406
 a228:=Tryz.isAgg406
 z228:=Tryz.sizeOf406
 v228:=Tryz.zeroValue406
 t229:=underlying128
 a229:=Tryz.isAgg128
 z229:=Tryz.sizeOf128
 v229:=Tryz.zeroValue128}
def Sq(xs:List Int):cellsZ xs=xs.map (φ U):=rfl
def V0(B:Nat)(v:σ)(xs:List Int)(w:κ)(h:Am w B v xs)(z:xs.length<=1048576):
  υ μ 237 #[v] w fun e w'=>e=ν (.tuple #[])/\Am w' B v (xs.mergeSort fun x y=>decide (x<=y))/\w.grownBy w' v.ownBlock:=by
 have l:w.ownsRow B 3 1 v xs.length (cellsZ xs):=h;rcases l.2 with⟨rfl,u⟩|⟨g,cap,i,rfl,o,a,b,r,c,ht⟩
 ·obtain rfl:xs=[]:=List.eq_nil_of_length_eq_zero u
  refine(calls_of_every_depth fun D=>AnyS.slices_Sort_int_none_in VY D none 0 w).mono ?_;rintro e w' ⟨rfl,s⟩;obtain rfl:=s.symm;exact⟨rfl,by simpa using h,Gn _ _⟩
 ·have m:Holds (φ U) w g 0 xs.toArray:=holds_of_blockI a (by simpa [Sq]using ht)
  refine(Any.slices_Sort_int VY g 0 cap xs w m (Array.getElem?_eq_some_iff.1 a).1 (by omega)).mono ?_;rintro e w' ⟨rfl,q,os,rfl⟩;have f:(xs.mergeSort fun x y=>decide (x<=y)).length=xs.length:=by simp
  refine⟨rfl,?_,by simpa [Value.ownBlock]using grownBy_sortedI _⟩;show World.ownsRow _ B 3 1 _ (xs.mergeSort fun x y=>decide (x<=y)).length _;have:=ownsRow_sortedI (n:=q) (os:=os) f o a b r c;rw[f,Sq];exact this
variable {t pl:Int}{L:List Int}{xs ps:List Nat}{rs:List RV}{p j d:Nat}
def iT(g:Nat)(L:List Int)(k:Nat)(sv:σ)(xs:List Nat)(d:Nat)(w:κ)(h:CcAt w g L k sv xs d)(z:k<=32):
  υ μ 243 #[.pointer (δ ⟨g,0,ζ⟩)] w fun e w'=> ∃v,e=ν v/\Am w' w.heap.size v ((L.take k).mergeSort fun x y=>decide (x<=y))/\ε w.heap.size w w':=by
 have H:(k:Int)<=32:=by omega
 obtain⟨J,K,N⟩:=h.at;have I:(L.take k).length<=32:=by rw[List.length_take,h.len];omega
 have q:=Ab (fun wx (u:ε w.heap.size w wx)=>Sr ⟨g,0,ζ⟩ k 32 (L.take k) wx ((h.below u).ints z) (by omega));have D:=Ab (fun wx (u:ε w.heap.size w wx)=>(h.below u).at.1);clear h K N;generalize E:L.take k=T at*;clear E;go_enter func243,ntmps243;go_wp2_with fail
 go_region_held3 (fun w'=>w'.cell? ⟨g,32,ζ⟩=δ (.int U (k:Int))) (go_keep) (first
  |(go_at_call 68;refine(Aa q _ (γ _ _).drew).mono ?_;rintro e w1 ⟨O,rfl,b,f⟩;obtain⟨B,C,c1,rfl⟩:∃a m c,O=Ζ a m c:=(by obtain⟨a,c,e,_⟩:=b.ints;exact⟨a,_,c,e⟩);have n:=Ab (show ε w.heap.size w w1 from Ad (γ _ _).drew f);have J:=Aa D w1 (Aa n);have A:=Ab (show Am w1 w.heap.size (θ B C c1) T from b);clear b f))
 have s:=Ab (V0 w.heap.size (θ B C c1) T w1 (Aa A) (by omega));go_wp2_with (go_at_call 237;refine(Aa s).mono ?_;rintro e w2 ⟨rfl,l,i⟩;have r:=Ab l;have o:=Ab ((Aa n).trans (CA i (Aa n).size fun k z=>(World.ownsRow.lt (Aa A) k z).1));clear l i);go_ret;exact⟨_,rfl,Aa r,Aa o⟩
def G9(rs:List RV)(t:Int)(p j:Nat)(L:List Int)(xs:List Nat)(d:Nat)(ps:List Nat)(pl:Int):Prop:=
 j<=32/\L.take j=A4 ps/\((j=0/\xs=[]/\ps=[]/\pl=(p:Int))\/
  (1<=j/\xs=(BC (AV rs) t p (j-1)).v/\d=cnt xs/\Fa rs.length (BC (AV rs) t p (j-1)).ch ps/\pl=if j=32 then -1 else Ls (BI (AV rs) (BC (AV rs) t p (j-1)).ch xs t rs.length).1))
def G9.go(h:G9 rs t p j L xs d ps pl)(hp:p<rs.length)(s:L.length=32)(c:0<=pl):
  ∃b:Nat,pl=(b:Int)/\b<rs.length/\j<32/\xorL xs (rs.getD b .dflt).xs=(BC (AV rs) t p j).v/\Fa rs.length (BC (AV rs) t p j).ch (ps++[b])/\(L.set j (b:Int)).take (j+1)=A4 (ps++[b]):=by
 obtain⟨y,q,r⟩:=h
 have n:∀b:Nat,j<32->(L.set j (b:Int)).take (j+1)=A4 (ps++[b]):=fun b i=>by
  have m:j<(L.set j (b:Int)).length:=by rw[List.length_set,s];exact i
  rw[ς m,List.take_set_of_le (η _),q,RR,List.getElem_set_self];rfl
 rcases r with⟨rfl,rfl,rfl,rfl⟩|⟨u,rfl,x,o,a⟩
 ·refine⟨p,rfl,hp,by omega,?_,?_,n p (by omega)⟩
  ·rw[KS,MH,<-L8 hp]
   rfl
  ·show Fa _ ((ο (AV rs).length false).set p true) _
   rw[L9];exact Yu hp
 ·by_cases i:j=32
  ·rw[if_pos i]at a;omega
  ·rw[if_neg i]at a
   obtain⟨_,_,f⟩:=Tx (AV rs) (BC (AV rs) t p (j-1)).ch (BC (AV rs) t p (j-1)).v t rs.length;cases l:(BI (AV rs) (BC (AV rs) t p (j-1)).ch (BC (AV rs) t p (j-1)).v t rs.length).1 with
   |none=>rw[l]at a;rw[a]at c;exact absurd c (by decide)
   |some b=>
    rw[l]at a f;have e:BC (AV rs) t p j=⟨(BC (AV rs) t p (j-1)).ch.set b true,xorL (BC (AV rs) t p (j-1)).v ((AV rs).getD b [])⟩:=by
     have:BC (AV rs) t p (j-1+1)=Hx (AV rs) t (BC (AV rs) t p (j-1)):=rfl;rw[show j-1+1=j by omega]at this;rw[this,oQ (by rw[L9];exact l)]
    refine⟨b,a,f.1,by omega,?_,?_,n b (by omega)⟩
    ·rw[e,L8 f.1]
    ·rw[e]
     exact o.snoc f.1 f.2.1.1
def G9.last(h:G9 rs t p j L xs d ps pl)(c:¬0<=pl):
  (L.take j).mergeSort (fun x y=>decide (x<=y))=A4 (Gk (BC (AV rs) t p 31).ch rs.length):=by
 obtain⟨r,l,m⟩:=h;rcases m with⟨rfl,rfl,rfl,rfl⟩|⟨o,rfl,q,i,a⟩
 ·omega
 ·have e:BC (AV rs) t p (j-1)=BC (AV rs) t p 31:=by
   by_cases f:j=32
   ·rw[f]
   ·rw[if_neg f]at a
    refine lL (by omega) ?_;rw[L9];cases n:(BI (AV rs) (BC (AV rs) t p (j-1)).ch (BC (AV rs) t p (j-1)).v t rs.length).1 with
    |none=>rfl
    |some b=>rw[n]at a;exact absurd (show 0<=pl by rw[a];exact Int.natCast_nonneg _) c
  rw[l,i.sort,e]
def G9.len(h:G9 rs t p j L xs d ps pl)(a:∀i,((AV rs).getD i []).length<=10):xs.length<=10:=by
 rcases h.2.2 with⟨_,rfl,_⟩|⟨_,rfl,_⟩
 ·exact ξ _
 ·exact VD a _
def cntOf(w:κ)(g:Nat):Nat:=match w.cell? ⟨g,32,ζ⟩with
 |some v=>(intOf v).toNat
 |none=>0
def CcAt.cntOf{w:κ}{g:Nat}{k:Nat}{sv:σ}(h:CcAt w g L k sv xs d):cntOf w g=k:=by
 unfold Go.Proofs.YtfpmnekaockodaaGreatDoor.cntOf;rw[h.at.1];simp[intOf]
def IE(rs:List RV)(b t:Int):List Int:=if rs.length=0 then []else A4 (Gk (BC (AV rs) t (placeN b rs.length) 31).ch rs.length)
def Yc{w:κ}{a:Option Addr}{n:Nat}(c:Aj w a n rs)(e:Af rs):∀i,((AV rs).getD i []).length<=10:=fun i=>by
 by_cases b:i<rs.length
 ·rw[L8 b,(c.2.1 i (by rw[<-c.1];exact b)).1]
  exact(e i).1
 ·rw[β,χ (by rw[L9];omega)]
  exact ξ _
def iH(a:Option Addr)(n c:Nat)(rs:List RV)(b t:Int)(w:κ)(Q:Aj w a n rs)(hs:Af rs)(hn:n<=300)(hb: -9223372036854775808<=b/\b<=9223372036854775807)(ht: -1099511627776<=t/\t<=1099511627776):
  υ μ 199 #[θ a n c,.int U b,.int U t] w fun e w'=> ∃v,e=ν v/\Am w' w.heap.size v (IE rs b t)/\ε w.heap.size w w':=by
 obtain rfl:=Q.1;unfold IE;by_cases h0:rs.length=0
 ·rw[if_pos h0]
  have aa:(rs.length:Int)=0:=by omega
  clear Q;go_enter func199,ntmps199;go_wp2;go_ret;exact⟨_,rfl,Am.nil _ _,γ _ _⟩
 ·rw[if_neg h0]
  have aa:¬(rs.length:Int)=0:=by omega
  have ae:=(Wv b (show 0<rs.length by omega)).2;have C:=Ab (fun wx=>gj b rs.length (by omega) (by omega) hb wx);have s:=CcAt.new w;have o:ε w.heap.size w (w.alloc (.cells (E9 (ο 32 0) 0 (θ none 0 0) 0).toArray 334)):=(γ _ _).alloc (η _) _;have i:(E9 (ο 32 0) 0 (θ none 0 0) 0).toArray=#[.int U 0,.int U 0,.int U 0,.int U 0,.int U 0,.int U 0,.int U 0,.int U 0,.int U 0,.int U 0,.int U 0,.int U 0,.int U 0,.int U 0,.int U 0,.int U 0,.int U 0,.int U 0,.int U 0,.int U 0,.int U 0,.int U 0,.int U 0,.int U 0,.int U 0,.int U 0,.int U 0,.int U 0,.int U 0,.int U 0,.int U 0,.int U 0,.int U 0,θ none 0 0,.int U 0]:=rfl;rw[i]at s o;have HV:=Ab (Yc Q hs);have J:=Ab (show∃L sv xs d ps,CcAt (w.alloc (.cells #[.int U 0,.int U 0,.int U 0,.int U 0,.int U 0,.int U 0,.int U 0,.int U 0,.int U 0,.int U 0,.int U 0,.int U 0,.int U 0,.int U 0,.int U 0,.int U 0,.int U 0,.int U 0,.int U 0,.int U 0,.int U 0,.int U 0,.int U 0,.int U 0,.int U 0,.int U 0,.int U 0,.int U 0,.int U 0,.int U 0,.int U 0,.int U 0,.int U 0,θ none 0 0,.int U 0] 334)) w.heap.size L 0 sv xs d/\G9 rs t (placeN b rs.length) 0 L xs d ps ((placeN b rs.length:Nat):Int) from⟨_,_,_,_,[],s,by omega,rfl,.inl ⟨rfl,rfl,rfl,rfl⟩⟩);have D:=Ab o;have Y:=Ab Q;have K:=Ab hs;generalize placeN b rs.length=p at*;generalize hW:w.alloc (.cells #[.int U 0,.int U 0,.int U 0,.int U 0,.int U 0,.int U 0,.int U 0,.int U 0,.int U 0,.int U 0,.int U 0,.int U 0,.int U 0,.int U 0,.int U 0,.int U 0,.int U 0,.int U 0,.int U 0,.int U 0,.int U 0,.int U 0,.int U 0,.int U 0,.int U 0,.int U 0,.int U 0,.int U 0,.int U 0,.int U 0,.int U 0,.int U 0,.int U 0,θ none 0 0,.int U 0] 334)=W1 at*
  clear Q hs s o i;go_enter func199,ntmps199;go_wp2_with (go_at_call 240;refine(Aa C _).mono ?_;rintro e w1 ⟨rfl,R⟩;obtain rfl:=R.symm;clear R C);clear hW;go_loopw [8] (fun pl wr=> ∃z:Int,∃j:Nat,pl=.int U z/\Hid (∃L sv xs d ps,CcAt wr w.heap.size L j sv xs d/\G9 rs t p j L xs d ps z)/\Hid (ε w.heap.size w wr)) (fun _ wr=>33-cntOf wr w.heap.size)
  case atStart=>exact⟨_,0,rfl,J,D⟩
  case round=>
   obtain⟨z,j,rfl,HS,S⟩:=hrel;clear J D;obtain⟨L,sv,xs,d,ps,A,B⟩:=Aa HS;clear HS;have hx:=B.len (Aa HV);have ac:=A.cntOf;by_cases hz:0<=z
   ·obtain⟨h,rfl,q,hj,O,x,y⟩:=B.go ae A.len hz
    have ag:(h:Int)<(rs.length:Int):=by omega
    have hR:=(Aa Y).below (Aa S);obtain⟨bb,off,rfl,i⟩:=hR.at q;obtain⟨ah,ai⟩:=i h q;have l:=(Aa Y).2.1 h q;have af:=(Aa K h).1;generalize rs.getD h .dflt=r at*;have T:=Ab (ol w L j sv xs d h r.a r.n r.c r.xs wr A (Aa S) l hj hx af);have hy:(xorL xs r.xs).length<=10:=by rw[BS,l.1];omega
    have W:=Ab (fun wx u (ad:CcAt wx w.heap.size (L.set j (h:Int)) (j+1) u (xorL xs r.xs) (cnt (xorL xs r.xs))) (ab:ε w.heap.size w wx)=>lM w.heap.size (L.set j (h:Int)) (j+1) u (xorL xs r.xs) (δ ⟨bb,off,ζ⟩) rs.length c rs t _ (ps++[h]) wx ad ((Aa Y).below ab) (Aa K) hn hy (by omega) x y ht);have V:=Ab (show G9 rs t p (j+1) (L.set j (h:Int)) (xorL xs r.xs) (cnt (xorL xs r.xs)) (ps++[h]) (if j+1=32 then -1 else Ls (BI (AV rs) (BC (AV rs) t p j).ch (xorL xs r.xs) t rs.length).1) from⟨by omega,y,.inr ⟨by omega,by rw[O];rfl,rfl,x,rfl⟩⟩);clear B O x y hR i A l;generalize xorL xs r.xs=ys at*;generalize (if j+1=32 then -1 else Ls (BI (AV rs) (BC (AV rs) t p j).ch ys t rs.length).1)=z2 at*
    go_wp2_with (first
     |(go_at_call 242;refine(Aa T).mono ?_;rintro e w1 ⟨rfl,⟨u,hu⟩,N⟩;have H:=Ab hu;have E:=Ab N;clear hu N)
     |(go_at_call 241;refine(Aa W _ u (Aa H) (Aa E)).mono ?_;rintro e w2 ⟨rfl,f⟩;have I:=Ab ((Aa H).below f);have m:=Ab (Ad (Aa E) f);clear f))
    go_roundw
    case rel=>exact⟨_,j+1,rfl,Ab ⟨_,_,_,_,_,Aa I,Aa V⟩,m⟩
    case measure=>
     rw[ac,(Aa I).cntOf];omega
   ·have Z:=Ab (iT w.heap.size L j sv xs d wr A B.1)
    have HE:=Ab (B.last hz);clear B A;go_wp2_with (go_at_call 243;refine(Aa Z).mono ?_;rintro e w2 ⟨v2,rfl,P,f⟩;have X:=Ab P;have m:=Ab (Ad (Aa S) f);clear P f);go_ret;exact⟨_,rfl,by rw[<-Aa HE];exact(Aa X).mono (Aa S).size,Aa m⟩
variable {rs:List RV}{w:κ}
def C7(w wr:κ)(n:Nat)(c:List Nat):Prop:=Am wr w.heap.size (.slice (δ ⟨w.heap.size,0,ζ⟩) n n) (A4 c)/\ε w.heap.size w wr/\w.heap.size<wr.heap.size
def C7.new(w:κ)(n:Nat)(a:n<=1048576):C7 w (w.alloc (.cells (madeCells #[.int U 0] n) 3)) n (ο n 0):=
 ⟨Me w n a _ (by simp[A4]),(γ _ _).alloc (η _) _,by simp⟩
def C7.cell{wr:κ}{n:Nat}{c:List Nat}(h:C7 w wr n c)(l:c.length=n){i:Nat}(f:i<n):wr.cell? ⟨w.heap.size,i,ζ⟩=δ (.int U ((c.getD i 0:Nat):Int))/\wr.frozen? ⟨w.heap.size,i,ζ⟩=false:=by
 obtain⟨g,cap,e,_,_,a,b⟩:=h.1.at (by rw[Ir];omega);simp only[ρ,Option.some.injEq,Addr.mk.injEq]at e;obtain⟨⟨rfl,_⟩,_⟩:=e;exact⟨by rw[a i (by rw[Ir];omega),L2],b i⟩
def lK(c:List Nat)(i x:Nat):(A4 c).set i ((x:Nat):Int)=A4 (c.set i x):=by unfold A4;rw[List.map_set]
def C7.more{wr:κ}{n:Nat}{c:List Nat}(h:C7 w wr n c)(i x:Nat):C7 w (wr.setCell ⟨w.heap.size,i,ζ⟩ (.int U ((x:Nat):Int))) n (c.set i x):=by
 refine⟨?_,h.2.1.setCell (p:=⟨w.heap.size,i,ζ⟩) (η _) _,by rw[World.size_setCell];exact h.2.2⟩;have:=h.1.stored i ((x:Nat):Int);rwa[lK]at this
def kO(n:Nat)(a:List Int)(k:Nat)(b:k<a.length):Cr n (a.take (k+1))=if 0<=a.getD k 0/\a.getD k 0<(n:Int)then(Cr n (a.take k)).set (a.getD k 0).toNat ((Cr n (a.take k)).getD (a.getD k 0).toNat 0+1)else Cr n (a.take k):=by
 have e:a.take (k+1)=a.take k++[a.getD k 0]:=by
  rw[ς b];simp[β,ι b]
 rw[e,JE]
def oH(h:Af rs){r:RV}(b:r∈rs):r.n<=10/\r.s.size<=1000:=by
 obtain⟨i,a,rfl⟩:=List.mem_iff_getElem.1 b;have:=h i;rwa[β,ι a]at this
def rC(h:∀r∈rs,r.n<=10/\r.s.size<=1000):Af rs:=fun i=>by
 by_cases a:i<rs.length
 ·rw[β,ι a]
  exact h _ (List.getElem_mem a)
 ·rw[β,χ (by omega)]
  exact⟨ξ _,ξ _⟩
def jh(b:Ae w rs)(h:Af rs):(AM rs).length<=10:=Pt rs fun r a=>by rw[(b r a).1.1];exact(oH h a).1
def OwnP.grownLow{w':κ}{B:Nat}{v:σ}{ps:List PKV}(h:OwnP w B v ps)(b:w.grownBy w' v.ownBlock)(a:B<=w.heap.size):ε B w w':=CA b a fun k c=>(World.ownsRow.lt h k c).1
def YT(a:Option Addr)(n c:Nat)(ps:List PKV)(a':Option Addr)(m c':Nat)(f:List Int)(w:κ)(h:PksAt w a n ps)(hw:IntzAt w a' m f)(hn:n<=300)(hm:m<=300):
  υ μ 244 #[θ a n c,θ a' m c'] w fun e w'=> ∃v,e=ν v/\OwnP w' w.heap.size v (atL .dflt ps f)/\ε w.heap.size w w':=by
 obtain rfl:=h.1;obtain rfl:=hw.1;have a3:=Mf ps.length (by omega) w;have HS:=Ab (C7.new w ps.length (by omega));have Hh:=Ab h;have HW:=Ab hw;clear h hw;go_enter func244,ntmps244;go_wp2;go_loopw [16] (fun i wr=> ∃k:Nat,k<=f.length/\i=.int U k/\Hid (C7 w wr ps.length (Cr ps.length (f.take k)))) (fun i _=>f.length-(intOf i).toNat)
 case atStart=>exact⟨0,ξ _,rfl,HS⟩
 case round=>
  obtain⟨k,hk,rfl,E⟩:=hrel;clear HS;by_cases Q:k<f.length
  ·obtain⟨b,off,rfl,B⟩:=((Aa HW).below (Aa E).2.1).at Q
   have P:=B k Q;have ap:(k:Int)<(f.length:Int):=by omega
   have V:=Ab (kO ps.length f k Q);have HL:=Ab (Wb ps.length (f.take k));have O:=Ab (KP ps.length (f.take k));generalize f.getD k 0=i at*;generalize hQ:Cr ps.length (f.take k)=q at*;clear B hQ;by_cases h0:0<=i
   ·by_cases h1:i<(ps.length:Int)
    ·obtain⟨j,rfl⟩:∃j:Nat,i=(j:Int):=⟨i.toNat,by omega⟩
     have hj:j<ps.length:=by omega
     obtain⟨ab,a0⟩:=(Aa E).cell (Aa O) hj;have a2:q.getD j 0<=300:=by
      have h5:=Aa HL j;have h6:=ω k f;omega
     have C:=Ab (show Cr ps.length (f.take (k+1))=q.set j (q.getD j 0+1) from by rw[Aa V,if_pos ⟨h0,h1⟩];rfl);generalize q.getD j 0=x at*;clear V HL;go_wp2;go_roundw
     case rel=>exact⟨k+1,by omega,by go_num,Ab (by rw[Aa C];exact(Aa E).more j (x+1))⟩
     case measure=>simp[intOf];omega
    ·have C:=Ab (show Cr ps.length (f.take (k+1))=q from by rw[Aa V,if_neg (fun e=>h1 e.2)])
     clear V HL;go_wp2;go_roundw
     case rel=>exact⟨k+1,by omega,by go_num,Ab (by rw[Aa C];exact Aa E)⟩
     case measure=>simp[intOf];omega
   ·have C:=Ab (show Cr ps.length (f.take (k+1))=q from by rw[Aa V,if_neg (fun e=>h0 e.1)])
    clear V HL;go_wp2;go_roundw
    case rel=>exact⟨k+1,by omega,by go_num,Ab (by rw[Aa C];exact Aa E)⟩
    case measure=>simp[intOf];omega
  ·have ad:f.take k=f:=List.take_of_length_le (by omega)
   rw[ad]at E;obtain⟨wo,rfl⟩:∃wo,wo=wr:=⟨wr,rfl⟩;have O:=Ab (KP ps.length f);have ag:=Ab (Wb ps.length f);have af:=Ab (show BW .dflt ps (Cr ps.length f) ps.length=atL .dflt ps f from rfl);generalize Cr ps.length f=q at*;have HC:=Ab (fun(wx:κ) (hb:ε (w.heap.size+1) wo wx) (t:Nat) (ht:t<ps.length)=>(hb.cell (p:=⟨w.heap.size,t,ζ⟩) (π _)).trans ((Aa E).cell (Aa O) ht).1);have Y:=Ab (Aa E).2.1;have T:=(Aa E).2.2;clear E ad HW;go_wp2;go_loopw [8,37] (fun o i wx=> ∃t:Nat,∃W:Option Addr,∃X c1:Nat,t<=ps.length/\i=.int U t/\o=θ W X c1/\Hid (OwnP wx (w.heap.size+1) (θ W X c1) (BW .dflt ps q t)/\ε (w.heap.size+1) wo wx)) (fun _ i _=>ps.length-(intOf i).toNat)
   case atStart=>exact⟨0,ζ,0,0,ξ _,rfl,rfl,Ab ⟨OwnP.nil _ _,γ _ _⟩⟩
   case round=>
    obtain⟨t,W,X,c1,ht,rfl,rfl,y⟩:=hrel;by_cases N:t<ps.length
    ·have P:=Aa HC _ (Aa y).2 t N
     have hR:=(Aa Y).trans ((Aa y).2.mono (Θ _));obtain⟨b,off,rfl,B⟩:=(Aa Hh).at N;have aa:b<w.heap.size:=World.block_lt_of_cell? w _ (B t N).1;obtain⟨ai,aj,ab,ak,al,am,an⟩:=(B t N).belowB hR aa;have aq:(t:Int)<(ps.length:Int):=by omega
     have K:w.heap.size+1<=wr.heap.size:=Δ T (Aa y).2.size;have ao:(BW .dflt ps q t).length<=600:=by
      have:∀t,(BW .dflt ps q t).length<=2*t:=fun t=>by
       induction t with
       |zero=>exact ξ _
       |succ t ih=>
        by_cases z:q.getD t 0=0
        ·rw[Fm z];omega
        ·by_cases z2:q.getD t 0%2=0
         ·rw[ER z z2];simp only[Γ,ψ];omega
         ·rw[Ed z z2];simp only[Γ,ψ];omega
      have:=this t;omega
     clear hR B;have I:=Ab (fun h=>Fm (dd:=.dflt) (l:=ps) (c:=q) (k:=t) h);have H:=Ab (fun h h2=>ER (dd:=.dflt) (l:=ps) (c:=q) (k:=t) h h2);have J:=Ab (fun h h2=>Ed (dd:=.dflt) (l:=ps) (c:=q) (k:=t) h h2);have a4:=Aa ag t;generalize q.getD t 0=x at*;generalize ps.getD t .dflt=p at*;generalize hT:BW .dflt ps q t=us at*;by_cases z:x=0
     ·subst z
      have C:=Ab (Aa I rfl);clear I H J;go_wp2;go_roundw
      case rel=>exact⟨t+1,W,X,c1,by omega,by go_num,rfl,Ab (by rw[Aa C];exact Aa y)⟩
      case measure=>simp[intOf];omega
     ·have z':¬((x:Int)=0):=by omega
      by_cases z2:x%2=0
      ·have C:=Ab (Aa H z z2)
       clear I H J;have ae:((x:Nat):Int).tmod 2=0:=by rw[show((x:Nat):Int).tmod 2=((x%2:Nat):Int) from(Int.ofNat_tmod x 2).symm];omega
       go_wp2_with (first|(at_builtin;refine N1 rfl (.tmp 44) (.tmp 49) rfl (w.heap.size+1) (θ W X c1) us p rfl rfl (Aa y).1 K (by omega) ?_;intro g4 c4 w4 u D _;have A:=OwnP.grownLow (Aa y).1 D K;obtain⟨m4,s⟩:∃m,m=us.length+1:=⟨_,rfl⟩;rw[<-s]at u;rw[<-s];clear s;have r:=Ab (And.intro u ((Aa y).2.trans A));obtain⟨ar,au,av,aw,ax,ay,az⟩:=AT.belowB (p:=p) ⟨ai,aj,ab,ak,al,am,an⟩ A (Nat.lt_succ_of_lt aa);clear u D A)|(at_builtin;refine N1 rfl (.tmp 54) (.tmp 59) rfl (w.heap.size+1) (.slice (δ ⟨g4,0,ζ⟩) m4 c4) (us++[p]) p rfl rfl (Aa r).1 (Δ T (Aa r).2.size) (by simp;omega) ?_;intro g5 c5 w5 S ac _;have Z:=OwnP.grownLow (Aa r).1 ac (Δ T (Aa r).2.size);obtain⟨m5,R⟩:∃m,m=(us++[p]).length+1:=⟨_,rfl⟩;rw[<-R]at S;rw[<-R];clear R;have ah:=Ab (And.intro S ((Aa r).2.trans Z));clear S ac Z));go_roundw
       case rel=>exact⟨t+1,δ ⟨g5,0,ζ⟩,m5,c5,by omega,by go_num,rfl,Ab (by rw[Aa C];exact Aa ah)⟩
       case measure=>simp[intOf];omega
      ·have C:=Ab (Aa J z z2)
       clear I H J;have ae:¬((x:Nat):Int).tmod 2=0:=by rw[show((x:Nat):Int).tmod 2=((x%2:Nat):Int) from(Int.ofNat_tmod x 2).symm];omega
       go_wp2_with (first|(at_builtin;refine N1 rfl (.tmp 44) (.tmp 49) rfl (w.heap.size+1) (θ W X c1) us p rfl rfl (Aa y).1 K (by omega) ?_;intro g4 c4 w4 u D _;have A:=OwnP.grownLow (Aa y).1 D K;obtain⟨m4,s⟩:∃m,m=us.length+1:=⟨_,rfl⟩;rw[<-s]at u;rw[<-s];clear s;have r:=Ab (And.intro u ((Aa y).2.trans A));clear u D A));go_roundw
       case rel=>exact⟨t+1,δ ⟨g4,0,ζ⟩,m4,c4,by omega,by go_num,rfl,Ab (by rw[Aa C];exact Aa r)⟩
       case measure=>simp[intOf];omega
    ·obtain rfl:t=ps.length:=by omega
     rw[Aa af]at y;go_wp2;go_ret;exact⟨_,rfl,(Aa y).1.mono (Θ _),(Aa Y).trans ((Aa y).2.mono (Θ _))⟩
end Go.Proofs.YtfpmnekaockodaaGreatDoor
