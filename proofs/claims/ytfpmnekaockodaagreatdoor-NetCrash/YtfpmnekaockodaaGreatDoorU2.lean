/- Laws for the proof. -/
import Derived.Test.YtfpmnekaockodaaGreatDoorU1
import Derived.RegionTactic
import Derived.Lib.SliceRun
set_option linter.all false
open Go.Proofs.Tryz
open List renaming replicate->U,getD_eq_getElem?_getD->α,getElem?_eq_getElem->β,length_replicate->δ,length_set->ς,getElem_of_mem->υ,range->Γ
open Nat renaming testBit_lt_two_pow->γ,eq_of_testBit_eq->μ,pow_le_pow_right->ν,testBit_and->ξ,lt_or_ge->π,and_le_left->ρ,testBit_xor->σ,pow_lt_pow_right->τ,testBit_two_pow->φ,lt_of_le_of_lt->χ,lt_of_lt_of_le->ψ,le_refl->Α
open Go.Proofs.Tryz renaming prog->ε
open Go.Value renaming slice->ζ,int->η,int->ω
open Go.Ending renaming returned->θ
open Option renaming none->ι,some->ο,getD_some->Β
open Go renaming World->κ
namespace Go.Proofs.YtfpmnekaockodaaGreatDoor
open Go.RowKit Go.Sort
set_option maxRecDepth 4000
set_option maxHeartbeats 8000000
variable {on:Bool}{i k:Int}{xs:List Nat}{B g cap q:Nat}{w:κ}
def sizeOfK(k:Int):Nat:=if k<1\/128<k then 0 else((k+63)/64).toNat
def Hr(k:Int)(w:κ):
  Calls ε 176 #[η .i64 k] w fun e w'=>e=θ (η .i64 ((sizeOfK k:Nat):Int))/\w'=w:=by
 by_cases c:k<1
 ·have e:sizeOfK k=0:=by unfold sizeOfK;rw[if_pos (.inl c)]
  rw[e];go_enter func176,ntmps176;go_wp2;go_ret;exact⟨rfl,rfl⟩
 ·by_cases d:128<k
  ·have e:sizeOfK k=0:=by unfold sizeOfK;rw[if_pos (.inr d)]
   rw[e];go_enter func176,ntmps176;go_wp2;go_ret;exact⟨rfl,rfl⟩
  ·have e:((sizeOfK k:Nat):Int)=(k+64-1)/64:=by unfold sizeOfK;rw[if_neg (by omega)];omega
   have a:=Ab e;clear e;go_enter func176,ntmps176;go_wp2;go_ret;exact⟨Cu (Aa a).symm,rfl⟩
def E7(xs:List Nat)(i:Int)(on:Bool):List Nat:=if i<0 then xs else By xs i.toNat on
def QH(x:Nat)(i:Int)(a:x<18446744073709551616):bits .or .u64 (x:Int) ((2^(i%64).toNat:Nat):Int)=((setW x (i%64).toNat true:Nat):Int):=by
 have h:(i%64).toNat<64:=by omega
 have c:2^(i%64).toNat<2^64:=τ (by decide) h;rw[u64_or_nat x _ a (by omega),Xk]
def gi(x:Nat)(i:Int)(a:x<18446744073709551616):bits .andNot .u64 (x:Int) ((2^(i%64).toNat:Nat):Int)=((setW x (i%64).toNat false:Nat):Int):=by
 have h:(i%64).toNat<64:=by omega
 have c:2^(i%64).toNat<2^64:=τ (by decide) h;rw[u64_andNot_nat x _ a (by omega),ea x _ a h]
def Mx(i:Int)(q:Nat)(a:0<=i)(d:i<=9223372036854775807)(c:i/64=(q:Int)):IntKind.i64.wrap (i.tdiv 64)=(q:Int):=by
 rw[Int.tdiv_eq_ediv_of_nonneg a,c];simp[IntKind.wrap,IntKind.bits,IntKind.signed];omega
def UV{wr:κ}(h:0<=i)(l:i/64=(q:Int))(f:Ac xs)(c:B<=g)(e:Own wr B (ζ (ο ⟨g,0,ι⟩) xs.length cap) xs)(d:Below B w wr):
  Own (wr.setCell ⟨g,q,ι⟩ (η .u64 ((setW (xs.getD q 0) (i%64).toNat on:Nat):Int))) B (ζ (ο ⟨g,0,ι⟩) xs.length cap) (E7 xs i on)/\
  Below B w (wr.setCell ⟨g,q,ι⟩ (η .u64 ((setW (xs.getD q 0) (i%64).toNat on:Nat):Int))):=by
 have a:=e.stored q (setW (xs.getD q 0) (i%64).toNat on) (MM _ _ _ (f.get _) (by omega));refine⟨?_,d.setCell (by exact c) _⟩;unfold E7 By;rw[if_neg (by omega),show i.toNat/64=q by omega,show i.toNat%64=(i%64).toNat by omega];exact a
def Own.drew{v:Value}(h:Own w B v xs):Own w.drew B v xs:=⟨h.1,h.2.drew⟩
def Ts{wr:κ}(a:0<=i)(l:i/64=(q:Int))(m:Ac xs)(e:B<=g)(h:Own wr B (ζ (ο ⟨g,0,ι⟩) xs.length cap) xs)(f:Below B w wr):
  Own (wr.setCell ⟨g,q,ι⟩ (η .u64 ((setW (xs.getD q 0) (i%64).toNat on:Nat):Int))).drew B (ζ (ο ⟨g,0,ι⟩) xs.length cap) (E7 xs i on)/\
  Below B w (wr.setCell ⟨g,q,ι⟩ (η .u64 ((setW (xs.getD q 0) (i%64).toNat on:Nat):Int))).drew:=by
 obtain⟨c,d⟩:=UV (on:=on) a l m e h f;exact⟨c.drew,d.drew⟩
def rA(h:¬(0<=i/\i/64<(xs.length:Int))):E7 xs i on=xs:=by
 unfold E7;split
 ·rfl
 ·exact qy xs _ on (by omega)
def Xt(a:Option Addr)(n c:Nat)(xs:List Nat)(i:Int)(on:Bool)(w:κ)(h:RowAt w a n xs)(Y:n<=1048576)(D:i<=9223372036854775807):
  Calls ε 234 #[ζ a n c,η .i64 i,.bool on] w fun e w'=> ∃v,e=θ v/\Own w' w.heap.size v (E7 xs i on)/\Below w.heap.size w w':=by
 obtain rfl:n=xs.length:=h.1.symm;by_cases f:0<=i/\i/64<(xs.length:Int)
 ·obtain⟨d,H⟩:=f
  obtain⟨q,I⟩:=Int.eq_ofNat_of_zero_le (show 0<=i/64 by omega);have W:=Mx i q d D I;have V:q<xs.length:=by omega
  have N:(q:Int)<(xs.length:Int):=by omega
  have J:=Ab (fun wx=>Wj i d D wx);go_enter func234,ntmps234;go_wp2_with fail;refine(Hj a xs.length c xs _ h (by omega)).mono ?_;rintro e w1 ⟨v,rfl,l,s⟩;have p:=Ab l;obtain⟨g,cap,rfl,r,S,u,A⟩:=l.at (by omega);have E:=u q (by omega);have R:=A q;have O:=h.2.1.get q;have o:=LY (ο ⟨g,0,ι⟩) xs.length cap i d D w1;rw[show decide (i/64<(xs.length:Int))=true by simp;omega]at o;have C:=Ab o;clear o u A l H;have K:=Ab (Ts (on:=true) d I h.2.1 r (Aa p) s);have L:=Ab (Ts (on:=false) d I h.2.1 r (Aa p) s);have T:=QH (xs.getD q 0) i O;have Q:=gi (xs.getD q 0) i O;generalize (2^(i%64).toNat:Nat)=mk at*;generalize xs.getD q 0=x at*;generalize setW x (i%64).toNat true=y at*;generalize setW x (i%64).toNat false=z at*;clear p h s;cases on with
  |true=>
   go_wp2_with (go_at_call 268;refine(Aa C).mono ?_;rintro e w' ⟨rfl,rfl⟩);go_region_with (go_at_call 269;refine(Aa J _).mono ?_;rintro e w' ⟨rfl,rfl⟩)
   all_goals go_wp2
   all_goals go_ret
   all_goals exact⟨_,rfl,(Aa K).1,(Aa K).2⟩
  |false=>
   go_wp2_with (go_at_call 268;refine(Aa C).mono ?_;rintro e w' ⟨rfl,rfl⟩);go_region_with (go_at_call 269;refine(Aa J _).mono ?_;rintro e w' ⟨rfl,rfl⟩)
   all_goals go_wp2
   all_goals go_ret
   all_goals exact⟨_,rfl,(Aa L).1,(Aa L).2⟩
 ·have o:∀(m:Option Addr) (c1:Nat) (wx:κ),Calls ε 268 #[ζ m xs.length c1,η .i64 i] wx fun e w'=>e=θ (.bool false)/\w'=wx:=by
   intro m c1 wx;by_cases d:0<=i
   ·have:=LY m xs.length c1 i d D wx
    rwa[show decide (i/64<(xs.length:Int))=false by simp;omega]at this
   ·exact SX m xs.length c1 i (by omega) wx
  have C:=Ab o;have P:=Ab (rA (on:=on) f);clear o f;go_enter func234,ntmps234;go_wp2_with fail;refine(Hj a xs.length c xs _ h (by omega)).mono ?_;rintro e w1 ⟨v,rfl,l,s⟩;have p:=Ab l;obtain⟨m,c1,rfl,X⟩:=l.row;clear l X;go_wp2_with (go_at_call 268;refine(Aa C m c1 _).mono ?_;rintro e w' ⟨rfl,rfl⟩);go_ret;exact⟨_,rfl,by rw[Aa P];exact Aa p,s⟩
def C2(xs:List Nat):Nat->Nat->List Nat
 |_,0=>xs
 |o,m+1=>C2 (xs.set o 0) (o+1) m
def Iq:∀(m o:Nat) (xs:List Nat),(C2 xs o m).length=xs.length
 |0,_,_=>rfl
 |m+1,o,xs=>by rw[C2,Iq m];simp
def KW:∀(m o:Nat) (xs:List Nat) (j:Nat),(C2 xs o m).getD j 0=if o<=j/\j<o+m then 0 else xs.getD j 0
 |0,o,xs,j=>by simp[C2];omega
 |m+1,o,xs,j=>by
  rw[C2,KW m (o+1),DT];by_cases a:o+1<=j/\j<o+1+m
  ·rw[if_pos a,if_pos (by omega)]
  ·rw[if_neg a]
   by_cases d:j=o
   ·subst d
    rw[if_pos (c:=j<=j/\j<j+(m+1)) (by omega)];split
    ·rfl
    ·exact Ge (by omega)
   ·rw[if_neg (by omega),if_neg (by omega)]
def Own.cleared{B g cap:Nat}:∀(m o:Nat) (xs:List Nat) (w:κ),Own w B (ζ (ο ⟨g,0,ι⟩) xs.length cap) xs->
  Own (w.setCells g o (U m (η .u64 0))) B (ζ (ο ⟨g,0,ι⟩) xs.length cap) (C2 xs o m)
 |0,_,_,_,h=>h
 |m+1,o,xs,w,h=>by
  have c:=h.stored o 0 (by decide);have a:=Own.cleared m (o+1) (xs.set o 0) (w.setCell ⟨g,o,ι⟩ (η .u64 0)) (by simpa using c);rw[List.replicate_succ];have d:(xs.set o 0).length=xs.length:=by simp
  rw[d]at a;exact a
def Below.cells{B g:Nat}{w0:κ}(a:B<=g):∀(vs:List Value) (o:Nat) (w:κ),Below B w0 w->Below B w0 (w.setCells g o vs)
 |[],_,_,h=>h
 |v::r,o,w,h=>Below.cells a r (o+1) (w.setCell ⟨g,o,ι⟩ v) (h.setCell (by exact a) v)
def fmask(r:Nat):Nat:=18446744073709551615*2^r%18446744073709551616
def qj(r:Nat):fmask r<18446744073709551616:=Nat.mod_lt _ (by decide)
def XG(w:κ):(zeroValue 265).run ε w=.ok (η .u64 0) w:=by kernel_rfl
def Ug{w1:κ}(m:Own w1 B (ζ (ο ⟨g,0,ι⟩) xs.length cap) xs)(n:q<=xs.length):
  ∀d,(Builtin.clear_ #[40] d #[ζ (ο ⟨g,0,ι⟩) q cap]).run ε w1=.ok (.tuple #[]) (w1.setCells g 0 (U q (η .u64 0))):=by
 intro d;by_cases e:q=0
 ·subst e
  simp[Builtin.clear_,run_underlying underlying40,World.setCells]
 ·obtain⟨g',f,h,_,_,a,c⟩:=m.at (by omega)
  simp only[Value.slice.injEq,Option.some.injEq,Addr.mk.injEq,and_true,true_and]at h;obtain⟨rfl,rfl⟩:=h;exact Lib.run_clear_slice w1 40 265 d (η .u64 0) underlying40 XG rfl rfl g 0 q cap (by omega) (fun j l=>by rw[Nat.zero_add,a j (by omega)];rfl) (fun j l=>by rw[Nat.zero_add];exact c j)
def qn(x r:Nat)(a:x<18446744073709551616):bits .and .u64 (x:Int) (IntKind.u64.wrap (18446744073709551615*2^r))=((x&&&fmask r:Nat):Int):=by
 have e:IntKind.u64.wrap (18446744073709551615*2^r)=((fmask r:Nat):Int):=by
  rw[IntKind.wrap_u64];unfold fmask;simp
 rw[e,u64_and_nat x _ a (qj r)]
def Yi(a:Option Addr)(n c:Nat)(xs:List Nat)(k:Int)(q:Nat)(w:κ)(h:RowAt w a n xs)(hn:n<=1048576)(T:0<=k)(Y:k<=9223372036854775807)(Z:k/64=(q:Int))(aa:q<n):
  Calls ε 209 #[ζ a n c,η .i64 k] w fun e w'=> ∃v,e=θ v/\Own w' w.heap.size v ((C2 xs 0 q).set q (xs.getD q 0&&&fmask (k%64).toNat))/\Below w.heap.size w w':=by
 obtain rfl:n=xs.length:=h.1.symm;have ab:=Mx k q T Y Z;have Q:(q:Int)<(xs.length:Int):=by omega
 go_enter func209,ntmps209;go_wp2_with fail;refine(Hj a xs.length c xs _ h (by omega)).mono ?_;rintro e w1 ⟨v,rfl,D,N⟩;obtain⟨g,cap,rfl,A,X,I,J⟩:=D.at (by omega);have O:=D.cap;have V:=Ug D (by omega:q<=xs.length);have f:=Own.cleared q 0 xs w1 D;have C:=Below.cells (w0:=w) A (U q (η .u64 0)) 0 w1 N;generalize w1.setCells g 0 (U q (η .u64 0))=w2 at*;have z:=Iq q 0 xs;rw[<-z]at f;obtain⟨g',L,R,_,P,m,o⟩:=f.at (by omega);simp only[Value.slice.injEq,Option.some.injEq,Addr.mk.injEq,and_true,true_and]at R;obtain⟨rfl,rfl⟩:=R;have d:=m q (by omega);have W:=o q;rw[KW,if_neg (by omega)]at d;have s:=qn (xs.getD q 0) (k%64).toNat (h.2.1.get q);have r:xs.getD q 0&&&fmask (k%64).toNat<18446744073709551616:=χ ρ (h.2.1.get q);have l:=f.stored q (xs.getD q 0&&&fmask (k%64).toNat) r;have u:=C.setCell (p:=⟨g,q,ι⟩) (by exact A) (η .u64 ((xs.getD q 0&&&fmask (k%64).toNat:Nat):Int));rw[z]at l;obtain⟨y,K⟩:∃y,y=xs.getD q 0&&&fmask (k%64).toNat:=⟨_,rfl⟩;rw[<-K]at s l u;have H:=Ab l;have E:=Ab u;have S:=Ab K;clear I J m o D f N C h z l u r K;generalize xs.getD q 0=x at s d;go_wp2;go_ret;exact⟨_,rfl,by rw[<-Aa S];exact Aa H,Aa E⟩
def qm(a:Option Addr)(n c:Nat)(xs:List Nat)(k:Int)(w:κ)(h:RowAt w a n xs)(I:n<=1048576)(D:0<n)(y:0<=k)(C:k<=9223372036854775807)(E:k/64=(n:Int)):
  Calls ε 209 #[ζ a n c,η .i64 k] w fun e w'=> ∃v,e=θ v/\Own w' w.heap.size v (C2 xs 0 n)/\Below w.heap.size w w':=by
 obtain rfl:n=xs.length:=h.1.symm;have H:=Mx k xs.length y C E;go_enter func209,ntmps209;go_wp2_with fail;refine(Hj a xs.length c xs _ h (by omega)).mono ?_;rintro e w1 ⟨v,rfl,f,u⟩;obtain⟨g,cap,rfl,p,A,r,s⟩:=f.at (by omega);have x:=f.cap;have z:=Ug f (Α _);have l:=Own.cleared xs.length 0 xs w1 f;have d:=Below.cells (w0:=w) p (U xs.length (η .u64 0)) 0 w1 u;generalize w1.setCells g 0 (U xs.length (η .u64 0))=w2 at*;have o:=Ab l;have m:=Ab d;clear r s f l u d h;go_wp2;go_ret;exact⟨_,rfl,Aa o,Aa m⟩
def Cm(k:Int)(xs:List Nat):Prop:=0<xs.length/\xs.length=sizeOfK k/\∀i,k.toNat<=i->Ah xs i=false
def N4(h:0<sizeOfK k):1<=k/\k<=128/\sizeOfK k=((k+63)/64).toNat:=by
 unfold sizeOfK at*;split at h
 ·omega
 ·rename_i a
  rw[if_neg a];omega
def TM(r t:Nat)(ht:t<64):(fmask r).testBit t=decide (r<=t):=by
 unfold fmask;rw[show(18446744073709551616:Nat)=2^64 from rfl,Nat.testBit_mod_two_pow,Nat.testBit_mul_two_pow,show(18446744073709551615:Nat)=2^64-1 from rfl,Nat.testBit_two_pow_sub_one];simp[ht];omega
def jr(x r:Nat)(d:x<18446744073709551616):(x&&&fmask r=0)↔∀t,t<64->r<=t->x.testBit t=false:=by
 constructor
 ·intro h t ht a
  have c:(x&&&fmask r).testBit t=false:=by rw[h];simp
  rw[ξ,TM r t ht]at c;simpa [a]using c
 ·intro h
  apply μ;intro t;rw[ξ,Nat.zero_testBit];by_cases ht:t<64
  ·rw[TM r t ht]
   by_cases a:r<=t
   ·simp[h t ht a]
   ·simp[a]
  ·have:x.testBit t=false:=γ (ψ (show x<2^64 by omega) (ν (by decide) (by omega)))
   simp[this]
def nu(c:0<xs.length)(d:xs.length=sizeOfK k)(e:k/64=(xs.length:Int)):cnt (C2 xs 0 xs.length)=0/\Cm k xs:=by
 constructor
 ·apply NP
  intro i a;rw[Iq]at a;rw[KW,if_pos (by omega)]
 ·exact⟨c,d,fun i a=>EV xs i (by omega)⟩
def X9(l:Ac xs)(o:0<xs.length)(u:xs.length=sizeOfK k)(x:0<=k)(y:k/64=(q:Int))(f:q<xs.length):
  cnt ((C2 xs 0 q).set q (xs.getD q 0&&&fmask (k%64).toNat))=0↔Cm k xs:=by
 have hp:=N4 (k:=k) (by omega);have s:q+1=xs.length:=by omega
 have v:Ac ((C2 xs 0 q).set q (xs.getD q 0&&&fmask (k%64).toNat)):=by
  have m:Ac (C2 xs 0 q):=by
   intro z m;obtain⟨i,c,rfl⟩:=υ m;have a:=KW q 0 xs i;have p:(C2 xs 0 q).getD i 0=(C2 xs 0 q)[i]:=by simp[α,β c]
   have r:=l.get i;rw[p]at a;show(C2 xs 0 q)[i]<18446744073709551616;rw[a];split
   ·decide
   ·exact r
  exact m.set _ _ (χ ρ (l.get q))
 have n:cnt ((C2 xs 0 q).set q (xs.getD q 0&&&fmask (k%64).toNat))=0↔xs.getD q 0&&&fmask (k%64).toNat=0:=by
  constructor
  ·intro h
   have a:=(Kk _).1 (Sx _ v h) q;rw[DT,if_pos ⟨rfl,by rw[Iq];exact f⟩]at a;exact a
  ·intro h
   apply NP;intro i c;rw[ς,Iq]at c;rw[DT];split
   ·exact h
   ·rw[KW,if_pos]
    rename_i e;rw[Iq]at e;omega
 rw[n,jr _ _ (l.get q)];constructor
 ·intro h
  refine⟨o,u,fun i c=>?_⟩;by_cases d:64*xs.length<=i
  ·exact EV xs i d
  ·unfold Ah
   rw[show i/64=q by omega];exact h (i%64) (by omega) (by omega)
 ·intro h t ht A
  have:=h.2.2 (64*q+t) (by omega);rwa[MQ xs q t ht]at this
def EQ(e:Ending)(P:Prop):Prop:=∃b,e=θ (.bool b)/\(b=true↔P)
def EQ.no{P:Prop}(h:¬P):EQ (θ (.bool false)) P:=⟨false,rfl,by simp[h]⟩
def L6(a:Option Addr)(n c:Nat)(xs:List Nat)(k:Int)(w:κ)(h:RowAt w a n xs):
  Calls ε 179 #[η .i64 k,ζ a n c] w fun e w'=>EQ e (Cm k xs)/\Below w.heap.size w w':=by
 obtain rfl:n=xs.length:=h.1.symm;have z:=Ab (Hr k);by_cases C:xs.length=0
 ·have E:((xs.length:Int)==0)=true:=by rw[C];rfl
  have l:=Ab (show¬Cm k xs from fun I=>by have:=I.1;omega);clear h C;go_enter func179,ntmps179;go_wp2;go_ret;exact⟨EQ.no (Aa l),Below.refl _ _⟩
 ·have E:((xs.length:Int)==0)=false:=by simp only[beq_eq_false_iff_ne,ne_eq];omega
  by_cases p:xs.length=sizeOfK k
  ·have hp:=N4 (k:=k) (by omega)
   have H:((xs.length:Int) !=((sizeOfK k:Nat):Int))=false:=by rw[p];simp
   have r:xs.length<=1048576:=by omega
   obtain⟨q,x⟩:=Int.eq_ofNat_of_zero_le (show 0<=k/64 by omega)
   have K:∀q:Nat,((q:Int)==0)=true↔q=0:=fun q=>by
    by_cases e:q=0
    ·subst e;simp
    ·simp[e]
   have J:=Ab K;clear K;by_cases d:q<xs.length
   ·have u:=Ab (X9 h.2.1 (by omega) p (by omega) x d)
    have l:=Ab (fun wx (o:RowAt wx a xs.length xs)=>Yi a xs.length c xs k q wx o r (by omega) (by omega) x d);have f:((C2 xs 0 q).set q (xs.getD q 0&&&fmask (k%64).toNat)).length=xs.length:=by rw[ς,Iq]
    have y:=Ab f;generalize (C2 xs 0 q).set q (xs.getD q 0&&&fmask (k%64).toNat)=res at*;clear x d p f;go_enter func179,ntmps179;go_wp2_with (go_at_call 176;refine(Aa z _).mono ?_;rintro e w' ⟨rfl,rfl⟩);refine(Aa l _ h).mono ?_;rintro e w1 ⟨v,rfl,s,D⟩;obtain⟨A,c1,rfl,o⟩:=s.row;go_wp2_with fail;refine(GO A _ c1 _ _ o (by rw[Aa y];omega)).mono ?_;rintro e w2 ⟨rfl,rfl⟩;clear s;go_wp2;go_ret;exact⟨⟨_,rfl,(Aa J _).trans (Aa u)⟩,D⟩
   ·have m:k/64=(xs.length:Int):=by omega
    have u:=Ab (nu (by omega) p m);have l:=Ab (fun wx (o:RowAt wx a xs.length xs)=>qm a xs.length c xs k wx o r (by omega) (by omega) (by omega) m);have y:=Ab (Iq xs.length 0 xs);generalize C2 xs 0 xs.length=res at*;clear x d m p;go_enter func179,ntmps179;go_wp2_with (go_at_call 176;refine(Aa z _).mono ?_;rintro e w' ⟨rfl,rfl⟩);refine(Aa l _ h).mono ?_;rintro e w1 ⟨v,rfl,s,D⟩;obtain⟨A,c1,rfl,o⟩:=s.row;go_wp2_with fail;refine(GO A _ c1 _ _ o (by rw[Aa y];omega)).mono ?_;rintro e w2 ⟨rfl,rfl⟩;clear s;go_wp2;go_ret;exact⟨⟨_,rfl,(Aa J _).trans ⟨fun _=>(Aa u).2,fun _=>(Aa u).1⟩⟩,D⟩
  ·have H:((xs.length:Int) !=((sizeOfK k:Nat):Int))=true:=by rw[bne_iff_ne];omega
   have l:=Ab (show¬Cm k xs from fun I=>p I.2.1);clear h C p;go_enter func179,ntmps179;go_wp2_with (go_at_call 176;refine(Aa z _).mono ?_;rintro e w' ⟨rfl,rfl⟩);go_ret;exact⟨EQ.no (Aa l),Below.refl _ _⟩
def NZ(n:Nat):Ac (U n 0):=fun x a=>by rw[(List.mem_replicate.1 a).2];show 0<18446744073709551616;decide
def DV(a:0<sizeOfK k):k.toNat<=64*sizeOfK k/\1<=k/\k<=128:=by
 obtain⟨c,d,e⟩:=N4 a;omega
def AX(k:Int)(xs:List Nat):Bool:=decide (0<xs.length)&&decide (xs.length=sizeOfK k)&&(Γ (64*xs.length)).all fun i=>decide (i<k.toNat)|| !Ah xs i
def Hg:AX k xs=true↔Cm k xs:=by
 unfold AX Cm;rw[Bool.and_eq_true,Bool.and_eq_true,decide_eq_true_eq,decide_eq_true_eq,List.all_eq_true,and_assoc];refine and_congr_right fun _=>and_congr_right fun _=>?_;constructor
 ·intro h i a
  by_cases c:i<64*xs.length
  ·have:=h i (List.mem_range.2 c)
   rw[decide_eq_false (by omega)]at this;simpa using this
  ·exact EV xs i (by omega)
 ·intro h i _
  by_cases a:i<k.toNat
  ·simp[a]
  ·rw[h i (by omega)];simp
def GS(h:AX k xs=true):0<sizeOfK k/\xs.length=sizeOfK k/\∀i,Ah xs i=true->i<k.toNat:=by
 obtain⟨f,d,e⟩:=Hg.1 h;refine⟨by omega,d,fun i c=>?_⟩;rcases π i k.toNat with a|a
 ·exact a
 ·rw[e i a]at c;cases c
def NB{e:Ending}(h:EQ e (Cm k xs)):e=θ (.bool (AX k xs)):=by
 obtain⟨b,rfl,c⟩:=h;have:b=AX k xs:=by
  cases a:AX k xs
  ·rw[<-Bool.not_eq_true]
   intro h;rw[Hg.2 (c.1 h)]at a;cases a
  ·exact c.2 (Hg.1 a)
 rw[this]
def unitL(k i:Int):List Nat:=if i<0\/k<=i then []else E7 (U (sizeOfK k) 0) i true
def Ws{w':κ}{n:Nat}(h:w'.ownsRow w.heap.size 265 1 (ζ (ο ⟨w.heap.size,0,ι⟩) n n) n (madeCells (ω .u64 0).cells (n*1)).toList):
  Own w' w.heap.size (ζ (ο ⟨w.heap.size,0,ι⟩) n n) (U n 0):=by
 refine⟨fun x a=>?_,?_⟩
 ·rw[(List.mem_replicate.1 a).2];show 0<18446744073709551616;decide
 ·have e:cellsU (U n 0)=(madeCells (ω .u64 0).cells (n*1)).toList:=by
   rw[show(ω .u64 0).cells=#[ω .u64 0] from rfl,toList_madeCells_one];simp[cellsU]
  rw[e,δ];exact h
def DU(k:Int):sizeOfK k<=2:=by
 unfold sizeOfK;split
 ·omega
 ·omega
def We(k i:Int)(w:κ)(K:i<=9223372036854775807):
  Calls ε 258 #[η .i64 k,η .i64 i] w fun e w'=> ∃v,e=θ v/\Own w' w.heap.size v (unitL k i)/\Below w.heap.size w w':=by
 have J:=Ab (Hr k);by_cases c:i<0\/k<=i
 ·have n:=Ab (show unitL k i=[] from by unfold unitL;rw[if_pos c])
  by_cases R:i<0
  ·have h:decide (i<0)=true:=by simp;omega
   clear c;go_enter func258,ntmps258;go_wp2;go_ret;exact⟨_,rfl,by rw[Aa n];exact Own.nil _ _,Below.refl _ _⟩
  ·have h:decide (i<0)=false:=by simp;omega
   have s:decide (k<=i)=true:=by simp;omega
   clear c;go_enter func258,ntmps258;go_wp2;go_ret;exact⟨_,rfl,by rw[Aa n];exact Own.nil _ _,Below.refl _ _⟩
 ·have n:=Ab (show unitL k i=E7 (U (sizeOfK k) 0) i true from by unfold unitL;rw[if_neg c])
  have h:decide (i<0)=false:=by simp;omega
  have s:decide (k<=i)=false:=by simp;omega
  have S:=DU k;obtain⟨O,u,y,z,A⟩:=info_parts KX;obtain⟨E,D,d,a⟩:=run_make_full (P:=ε) w w.heap.size 40 265 O (η .u64 0) 1 underlying40 u y z .i64 .i64 (sizeOfK k) (by rw[A];omega) (by unfold maxLen;omega) (Α _);have C:=Ws d;have p:Below w.heap.size w E:=(Below.refl _ _).grown a (Α _) (fun k L=>by cases L);obtain⟨Q,c1,o,x⟩:=C.row;rw[δ]at o x;have m:RowAt E (ο ⟨w.heap.size,0,ι⟩) (sizeOfK k) (U (sizeOfK k) 0):=by
   simp only[Value.slice.injEq]at o;rw[o.1];exact x
  clear c d a C o x;go_enter func258,ntmps258;go_wp2_with (go_at_call 176;refine(Aa J _).mono ?_;rintro e w' ⟨rfl,N⟩;obtain rfl:=N.symm);refine(Xt _ _ _ _ _ _ _ m (by omega) K).mono ?_;rintro e w2 ⟨v,rfl,l,f⟩;have I:=Ab l;have H:=Ab (p.trans (f.mono p.size));clear l f m;have r:=p.size;go_wp2;go_ret;exact⟨_,rfl,by rw[Aa n];exact(Aa I).mono r,Aa H⟩
variable {k:Int}{bs:List ByteArray}{xs kn:List Nat}{rs:List RV}{b j:Nat}
def anW(x y:Nat):Nat:=x^^^(x&&&y)
def WI(x y i:Nat):(anW x y).testBit i=(x.testBit i&& !y.testBit i):=by
 unfold anW;rw[σ,ξ];cases x.testBit i<;>cases y.testBit i<;>rfl
def QK(x y:Nat)(a:x<18446744073709551616):anW x y<18446744073709551616:=by
 unfold anW;have:x&&&y<=x:=ρ;exact Nat.xor_lt_two_pow (n:=64) (by omega) (by omega)
def pT(x:Nat):anW x 0=x:=by simp[anW]
def YP(x y:Nat)(c:x<18446744073709551616)(d:y<18446744073709551616):bits .andNot .u64 (x:Int) (y:Int)=((anW x y:Nat):Int):=by
 rw[u64_andNot_nat x y c d];congr 1;apply μ;intro i;rw[WI,ξ,show 18446744073709551615-y=2^64-(y+1) by omega,Nat.testBit_two_pow_sub_succ (by omega)];by_cases a:i<64
 ·simp[a]
 ·have e:x.testBit i=false:=γ (ψ (show x<2^64 by omega) (ν (by decide) (by omega)))
  simp[e]
def qX{a b:List Nat}(f:a.length=b.length)(d:Ac a)(e:Ac b)(h:∀i,Ah a i=Ah b i):a=b:=by
 apply Ee f;intro i _;apply μ;intro j;by_cases c:j<64
 ·have:=h (64*i+j)
  rwa[MQ a i j c,MQ b i j c]at this
 ·have hp:(2:Nat)^64<=2^j:=ν (by decide) (by omega)
  have l:=d.get i;have m:=e.get i;rw[γ (by omega),γ (by omega)]
def XW{a b:List Nat}(h:∀i,Ah a i=Ah b i):∀n,Bp a n=Bp b n
 |0=>rfl
 |n+1=>by unfold Bp;rw[XW h n,h n]
def JG{vs:List Nat}:∀n,Bp vs n=0↔∀i,i<n->Ah vs i=false
 |0=>by simp[Bp]
 |n+1=>by
  unfold Bp;constructor
  ·intro h i d
   have a:=(JG (vs:=vs) n).1 (by omega);by_cases e:i=n
   ·subst e;cases c:Ah vs i
    ·rfl
    ·rw[c]at h;simp at h
   ·exact a i (by omega)
  ·intro h
   rw[(JG n).2 (fun i d=>h i (by omega)),h n (by omega)];rfl
def VG{vs:List Nat}:∀n,Bp vs n=1↔∃b,b<n/\Ah vs b=true/\∀i,i<n->i≠b->Ah vs i=false
 |0=>by simp[Bp]
 |n+1=>by
  unfold Bp;cases f:Ah vs n
  ·simp only[Bool.false_eq_true,if_false,Nat.add_zero]
   rw[VG n];constructor
   ·rintro⟨b,o,c,d⟩
    refine⟨b,by omega,c,fun i m a=>?_⟩;by_cases e:i=n
    ·rw[e];exact f
    ·exact d i (by omega) a
   ·rintro⟨b,o,c,d⟩
    have:b≠n:=fun e=>by rw[e,f]at c;cases c
    exact⟨b,by omega,c,fun i m a=>d i (by omega) a⟩
  ·simp only[if_true]
   constructor
   ·intro h
    have c:=(JG n).1 (show Bp vs n=0 by omega);exact⟨n,by omega,f,fun i m a=>c i (by omega)⟩
   ·rintro⟨b,o,c,d⟩
    have l:b=n:=by
     by_cases e:b=n
     ·exact e
     ·have:=d n (by omega) (Ne.symm e);rw[f]at this;cases this
    subst l;rw[(JG b).2 (fun i m=>d i (by omega) (by omega))]
def Pa:cnt xs=0↔∀i,Ah xs i=false:=by
 rw[Mw,JG];constructor
 ·intro h i
  by_cases a:i<64*xs.length
  ·exact h i a
  ·exact EV xs i (by omega)
 ·exact fun h i _=>h i
def Yw:cnt xs=1↔∃b,∀i,Ah xs i=decide (i=b):=by
 rw[Mw,VG];constructor
 ·rintro⟨b,a,f,l⟩
  refine⟨b,fun i=>?_⟩;by_cases e:i=b
  ·rw[e,f];simp
  ·rw[decide_eq_false e]
   by_cases m:i<64*xs.length
   ·exact l i m e
   ·exact EV xs i (by omega)
 ·rintro⟨b,h⟩
  have a:Ah xs b=true:=by rw[h b];simp
  refine⟨b,?_,a,fun i _ d=>by rw[h i,decide_eq_false d]⟩;rcases π b (64*xs.length)with c|c
  ·exact c
  ·rw[EV xs b c]at a;cases a
def S8:∀{xs:List Nat},Ac xs->(∃i,Ah xs i=true)->∃f:Nat,firstI xs=(f:Int)/\Ah xs f=true/\∀j,j<f->Ah xs j=false
 |[],_,h=>by
  obtain⟨i,c⟩:=h;rw[Vl]at c;cases c
 |x::r,n,h=>by
  have e:x<18446744073709551616:=n x List.mem_cons_self;by_cases a:x=0
  ·subst a
   obtain⟨i,c⟩:=h;have l:64<=i:=by
    rcases π i 64 with d|d
    ·rw[Kt 0 r i d]at c;simp at c
    ·exact d
   obtain⟨f,o,p,s⟩:=S8 (xs:=r) (fun y u=>n y (List.mem_cons_of_mem _ u)) ⟨i-64,by rw[<-LI 0 r (i-64),show 64+(i-64)=i by omega];exact c⟩;refine⟨64+f,?_,by rw[LI];exact p,fun j m=>?_⟩
   ·simp only[firstI]
    rw[o];simp;omega
   ·rcases π j 64 with d|d
    ·rw[Kt 0 r j d];simp
    ·have:=s (j-64) (by omega)
     rw[<-LI 0 r (j-64),show 64+(j-64)=j by omega]at this;exact this
  ·refine⟨Lib.ctz 64 x,by simp[firstI,a],?_,fun j m=>?_⟩
   ·rw[Kt x r _ (M0 x a e)];exact WM x a e
   ·rw[Kt x r _ (by have:=M0 x a e;omega)];exact WN x j a e m
def gf(d:Ac xs)(h:∀i,Ah xs i=decide (i=b)):firstI xs=(b:Int):=by
 obtain⟨f,c,a,_⟩:=S8 d ⟨b,by rw[h b];simp⟩;rw[h f]at a;rw[c,of_decide_eq_true a]
def Iy(xs:List Nat)(i j:Nat)(on:Bool)(h:i<64*xs.length):Ah (By xs i on) j=if j=i then on else Ah xs j:=by
 unfold Ah By;rw[DT];by_cases e:j/64=i/64
 ·rw[if_pos ⟨e,by omega⟩,e]
  unfold setW;by_cases a:j=i
  ·subst a
   rw[if_pos rfl];split
   ·assumption
   ·rename_i d
    rw[σ,φ];simp only[decide_true];cases f:(xs.getD (j/64) 0).testBit (j%64)<;>rw[f]at d<;>cases on<;>simp_all
  ·rw[if_neg a]
   have c:¬i%64=j%64:=by omega
   split
   ·rfl
   ·rw[σ,φ]
    simp[c]
 ·rw[if_neg (by omega),if_neg (fun a=>e (by rw[a]))]
def Jx(n i:Nat):Ah (U n 0) i=false:=by
 unfold Ah;rw[show(U n 0).getD (i/64) 0=0 from ?_]
 ·simp
 ·rw[α]
  by_cases h:i/64<n
  ·simp[h]
  ·simp[h]
def SK(h:Ac xs)(i:Nat)(on:Bool):Ac (By xs i on):=h.set _ _ (MM _ _ _ (h.get _) (by omega))
def Qe(a:(b:Int)<k):unitL k b=By (U (sizeOfK k) 0) b true:=by
 unfold unitL E7;rw[if_neg (by omega),if_neg (by omega),Int.toNat_natCast]
def JL(a:(b:Int)<k):(unitL k b).length=sizeOfK k:=by
 rw[Qe a,Iu,δ]
def I7(c:0<sizeOfK k)(a:(b:Int)<k)(i:Nat):Ah (unitL k b) i=decide (i=b):=by
 have:=DV c;rw[Qe a,Iy _ _ _ _ (by rw[δ];omega),Jx];by_cases e:i=b
 ·simp[e]
 ·simp[e]
def Fh(a:(b:Int)<k):Ac (unitL k b):=by rw[Qe a];exact SK (NZ _) _ _
def dropL(v kn:List Nat):List Nat:=(Γ v.length).map fun i=>anW (v.getD i 0) (kn.getD i 0)
def Jv(v kn:List Nat):(dropL v kn).length=v.length:=by simp[dropL]
def Oo(v kn:List Nat)(i:Nat):(dropL v kn).getD i 0=anW (v.getD i 0) (kn.getD i 0):=by
 unfold dropL;rw[LH];split
 ·rfl
 ·rw[Ge (a:=v) (by omega)];simp[anW]
def Hk(v kn:List Nat)(i:Nat):Ah (dropL v kn) i=(Ah v i&& !Ah kn i):=by
 unfold Ah;rw[Oo,WI]
def Hn{v:List Nat}(h:Ac v)(kn:List Nat):Ac (dropL v kn):=by
 intro x c;obtain⟨i,a,rfl⟩:=υ c;have:=Oo v kn i;rw[α,β a]at this;simp only[Β]at this;rw[this];exact QK _ _ (h.get i)
def Gs(v kn:List Nat)(k:Nat):List Nat:=(Γ v.length).map fun i=>if i<k then anW (v.getD i 0) (kn.getD i 0)else v.getD i 0
def Gg(v kn:List Nat)(k:Nat):(Gs v kn k).length=v.length:=by simp[Gs]
def Kp(v kn:List Nat)(k i:Nat)(h:i<v.length):(Gs v kn k).getD i 0=if i<k then anW (v.getD i 0) (kn.getD i 0)else v.getD i 0:=by
 unfold Gs;rw[LH,if_pos h]
def fY(v kn:List Nat):Gs v kn 0=v:=by
 apply Ee (Gg v kn 0);intro i h;rw[Kp v kn 0 i (by rwa[Gg]at h)];simp
def fX(v kn:List Nat)(k:Nat)(d:k<v.length):(Gs v kn k).set k (anW (v.getD k 0) (kn.getD k 0))=Gs v kn (k+1):=by
 apply Ee
 ·simp[Gg]
 ·intro i h
  have c:i<v.length:=by simpa [Gg]using h
  rw[DT,Kp v kn k i c,Kp v kn (k+1) i c,Gg];by_cases e:i=k
  ·subst e;simp[d]
  ·simp only[e,false_and,if_false]
   by_cases a:i<k
   ·simp[a,Nat.lt_succ_of_lt a]
   ·simp[a,show¬i<k+1 by omega]
def gO(v kn:List Nat)(k:Nat)(h:min v.length kn.length<=k):Gs v kn k=dropL v kn:=by
 apply Ee
 ·rw[Gg,Jv]
 ·intro i d
  have c:i<v.length:=by rwa[Gg]at d
  rw[Kp v kn _ i c,Oo];split
  ·rfl
  ·rw[Ge (a:=kn) (by omega),pT]
def fW(v a b:List Nat)(h:∀i,Ah a i=true->Ah b i=true)(c:Ac v):dropL (dropL v a) b=dropL v b:=by
 refine qX (by simp[Jv]) (Hn (Hn c _) _) (Hn c _) fun i=>?_;rw[Hk,Hk,Hk];cases d:Ah a i
 ·simp
 ·rw[h i d];simp
def Dw(bs:List ByteArray)(xs:List Nat)(s:ByteArray):ByteArray:=Ju s (st (Bl bs xs bs.length))
def CE(k:Int)(kn:List Nat)(r:RV):Bool:=AX k r.xs&&decide (cnt (dropL r.xs kn)=1)
def blkOf(kn:List Nat)(r:RV):Nat:=(firstI (dropL r.xs kn)).toNat
def Run(k:Int)(rs:List RV):Nat->List Nat->List ByteArray->Prop
 |0,kn,bs=>kn=U (sizeOfK k) 0/\bs=U k.toNat ByteArray.empty
 |j+1,kn,bs=> ∃a c r,Run k rs j a c/\rs.find? (CE k a)=ο r/\kn=By a (blkOf a r) true/\bs=c.set (blkOf a r) (Dw c r.xs r.s)
def AN(k:Int)(rs:List RV)(kn:List Nat)(bs:List ByteArray):Prop:=(∃j,Run k rs j kn bs)/\rs.find? (CE k kn)=ι
def Run.uniq{k:Int}{rs:List RV}:∀{j:Nat} {kn d:List Nat} {bs c:List ByteArray},Run k rs j kn bs->Run k rs j d c->kn=d/\bs=c
 |0,_,_,_,_,⟨e,f⟩,⟨h,l⟩=>⟨by rw[e,h],by rw[f,l]⟩
 |j+1,_,_,_,_,⟨a,b,r,e,f,h,l⟩,⟨p,s,u,m,g2,n,o⟩=>by
  obtain⟨rfl,rfl⟩:=Run.uniq e m;rw[f]at g2;obtain rfl:=Option.some.inj g2;exact⟨by rw[h,n],by rw[l,o]⟩
def Run.before{k:Int}{rs:List RV}:∀{d i:Nat} {kn:List Nat} {bs:List ByteArray},Run k rs (i+d+1) kn bs->∃c e r,Run k rs i c e/\rs.find? (CE k c)=ο r
 |0,i,_,_,⟨a,b,r,f,h,_⟩=>⟨a,b,r,f,h⟩
 |d+1,i,_,_,⟨a,b,r,f,h,_⟩=>Run.before (d:=d) f
def AN.uniq{f:List Nat}{c:List ByteArray}(h:AN k rs kn bs)(g:AN k rs f c):kn=f/\bs=c:=by
 obtain⟨⟨j,m⟩,A⟩:=h;obtain⟨⟨i,l⟩,v⟩:=g;have e:∀{a b:Nat} {x p:List Nat} {y s:List ByteArray},Run k rs a x y->rs.find? (CE k x)=ι->Run k rs b p s->¬a<b:=by
  intro a b x p y s n o z C;obtain⟨D,E,r,u,g2⟩:=Run.before (d:=b-a-1) (i:=a) (by rw[show a+(b-a-1)+1=b by omega];exact z);obtain⟨rfl, -⟩:=Run.uniq n u;rw[o]at g2;cases g2
 have n:=e m A l;have o:=e l v m;obtain rfl:i=j:=by omega
 exact m.uniq l
def YN{f:RV->Bool}{p:Nat}(hp:p<rs.length)(h:f (rs.getD p .dflt)=true)(c:∀j,j<p->f (rs.getD j .dflt)=false):rs.find? f=ο (rs.getD p .dflt):=by
 rw[List.find?_eq_some_iff_getElem];rw[α,β hp]at h⊢;refine⟨h,p,hp,rfl,fun j a=>?_⟩;have:=c j a;rw[α,β (by omega)]at this;simpa using this
def Yg{f:RV->Bool}(c:∀j,j<rs.length->f (rs.getD j .dflt)=false):rs.find? f=ι:=by
 rw[List.find?_eq_none];intro r d;obtain⟨i,a,rfl⟩:=List.mem_iff_getElem.1 d;have:=c i a;rw[α,β a]at this;simpa using this
def KO{r:RV}(l:Ac r.xs)(h:CE k kn r=true):
  AX k r.xs=true/\(∀i,Ah (dropL r.xs kn) i=decide (i=blkOf kn r))/\Ah kn (blkOf kn r)=false/\Ah r.xs (blkOf kn r)=true/\blkOf kn r<k.toNat/\firstI (dropL r.xs kn)=(blkOf kn r:Int):=by
 unfold CE at h;rw[Bool.and_eq_true,decide_eq_true_eq,Yw]at h;obtain⟨f,b,c⟩:=h;have d:=gf (Hn l kn) c;have e:blkOf kn r=b:=by unfold blkOf;rw[d,Int.toNat_natCast]
 rw[e];have a:=c b;rw[Hk]at a;simp at a;exact⟨f,c,a.2,a.1,(GS f).2.2 b a.1,d⟩
structure Kn(k:Int)(j:Nat)(kn:List Nat)(bs:List ByteArray):Prop where
 size:0<sizeOfK k
 len:kn.length=sizeOfK k
 small:Ac kn
 lenb:bs.length=k.toNat
 below:∀i,Ah kn i=true->i<k.toNat
 none:∀i,Ah kn i=false->bs.getD i ByteArray.empty=ByteArray.empty
 many:Bp kn k.toNat=j
 short:∀i,(bs.getD i ByteArray.empty).size<=1000
def Kq(ss:List ByteArray)(k i:Nat)(z:ByteArray):(ss.set k z).getD i ByteArray.empty=if i=k/\k<ss.length then z else ss.getD i ByteArray.empty:=by
 rw[α,α,List.getElem?_set];by_cases h:k=i
 ·subst h
  by_cases a:k<ss.length
  ·simp[a]
  ·simp[a]
 ·have c:¬i=k:=fun e=>h e.symm
  simp[h,c]
def VH{xs:List Nat}{b:Nat}(c:b<64*xs.length)(h:Ah xs b=false):∀n,Bp (By xs b true) n=Bp xs n+if b<n then 1 else 0
 |0=>by simp[Bp]
 |n+1=>by
  unfold Bp;rw[VH c h n,Iy _ _ _ _ c];by_cases e:n=b
  ·subst e;simp[h]
  ·rw[if_neg e]
   have d:(if b<n+1 then 1 else 0:Nat)=if b<n then 1 else 0:=by
    by_cases a:b<n
    ·rw[if_pos a,if_pos (by omega)]
    ·rw[if_neg a,if_neg (by omega)]
   rw[d];omega
def QC{ss:List ByteArray}(h:∀i,(ss.getD i ByteArray.empty).size<=1000)(vs:List Nat):∀n,(Bl ss vs n).length<=1000
 |0=>by simp[Bl]
 |n+1=>by
  have:=QC h vs n;have:=h n;unfold Bl;split
  ·rw[BS,AR];omega
  ·assumption
def Ut{s:ByteArray}(h:∀i,(bs.getD i ByteArray.empty).size<=1000)(a:s.size<=1000):(Dw bs xs s).size<=1000:=by
 unfold Dw;rw[UE,Xx (I4 _ _ _)];have:=QC h xs bs.length;omega
def Dx(rs:List RV):Prop:=∀r∈rs,Ac r.xs/\r.s.size<=1000
def Kn.start(d:0<sizeOfK k):Kn k 0 (U (sizeOfK k) 0) (U k.toNat ByteArray.empty):=by
 have a:∀i,(U k.toNat ByteArray.empty).getD i ByteArray.empty=ByteArray.empty:=fun i=>by
  rw[α];by_cases h:i<k.toNat
  ·simp[h]
  ·simp[h]
 exact⟨d,by simp,NZ _,by simp,(fun i c=>by rw[Jx]at c;cases c),fun i _=>a i,(JG _).2 (fun i _=>Jx _ _),fun i=>by rw[a];decide⟩
def Kn.step(h:Kn k j kn bs){r:RV}(m:Ac r.xs)(n:r.s.size<=1000)(ht:CE k kn r=true):
  Kn k (j+1) (By kn (blkOf kn r) true) (bs.set (blkOf kn r) (Dw bs r.xs r.s)):=by
 obtain⟨u,o,l,v,d,p⟩:=KO m ht;have f:=DV h.size;have c:blkOf kn r<64*kn.length:=by rw[h.len];omega
 refine⟨h.size,by rw[Iu];exact h.len,SK h.small _ _,by rw[ς];exact h.lenb,fun i a=>?_,fun i a=>?_,?_,fun i=>?_⟩
 ·rw[Iy _ _ _ _ c]at a
  by_cases e:i=blkOf kn r
  ·rw[e];exact d
  ·rw[if_neg e]at a;exact h.below i a
 ·rw[Iy _ _ _ _ c]at a
  by_cases e:i=blkOf kn r
  ·rw[if_pos e]at a;cases a
  ·rw[if_neg e]at a
   rw[Kq,if_neg (fun h=>e h.1)];exact h.none i a
 ·rw[VH c l,if_pos d,h.many]
 ·rw[Kq]
  split
  ·exact Ut h.short n
  ·exact h.short i
def Run.known{k:Int}{rs:List RV}(h:0<sizeOfK k)(e:Dx rs):∀{j:Nat} {kn:List Nat} {bs:List ByteArray},Run k rs j kn bs->Kn k j kn bs
 |0,_,_,⟨d,c⟩=>by rw[d,c];exact .start h
 |j+1,_,_,⟨a,b,r,d,c,l,m⟩=>by
  have f:=e r (List.mem_of_find?_eq_some c);rw[l,m];exact(Run.known h e d).step f.1 f.2 (List.find?_some c)
def Kn.le(h:Kn k j kn bs):j<=k.toNat:=by
 rw[<-h.many];exact Qf _ _
def Kn.shorts(h:Kn k j kn bs):shorts bs:=by
 intro s c;obtain⟨i,a,rfl⟩:=List.mem_iff_getElem.1 c;have:=h.short i;rw[α,β a]at this;simp only[Β]at this;omega
end Go.Proofs.YtfpmnekaockodaaGreatDoor
