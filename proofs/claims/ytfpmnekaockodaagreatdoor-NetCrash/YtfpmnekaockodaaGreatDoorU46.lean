/- Laws for the proof. -/
import Derived.Test.YtfpmnekaockodaaGreatDoorU45
set_option linter.all false
open Go.Proofs.Tryz
open Go.IntKind renaming i64->U
open Go.Value renaming int->α,string->β,slice->γ,bool->κ,pointer->φ
open Nat renaming zero_le->δ,le_trans->ν,le_refl->ς,not_lt_zero->υ
open True renaming intro->ε
open And renaming intro->ζ
open Go.Proofs.Tryz renaming prog->η
open Option renaming some->θ,none->ι
open Go.Obj renaming cells->μ
open Go.Ending renaming returned->ξ
open Go renaming World->ο,Value->σ,Calls->τ
open Go.RowKit renaming Below->π
open Go.RowKit.Below renaming refl->ρ
namespace Go.Proofs.YtfpmnekaockodaaGreatDoor
open Go.RowKit Go.Sort
set_option maxRecDepth 4000
set_option maxHeartbeats 8000000
variable {ok:Bool}{a b:Int}{fs:List AE}{L:List Nat}{n:Ap}{T T':Az}{g q k k' B:Nat}{P:Nat->Bi}{w w0 w':ο}
def ep{tmps:Array σ}{W:ο}{cs:List σ}(e:tmps.getD 0 undef=.pointer (θ ⟨g,0,ι⟩))(h:BkA 25 W g cs)(f:cs.length=10):(results Tryz.f21 tmps).run η W=.ok (.agg cs.toArray) W:=by
 have d:=h.load underlying25 rfl JO f;have c:tmps[0]?.getD undef=.pointer (θ ⟨g,0,ι⟩):=by simpa using e
 simp[results,Tryz.results21,asAddr,c,d]
def U8(a x y:Nat):∀i,i<(Ey a x y).n->((Ey a x y).ds.getD i .dflt).n<=((Ey a x y).ds.getD i .dflt).c:=fun i d=>by
 have e:i<3:=d;obtain rfl|rfl|rfl:i=0\/i=1\/i=2:=by omega
 ·exact ς 1
 ·exact ς 1
 ·exact ς 0
def U7(w:ο):τ η 21 #[] w fun e w'=> ∃a x y,e=ξ (Ey a x y).val/\BN w' (Ey a x y)/\π w.heap.size w w':=by
 have u:=Ab (show BkA 25 ((((w.alloc (μ #[γ none 0 0,β ⟨#[]⟩,.int U 0,.int U 0,.int U 0,.int U 0,.int U 0,.float .f64 0,.int U 0,.int U 0] 25)).alloc (μ #[.int U 1] 3)).alloc (μ #[.int U 2] 3)).alloc (μ #[.int U 1,γ (θ ⟨w.heap.size+1,0,ι⟩) 1 1,.int U 2,γ (θ ⟨w.heap.size+1+1,0,ι⟩) 1 1,.int U 3,γ none 0 0] 29)) w.heap.size [γ none 0 0,β ⟨#[]⟩,.int U 0,.int U 0,.int U 0,.int U 0,.int U 0,.float .f64 0,.int U 0,.int U 0] from(((AI 25 w [γ none 0 0,β ⟨#[]⟩,.int U 0,.int U 0,.int U 0,.int U 0,.int U 0,.float .f64 0,.int U 0,.int U 0]).below (As _ _)).below (As _ _)).below (As _ _));go_enter func21,ntmps21
 go_wp2_with (first
  |((with_reducible refine Ld 25 25 JO 0 7 w.heap.size 0 _ [γ (θ ⟨w.heap.size+1+1+1,0,ι⟩) 3 3,β ⟨#[97]⟩,.int U 1,.int U 0,.int U 4,.int U 4,.int U 0,.float .f64 4607182418800017408,.int U 5,.int U 1] ?_ ?_ (Aa u) rfl ?_ ?_ ?_);(focus rfl);(focus rfl);(focus exact(show 0+10<=10 by decide));(focus exact(by simp[Value.oneCell']));intro D l c;have p:=Ab l;have o:=Ab c;clear l c)
  |fail)
 have c:=Aa o;refine bodyPost_ret (ep rfl (Aa p) rfl) rfl ⟨w.heap.size+1+1+1,w.heap.size+1,w.heap.size+1+1,rfl,⟨?_,show 3<=9223372036854775807 by decide,show 1<=9223372036854775807 by decide,show 4607182418800017408<18446744073709551616 by decide,fun i f=>?_,U8 _ _ _⟩,?_⟩
 ·have A:=((AI 3 (w.alloc (μ #[γ none 0 0,β ⟨#[]⟩,.int U 0,.int U 0,.int U 0,.int U 0,.int U 0,.float .f64 0,.int U 0,.int U 0] 25)) [.int U 1]).below (As _ (μ #[.int U 2] 3))).below (As _ (μ #[.int U 1,γ (θ ⟨w.heap.size+1,0,ι⟩) 1 1,.int U 2,γ (θ ⟨w.heap.size+1+1,0,ι⟩) 1 1,.int U 3,γ none 0 0] 29))
  have B:=(AI 3 ((w.alloc (μ #[γ none 0 0,β ⟨#[]⟩,.int U 0,.int U 0,.int U 0,.int U 0,.int U 0,.float .f64 0,.int U 0,.int U 0] 25)).alloc (μ #[.int U 1] 3)) [.int U 2]).below (As _ (μ #[.int U 1,γ (θ ⟨w.heap.size+1,0,ι⟩) 1 1,.int U 2,γ (θ ⟨w.heap.size+1+1,0,ι⟩) 1 1,.int U 3,γ none 0 0] 29));have C:=AI 29 (((w.alloc (μ #[γ none 0 0,β ⟨#[]⟩,.int U 0,.int U 0,.int U 0,.int U 0,.int U 0,.float .f64 0,.int U 0,.int U 0] 25)).alloc (μ #[.int U 1] 3)).alloc (μ #[.int U 2] 3)) [.int U 1,γ (θ ⟨w.heap.size+1,0,ι⟩) 1 1,.int U 2,γ (θ ⟨w.heap.size+1+1,0,ι⟩) 1 1,.int U 3,γ none 0 0];simp only[A7]at A B C;have v:¬(w.heap.size+1=w.heap.size):=by omega
  have z:¬(w.heap.size+1+1=w.heap.size):=by omega
  have d:¬(w.heap.size+1+1+1=w.heap.size):=by omega
  refine⟨rfl,fun i f=>?_,.inr ⟨_,0,rfl,fun i f=>?_⟩⟩
  ·have h:i<3:=f
   obtain rfl|rfl|rfl:i=0\/i=1\/i=2:=by omega
   ·exact⟨rfl,.inr ⟨_,0,rfl,fun j m=>by
     have s:j<1:=m;obtain rfl:j=0:=by omega
     exact c.cell (A.at 0 rfl) v⟩⟩
   ·exact⟨rfl,.inr ⟨_,0,rfl,fun j m=>by
     have s:j<1:=m;obtain rfl:j=0:=by omega
     exact c.cell (B.at 0 rfl) z⟩⟩
   ·exact⟨rfl,.inl rfl⟩
  ·have h:i<3:=f
   obtain rfl|rfl|rfl:i=0\/i=1\/i=2:=by omega
   ·exact⟨c.cell (C.at 0 rfl) d,c.cell (C.at 1 rfl) d⟩
   ·exact⟨c.cell (C.at 2 rfl) d,c.cell (C.at 3 rfl) d⟩
   ·exact⟨c.cell (C.at 4 rfl) d,c.cell (C.at 5 rfl) d⟩
 ·have h:i<3:=f
  obtain rfl|rfl|rfl:i=0\/i=1\/i=2:=by omega
  ·exact⟨show 1<=9223372036854775807 by decide,fun e=>by have r:θ (⟨w.heap.size+1,0,ι⟩:Addr)=ι:=e;cases r⟩
  ·exact⟨show 1<=9223372036854775807 by decide,fun e=>by have r:θ (⟨w.heap.size+1+1,0,ι⟩:Addr)=ι:=e;cases r⟩
  ·exact⟨show 0<=9223372036854775807 by decide,fun _=>⟨rfl,rfl⟩⟩
 ·exact(Ad (Ad (Ad (As _ _) (As _ _)) (As _ _)) (As _ _)).trans (c.below (Ad (Ad (Ad (As _ _) (As _ _)) (As _ _)) (As _ _)).size fun j m e=>by omega)
def zF:A1:=⟨ι,0,0,[],⟨#[]⟩,0,0,0,0,0,0,0,0⟩
def dP(w:ο):BN w zF:=⟨⟨rfl,fun i c=>absurd c (υ i),.inl rfl⟩,δ _,δ _,(by decide:0<18446744073709551616),(fun i c=>absurd c (υ i)),fun i c=>absurd c (υ i)⟩
def bP{en:Int}(h:Bm zF en):en=1:=by
 rcases h with⟨h,_⟩|⟨_,h⟩
 ·exact absurd h.1.1.1 (show¬1<=0 by decide)
 ·exact h
def bX(w:ο):τ η 9 #[.agg #[γ none 0 0,β ⟨#[]⟩,.int U 0,.int U 0,.int U 0,.int U 0,.int U 0,.float .f64 0,.int U 0,.int U 0]] w fun e w'=>e=ξ (.tuple #[φ none,.int U 1])/\π w.heap.size w w':=
 (OV zF w (dP w)).mono fun e w' ⟨c,en,d,h⟩=>by
  obtain rfl:=bP d;rcases h with⟨_,h⟩|⟨h,_⟩
  ·exact⟨h,c⟩
  ·exact absurd h (by decide)
def bW{a x y:Nat}(h:BN w (Ey a x y)):τ η 9 #[(Ey a x y).val] w fun e w'=> ∃(q:Nat) (T:Az) (P:Nat->Bi) (c d f:Bg),e=ξ (.tuple #[.pointer (θ ⟨q,0,ι⟩),.int U 0])/\AQ w w' q P T 0/\Dn T c d f 0 []/\CK c.n/\CI d.n/\CJ f.n:=
 (OV (Ey a x y) w h).mono fun e w' ⟨_,en,u,r⟩=>by
  rcases r with⟨i,_⟩|⟨_,q,T,p,s,j⟩
  ·exact absurd (Wf u) i
  ·obtain⟨c,d,f,i,l,m,o⟩:=qH s j
   exact⟨q,T,_,c,d,f,p,j,i,l,m,o⟩
def bV{a x y:Nat}(h:BN w (Ey a x y)):τ η 10 #[(Ey a x y).val] w fun e w'=>e=ξ (.int U 0)/\π w.heap.size w w':=
 (Tz (Ey a x y) w h (U8 a x y)).mono fun e w' ⟨en,d,f,c⟩=>⟨by rw[d,Wf f],c⟩
def Xb{j l:Bg}(h:Dn T j l ⟨g,n⟩ 3 fs)(f:EF n.s=true)(i:EL n.s=⟨#[97]⟩):∃a b c d e:Int,DC T 2=[.int U a,.int U b,.int U c,.int U d,.int U e,κ true,β ⟨#[97]⟩]:=by
 unfold DC;rw[if_pos (by decide),show(2:Int).toNat=2 from rfl,h.ns];show∃a b c d e:Int,Gz n T.now=_;unfold Gz;rw[f,i];exact⟨_,_,_,_,_,rfl⟩
def rZ{i j:Bg}(h:Dn T i ⟨g,n⟩ j 3 fs)(f:(FV (CF n.p.timeout) n.s.Z 3).length=1):∃(a b c d:Int) (e:Bool) (s:ByteArray),DC T 1=[.int U a,.int U b,.int U c,.int U d,.int U 1,κ e,β s]:=by
 unfold DC;rw[if_pos (by decide),show(1:Int).toNat=1 from rfl,h.ns,h.now];show∃(a b c d:Int) (e:Bool) (s:ByteArray),Gz n 3=_;unfold Gz;rw[f];exact⟨_,_,_,_,_,_,rfl⟩
def MX{l:List AE}(h:AQ w0 w q P T k)(p:T.fs=l):τ η 15 #[.pointer (θ ⟨q,0,ι⟩)] w fun e w'=> ∃a c,e=ξ (γ a l.length c)/\An w' w.heap.size (γ a l.length c) l/\π w.heap.size w w':=
 (nH q w0.heap.size T w h.net fun f o=>(h.inv.fly f o).2.2).mono fun e w' ⟨v,m,d,j⟩=>by
  obtain⟨a,c,i⟩:=d.len;rw[p]at i d;exact⟨a,c,by rw[m,i],i▸d,j⟩
def cE(a b c d e:Int)(f:Bool)(s:ByteArray)(w:ο):(Instr.field 44 (.agg #[.int U a,.int U b,.int U c,.int U d,.int U e,κ f,β s]) 4).run η w=.ok (.int U e) w:=by kernel_rfl
def cF(a b c d e:Int)(f:Bool)(s:ByteArray)(w:ο):(Instr.field 44 (.agg #[.int U a,.int U b,.int U c,.int U d,.int U e,κ f,β s]) 5).run η w=.ok (κ f) w:=by kernel_rfl
def cG(a b c d e:Int)(f:Bool)(s:ByteArray)(w:ο):(Instr.field 44 (.agg #[.int U a,.int U b,.int U c,.int U d,.int U e,κ f,β s]) 6).run η w=.ok (β s) w:=by kernel_rfl
def fG(w:ο)(ht:Bv w):τ η 8 #[] w fun e w'=>e=ξ (κ true)/\π w.heap.size w w':=by
 have HT:=Ab ht;clear ht;have y4:=cE;have y5:=cF;have y6:=cG;have FA:=Ab ε;have FB:=Ab ε;have FC:=Ab ε;have FD:=Ab ε;have FE:=Ab ε;have FF:=Ab ε;have FG:=Ab ε;have FH:=Ab ε;have FI:=Ab ε;have FJ:=Ab ε;have FK:=Ab ε;have FL:=Ab ε;have FN:=Ab ε;have FO:=Ab ε;have FP:=Ab ε;have FQ:=Ab ε;have FR:=Ab ε;go_enter func8,ntmps8
 go_wp2_with (first
  |(clear FA;go_at_call 21;refine(U7 _).mono ?_;rintro e w1 ⟨a1,x1,y1,rfl,I,r⟩;have y:=Ab (bW I);have W:=Ab r;have f:=Ab ((Aa HT).below r);clear I r)
  |(clear FB;go_at_call 9;refine(Aa y).mono ?_;rintro e w2 ⟨q,T0,P,n0,n1,n2,rfl,d,c,s0,s1,s2⟩;have J1:=Ab d;have u:=Ab (ζ c (ζ s0 (ζ s1 s2)));clear d c s0 s1 s2 y)
  |(clear FC;go_at_call 9;refine(bX _).mono ?_;rintro e w3 ⟨rfl,h⟩;have J2:=Ab ((Aa J1).below h);clear h J1)
  |(clear FD;go_at_call 13;refine(GN (Aa J2) (Aa f) (by decide) 1 0 3 0 0 0 (C8 _) (δ _)).mono ?_;rintro e w4 ⟨ok,T1,k1,rfl,c,d⟩;obtain⟨rfl,rfl,m0,m1,m2,d2,s0,s1,s2⟩:=lh (Aa u).1 (Aa u).2.1 (Aa u).2.2.1 (Aa u).2.2.2 c;have J3:=Ab d;have v:=Ab (ζ d2 (ζ s0 (ζ s1 s2)));clear d c d2 s0 s1 s2 J2 u)
  |(clear FE;go_at_call 13;refine(GN (Aa J3) (Aa f) (by decide) 2 0 0 0 0 0 (C8 _) (δ _)).mono ?_;rintro e w5 ⟨ok,T2,k2,rfl,c,d⟩;obtain⟨rfl,rfl,o0,d3⟩:=qK (Aa v).1 (Aa v).2.1 c;have Y:=Ab d;have x:=Ab (ζ d3 (ζ (Aa v).2.2.1 (Aa v).2.2.2));clear d c d3 J3 v)
  |(clear FF;go_at_call 15;refine(MX (Aa Y) (Aa x).1.fs).mono ?_;rintro e w6 ⟨a2,c2,rfl, -,h⟩;have J5:=Ab ((Aa Y).below h);clear h Y)
  |(clear FG;go_at_call 13;refine(GN (Aa J5) (Aa f) (by decide) 3 0 0 0 0 0 (C8 _) (δ _)).mono ?_;rintro e w7 ⟨ok,T3,k3,rfl,c,d⟩;obtain⟨rfl,rfl,u1,d4,N,O,q3,q4,q5,q6⟩:=qG (Aa x).1 (Aa x).2.1 c;have J6:=Ab d;have D4:=Ab d4;have o:=Ab (ζ N (ζ O (ζ q3 (ζ q4 (ζ q5 q6)))));have S4:=Ab (Aa x).2.2;clear d c d4 N O q3 q4 q5 q6 J5 x)
  |(clear FH;go_at_call 13;refine(GN (Aa J6) (Aa f) (by decide) 2 1 0 0 0 0 (C8 _) (δ _)).mono ?_;rintro e w8 ⟨ok,T4,k4,rfl,c,d⟩;obtain⟨rfl,rfl,v1,d5,p1,p2⟩:=qI (Aa D4) (Aa o).1 (Aa o).2.1 (Aa o).2.2.1 (Aa o).2.2.2.1 (Aa o).2.2.2.2.1 c;have J7:=Ab d;have D5:=Ab d5;have Q5:=Ab (show(FV (CF v1.p.timeout) v1.s.Z 3).length=1 from by rw[p1,p2];exact(Aa o).2.2.2.2.2);clear d c d5 p1 p2 J6 D4 o)
  |(clear FI;go_at_call 13;refine(GN (Aa J7) (Aa f) (by decide) 5 0 0 0 0 0 (C8 _) (δ _)).mono ?_;rintro e w9 ⟨ok,T5,k5,rfl,c,d⟩;obtain⟨rfl,rfl,d6⟩:=qF (Aa D5) c;have J8:=Ab d;have V:=Ab d6;clear d c d6 J7 D5)
  |(clear FJ;go_at_call 15;refine(MX (Aa J8) (Aa V).fs).mono ?_;rintro e aa ⟨a3,c3,rfl, -,h⟩;have J9:=Ab ((Aa J8).below h);clear h J8)
  |(clear FK;go_at_call 13;refine(GN (Aa J9) (Aa f) (by decide) 3 0 1 0 0 0 (C8 _) (δ _)).mono ?_;rintro e ab ⟨ok,T6,k6,rfl,c,d⟩;obtain⟨rfl,rfl,z1,d7,N,O⟩:=qJ (Aa V) (Aa S4) c;have A:=Ab d;have D7:=Ab d7;have R:=Ab (ζ N O);clear d c d7 N O J9 V S4)
  |(clear FL;go_at_call 13;refine(GN (Aa A) (Aa f) (by decide) 4 0 0 0 0 0 (C8 _) (δ _)).mono ?_;rintro e ac ⟨ok,S,k7,rfl,c,d⟩;obtain⟨rfl,rfl,d8⟩:=lg (Aa D7) c;have j:=Ab d;have Q:=Ab d8;have K:=d8.now;clear d c d8 A D7)
  |(go_at_call 20;refine(nJ q w1.heap.size S _ (Aa j).net).mono ?_;rintro e ad ⟨rfl,hw⟩;obtain rfl:=hw.symm;clear hw;rw[K])
  |(clear FN;go_at_call 14;obtain⟨r0,r1,r2,r3,r4,i⟩:=Xb (Aa Q) (Aa R).1 (Aa R).2;refine(KF q w1.heap.size S 2 _ (Aa j).net ((Aa j).tabs (Aa f) _ (ρ _ _)).tab).mono ?_;rw[i];rintro e ae ⟨rfl,h⟩;have l:=Ab ((Aa j).below h);clear h j i)
  |(clear FO;go_at_call 14;obtain⟨t0,t1,t2,t3,t4,i⟩:=Xb (Aa Q) (Aa R).1 (Aa R).2;refine(KF q w1.heap.size S 2 _ (Aa l).net ((Aa l).tabs (Aa f) _ (ρ _ _)).tab).mono ?_;rw[i];rintro e af ⟨rfl,h⟩;have m:=Ab ((Aa l).below h);clear h l i)
  |(clear FP;go_at_call 14;obtain⟨l0,l1,l2,l3,l4,l5,i⟩:=rZ (Aa Q) (Aa Q5);refine(KF q w1.heap.size S 1 _ (Aa m).net ((Aa m).tabs (Aa f) _ (ρ _ _)).tab).mono ?_;rw[i];rintro e ag ⟨rfl,h⟩;have C:=Ab ((Aa m).below h);clear h m i)
  |(clear FQ;go_at_call 13;refine(GN (Aa C) (Aa f) (by decide) 4 0 0 0 0 0 (C8 _) (δ _)).mono ?_;rintro e ah ⟨ok,T8,k8,rfl,c,d⟩;obtain⟨rfl,rfl,rfl⟩:=Rc c (.inr (.inr ⟨by decide,(Aa Q).fs⟩));have D:=Ab d;clear d c C)
  |(clear FR;go_at_call 13;refine(GN (Aa D) (Aa f) (by decide) 8 0 0 0 0 0 (C8 _) (δ _)).mono ?_;rintro e ai ⟨ok,T9,k9,rfl,c,d⟩;obtain⟨rfl,rfl,rfl⟩:=Rc c (.inl (.inr (by decide)));have E:=Ab d;clear d c D)
  |(go_at_call 21;refine(U7 _).mono ?_;rintro e aj ⟨a9,x9,y9,rfl,J,h⟩;have z:=Ab (bV J);have H:=Ab ((Aa E).below h);clear J h E)
  |(go_at_call 10;refine(Aa z).mono ?_;rintro e ak ⟨rfl,h⟩;have X:=Ab ((Aa H).below h);clear h H z)
  |fail)
 go_ret;exact⟨rfl,Ad (Aa W) (Aa X).low⟩
def iM(f:A1)(w:ο)(h:BN w f):τ η 11 #[f.val] w fun e w'=> ∃en:Int,e=ξ (.int U en)/\Bm f en/\π w.heap.size w w':=by
 have j:=Ab (As w (μ #[.slice f.a f.n f.c,β f.obj,.int U f.size,.int U f.spread,.int U f.buffer,.int U f.queue,.int U f.cache,.float .f64 f.rate,.int U f.timeout,.int U f.target] 25));have m:=Ab (fun wx (d:π w.heap.size w wx)=>rR f wx (h.below d));have p:=(AI 25 w [.slice f.a f.n f.c,β f.obj,.int U f.size,.int U f.spread,.int U f.buffer,.int U f.queue,.int U f.cache,.float .f64 f.rate,.int U f.timeout,.int U f.target]).load underlying25 rfl JO rfl;clear h;unfold A1.val at*;go_enter func11,ntmps11
 go_wp2_with (first
  |(go_at_call 26;refine(Aa m _ (by first|exact Aa j|exact ρ _ _)).mono ?_;rintro e w1 ⟨en,rfl,l,d⟩;have o:=Ab l;have i:=Ab (show π w.heap.size w w1 from by first|exact Ad (Aa j) d|exact d);clear d l)
  |fail)
 go_ret;exact⟨en,rfl,Aa o,Aa i⟩
def aB{kd nd n:Int}(h:DR T kd nd n a b L k ok T' k')(e:T.ns.length<=8):T'.ns.length=T.ns.length/\k'<=k+16:=by
 rcases h with⟨_,_,wv,rfl,c⟩|⟨_,_,i,x,f,wv,_,_,_,rfl,c⟩|⟨_,_,i,x,s,_,_,_,rfl,c⟩|⟨_,_,_,f,wv,_,d⟩|⟨_,_,rfl,c⟩
 ·exact⟨Pr _ _ _ _,by omega⟩
 ·exact⟨JK _ _ _ _,by omega⟩
 ·exact⟨JK _ _ _ _,by omega⟩
 ·rcases d with⟨_,x,en,j,_,_,rfl,c⟩|⟨_,rfl,c⟩|⟨_,rfl,c⟩|⟨_,rfl,c⟩
  ·exact⟨JK _ _ _ _,by omega⟩
  ·exact⟨rfl,by omega⟩
  ·exact⟨rfl,by omega⟩
  ·exact⟨rfl,by omega⟩
 ·exact⟨rfl,by omega⟩
def lx(f:A1)(a:Option Addr)(n c:Nat)(m:List EP)(w:ο)(N:f.obj.size<=9223372036854775807)(h:DE w a n m)(V:n<=9223372036854775807)(C:∀i,(m.getD i .dflt).dn<=9223372036854775807):
  τ η 12 #[f.val,γ a n c] w fun e w'=>((e=ξ (.int U 1)/\n<=100/\∀i,i<n->(m.getD i .dflt).dn<=300)\/e=ξ (.int U 0))/\π w.heap.size w w':=by
 have r:=Ab (As w (μ #[.slice f.a f.n f.c,β f.obj,.int U f.size,.int U f.spread,.int U f.buffer,.int U f.queue,.int U f.cache,.float .f64 f.rate,.int U f.timeout,.int U f.target] 25));have p:=(AI 25 w [.slice f.a f.n f.c,β f.obj,.int U f.size,.int U f.spread,.int U f.buffer,.int U f.queue,.int U f.cache,.float .f64 f.rate,.int U f.timeout,.int U f.target]).load underlying25 rfl JO rfl;have x:=Ab (fun wx=>fh f wx N);have H:=Ab h;have I:=Ab C;clear h C;unfold A1.val at*;by_cases O:(100:Int)<(n:Int)
 ·go_enter func12,ntmps12
  go_wp2;go_ret;exact⟨.inr rfl,Aa r⟩
 go_enter func12,ntmps12;go_wp2_with fail;refine(Aa x _).mono ?_;rintro e w1 ⟨⟨rfl, -⟩|⟨rfl, -⟩,s⟩
 ·have l:=Ab (Ad (Aa r) s)
  clear s p;go_wp2;go_ret;exact⟨.inr rfl,Aa l⟩
 ·have l:=Ab (Ad (Aa r) s)
  have E:=Ab ((Aa H).below (Aa l));clear s p r H x;go_wp2_with fail;go_loop [5] (fun i=> ∃k:Nat,k<=n/\i=.int U k/\Hid (∀j,j<k->(m.getD j .dflt).dn<=300)) (fun i=>n-(intOf i).toNat)
  case atStart=>exact⟨0,δ _,rfl,Ab (fun j J=>by omega)⟩
  case round=>
   obtain⟨k,S,rfl,y⟩:=hrel;by_cases o:k<n
   ·have D:(k:Int)<(n:Int):=by omega
    obtain⟨b,off,z,A⟩:=(Aa E).at o;have R:=A k o 5 _ rfl;have K:=Aa I k
    have u:=Ab (fun(e:(m.getD k .dflt).dn<=300)=>show∀j,j<k+1->(m.getD j .dflt).dn<=300 from fun j J=>by
     by_cases q:j=k
     ·rw[q];exact e
     ·exact Aa y j (by omega))
    rw[z];clear A z;generalize m.getD k .dflt=d at*;by_cases Q:(300:Int)<(d.dn:Int)
    ·go_wp2
     go_ret;exact⟨.inr rfl,Aa l⟩
    ·have v:=Ab (Aa u (by omega))
     go_wp2;go_round
     case rel=>exact⟨k+1,o,by go_num,v⟩
     case measure=>simp[intOf];omega
   ·obtain rfl:k=n:=by omega
    go_wp2;go_ret;exact⟨.inl ⟨rfl,by omega,Aa y⟩,Aa l⟩
def TQ(i:Nat):(List.replicate 16 (0:Int)).getD i 0=0:=by
 rw[List.getD_eq_getElem?_getD,List.getElem?_replicate];split<;>rfl
def qS(x:Int):CG (List.replicate 16 0) x=(0,0):=by
 unfold CG;rw[TQ,TQ];split<;>rfl
def Sy{P:Nat->Bool}(h:∀i,P i=false):∀k,DZ P k=[]
 |0=>rfl
 |k+1=>by
  unfold DZ;rw[Sy h k,h k];rfl
def pR(T t:Int):FV T (List.replicate 16 0) t=[]:=
 Sy (fun i=>by unfold M5;rw[qS];rfl) 8
def mo(h:Gx n.p n.s)(now:Int):Gz n now=[.int U (n.inc:Int),.int U 0,.int U 0,.int U 0,.int U 0,κ false,β ⟨#[]⟩]:=by
 obtain⟨⟨m,o,A,C⟩,u⟩:=h;have x:Ei n.s.ls n.s.ls.length=0:=UR fun i v=>(m i v).2.1;have f:kR n.s=0/\kD n.s=0/\rD n.s=0/\EF n.s=false/\EL n.s=⟨#[]⟩:=by
  unfold kR kD rD EF EL;rcases u with⟨a,b,r,c,d,e⟩|⟨a,b,d,c,e,_⟩|⟨a,b,c,d⟩
  ·rw[b,c]
   exact⟨by show r.ps.length=0;rw[e];rfl,rfl,rfl,rfl,rfl⟩
  ·obtain⟨g',z,l,v',y⟩:=d
   have j:z=CQ:=e;subst j;rw[b,c];exact⟨rfl,rfl,by kernel_rfl,rfl,rfl⟩
  ·rw[c,d]
   exact⟨rfl,rfl,rfl,rfl,rfl⟩
 unfold Gz;rw[x,f.1,f.2.1,f.2.2.1,f.2.2.2.1,f.2.2.2.2,o,pR];rfl
def Bf(T:Az)(k:Nat):Prop:=∀(i:Nat) (x:Bg),T.ns[i]? =θ x->x.n.inc<=k
def Bf.set{i:Nat}(h:Bf T k)(f:k<=k')(l:n.inc<=k'):Bf (T.setN i g n) k':=fun j x m=>by
 have c:(T.ns.set i ⟨g,n⟩)[j]? =θ x:=m;rw[List.getElem?_set]at c;by_cases e:i=j
 ·rw[if_pos e]at c
  by_cases d:i<T.ns.length
  ·rw[if_pos d]at c
   cases c;exact l
  ·rw[if_neg d]at c
   cases c
 ·rw[if_neg e]at c
  exact ν (h j x c) f
def Pq(d:Int)(ns:List Bg)(K:Nat)(h:∀(i:Nat) (x:Bg),ns[i]? =θ x->x.n.inc<=K):∀k fs (i:Nat) (x:Bg),(Eb d ns k fs).1[i]? =θ x->x.n.inc<=K
 |0,fs,i,x,c=>h i x c
 |k+1,fs,i,x,c=>by
  unfold Eb at c;split at c
  ·rename_i y f
   rw[List.getElem?_set]at c;by_cases e:k=i
   ·rw[if_pos e]at c
    split at c
    ·cases c
     exact h k y f
    ·cases c
   ·rw[if_neg e]at c
    exact Pq d ns K h k fs i x c
  ·exact Pq d ns K h k fs i x c
def rW{c:Ap}{s:ByteArray}{now:Int}{en:Nat}(h:GZ n s now en c):c.inc=n.inc:=by
 obtain⟨_,_,_,_,_,⟨_,rfl⟩|⟨_,_,_,_,rfl,_⟩⟩:=h<;>rfl
def aA{kd nd n:Int}(h:DR T kd nd n a b L k ok T' k')(c:Bf T k):Bf T' k':=by
 rcases h with⟨_,_,wv,rfl,d⟩|⟨_,_,i,x,f,wv,_,e,_,rfl,d⟩|⟨_,_,i,x,s,_,e,_,rfl,d⟩|⟨_,_,_,f,wv,_,l⟩|⟨_,_,rfl,d⟩
 ·exact fun i x e=>ν (Pq _ T.ns k c _ _ i x e) (by omega)
 ·have:Bf (T.setN i x.g ((Ej x.n f).each Co)) k':=c.set (by omega) (ν (show(Ej x.n f).inc<=k from c i x e) (by omega))
  exact this
 ·refine c.set (by omega) ?_
  have:=c i x e;exact ν (Nat.mod_le _ _) (by omega)
 ·rcases l with⟨_,x,en,o,e,m,rfl,d⟩|⟨_,rfl,d⟩|⟨_,rfl,d⟩|⟨_,rfl,d⟩
  ·have j:Bf (T.fly wv (T.fs.eraseIdx (Dy T n))) k:=c
   exact j.set (by omega) (by rw[rW m];exact ν (c _ x e) (by omega))
  ·rw[d];exact c
  ·rw[d];exact c
  ·rw[d];exact c
 ·rw[d];exact c
def oT{id n:Int}(h:DR T 7 id n a b L k ok T' k')(m:Bf T k)(z:k<4294967295):
  ok=decide (0<=id/\id<(T.ns.length:Int))/\T'.fs=T.fs/\T'.ns.length=T.ns.length/\k'<=k+1/\∀j:Nat,j<T.ns.length->((j:Int)≠id/\DC T' (j:Int)=DC T (j:Int))\/((j:Int)=id/\∃(x:Nat) (r1 r2 v y:Int) (dn:Bool) (ob:ByteArray),x<4294967295/\DC T (j:Int)=[.int U (x:Int),.int U r1,.int U r2,.int U v,.int U y,κ dn,β ob]/\DC T' (j:Int)=[.int U ((x:Int)+1),.int U 0,.int U 0,.int U 0,.int U 0,κ false,β ⟨#[]⟩]):=by
 rcases h with⟨_,f,_⟩|⟨_,f,_⟩|⟨rfl,_,i,x,s,rfl,c,u,rfl,rfl⟩|⟨_,f,_⟩|⟨rfl,d,rfl,rfl⟩
 ·omega
 ·omega
 ·have A:=(List.getElem?_eq_some_iff.1 c).1
  refine⟨(decide_eq_true (by omega)).symm,rfl,JK _ _ _ _,ς _,fun j o=>?_⟩;by_cases e:j=i
  ·subst e
   have l:=m j x c;refine .inr ⟨rfl,x.n.inc,((kR x.n.s+kD x.n.s:Nat):Int),((kR x.n.s+rD x.n.s:Nat):Int),((Ei x.n.s.ls x.n.s.ls.length:Nat):Int),((FV (CF x.n.p.timeout) x.n.s.Z T.now).length:Int),EF x.n.s,EL x.n.s,by omega,?_,?_⟩
   ·unfold DC
    rw[if_pos (by omega),show((j:Nat):Int).toNat=j from by omega,c];rfl
   ·unfold DC
    rw[if_pos (by omega),show((j:Nat):Int).toNat=j from by omega,P1 c];refine(mo (n:=⟨x.n.id,(x.n.inc+1)%4294967296,x.n.p,x.n.src,s,x.n.t+1⟩) u _).trans ?_;show [Value.int U (((x.n.inc+1)%4294967296:Nat):Int),_,_,_,_,_,_]=_;rw[Nat.mod_eq_of_lt (by omega)];rfl
  ·refine .inl ⟨by omega,?_⟩
   unfold DC
   rw[show(T.setN i x.g ⟨x.n.id,(x.n.inc+1)%4294967296,x.n.p,x.n.src,s,x.n.t+1⟩).ns[(j:Int).toNat]? =T.ns[(j:Int).toNat]? from by
    show(T.ns.set i _)[(j:Int).toNat]? =_;rw[List.getElem?_set,if_neg (by omega)]]
   rfl
 ·omega
 ·have r:¬(0<=id/\id<(T'.ns.length:Int)):=by
   rcases d with h|⟨_,h⟩|⟨h,_⟩
   ·omega
   ·exact h
   ·omega
  exact⟨(decide_eq_false r).symm,rfl,rfl,by omega,fun j o=>.inl ⟨by omega,rfl⟩⟩
def jB(fs:List AE)(B1 u:Nat)(r s:σ)(w:ο)(l:An w B1 r fs)(o:An w u s fs)(H:fs.length<=1048576):
  τ η 34 #[r,s] w fun e w'=>e=ξ (κ true)/\π w.heap.size w w':=by
 obtain⟨A,c1,rfl⟩:=l.len;obtain⟨C,c2,rfl⟩:=o.len;have v:=Ab l;have x:=Ab o;clear l o;go_enter func34,ntmps34;go_wp2;go_loopw [5] (fun i wr=> ∃m:Nat,m<=fs.length/\i=.int U m/\Hid (π w.heap.size w wr)) (fun i _=>fs.length-(intOf i).toNat)
 case atStart=>exact⟨0,δ _,rfl,Ab (ρ _ _)⟩
 case round=>
  obtain⟨m,E,rfl,j⟩:=hrel
  rename ο=>wr
  by_cases c:m<fs.length
  ·have p:(m:Int)<(fs.length:Int):=by omega
   obtain⟨D,I,y,d⟩:=((Aa v).below (Aa j)).at (by omega);obtain⟨g2,J,z,h⟩:=((Aa x).below (Aa j)).at (by omega);cases y;cases z;obtain⟨K,N,O⟩:=d m c;obtain⟨Q,R,S⟩:=h m c;generalize fs.getD m .dflt=f at*;clear d h;go_wp2_with fail;go_quiet (fail);go_wp2;go_roundw
   case rel=>exact⟨m+1,c,by go_num,Ab (below_drewN (Aa j) _)⟩
   case measure=>simp[intOf];omega
  ·obtain rfl:m=fs.length:=by omega
   go_wp2;go_ret;exact⟨rfl,Aa j⟩
def iL(fs:List AE)(B1 f:Nat)(c d:σ)(w:ο)(h:An w B1 c fs)(i:An w f d fs)(o:fs.length<=1048576):
  τ η 16 #[c,d] w fun e w'=>e=ξ (κ true)/\π w.heap.size w w':=by
 have m:=Ab (jB fs B1 f c d w h i o);clear h i;go_enter func16,ntmps16
 go_wp2_with (first
  |(go_at_call 34;refine(Aa m).mono ?_;rintro e w1 ⟨rfl,j⟩;have l:=Ab j;clear j)
  |fail)
 go_ret;exact⟨rfl,Aa l⟩
def px:(Tryz.prog.info? 44).map (fun i=>(i.zero,i.size,i.bytes))=θ (θ (.agg #[.int U 0,.int U 0,.int U 0,.int U 0,.int U 0,κ false,β ByteArray.empty]),7,64):=by kernel_rfl
structure CT where
 ic:Int
 kp:Int
 rk:Int
 qd:Int
 kn:Int
 dn:Bool
 ob:ByteArray
def CT.dflt:CT:=⟨0,0,0,0,0,false,⟨#[]⟩⟩
def CT.cells(f:CT):List σ:=[.int U f.ic,.int U f.kp,.int U f.rk,.int U f.qd,.int U f.kn,κ f.dn,β f.ob]
def Gm(fs:List CT):List σ:=fs.flatMap CT.cells
def Sc:∀(fs:List CT) (i j:Nat),i<fs.length->j<7->(Gm fs)[i*7+j]? =(fs.getD i .dflt).cells[j]?
 |[],i,j,h,_=>by simp at h
 |p::ps,0,j,_,c=>by
  show(p.cells++Gm ps)[0*7+j]? =_;rw[Nat.zero_mul,Nat.zero_add,List.getElem?_append_left (by show j<7;exact c)];rfl
 |p::ps,i+1,j,h,c=>by
  have:=Sc ps i j (by simpa using h) c;show(p.cells++Gm ps)[(i+1)*7+j]? =_;rw[List.getElem?_append_right (by show 7<=_;omega),show(i+1)*7+j-p.cells.length=i*7+j from by show(i+1)*7+j-7=_;omega,this];rfl
def Bs(w:ο)(B:Nat)(v:σ)(fs:List CT):Prop:=w.ownsRow B 44 7 v fs.length (Gm fs)
def Bs.nil(w:ο)(B:Nat):Bs w B (γ none 0 0) []:=World.ownsRow_nil _ _ _ _
def Bs.below{v:σ}{fs:List CT}(h:Bs w B v fs)(c:π w.heap.size w w'):Bs w' B v fs:=Cj (F:=fun _=>False) h (Tu.of_below c) fun _ _=>id
def Bs.at{v:σ}{fs:List CT}(h:Bs w B v fs)(l:0<fs.length):∃g cap,v=γ (θ ⟨g,0,ι⟩) fs.length cap/\∀i,i<fs.length->∀j,j<7->∀u,(fs.getD i .dflt).cells[j]? =θ u->w.cell? ⟨g,i*7+j,ι⟩=θ u:=by
 have c:w.ownsRow B 44 7 v fs.length (Gm fs):=h;rcases h.2 with⟨rfl,p⟩|⟨g,cap,d,rfl,r,s,l,x,m,ht⟩
 ·omega
 ·refine⟨g,cap,rfl,fun i e j f u o=>?_⟩
  have:=World.ownsRow.cells c (g:=g) rfl (i*7+j) u (by rw[Sc fs i j e f];exact o);rwa[show(⟨g,0,ι⟩:Addr).add (i*7+j)=⟨g,i*7+j,ι⟩ by unfold Addr.add;split<;>simp_all]at this
def eH{ops:Array Oper}{rest:List Oper}{o:Oper}{act:Act}{Q:Exit->Act->ο->Prop}(l:o.guard=ι)(s x:Operand)
  (H:o.op=.call {callee:=.builtin .append,args:=#[s,x],argTypes:=#[49,49]}) (B:Nat) (v:σ) (fs:List CT) (f:CT)
  (I:act.eval s=v) (J:act.eval x=γ (θ ⟨w.heap.size,0,ι⟩) 1 1) (h:Bs w B v fs) (C:B<=w.heap.size) (N:fs.length<=1048576)
  (D:∀z w',Bs w' B z (fs++[f])->Tu (fun j=>v.ownBlock=θ j) w w'->wpList η ops Q rest (act.put o.dst z) w'):wpList η ops Q (o::rest) act (w.alloc (.cells f.cells.toArray 44)):=by
 obtain⟨K,E,m,p,r⟩:=info_parts px;have i:π w.heap.size w (w.alloc (.cells f.cells.toArray 44)):=(ρ _ _).alloc (ς _) _;have A:(w.alloc (.cells f.cells.toArray 44)).ownsRow B 44 7 v fs.length (Gm fs):=h.below i
 refine wpList_append_own _ l s x 49 H B 44 K _ 7 64 underlying49 E m p r rfl (by decide) v fs.length (Gm fs) I A ⟨w.heap.size,0,ι⟩ 1 1 f.cells J rfl
  (World.news_of_block (AI 44 w f.cells)) (fun u y=>by simp only[CT.cells,List.mem_cons,List.not_mem_nil,or_false]at y;rcases y with h|h|h|h|h|h|h<;>(rw[h];rfl)) (by unfold maxLen;omega) (by omega) (ν C i.size) ?_
 intro v' w' d c _;refine D v' w' ?_ ((Tu.of_below i).trans (Tu.of_gb (F:=fun j=>v.ownBlock=θ j) c fun j _ e=>e) fun _ _ e=>e);show w'.ownsRow B 44 7 v' (fs++[f]).length (Gm (fs++[f]));rw[List.length_append,show Gm (fs++[f])=Gm fs++f.cells by simp[Gm]];exact d
def Aw.lt(h:Aw w q B T):∀j,EK q T j->j<w.heap.size:=fun j c=>by
 rcases c with rfl|c|c|⟨i,x,d,c⟩
 ·exact h.blk.lt
 ·exact(C9 h.own c).2
 ·exact(C9 h.fly c).2
 ·exact(h.each i x d).lt j c
def IT(T:Az)(i:Nat):CT:=match T.ns[i]? with
 |some x=>⟨(x.n.inc:Int),((kR x.n.s+kD x.n.s:Nat):Int),((kR x.n.s+rD x.n.s:Nat):Int),(Ei x.n.s.ls x.n.s.ls.length:Nat),((FV (CF x.n.p.timeout) x.n.s.Z T.now).length:Nat),EF x.n.s,EL x.n.s⟩
 |none=>.dflt
def Ru(T:Az)(i:Nat):DC T (i:Int)=(IT T i).cells:=by
 unfold DC IT;rw[if_pos (by omega),show((i:Nat):Int).toNat=i from by omega];cases T.ns[i]? <;>rfl
def FM(T:Az)(k:Nat):List CT:=(List.range k).map (IT T)
def O0(T:Az)(k:Nat):(FM T k).length=k:=by simp[FM]
def jx(T:Az)(k:Nat):FM T (k+1)=FM T k++[IT T k]:=by simp[FM,List.range_succ]
def mY(T:Az){k i:Nat}(h:i<k):(FM T k).getD i .dflt=IT T i:=by simp[FM,List.getD_eq_getElem?_getD,h]
def Pk(a b c d e:Int)(f:Bool)(s:ByteArray)(w:ο):(Op.equalIn 10000 44 (.agg #[.int U a,.int U b,.int U c,.int U d,.int U e,κ f,β s]) (.agg #[.int U a,.int U b,.int U c,.int U d,.int U e,κ f,β s])).run η w=.ok true w:=by
 rw[run_equalIn_struct (d:=9999) (ht:=by kernel_rfl) (hp:=by kernel_rfl)];simp only[Program.fieldsOf,underlying44];simp[Op.eqFields,go_sem,underlying3,underlying4,underlying9]
def Xa(a b c d e:Int)(f:Bool)(s:ByteArray)(w:ο):(binOp .neq 44 (.agg #[.int U a,.int U b,.int U c,.int U d,.int U e,κ f,β s]) (.agg #[.int U a,.int U b,.int U c,.int U d,.int U e,κ f,β s])).run η w=.ok (κ false) w:=by
 rw[run_neq_struct,Pk];rfl
def Bf.new{f:A1}(h:Ga f T):Bf T 0:=fun i x c=>Nat.le_of_eq (h.node i x c).inc
structure GE(w0 w:ο)(q B k n:Nat)(T:Az)(P:Nat->Bi)(fv:σ)(fs:List AE)(rv:σ)(rs:List CT):Prop where
 net:AQ w0 w q P T k
 len:T.ns.length=n
 fly:An w B fv fs
 rep:Bs w B rv rs
 size:B<=w.heap.size
def GE.below{n:Nat}{d e:σ}{rs:List CT}(h:GE w0 w q B k n T P d fs e rs)(c:π w.heap.size w w'):GE w0 w' q B k n T P d fs e rs:=
 ⟨h.net.below c,h.len,h.fly.below c,h.rep.below c,ν h.size c.size⟩
def GE.push{n:Nat}{i m f:σ}{rs d:List CT}(h:GE w0 w q B k n T P i fs m rs)(l:∀j,EK q T j->j<B)(ht:Tu (fun j=>m.ownBlock=θ j) w w')(o:Bs w' B f d):GE w0 w' q B k n T P i fs f d:=
 ⟨⟨h.net.net.tu ht (fun j c e=>by have:=(C9 h.rep e).1;have:=l j c;omega) (fun j c e=>by have:=Bc h.rep e;omega),h.net.inv,h.net.low.trans (ht.below h.net.low.size fun j c e=>by have:=(C9 h.rep e).1;have:=h.net.net.lo;have:=l q (.inl rfl);omega)⟩,h.len,
  Cj h.fly ht fun j c e=>by have p:=Bc h.rep e;have r:=Bc h.fly c;omega,o,ν h.size ht.size⟩
def eN(f:A1)(a:Option Addr)(n c:Nat)(N:List EP)(id:Int)(w:ο)(ht:Bv w)(hf:BN w f)(he:DE w a n N)(hn:n<=9223372036854775807)(hd:∀i,(N.getD i .dflt).dn<=9223372036854775807):
  τ η 5 #[f.val,γ a n c,.int U id] w fun e w'=>e=ξ (κ true)/\π w.heap.size w w':=by
 have X:=Ab (AI 25 w [.slice f.a f.n f.c,β f.obj,.int U f.size,.int U f.spread,.int U f.buffer,.int U f.queue,.int U f.cache,.float .f64 f.rate,.int U f.timeout,.int U f.target]);have HB:=Ab (As w (μ #[.slice f.a f.n f.c,β f.obj,.int U f.size,.int U f.spread,.int U f.buffer,.int U f.queue,.int U f.cache,.float .f64 f.rate,.int U f.timeout,.int U f.target] 25));have HA:=Ab (fun wx (z:π w.heap.size w wx)=>fG wx (ht.below z));have HF:=Ab (fun wx (z:π w.heap.size w wx)=>hf.below z);have HE:=Ab (fun wx (z:π w.heap.size w wx)=>he.below z);have ah:=Ab (fun wx (z:π w.heap.size w wx)=>ht.below z);have bl:=(Aa X).load underlying25 rfl JO rfl;have HW:=Ab (lx f a n c N _ hf.obj (he.below (Aa HB)) hn hd);clear ht hf he hd;unfold A1.val at*;go_enter func5,ntmps5;go_wp2_with fail;refine(Aa HW).mono ?_;rintro e w1 ⟨⟨rfl,ca,bg⟩|rfl,V⟩
 case inr=>
  have O:=Ab (Ad (Aa HB) V);clear V bl HW
  go_wp2_with (first
   |(go_at_call 8;refine(Aa HA _ (Aa O)).mono ?_;rintro e w2 ⟨rfl,E⟩;have d:=Ab (Ad (Aa O) E);clear E)
   |fail)
  go_ret;exact⟨rfl,Aa d⟩
 have O:=Ab (Ad (Aa HB) V);have S:=Ab ((Aa X).below V);have y0:=(Aa S).at 0 rfl;have y1:=(Aa S).at 1 rfl;have y2:=(Aa S).at 2 rfl;have y3:=(Aa S).at 3 rfl;have y4:=(Aa S).at 4 rfl;have y5:=(Aa S).at 5 rfl;have y6:=(Aa S).at 6 rfl;have y7:=(Aa S).at 7 rfl;have y8:=(Aa S).at 8 rfl;have y9:=(Aa S).at 9 rfl;have HR:=Ab (iM f w1 ((Aa HF) w1 (Aa O)));unfold A1.val at HR;have bv:=Ab bg;clear V bl HW bg;go_wp2_with fail;refine(Aa HR).mono ?_;rintro e w2 ⟨en,rfl,hr,E⟩;have d:=Ab (Ad (Aa O) E);have D:=Ab ((Aa S).below E);have z0:=(Aa D).at 0 rfl;have z1:=(Aa D).at 1 rfl;have z2:=(Aa D).at 2 rfl;have z3:=(Aa D).at 3 rfl;have z4:=(Aa D).at 4 rfl;have z5:=(Aa D).at 5 rfl;have z6:=(Aa D).at 6 rfl;have z7:=(Aa D).at 7 rfl;have z8:=(Aa D).at 8 rfl;have z9:=(Aa D).at 9 rfl;have HC:=Ab hr;clear hr E HR y0 y1 y2 y3 y4 y5 y6 y7 y8 y9;by_cases h0:en=0
 case neg=>
  have hd:(en !=0)=true:=by simp[h0]
  clear h0
  go_wp2_with (first
   |(go_at_call 8;refine(Aa HA _ (Aa d)).mono ?_;rintro e w3 ⟨rfl,ai⟩;have bu:=Ab (Ad (Aa d) ai);clear ai)
   |fail)
  go_ret;exact⟨rfl,Aa bu⟩
 subst h0;have HN:=Ab (OV f w2 ((Aa HF) w2 (Aa d)));unfold A1.val at HN;go_wp2_with fail;refine(Aa HN).mono ?_;rintro e w3 ⟨ai,en,br,⟨az, -⟩|⟨-,q,T0,rfl,ar,aw⟩⟩
 ·exact absurd (br.uniq (Aa HC)) az
 have a9:=Ab aw;have aq:=Ab ar;have ak:=(Aa D).lt;have cb:f.n<=8:=by rw[<-ar.len];exact aw.net.few.1
 clear ai br aw ar HN z0 z1 z2 z3 z4 z5 z6 z7 z8 z9;go_wp2_with fail;go_loopw [9] (fun i wr=> ∃(m:Nat) (T:Az) (k:Nat),m<=n/\i=.int U m/\Hid (AQ w2 wr q (Hv T0) T k/\T.ns.length=f.n/\k<=16*m/\Bf T k)) (fun i _=>n-(intOf i).toNat)
 case atStart=>exact⟨0,T0,0,δ _,rfl,Ab ⟨Aa a9,(Aa aq).len,ς _,Bf.new (Aa aq)⟩⟩
 case round=>
  obtain⟨m,T,k,hm,rfl,A⟩:=hrel;rename_i wr;clear a9;by_cases s:m<n
  ·have b7:(m:Int)<(n:Int):=by omega
   have a5:=Ab ((Aa d).trans ((Aa A).1.low.mono (Aa d).size));obtain⟨b,off,ha,Z⟩:=((Aa HE) wr (Aa a5)).at s;have al:=((Aa HE) wr (Aa a5)).2.1 m s;have b4:=(Aa bv) m s;have e0:wr.cell? ⟨b,off+m*6,ι⟩=θ (.int U (N.getD m .dflt).kd):=Z m s 0 _ rfl;have e1:wr.cell? ⟨b,off+m*6+1,ι⟩=θ (.int U (N.getD m .dflt).nd):=Z m s 1 _ rfl;have e2:wr.cell? ⟨b,off+m*6+2,ι⟩=θ (.int U (N.getD m .dflt).n):=Z m s 2 _ rfl;have e3:wr.cell? ⟨b,off+m*6+3,ι⟩=θ (.int U (N.getD m .dflt).at_):=Z m s 3 _ rfl;have e4:wr.cell? ⟨b,off+m*6+4,ι⟩=θ (.int U (N.getD m .dflt).by_):=Z m s 4 _ rfl;have e5:wr.cell? ⟨b,off+m*6+5,ι⟩=θ (.slice (N.getD m .dflt).a (N.getD m .dflt).dn (N.getD m .dflt).dc):=Z m s 5 _ rfl;generalize N.getD m .dflt=ev at*;have Q:=Ab (GN (Aa A).1 ((Aa ah) w2 (Aa d)) (by have:=(Aa A).2.2.1;omega) ev.kd ev.nd ev.n ev.at_ ev.by_ ev.dc al (by omega));rw[ha];clear Z ha al;go_wp2_with fail;refine(Aa Q).mono ?_;rintro e w4 ⟨ok,T1,k1,rfl,H,bi⟩;obtain⟨I,ay⟩:=aB H (Aa A).1.net.few.1;have bx:=Ab (show AQ w2 w4 q (Hv T0) T1 k1/\T1.ns.length=f.n/\k1<=16*(m+1)/\Bf T1 k1 from⟨bi,I.trans (Aa A).2.1,by have:=(Aa A).2.2.1;omega,aA H (Aa A).2.2.2⟩);clear H bi I ay Q e0 e1 e2 e3 e4 e5;go_wp2;go_roundw
   case rel=>exact⟨m+1,T1,k1,s,by go_num,bx⟩
   case measure=>simp[intOf];omega
  ·obtain rfl:m=n:=by omega
   have hk:k<=1600:=by have:=(Aa A).2.2.1;omega
   go_wp2_with fail;refine(MX (Aa A).1 rfl).mono ?_;rintro e w4 ⟨a4,c4,rfl,bm,au⟩;have a6:=Ab (show GE w2 w4 q wr.heap.size k f.n T (Hv T0) (γ a4 T.fs.length c4) T.fs (γ none 0 0) (FM T 0) from⟨(Aa A).1.below au,(Aa A).2.1,bm,Bs.nil _ _,au.size⟩);have ae:=Ab (Aa A).1.net.lt;have HI:=Ab (Aa A).2.2.2;have b6:=(Aa A).1.net.few.2;generalize wr.heap.size=B at*;clear au bm A aq;go_wp2;go_loopw [11,12] (fun v i wr=> ∃j:Nat,j<=f.n/\i=.int U j/\Hid (GE w2 wr q B k f.n T (Hv T0) (γ a4 T.fs.length c4) T.fs v (FM T j))) (fun _ i _=>f.n-(intOf i).toNat)
   case atStart=>exact⟨0,δ _,rfl,a6⟩
   case round=>
    obtain⟨j,b3,rfl,p⟩:=hrel
    rename ο=>w5
    obtain⟨v5,rfl⟩:∃v5,v5=u11:=⟨_,rfl⟩;clear a6;have X5:=Ab ((Aa D).belowB (Aa p).net.low ak);have x0:=(Aa X5).at 0 rfl;by_cases o:j<f.n
    ·have ax:(j:Int)<(f.n:Int):=by omega
     have af:=Ab (KF q w2.heap.size T (j:Int) w5 (Aa p).net.net ((Aa p).net.tabs ((Aa ah) w2 (Aa d)) _ (ρ _ _)).tab);rw[Ru]at af;unfold CT.cells at af;go_wp2_with fail;refine(Aa af).mono ?_;rintro e w6 ⟨rfl,av⟩;have an:=Ab ((Aa p).below av);have b9:=av;clear av af x0
     go_wp2_with (first
      |(at_builtin;refine eH rfl (.tmp 52) (.tmp 56) rfl B _ (FM T j) (IT T j) rfl rfl (Aa an).rep (Aa an).size (by rw[O0];omega) ?_;intro s7 u bn Y;have ba:=Ab (ζ bn Y);clear bn Y)
      |fail)
     go_roundw
     case rel=>
      exact⟨j+1,o,by go_num,Ab ((Aa an).push (Aa ae) (Aa ba).2 (by rw[jx];exact(Aa ba).1))⟩
     case measure=>simp[intOf];omega
    ·obtain rfl:j=f.n:=by omega
     have Q:=Ab (TA (Aa p).net ((Aa ah) w2 (Aa d)) (by omega) 7 id 0 0 0 0 (C8 w5) (by omega));go_wp2_with fail;refine(Aa Q).mono ?_;rintro e w6 ⟨ok,T1,k1,rfl,H,bj,J⟩;obtain⟨a0,bh,I,ay,aa⟩:=oT H (Aa HI) (by omega);have J:Tu (EK q T) w5 w6:=by simpa using J
     rw[(Aa p).len]at a0 I aa
     have a7:=Ab (show GE w2 w6 q B k1 f.n T1 (Hv T0) (γ a4 T.fs.length c4) T.fs v5 (FM T f.n) from⟨bj,I,
      Cj (Aa p).fly J fun i hi e=>by have h1:=(C9 (Aa p).fly hi).1;have h2:=Aa ae i e;omega,
      Cj (Aa p).rep J fun i hi e=>by have h1:=(C9 (Aa p).rep hi).1;have h2:=Aa ae i e;omega,ν (Aa p).size J.size⟩)
     have bb:=Ab aa;have ap:=Ab (ζ a0 bh);clear H bj J a0 bh I ay aa Q p HI ae x0 X5;go_wp2;go_loopw [14] (fun i wr=> ∃j:Nat,j<=f.n/\i=.int U j/\Hid (GE w2 wr q B k1 f.n T1 (Hv T0) (γ a4 T.fs.length c4) T.fs v5 (FM T f.n))) (fun i _=>f.n-(intOf i).toNat)
     case atStart=>exact⟨0,δ _,rfl,a7⟩
     case round=>
      obtain⟨j,b3,rfl,p⟩:=hrel
      rename ο=>u
      clear a7;have X7:=Ab ((Aa D).belowB (Aa p).net.low ak);have x0:=(Aa X7).at 0 rfl;by_cases o:j<f.n
      ·have ax:(j:Int)<(f.n:Int):=by omega
       obtain⟨g,cap,hv,Z⟩:=(Aa p).rep.at (by rw[O0];omega);rw[O0]at hv Z;have r:=Z j o;rw[mY T o]at r;subst hv;have ab:=Ru T j;have ag:=Ab (fun wx (z:π u.heap.size u wx)=>KF q w2.heap.size T1 (j:Int) wx ((Aa p).net.below z).net (((Aa p).net.below z).tabs ((Aa ah) w2 (Aa d)) _ (ρ _ _)).tab);have b0:=(Aa bb) j o;clear Z X7;generalize IT T j=R at*;obtain⟨r0,r1,r2,r3,r4,r5,r6⟩:=R;unfold CT.cells at ab r;have c0:u.cell? ⟨g,j*7,ι⟩=θ (.int U r0):=r 0 (by decide) _ rfl;have c1:u.cell? ⟨g,j*7+1,ι⟩=θ (.int U r1):=r 1 (by decide) _ rfl;have c2:u.cell? ⟨g,j*7+2,ι⟩=θ (.int U r2):=r 2 (by decide) _ rfl;have c3:u.cell? ⟨g,j*7+3,ι⟩=θ (.int U r3):=r 3 (by decide) _ rfl;have c4:u.cell? ⟨g,j*7+4,ι⟩=θ (.int U r4):=r 4 (by decide) _ rfl;have c5:u.cell? ⟨g,j*7+5,ι⟩=θ (κ r5):=r 5 (by decide) _ rfl;have c6:u.cell? ⟨g,j*7+6,ι⟩=θ (β r6):=r 6 (by decide) _ rfl;have XB:=Ab (AI 44 u [.int U r0,.int U r1,.int U r2,.int U r3,.int U r4,κ r5,β r6]);have bd:=As u (μ #[.int U r0,.int U r1,.int U r2,.int U r3,.int U r4,κ r5,β r6] 44);have HL:=Ab bd;clear r bd;rcases b0 with⟨az,he⟩|⟨b1,x,s1,s2,s3,s4,s5,s6,hx,bp,bq⟩
       ·have b8:((j:Int)==id)=false:=by rw[beq_eq_false_iff_ne];exact az
        rw[he,ab]at ag;have hq:=Xa r0 r1 r2 r3 r4 r5 r6;have hs:=Pk r0 r1 r2 r3 r4 r5 r6;clear ab he;go_wp2_with fail;have y:=XB;have C:=Ab (fun wx (z:π (u.alloc (μ #[.int U r0,.int U r1,.int U r2,.int U r3,.int U r4,κ r5,β r6] 44)).heap.size (u.alloc (μ #[.int U r0,.int U r1,.int U r2,.int U r3,.int U r4,κ r5,β r6] 44)) wx)=>Ad (Aa HL) z);clear XB HL c0 c1 c2 c3 c4 c5 c6;generalize b5:u.heap.size=rr at y⊢;generalize hW:u.alloc (μ #[.int U r0,.int U r1,.int U r2,.int U r3,.int U r4,κ r5,β r6] 44)=W at y C⊢;have y0:=(Aa y).at 0 rfl;have y1:=(Aa y).at 1 rfl;have y2:=(Aa y).at 2 rfl;have y3:=(Aa y).at 3 rfl;have y4:=(Aa y).at 4 rfl;have y5:=(Aa y).at 5 rfl;have y6:=(Aa y).at 6 rfl;have cR:=Cf (W:=W) (fun w' z=>Aa ag w' (Aa C w' z));have k0:=cell_regrown y0;have k1:=cell_regrown y1;have k2:=cell_regrown y2;have k3:=cell_regrown y3;have k4:=cell_regrown y4;have k5:=cell_regrown y5;have k6:=cell_regrown y6;clear y0 y1 y2 y3 y4 y5 y6;refine wp_region_quiet_below (by kernel_rfl) (by kernel_rfl) ?_
        repeat (with_reducible refine wpQuiet_step (fun K hK=>?_);go_simp;first|(with_reducible refine hK _ ?_;clear hK K)|(apply Exists.intro;apply ζ;(intro _;(go_at_call 14;exact cR _ _));with_reducible refine hK _ ?_;clear hK K))
        refine wpQuiet_nil ?_;intro _ a1;obtain⟨⟨dq,ad⟩,ac⟩:=a1;subst ac;have am:=Ab (below_regrown W dq ad);clear cR k0 k1 k2 k3 k4 k5 k6;generalize grow (redrawn W dq) ad=w8 at*;go_wp2;go_roundw
        case rel=>exact⟨j+1,o,by go_num,Ab ((Aa p).below (Aa C _ (Aa am)))⟩
        case measure=>simp[intOf];omega
       ·subst b1
        have b2:r0=(x:Int):=by
         have h:=congrArg (fun l=>l[0]?) (ab.symm.trans bp);simpa using h
        subst b2;have cc:IntKind.i64.wrap ((x:Int)+1)=(x:Int)+1:=by rw[IntKind.wrap_i64];omega
        rw[bq]at ag;have hq:=Xa ((x:Int)+1) 0 0 0 0 false ⟨#[]⟩;have hs:=Pk ((x:Int)+1) 0 0 0 0 false ⟨#[]⟩;clear ab bp bq;have bz:=((Aa HL).cell (World.block_lt_of_cell? u _ c0)).trans c0
        go_wp2_with (first
         |((with_reducible refine JN 44 JQ 15 82 u.heap.size [.int U (x:Int),.int U (r1),.int U (r2),.int U (r3),.int U (r4),κ r5,β r6] [.int U ((x:Int)+1),.int U (0),.int U (0),.int U (0),.int U (0),κ false,β ⟨#[]⟩] ?_ ?_ (Aa XB) rfl rfl (by simp[Value.oneCell']) ?_);(focus rfl);(focus rfl);intro wz bt bs;have y:=Ab bt;have bc:=Ab bs;clear bt bs)
         |fail)
        have C:=Ab (fun wx (z:π wz.heap.size wz wx)=>Ad ((Aa HL).trans ((Aa bc).below (Aa HL).size fun j hj e=>by omega)) z);clear XB HL bc c0 c1 c2 c3 c4 c5 c6 bz;generalize b5:u.heap.size=rr at y⊢;have y0:=(Aa y).at 0 rfl;have y1:=(Aa y).at 1 rfl;have y2:=(Aa y).at 2 rfl;have y3:=(Aa y).at 3 rfl;have y4:=(Aa y).at 4 rfl;have y5:=(Aa y).at 5 rfl;have y6:=(Aa y).at 6 rfl;have cR:=Cf (W:=wz) (fun w' z=>Aa ag w' (Aa C w' z));have k0:=cell_regrown y0;have k1:=cell_regrown y1;have k2:=cell_regrown y2;have k3:=cell_regrown y3;have k4:=cell_regrown y4;have k5:=cell_regrown y5;have k6:=cell_regrown y6;clear y0 y1 y2 y3 y4 y5 y6;refine wp_region_quiet_below (by kernel_rfl) (by kernel_rfl) ?_
        repeat (with_reducible refine wpQuiet_step (fun K hK=>?_);go_simp;first|(with_reducible refine hK _ ?_;clear hK K)|(apply Exists.intro;apply ζ;(intro _;(go_at_call 14;exact cR _ _));with_reducible refine hK _ ?_;clear hK K))
        refine wpQuiet_nil ?_;intro _ a1;obtain⟨⟨dq,ad⟩,ac⟩:=a1;subst ac;have am:=Ab (below_regrown wz dq ad);clear cR k0 k1 k2 k3 k4 k5 k6;generalize grow (redrawn wz dq) ad=w8 at*;go_wp2;go_roundw
        case rel=>exact⟨j+1,o,by go_num,Ab ((Aa p).below (Aa C _ (Aa am)))⟩
        case measure=>simp[intOf];omega
      ·obtain rfl:j=f.n:=by omega
       have h3:(0<=id/\id<(f.n:Int)/\ok=true)\/(0<=id/\¬id<(f.n:Int)/\ok=false)\/(¬0<=id/\ok=false):=by
        have h:=(Aa ap).1;by_cases h1:0<=id
        ·by_cases h2:id<(f.n:Int)
         ·exact .inl ⟨h1,h2,h.trans (decide_eq_true ⟨h1,h2⟩)⟩
         ·exact .inr (.inl ⟨h1,h2,h.trans (decide_eq_false fun k=>h2 k.2)⟩)
        ·exact .inr (.inr ⟨h1,h.trans (decide_eq_false fun k=>h1 k.1)⟩)
       have bw:=Ab (Aa ap).2;clear ap;rcases h3 with⟨h1,h2,rfl⟩|⟨h1,h2,rfl⟩|⟨h1,rfl⟩
       all_goals go_wp2_with (first
        |(go_at_call 15;refine(MX (Aa p).net (Aa bw)).mono ?_;rintro e w8 ⟨a8,c8,rfl,bo,Y⟩;have ao:=Ab (ζ bo ((Aa p).below Y));clear bo Y)
        |(go_at_call 16;refine(iL T.fs _ B _ _ _ (Aa ao).1 (Aa ao).2.fly (by omega)).mono ?_;rintro e w9 ⟨rfl,bf⟩;have a3:=Ab ((Aa d).trans (((Aa ao).2.below bf).net.low.mono (Aa d).size));clear bf)
        |(go_at_call 8;refine(Aa HA _ (Aa a3)).mono ?_;rintro e ce ⟨rfl,aj⟩;have a2:=Ab (Ad (Aa a3) aj);clear aj)
        |fail)
       all_goals go_ret
       all_goals exact⟨rfl,Aa a2⟩
end Go.Proofs.YtfpmnekaockodaaGreatDoor
