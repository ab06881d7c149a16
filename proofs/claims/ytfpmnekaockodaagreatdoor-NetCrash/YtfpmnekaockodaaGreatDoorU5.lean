/- Laws for the proof. -/
import Derived.Test.YtfpmnekaockodaaGreatDoorU4
set_option linter.all false
open Go.Proofs.Tryz
open Go.Value renaming slice->U,ownBlock->κ
open List renaming replicate->α
open Go.Obj renaming cells->β
open Option renaming some->γ,none->ε
open Go.Proofs.Tryz renaming prog->δ
open Go.IntKind renaming i64->ζ,u64->ξ
open Nat renaming le_refl->η,le_trans->ν
open Go.RowKit renaming Below->θ
open Bool renaming and_eq_true->ι
open Go renaming World->μ
namespace Go.Proofs.YtfpmnekaockodaaGreatDoor
open Go.RowKit Go.Sort
set_option maxRecDepth 4000
set_option maxHeartbeats 8000000
variable {D:DataW Value}{k:Int}{bs:List ByteArray}{kn:List Nat}{rs:List RV}{left:Lit->Bool}{B sz K n c r first p:Nat}{S:Nat->Bool}{cs:Nat->List Nat}{f:Nat->Nat×Nat}{a:Option Addr}{v:PV}{w wr w2 w3:μ}
def Qs(w:μ)(n:Nat)(b:n<=1048576):
  Own (w.alloc (β (madeCells #[.int ξ 0] n) 265)) w.heap.size (U (γ ⟨w.heap.size,0,ε⟩) n n) (α n 0):=by
 refine⟨NZ n,by simp[cellsU],.inr ⟨w.heap.size,n,madeCells #[.int ξ 0] n,by simp,η _,heap_alloc_new w _,by simp,by unfold maxLen;omega,by simp[size_madeCells],?_⟩⟩;rw[toList_madeCells_one,List.take_of_length_le (by simp)];simp[cellsU]
def ZX(n:Nat)(i:n<=1048576)(wx:μ):(Instr.makeSlice 40 (.int ζ (n:Int)) (.int ζ (n:Int))).run δ wx=.ok (U (γ ⟨wx.heap.size,0,ε⟩) n n) (wx.alloc (β (madeCells #[.int ξ 0] n) 265)):=by
 obtain⟨h,b,d,g,e⟩:=info_parts KX;have:=run_make (P:=δ) wx 40 265 h (.int ξ 0) underlying40 b d ζ ζ (n:Int) (n:Int) (by omega) (Int.le_refl _) (by rw[e];omega) (by omega);rw[g]at this;simpa [Value.cells]using this
def PS(w:μ)(B:Nat)(v:PV)(sz:Nat)(S:Nat->Bool)(f:Nat->Nat×Nat)(cs:Nat->List Nat)(kn:List Nat)(bs:List ByteArray):Prop:=
 AZ w B v kn bs/\(∃D,w.ownsMap δ 3 CM v.bm v.n D/\A3 D S (Em sz f))/\Lf w B sz S f cs/\(∀p,S p=true->p<v.n/\(f p).1≠v.kg)/\B<=v.bm
def PS.below{w':μ}(h:PS w B v sz S f cs kn bs)(b:θ w.heap.size w w'):PS w' B v sz S f cs kn bs:=by
 obtain⟨d,⟨D,e,g⟩,i,j,l⟩:=h;exact⟨d.below b,⟨D,e.kept (CD b none) (by simp),g⟩,i.below b,j,l⟩
def Cx(k:Int)(rs:List RV)(m p:Nat):Bool:=decide (p<m)&&AX k (rs.getD p .dflt).xs
def En(w wr:μ)(k:Int)(rs:List RV)(m:Nat)(f:Nat->Nat×Nat)(D:DataW Value):Prop:=
 wr.ownsMap δ 3 CM w.heap.size m D/\A3 D (Cx k rs m) (Em (sizeOfK k) f)/\Lf wr w.heap.size (sizeOfK k) (Cx k rs m) f (fun p=>(rs.getD p .dflt).xs)/\θ w.heap.size w wr
def En.no{m:Nat}(h:En w wr k rs m f D)(b:θ wr.heap.size wr w2)(o:AX k (rs.getD m .dflt).xs=false):En w w2 k rs (m+1) f D:=by
 obtain⟨j,d,g,l⟩:=h
 have e:∀p,Cx k rs m p=Cx k rs (m+1) p:=fun p=>by
  unfold Cx;by_cases hp:p=m
  ·subst hp;rw[o];simp
  ·have:(p<m+1)=(p<m):=propext (by omega)
   simp only[this]
 have i:Cx k rs m=Cx k rs (m+1):=funext e;rw[i]at d g;exact⟨(j.kept (CD b none) (by simp)).mono (Nat.le_succ _),d,g.below b,Ad l b⟩
def En.yes{m:Nat}{g2 c2:Nat}(h:En w wr k rs m f D)(o:θ wr.heap.size wr w2)(E:AX k (rs.getD m .dflt).xs=true)
  (A:Own w2 wr.heap.size (U (γ ⟨g2,0,ε⟩) (sizeOfK k) c2) (rs.getD m .dflt).xs) (N:w3.ownsMap δ 3 CM w.heap.size (m+1) (D.put (.int ζ (m:Int)) (.held (U (γ ⟨g2,0,ε⟩) (sizeOfK k) c2)))) (z:w2.grownBy w3 (γ w.heap.size)):
  En w w3 k rs (m+1) (fun q=>if q=m then(g2,c2)else f q) (D.put (.int ζ (m:Int)) (.held (U (γ ⟨g2,0,ε⟩) (sizeOfK k) c2))):=by
 obtain⟨x,H,l,y⟩:=h
 have e:∀p,(decide (p=m)||Cx k rs m p)=Cx k rs (m+1) p:=fun p=>by
  unfold Cx;by_cases hp:p=m
  ·subst hp;rw[E];simp
  ·have:(p<m+1)=(p<m):=propext (by omega)
   simp only[this,hp,decide_false,Bool.false_or]
 have L:=x.lt;have i:∀p,Cx k rs m p=true->(f p).1<wr.heap.size:=fun p hp=>((l.own p hp).1.lt (k:=(f p).1) rfl).2;have I:=A.lt (k:=g2) rfl;have s:w2.ownsMap δ 3 CM w.heap.size m D:=x.kept (CD o none) (by simp);refine⟨N,(H.put x.isMap (p:=m) _).congr e (fun p hp=>?_),⟨fun p hp=>?_,fun p q hp C u=>?_⟩,?_⟩
 ·by_cases b:p=m
  ·subst b;simp[Em]
  ·simp[Em,b]
 ·rw[<-e]at hp
  by_cases b:p=m
  ·subst b
   simp only[if_true];refine⟨(A.mono (by have:=y.size;omega)).kept z (.inr fun e=>?_),(GS E).2.1⟩;exact KM A s (by simpa [κ]using e)
  ·have g:Cx k rs m p=true:=by simpa [b]using hp
   simp only[b,if_false];refine⟨((l.own p g).1.below o).kept z (.inr fun e=>?_),(l.own p g).2⟩;exact KM ((l.own p g).1.below o) s (by simpa [κ]using e)
 ·rw[<-e]at hp C
  by_cases b:p=m
  ·by_cases d:q=m
   ·exact absurd (b.trans d.symm) u
   ·have:=i q (by simpa [d]using C)
    simp only[b,d,if_true,if_false];omega
  ·have g:Cx k rs m p=true:=by simpa [b]using hp
   have:=i p g;by_cases d:q=m
   ·simp only[b,d,if_true,if_false]
    omega
   ·simp only[b,d,if_false]
    exact l.two p q g (by simpa [d]using C) u
 ·exact(Ad y o).trans (CA z (ν y.size o.size) fun j J=>by cases J;exact η _)
def En.done{w1:μ}{kg bg g:Nat}(h:En w wr k rs n f D)(j:θ wr.heap.size wr w1)(o:θ w1.heap.size w1 w3)
  (l:Own w3 wr.heap.size (U (γ ⟨kg,0,ε⟩) (sizeOfK k) (sizeOfK k)) (α (sizeOfK k) 0)) (d:Ar w3 wr.heap.size (U (γ ⟨bg,0,ε⟩) K K) (α K ByteArray.empty))
  (q:w3.heap[g]? =γ (β #[U a n c,U (γ ⟨kg,0,ε⟩) (sizeOfK k) (sizeOfK k),U (γ ⟨bg,0,ε⟩) K K,.map (γ w.heap.size)] 396 (0,0))):
  PS w3 w.heap.size ⟨g,a,n,c,kg,sizeOfK k,bg,K,w.heap.size⟩ (sizeOfK k) (Cx k rs n) f (fun p=>(rs.getD p .dflt).xs) (α (sizeOfK k) 0) (α K ByteArray.empty)/\θ w.heap.size w w3:=by
 obtain⟨s,u,m,i⟩:=h;have b:=Ad j o;refine⟨⟨⟨by simpa using q,by simpa using l.mono i.size,by simpa using d.mono i.size⟩,⟨D,s.kept (CD b none) (by simp),u⟩,m.below b,fun p hp=>⟨?_,fun e=>?_⟩,η _⟩,Ad i b⟩
 ·have:(decide (p<n)&&AX k (rs.getD p .dflt).xs)=true:=hp
  simp only[ι,decide_eq_true_eq]at this;exact this.1
 ·have j:=((m.own p hp).1.lt (k:=(f p).1) rfl).2
  have x:=(l.lt (k:=kg) rfl).1;simp only at e;omega
def Fl(w:μ)(o:Obj):θ w.heap.size w (w.alloc o):=(Below.refl _ _).alloc (η _) _
def En.endA(h:En w wr k rs n f D)(b:K<=128):
  PS (((wr.drew.alloc (β (madeCells #[.int ξ 0] (sizeOfK k)) 265)).alloc (β (madeCells #[.string ByteArray.empty] K) 9)).alloc (β #[U a n c,U (γ ⟨wr.heap.size,0,ε⟩) (sizeOfK k) (sizeOfK k),U (γ ⟨wr.heap.size+1,0,ε⟩) K K,.map (γ w.heap.size)] 396)) w.heap.size
   ⟨wr.heap.size+1+1,a,n,c,wr.heap.size,sizeOfK k,wr.heap.size+1,K,w.heap.size⟩ (sizeOfK k) (Cx k rs n) f (fun p=>(rs.getD p .dflt).xs) (α (sizeOfK k) 0) (α K ByteArray.empty)/\
  θ w.heap.size w (((wr.drew.alloc (β (madeCells #[.int ξ 0] (sizeOfK k)) 265)).alloc (β (madeCells #[.string ByteArray.empty] K) 9)).alloc (β #[U a n c,U (γ ⟨wr.heap.size,0,ε⟩) (sizeOfK k) (sizeOfK k),U (γ ⟨wr.heap.size+1,0,ε⟩) K K,.map (γ w.heap.size)] 396)):=by
 have d:=DU k;have o1:=Qs wr.drew (sizeOfK k) (by omega);have o2:=KJ (wr.drew.alloc (β (madeCells #[.int ξ 0] (sizeOfK k)) 265)) K (by omega) _ rfl;rw[A7]at o2;refine h.done (w1:=wr.drew) ((Below.refl _ _).drew) ?_ ?_ ?_ ?_
 ·exact Ad (Ad (Fl _ _) (Fl _ _)) (Fl _ _)
 ·exact(o1.below (Fl _ _)).below (Fl _ _)
 ·exact(o2.below (Fl _ _)).mono (by show wr.heap.size<=wr.heap.size+1;omega)
 ·have:=heap_alloc_new ((wr.drew.alloc (β (madeCells #[.int ξ 0] (sizeOfK k)) 265)).alloc (β (madeCells #[.string ByteArray.empty] K) 9)) (β #[U a n c,U (γ ⟨wr.heap.size,0,ε⟩) (sizeOfK k) (sizeOfK k),U (γ ⟨wr.heap.size+1,0,ε⟩) K K,.map (γ w.heap.size)] 396)
  rw[A7,A7]at this;exact this
def En.endB(h:En w wr k rs n f D)(b:K<=128):
  PS (((wr.drew.alloc (β (madeCells #[.string ByteArray.empty] K) 9)).alloc (β (madeCells #[.int ξ 0] (sizeOfK k)) 265)).alloc (β #[U a n c,U (γ ⟨wr.heap.size+1,0,ε⟩) (sizeOfK k) (sizeOfK k),U (γ ⟨wr.heap.size,0,ε⟩) K K,.map (γ w.heap.size)] 396)) w.heap.size
   ⟨wr.heap.size+1+1,a,n,c,wr.heap.size+1,sizeOfK k,wr.heap.size,K,w.heap.size⟩ (sizeOfK k) (Cx k rs n) f (fun p=>(rs.getD p .dflt).xs) (α (sizeOfK k) 0) (α K ByteArray.empty)/\
  θ w.heap.size w (((wr.drew.alloc (β (madeCells #[.string ByteArray.empty] K) 9)).alloc (β (madeCells #[.int ξ 0] (sizeOfK k)) 265)).alloc (β #[U a n c,U (γ ⟨wr.heap.size+1,0,ε⟩) (sizeOfK k) (sizeOfK k),U (γ ⟨wr.heap.size,0,ε⟩) K K,.map (γ w.heap.size)] 396)):=by
 have d:=DU k;have o1:=KJ wr.drew K (by omega) _ rfl;have o2:=Qs (wr.drew.alloc (β (madeCells #[.string ByteArray.empty] K) 9)) (sizeOfK k) (by omega);rw[A7]at o2;refine h.done (w1:=wr.drew) ((Below.refl _ _).drew) ?_ ?_ ?_ ?_
 ·exact Ad (Ad (Fl _ _) (Fl _ _)) (Fl _ _)
 ·exact(o2.below (Fl _ _)).mono (by show wr.heap.size<=wr.heap.size+1;omega)
 ·exact(o1.below (Fl _ _)).below (Fl _ _)
 ·have:=heap_alloc_new ((wr.drew.alloc (β (madeCells #[.string ByteArray.empty] K) 9)).alloc (β (madeCells #[.int ξ 0] (sizeOfK k)) 265)) (β #[U a n c,U (γ ⟨wr.heap.size+1,0,ε⟩) (sizeOfK k) (sizeOfK k),U (γ ⟨wr.heap.size,0,ε⟩) K K,.map (γ w.heap.size)] 396)
  rw[A7,A7]at this;exact this
def ky(K:Nat)(a:Option Addr)(n c:Nat)(rs:List RV)(w:μ)(ab:0<sizeOfK (K:Int))(h:Aj w a n rs)(hs:Af rs)(hn:n<=1048576):
  Calls δ 278 #[.int ζ (K:Int),U a n c] w fun e w'=> ∃g kg bg f,e=.returned (.pointer (γ ⟨g,0,ε⟩))/\
   PS w' w.heap.size ⟨g,a,n,c,kg,sizeOfK (K:Int),bg,K,w.heap.size⟩ (sizeOfK (K:Int)) (Cx (K:Int) rs n) f (fun p=>(rs.getD p .dflt).xs) (α (sizeOfK (K:Int)) 0) (α K ByteArray.empty)/\θ w.heap.size w w':=by
 obtain rfl:=h.1;have C:=DV ab;have hK:K<=128:=by omega
 have ay:=DU (K:Int);have au:= @run_makeMap δ;have Hh:=Ab h;have Hs:=Ab hs;have HZ:=Ab (Hr (K:Int));have P:=Ab (ZX (sizeOfK (K:Int)) (by omega));have O:=Ab (Ov K (by omega));have ap:=Ab (fun wx=>Qs wx (sizeOfK (K:Int)) (by omega));have ao:=Ab (fun wx=>KJ wx K (by omega) _ rfl);have J:Hid (En w (w.alloc (.map #[] 0)) (K:Int) rs 0 (fun _=>(0,0)) (.map [])):=Ab ⟨World.ownsMap_made _ _ _ _,(A3.empty (Em 0 fun _=>(0,0))).congr (fun p=>by simp[Cx]) (fun p hp=>by cases hp),⟨fun p hp=>by simp[Cx]at hp,fun p q hp=>by simp[Cx]at hp⟩,(Below.refl _ _).alloc (η _) _⟩;clear h hs ab C;have Q:Hid (∀xs,AX (K:Int) xs=true->xs.length=sizeOfK (K:Int)):=Ab fun xs hx=>(GS hx).2.1;go_enter func278,ntmps278;go_wp2;go_loopw [11] (fun i wr=> ∃k:Nat,∃f:Nat->Nat×Nat,∃D:DataW Value,k<=rs.length/\i=.int ζ k/\Hid (En w wr (K:Int) rs k f D)) (fun i _=>rs.length-(intOf i).toNat)
 case atStart=>exact⟨0,_,_,Nat.zero_le _,rfl,J⟩
 case round=>
  obtain⟨k,f,D,hk,rfl,HB⟩:=hrel;clear J;by_cases y:k<rs.length
  ·have R:=Aa HB
   have hR:=(Aa Hh).below R.2.2.2;obtain⟨b,off,rfl,W⟩:=hR.at y;obtain⟨aq,ar⟩:=W k y;have m:=hR.2.1 k y;have an:(k:Int)<(rs.length:Int):=by omega
   have ax:=(Aa Hs) k;have o:=Ab (fun w2 j l=>R.no (w2:=w2) j l);have u:=Ab (fun(w2 w3:μ) (g2 c2:Nat) j l ho hm hg=>R.yes (w2:=w2) (w3:=w3) (g2:=g2) (c2:=c2) j l ho hm hg);generalize rs.getD k .dflt=r at*;have x:θ wr.heap.size wr (wr.alloc (β #[.slice r.a r.n r.c,.string r.s] 73)):=(Below.refl _ _).alloc (η _) _;have A:=m.below x;have HV:=Ab (L6 r.a r.n r.c r.xs (K:Int) _ A);have V:=GT wr (.slice r.a r.n r.c) (.string r.s);have L:=Ab (fun w2 (j:θ (wr.alloc (β #[.slice r.a r.n r.c,.string r.s] 73)).heap.size (wr.alloc (β #[.slice r.a r.n r.c,.string r.s] 73)) w2)=>(V.below j).1);have N:=Ab (fun w2 (j:θ (wr.alloc (β #[.slice r.a r.n r.c,.string r.s] 73)).heap.size (wr.alloc (β #[.slice r.a r.n r.c,.string r.s] 73)) w2)=>Hj r.a r.n r.c r.xs w2 (A.below j) (by omega));have H:=Ab x;have ag:=Ab R.1;clear R hR W m A x V;cases l:AX (K:Int) r.xs
   ·have ah:=Ab (fun w2 j=>Aa o w2 j l)
    clear o u L N;go_wp2_with (go_at_call 179;refine(Aa HV).mono ?_;rintro e w2 ⟨X,d⟩;obtain rfl:=NB X;rw[l];have ad:=Ab d;clear d X);go_roundw
    case rel=>exact⟨k+1,f,D,by omega,by go_num,Ab (Aa ah w2 (Ad (Aa H) (Aa ad)))⟩
    case measure=>simp[intOf];omega
   ·have hl:=Ab (Aa Q r.xs l)
    have aa:Hid (0<r.xs.length):=Ab (Hg.1 l).1;have aj:=Ab (fun(w3 w4:μ) (g2 c2:Nat) (j:θ wr.heap.size wr w3) ho hm hg=>Aa u w3 w4 g2 c2 j l ho hm hg);clear o u HB;go_wp2_with (first|(go_at_call 179;refine(Aa HV).mono ?_;rintro e w2 ⟨X,d⟩;obtain rfl:=NB X;rw[l];have hx:=Aa L w2 d;have HC:=Ab (Aa N w2 d);have E:=Ab (Ad (Aa H) d);clear d X)|(go_at_call 253;refine(Aa HC).mono ?_;rintro e w3 ⟨v3,rfl,z,T⟩;obtain⟨g3,c3,ac,ak,al,_,_⟩:=z.at (Aa aa);rw[Aa hl]at ac;subst ac;have ai:=Ab z;have I:=Ab (Ad (Aa E) T);clear z T ak al)|(at_mapUpdate;refine wpList_mapUpdate_own _ rfl (.tmp 20) (.tmp 21) (.tmp 24) 394 rfl 3 40 IV underlying394 CM w.heap.size k D rfl ((Aa ag).kept (CD (Aa I) none) (by simp)) (by unfold maxLen;omega) (.int ζ (k:Int)) (U (γ ⟨g3,0,ε⟩) (sizeOfK (K:Int)) c3) (.int ζ (k:Int)) rfl rfl (K3 (by omega)) (.held (U (γ ⟨g3,0,ε⟩) (sizeOfK (K:Int)) c3)) [] rfl ?_;intro w4 Z Y;have af:=Ab Z;have ae:=Ab Y;clear Z Y));go_roundw
    case rel=>exact⟨k+1,_,_,by omega,by go_num,Ab (Aa aj w3 w4 g3 c3 (Aa I) ((Aa ai).mono (Aa E).size) (Aa af) (Aa ae))⟩
    case measure=>simp[intOf];omega
  ·have am:k=rs.length:=by omega
   subst am;have aw:=Aa P;have av:=Aa O;clear P O Hh Hs Q;go_wp2_with fail;go_region_held (fun _=>True) (go_keep) (first|(go_at_call 176;refine(Aa HZ _).mono ?_;rintro e w' ⟨rfl,rfl⟩))
   all_goals go_wp2
   all_goals go_ret
   all_goals first|exact⟨_,_,_,f,rfl,(Aa HB).endA hK⟩|exact⟨_,_,_,f,rfl,(Aa HB).endB hK⟩
def Dl(S:Nat->Bool)(cs:Nat->List Nat)(kn:List Nat)(left:Lit->Bool)(p:Nat):Bool:=S p&&(left (.int ζ (p:Int))|| !decide (cnt (dropL (cs p) kn)=0))
def Ia(cs:Nat->List Nat)(kn:List Nat)(left:Lit->Bool)(p:Nat):List Nat:=if left (.int ζ (p:Int))=true then cs p else dropL (cs p) kn
def Kf(S:Nat->Bool)(cs:Nat->List Nat)(kn:List Nat)(left:Lit->Bool)(N first:Nat):Prop:=
 first<=N/\(first<N->S first=true/\left (.int ζ (first:Int))=false/\cnt (dropL (cs first) kn)=1)/\∀p:Nat,S p=true->left (.int ζ (p:Int))=false->cnt (dropL (cs p) kn)=1->first<=p
def Ex(left:Lit->Bool)(p:Nat):Lit->Bool:=fun z=>left z&& !z.sameKey (.int ζ (p:Int))
def Hq(left:Lit->Bool)(p q:Nat):Ex left p (.int ζ (q:Int))=(left (.int ζ (q:Int))&& !decide (q=p)):=by
 unfold Ex;rw[ri]
def GG(w wr:μ)(B:Nat)(v:PV)(sz:Nat)(S:Nat->Bool)(f:Nat->Nat×Nat)(cs:Nat->List Nat)(kn:List Nat)(bs:List ByteArray)(r:Nat)(left:Lit->Bool)(c first:Nat)(D:DataW Value):Prop:=
 AZ wr B v kn bs/\wr.ranges δ 3 CM v.bm r v.n D left c/\A3 D (Dl S cs kn left) (Em sz f)/\Lf wr B sz (Dl S cs kn left) f (Ia cs kn left)/\Kf S cs kn left v.n first/\θ B w wr/\B<=r
def GG.start{w0:μ}(o:AZ w B v kn bs)(b:A3 D S (Em sz f))(d:Lf w B sz S f cs)
  (i:w0.ranges δ 3 CM v.bm w.heap.size v.n D (Maps.has D) (Maps.size D)) (q:w.grownBy w0 none) (l:B<=w.heap.size):GG w w0 B v sz S f cs kn bs w.heap.size (Maps.has D) (Maps.size D) v.n D:=by
 have g:θ w.heap.size w w0:=CA q (η _) (fun k s=>by cases s);have e:∀p,Dl S cs kn (Maps.has D) p=S p:=fun p=>by unfold Dl;rw[b.has];cases S p<;>simp
 have j:Dl S cs kn (Maps.has D)=S:=funext e;refine⟨o.below g,i,by rw[j];exact b,?_,⟨η _,fun h=>absurd h (Nat.lt_irrefl _),fun p hp m=>?_⟩,g.mono l,l⟩
 ·rw[j]
  refine⟨fun p hp=>?_,d.two⟩;unfold Ia;rw[b.has,if_pos hp];exact⟨((d.below g).own p hp).1,(d.own p hp).2⟩
 ·rw[b.has,hp]at m;cases m
def NxP(w w2:μ)(B:Nat)(v:PV)(sz:Nat)(S:Nat->Bool)(f:Nat->Nat×Nat)(cs:Nat->List Nat)(kn:List Nat)(bs:List ByteArray)(r:Nat)(left:Lit->Bool)(c first:Nat)(D:DataW Value)(p:Nat):Prop:=
 AZ w2 B v kn bs/\w2.ranges δ 3 CM v.bm r v.n D (Ex left p) c/\A3 D (Dl S cs kn left) (Em sz f)/\Lf w2 B sz (Dl S cs kn left) f (Ia cs kn (Ex left p))/\Kf S cs kn left v.n first/\θ B w w2/\B<=r
def GG.step{w1:μ}{c1:Nat}{d J:Nat}(h:GG w wr B v sz S f cs kn bs r left c first D)
  (A:∀p,S p=true->p<v.n/\(f p).1≠v.kg) (E:f p=(d,J)) (hp:Dl S cs kn left p=true) (hl:left (.int ζ (p:Int))=true) (o:w1.ranges δ 3 CM v.bm r v.n D (Ex left p) c1) (y:wr.grownBy w1 (γ r)) (x:B<=w.heap.size):
  Own w1 B (U (γ ⟨d,0,ε⟩) sz J) (cs p)/\(cs p).length=sz/\AZ w1 B v kn bs/\v.kg≠d/\p<v.n/\S p=true/\
  ∀w2,w1.grownBy w2 (γ d)->Own w2 B (U (γ ⟨d,0,ε⟩) sz J) (dropL (cs p) kn)->NxP w w2 B v sz S f cs kn bs r left c1 first D p:=by
 obtain⟨Z,L,h3,s,h5,N,X⟩:=h;have i:S p=true:=by unfold Dl at hp;rw[ι]at hp;exact hp.1
 have l:∀u t m,wr.heap[r]? ≠γ (.cells u t m):=by
  obtain⟨es,I,W,seen,c0,_,_,_,_,hr,_⟩:=L;intro u t m e;rw[hr]at e;cases e
 have C:=(s.own p hp).1;have b:=(s.own p hp).2;unfold Ia at C b;rw[if_pos hl]at C b;rw[E]at C;have V:=Ox C L;have o1:=C.kept y (.inr fun e=>V (by simpa [κ]using e));have Y:=Z.nocells y l;have z:v.kg≠d:=fun e=>(A p i).2 (by rw[E];exact e.symm);have O:Lf w1 B sz (Dl S cs kn left) f (Ia cs kn left):=s.kept y (fun q H=>Ox (s.own q H).1 L);refine⟨o1,b,Y,z,(A p i).1,i,fun w2 g o2=>?_⟩;have Q:d≠v.bm:=KM o1 o.owns;have T:d≠r:=Ox o1 o;refine⟨Y.row g o1 z,o.kept g (fun e=>Q (by simpa using e.symm)) (fun e=>T (by simpa using e.symm)),h3,⟨fun q H=>?_,s.two⟩,h5,(N.trans (CA y (ν x N.size) fun j P=>by cases P;exact X)).trans (CA g (ν x (ν N.size y.size)) fun j P=>by cases P;exact(o1.lt (k:=d) rfl).1),X⟩;by_cases e:q=p
 ·subst e
  unfold Ia;rw[Hq,if_neg (by simp),E];exact⟨o2,by rw[Jv];exact b⟩
 ·have R:(f q).1≠d:=by have:=s.two q p H hp e;rw[E]at this;exact this
  have:=O.own q H;unfold Ia at this⊢;rw[Hq,show(left (.int ζ (q:Int))&& !decide (q=p))=left (.int ζ (q:Int)) by simp[e]];exact⟨this.1.kept g (.inr fun e=>R (by simpa [κ]using e)),this.2⟩
def Kf.more{N:Nat}(h:Kf S cs kn left N first)(hp:p<N)(u:S p=true):Kf S cs kn (Ex left p) N (if cnt (dropL (cs p) kn)=1 then min first p else first):=by
 obtain⟨s,m,o⟩:=h;by_cases j:cnt (dropL (cs p) kn)=1
 ·rw[if_pos j]
  refine⟨by omega,fun g=>?_,fun q l i d=>?_⟩
  ·by_cases x:first<p
   ·rw[show min first p=first by omega]at g⊢
    obtain⟨a,b,c⟩:=m g;exact⟨a,by rw[Hq,b];rfl,c⟩
   ·rw[show min first p=p by omega]
    exact⟨u,by rw[Hq];simp,j⟩
  ·rw[Hq]at i
   by_cases e:q=p
   ·omega
   ·have:=o q l (by simpa [e]using i) d
    omega
 ·rw[if_neg j]
  refine⟨s,fun g=>?_,fun q l i d=>?_⟩
  ·obtain⟨a,b,c⟩:=m g
   exact⟨a,by rw[Hq,b];rfl,c⟩
  ·rw[Hq]at i
   by_cases e:q=p
   ·subst e;exact absurd d j
   ·exact o q l (by simpa [e]using i) d
def NxP.stay(h:NxP w w2 B v sz S f cs kn bs r left c first D p)
  (hp:p<v.n) (o:S p=true) (s:¬cnt (dropL (cs p) kn)=0):GG w w2 B v sz S f cs kn bs r (Ex left p) c (if cnt (dropL (cs p) kn)=1 then min first p else first) D:=by
 obtain⟨g,i,b,d,j,l,m⟩:=h;have e:Dl S cs kn left=Dl S cs kn (Ex left p):=by
  funext q;unfold Dl;rw[Hq];by_cases e:q=p
  ·subst e;simp[s]
  ·simp[e]
 rw[e]at b d;exact⟨g,i,b,d,j.more hp o,l,m⟩
def NxP.gone{c3:Nat}(h:NxP w w2 B v sz S f cs kn bs r left c first D p)
  (hp:p<v.n) (N:S p=true) (P:cnt (dropL (cs p) kn)=0) (z:w3.ranges δ 3 CM v.bm r v.n (D.del (.int ζ (p:Int))) (Ex left p) c3) (ht:w2.mapTurned w3 v.bm) (s:B<=v.bm) (u:B<=w.heap.size):
  GG w w3 B v sz S f cs kn bs r (Ex left p) c3 first (D.del (.int ζ (p:Int))):=by
 obtain⟨H,A,I,C,J,E,L⟩:=h;have x:=ht.grown
 have e:∀q,(Dl S cs kn left q&& !decide (q=p))=Dl S cs kn (Ex left p) q:=fun q=>by
  unfold Dl;rw[Hq];by_cases e:q=p
  ·subst e;simp[P]
  ·simp[e]
 have y:∀d t m,w2.heap[v.bm]? ≠γ (.cells d t m):=by
  obtain⟨T,o,O,_⟩:=A.owns;intro d t m e;rw[O]at e;cases e
 have i:=J.more hp N;rw[if_neg (by omega)]at i;have g:=C.kept x (fun q b=>KM (C.own q b).1 A.owns);refine⟨H.nocells x y,z,(I.del p).congr e (fun _ _=>rfl),⟨fun q b=>?_,fun q R b l=>?_⟩,i,E.trans (CA x (ν u E.size) fun j Q=>by cases Q;exact s),L⟩
 ·rw[<-e,ι]at b
  exact g.own q b.1
 ·rw[<-e,ι]at b l
  exact g.two q R b.1 l.1
def Ds(S:Nat->Bool)(cs:Nat->List Nat)(kn:List Nat)(p:Nat):Bool:=S p&& !decide (cnt (dropL (cs p) kn)=0)
def GG.done(h:GG w wr B v sz S f cs kn bs r left c first D)(j:∀z,left z=false)
  (l:∀p,S p=true->p<v.n/\(f p).1≠v.kg) (i:B<=v.bm):
  PS wr B v sz (Ds S cs kn) f (fun p=>dropL (cs p) kn) kn bs/\θ B w wr/\first<=v.n/\(first<v.n->S first=true/\cnt (dropL (cs first) kn)=1)/\∀p,S p=true->cnt (dropL (cs p) kn)=1->first<=p:=by
 obtain⟨s,u,m,g,d,x,A⟩:=h;have e:Dl S cs kn left=Ds S cs kn:=by funext q;unfold Dl Ds;rw[j];simp
 have o:Ia cs kn left=fun p=>dropL (cs p) kn:=by funext q;unfold Ia;rw[j];simp
 rw[e]at m g;rw[o]at g;refine⟨⟨s,⟨D,u.owns,m⟩,g,fun p hp=>?_,i⟩,x,d.1,fun b=>⟨(d.2.1 b).1,(d.2.1 b).2.2⟩,fun p hp y=>d.2.2 p hp (j _) y⟩;unfold Ds at hp;rw[ι]at hp;exact l p hp.1
def rp(B:Nat)(v:PV)(sz:Nat)(S:Nat->Bool)(f:Nat->Nat×Nat)(cs:Nat->List Nat)(kn:List Nat)(bs:List ByteArray)(w:μ)(h:PS w B v sz S f cs kn bs)(hB:B<=w.heap.size)(hz:sz<=1048576)(ag:kn.length<=1048576)(hn:v.n<=1048576):
  Calls δ 279 #[.pointer (γ ⟨v.g,0,ε⟩)] w fun e w'=> ∃first:Nat,e=.returned (.tuple #[.int ζ (first:Int),.bool (decide (first<v.n))])/\PS w' B v sz (Ds S cs kn) f (fun p=>dropL (cs p) kn) kn bs/\θ B w w'/\
   first<=v.n/\(first<v.n->S first=true/\cnt (dropL (cs first) kn)=1)/\∀p,S p=true->cnt (dropL (cs p) kn)=1->first<=p:=by
 obtain⟨h1,⟨D0,h2,h3⟩,h4,h5,h6⟩:=h;obtain⟨x0,x1,x2,x3⟩:=h1.cells;have J:=Ab h5;have m:=Ab (fun w0 Q hg=>GG.start (w0:=w0) h1 h3 h4 Q hg hB);have H2:=Ab h2;clear h1 h2 h3 h4 h5;go_enter func279,ntmps279;go_wp2_with (first|(at_range;refine wpList_range_own _ rfl _ 394 rfl 3 40 IV underlying394 CM v.bm v.n D0 rfl (Aa H2) ?_;intro w0 A Y ah;have T:=Ab (Aa m w0 A Y);clear A Y ah m H2));go_frame;go_loopw [5] (fun i wr=> ∃(first c:Nat) (left:Lit->Bool) (D:DataW Value),i=.int ζ (first:Int)/\first<=1048576/\Hid (GG w wr B v sz S f cs kn bs w.heap.size left c first D)) (fun _ wr=>wr.rangeLeft v.bm w.heap.size)
 case atStart=>exact⟨_,_,_,_,rfl,hn,T⟩
 case round=>
  obtain⟨first,c,left,D,rfl,X,I⟩:=hrel;clear T x0 x1 x2 x3;have o:=Ab (Aa I).2.1.left_eq;go_wp2_with (first|(at_next;refine dt rfl _ rfl v.bm w.heap.size v.n sz D left c (Dl S cs kn left) f (Aa I).2.2.1 rfl (Aa I).2.1 ?_ ?_))
  ·intro hl
   have HD:=Ab ((Aa I).done hl (Aa J) h6);clear I hl J o;go_wp2;go_ret2;exact⟨first,by simp,Aa HD⟩
  ·intro p gp cp w1 c1 hf hp hl C am Z ak
   obtain⟨o1,s,p1,af,P,N,W⟩:=(Aa I).step (Aa J) hf hp hl C Z hB;have H:=oY B (γ ⟨gp,0,ε⟩) cp (cs p) (γ ⟨v.kg,0,ε⟩) kn.length v.kc kn w1 (by rw[s];exact o1) p1.known.at'.2 (.inr fun ad e=>by cases e;simp[κ,af]) (by omega) ag;rw[s]at H;have E:=Ab H;have R:=Ab (fun w2 (ho:Own w2 B (U (γ ⟨gp,0,ε⟩) sz cp) (dropL (cs p) kn))=>GO (γ ⟨gp,0,ε⟩) sz cp (dropL (cs p) kn) w2 (by have:=ho.at';rw[this.1];exact this.2) hz);have HP:=Ab W;obtain⟨-,y1, -, -⟩:=p1.cells;clear H W p1 o1 s C hl hp hf Z I;rcases Nat.lt_trichotomy (cnt (dropL (cs p) kn)) 1 with L|L|L
   ·have O:cnt (dropL (cs p) kn)=0:=by omega
    rw[O]at R;have y:=Ab (fun w2 w3 c3 (u:NxP w w2 B v sz S f cs kn bs w.heap.size left c1 first D p) Q ht=>u.gone (w3:=w3) (c3:=c3) P N O Q ht h6 hB);clear L O;go_wp2_with (first|(go_at_call 306;refine(Aa E).mono ?_;rintro e w2 ⟨rfl,b,j⟩;have q:=Ab (Aa R w2 b);have d:=Ab (Aa HP w2 j b);obtain⟨z0,z1,z2,z3⟩:=(Aa d).1.cells;clear b j)|(go_at_call 180;refine(Aa q).mono ?_;rintro e w9 ⟨rfl,l⟩;obtain rfl:=l.symm;clear l)|(at_delete;refine wpList_delete_ranges _ rfl _ _ 394 3 rfl 40 IV underlying394 CM v.bm w.heap.size v.n D (Ex left p) c1 rfl (Aa d).2.1 (.int ζ (p:Int)) (.int ζ (p:Int)) rfl (K3 (by omega)) ?_;intro w3 c3 x al ae;rw[show(fun z=>Ex left p z&& !z.sameKey (.int ζ (p:Int)))=Ex left p from Maps.strike_twice left _]at x;have V:=Ab (Aa y w2 w3 c3 (Aa d) x ae);clear x ae;go_frame));go_roundw
    case rel=>exact⟨first,c3,_,_,rfl,X,V⟩
    case measure=>rw[(Aa V).2.1.left_eq,Aa o];omega
   ·rw[L]at R
    have y:=Ab (fun w2 (u:NxP w w2 B v sz S f cs kn bs w.heap.size left c1 first D p)=>u.stay P N (by omega));rw[L,if_pos rfl]at y;have aa:=fun wx ts t=>Jc first p ts t wx
    obtain⟨mn,ab⟩:∃mn,mn=min first p:=⟨_,rfl⟩
    rw[<-ab]at aa y;have ac:mn<=1048576:=by omega
    clear L ab;go_wp2_with (first|(go_at_call 306;refine(Aa E).mono ?_;rintro e w2 ⟨rfl,b,j⟩;have q:=Ab (Aa R w2 b);have d:=Ab (Aa HP w2 j b);clear b j)|(go_at_call 180;refine(Aa q).mono ?_;rintro e w9 ⟨rfl,l⟩;obtain rfl:=l.symm;clear l));go_roundw
    case rel=>exact⟨mn,c1,_,_,rfl,ac,Ab (Aa y w2 (Aa d))⟩
    case measure=>rw[(Aa d).2.1.left_eq,Aa o];omega
   ·have y:=Ab (fun w2 (u:NxP w w2 B v sz S f cs kn bs w.heap.size left c1 first D p)=>u.stay P N (by omega))
    rw[if_neg (by omega)]at y;have ai:((cnt (dropL (cs p) kn):Int)==0)=false:=by rw[beq_eq_false_iff_ne];omega
    have aj:((cnt (dropL (cs p) kn):Int)==1)=false:=by rw[beq_eq_false_iff_ne];omega
    clear L;generalize cnt (dropL (cs p) kn)=cr at*;go_wp2_with (first|(go_at_call 306;refine(Aa E).mono ?_;rintro e w2 ⟨rfl,b,j⟩;have q:=Ab (Aa R w2 b);have d:=Ab (Aa HP w2 j b);clear b j)|(go_at_call 180;refine(Aa q).mono ?_;rintro e w9 ⟨rfl,l⟩;obtain rfl:=l.symm;clear l));go_roundw
    case rel=>exact⟨first,c1,_,_,rfl,X,Ab (Aa y w2 (Aa d))⟩
    case measure=>rw[(Aa d).2.1.left_eq,Aa o];omega
end Go.Proofs.YtfpmnekaockodaaGreatDoor
