/-
  Laws that the proof stands on.
-/
import Derived.Test.YtfpfcnfmigaphaaGreatDoorU22
namespace Go.Proofs.YtfpfcnfmigaphaaGreatDoor
open Go.RowKit Go.Sort
set_option linter.unusedVariables false
set_option linter.unusedSimpArgs false
set_option maxRecDepth 4000
set_option maxHeartbeats 8000000
variable {t:Int}{V:List (List Nat)}{c:List Nat}{k b i:Nat}{α:Type}
def Cz(n:Nat)(a:List Int):List Nat:=a.foldl (fun c i=>if 0<=i/\i<(n:Int)then c.set i.toNat (c.getD i.toNat 0+1)else c) (List.replicate n 0)
theorem Kf(n:Nat):Cz n []=List.replicate n 0:=rfl
theorem I7(n:Nat)(a:List Int)(i:Int):Cz n (a++[i])=if 0<=i/\i<(n:Int)then(Cz n a).set i.toNat ((Cz n a).getD i.toNat 0+1)else Cz n a:=by
 unfold Cz;rw[List.foldl_append];rfl
theorem Kj{P:List α->Prop}(d:P [])(e:∀l a,P l->P (l++[a])):∀l,P l:=fun l=>by
 have:∀k,k<=l.length->P (l.take k):=fun k=>by
  induction k with
  |zero=>intro _;rw[List.take_zero];exact d
  |succ k g=>intro h;rw[List.take_succ_eq_append_getElem (by omega)];exact e _ _ (g (by omega))
 have f:=this l.length (Nat.le_refl _);rwa[List.take_length]at f
theorem Ke(n:Nat)(a:List Int):(Cz n a).length=n:=by
 refine Kj (P:=fun a=>(Cz n a).length=n) (by rw[Kf,List.length_replicate]) (fun l i d=>?_) a;rw[I7];split
 ·rw[List.length_set,d]
 ·exact d
theorem U8(n:Nat)(a:List Int):∀b,(Cz n a).getD b 0<=a.length:=by
 refine Kj (P:=fun a=> ∀b,(Cz n a).getD b 0<=a.length) (fun b=>?_) (fun l i d b=>?_) a
 ·rw[Kf,List.getD_eq_getElem?_getD,List.getElem?_replicate]
  split<;>simp
 ·rw[I7,List.length_append,List.length_singleton]
  split
  ·rw[D7]
   have:=d b;have:=d i.toNat;split<;>omega
  ·have:=d b
   omega
def B9{α:Type}(dd:α)(l:List α)(c:List Nat):Nat->List α
 |0=>[]
 |k+1=>if c.getD k 0=0 then B9 dd l c k else if c.getD k 0%2=0 then B9 dd l c k++[l.getD k dd]++[l.getD k dd]else B9 dd l c k++[l.getD k dd]
theorem Fj{dd:α}{l:List α}(h:c.getD k 0=0):B9 dd l c (k+1)=B9 dd l c k:=if_pos h
theorem ET{dd:α}{l:List α}(h:c.getD k 0≠0)(a:c.getD k 0%2=0):B9 dd l c (k+1)=B9 dd l c k++[l.getD k dd]++[l.getD k dd]:=(if_neg h).trans (if_pos a)
theorem Eh{dd:α}{l:List α}(h:c.getD k 0≠0)(a:¬c.getD k 0%2=0):B9 dd l c (k+1)=B9 dd l c k++[l.getD k dd]:=(if_neg h).trans (if_neg a)
theorem OB{α:Type}{dd:α}{l:List α}{c:List Nat}{b x:Nat}:∀n,n<=b->B9 dd l (c.set b x) n=B9 dd l c n
 |0,_=>rfl
 |n+1,h=>by
  have e:(c.set b x).getD n 0=c.getD n 0:=by rw[D7,if_neg (by omega)]
  show(if _ then _ else _)=(if _ then _ else _);rw[e,OB n (by omega)]
def GS{α:Type}(g:α->List Nat)(Q:List α):List Nat:=Q.foldl (fun a p=>xorL a (g p)) []
theorem EV(g:α->List Nat)(Q:List α)(p:α):GS g (Q++[p])=xorL (GS g Q) (g p):=by
 unfold GS;rw[List.foldl_append];rfl
theorem iW(a b:List Nat):xorL (xorL (xorL a b) b) b=xorL a b:=by
 apply Ei
 ·simp only[BV];omega
 ·intro i _
  simp only[Dx];rw[Nat.xor_assoc,Nat.xor_self,Nat.xor_zero]
theorem Nz(a b c:List Nat):xorL (xorL a b) c=xorL (xorL a c) b:=by
 apply Ei
 ·simp only[BV];omega
 ·intro i _
  simp only[Dx];rw[Nat.xor_assoc,Nat.xor_comm (b.getD i 0),<-Nat.xor_assoc]
theorem Ms{x:Nat}(h:b<c.length):(c.set b x).getD b 0=x:=by rw[D7,if_pos ⟨rfl,h⟩]
theorem MD{x:Nat}(h:i≠b):(c.set b x).getD i 0=c.getD i 0:=by rw[D7,if_neg (fun e=>h e.1)]
theorem RR{α:Type}{dd:α}(g:α->List Nat){l:List α}{c:List Nat}{b:Nat}(j:b<c.length):∀n,b<n->GS g (B9 dd l (c.set b (c.getD b 0+1)) n)=xorL (GS g (B9 dd l c n)) (g (l.getD b dd))
 |0,h=>by omega
 |n+1,h=>by
  by_cases e:n=b
  ·subst e
   have m:(c.set n (c.getD n 0+1)).getD n 0=c.getD n 0+1:=Ms j;have d:B9 dd l (c.set n (c.getD n 0+1)) n=B9 dd l c n:=OB n (Nat.le_refl _);by_cases z:c.getD n 0=0
   ·rw[Eh (by omega) (by omega),Fj z,d,EV]
   ·by_cases a:c.getD n 0%2=0
    ·rw[Eh (by omega) (by omega),ET z a,d,EV,EV,EV,iW]
    ·rw[ET (by omega) (by omega),Eh z a,d,EV,EV]
  ·have f:=RR (dd:=dd) g (l:=l) j n (by omega)
   have m:(c.set b (c.getD b 0+1)).getD n 0=c.getD n 0:=MD e;by_cases z:c.getD n 0=0
   ·rw[Fj (by omega),Fj z,f]
   ·by_cases a:c.getD n 0%2=0
    ·rw[ET (by omega) (by omega),ET z a,EV,EV,EV,EV,f,Nz _ (g (l.getD b dd)),Nz _ (g (l.getD b dd))]
    ·rw[Eh (by omega) (by omega),Eh z a,EV,EV,f,Nz]
theorem Um{α:Type}{dd:α}{l:List α}{c:List Nat}{b:Nat}(f:b<c.length):∀n,(B9 dd l (c.set b (c.getD b 0+1)) n).length<=(B9 dd l c n).length+(if b<n then 1 else 0)
 |0=>Nat.zero_le _
 |n+1=>by
  have h:=Um (dd:=dd) (l:=l) f n;by_cases e:n=b
  ·subst e
   have g:(c.set n (c.getD n 0+1)).getD n 0=c.getD n 0+1:=Ms f;have d:B9 dd l (c.set n (c.getD n 0+1)) n=B9 dd l c n:=OB n (Nat.le_refl _);rw[if_pos (by omega)];by_cases z:c.getD n 0=0
   ·rw[Eh (by omega) (by omega),Fj z,d,List.length_append,List.length_singleton]
    exact Nat.le_refl _
   ·by_cases a:c.getD n 0%2=0
    ·rw[Eh (by omega) (by omega),ET z a,d]
     simp only[List.length_append,List.length_singleton];omega
    ·rw[ET (by omega) (by omega),Eh z a,d]
     simp only[List.length_append,List.length_singleton];omega
  ·have g:(c.set b (c.getD b 0+1)).getD n 0=c.getD n 0:=MD e
   rw[show(if b<n+1 then 1 else 0)=(if b<n then 1 else 0) by split<;>split<;>omega];by_cases z:c.getD n 0=0
   ·rw[Fj (by omega),Fj z];exact h
   ·by_cases a:c.getD n 0%2=0
    ·rw[ET (by omega) (by omega),ET z a]
     simp only[List.length_append,List.length_singleton];omega
    ·rw[Eh (by omega) (by omega),Eh z a]
     simp only[List.length_append,List.length_singleton];omega
theorem Pr{α:Type}{dd:α}{l:List α}{c:List Nat}{p:α}:∀n,p∈B9 dd l c n↔∃i,i<n/\c.getD i 0≠0/\p=l.getD i dd
 |0=>by
  constructor
  ·intro h;cases h
  ·rintro⟨i,h,_⟩;omega
 |n+1=>by
  have m:=Pr (dd:=dd) (l:=l) (c:=c) (p:=p) n;have f:(∃i,i<n+1/\c.getD i 0≠0/\p=l.getD i dd)↔(∃i,i<n/\c.getD i 0≠0/\p=l.getD i dd)\/(c.getD n 0≠0/\p=l.getD n dd):=by
   constructor
   ·rintro⟨i,j,a,d⟩
    rcases Nat.lt_or_ge i n with e|e
    ·exact .inl ⟨i,e,a,d⟩
    ·obtain rfl:i=n:=by omega
     exact .inr ⟨a,d⟩
   ·rintro(⟨i,j,a,d⟩|⟨a,d⟩)
    ·exact⟨i,by omega,a,d⟩
    ·exact⟨n,by omega,a,d⟩
  rw[f,<-m];by_cases z:c.getD n 0=0
  ·rw[Fj z]
   exact⟨.inl,fun h=>h.elim id fun h=>absurd z h.1⟩
  ·by_cases g:c.getD n 0%2=0
   ·rw[ET z g,List.mem_append,List.mem_append,List.mem_singleton]
    constructor
    ·rintro((h|h)|h)
     ·exact .inl h
     ·exact .inr ⟨z,h⟩
     ·exact .inr ⟨z,h⟩
    ·rintro(h|h)
     ·exact .inl (.inl h)
     ·exact .inr h.2
   ·rw[Eh z g,List.mem_append,List.mem_singleton]
    constructor
    ·rintro(h|h)
     ·exact .inl h
     ·exact .inr ⟨z,h⟩
    ·rintro(h|h)
     ·exact .inl h
     ·exact .inr h.2
def Fy{α:Type}(dd:α)(l:List α)(a:List Int):List α:=a.filterMap fun(i:Int)=>if 0<=i/\i<(l.length:Int)then some (l.getD i.toNat dd)else none
theorem TF{dd:α}(l:List α)(a:List Int)(i:Int):Fy dd l (a++[i])=if 0<=i/\i<(l.length:Int)then Fy dd l a++[l.getD i.toNat dd]else Fy dd l a:=by
 unfold Fy;rw[List.filterMap_append];by_cases h:0<=i/\i<(l.length:Int)
 ·rw[if_pos h,List.filterMap_cons,List.filterMap_nil,if_pos h]
 ·rw[if_neg h,List.filterMap_cons,List.filterMap_nil,if_neg h]
  exact List.append_nil _
theorem UP{dd:α}{l:List α}{d:List Int}{p:α}(h:p∈Fy dd l d):p∈l:=by
 obtain⟨i,_,a⟩:=List.mem_filterMap.1 h;split at a
 ·rename_i e
  rw[<-Option.some.inj a,List.getD_eq_getElem?_getD,List.getElem?_eq_getElem (show i.toNat<l.length by omega)];exact List.getElem_mem _
 ·cases a
def atL{α:Type}(dd:α)(l:List α)(a:List Int):List α:=B9 dd l (Cz l.length a) l.length
theorem LP{α:Type}{dd:α}(l:List α):∀n,B9 dd l (List.replicate l.length 0) n=[]
 |0=>rfl
 |n+1=>by
  rw[Fj,LP l n];rw[List.getD_eq_getElem?_getD,List.getElem?_replicate];split<;>rfl
theorem VG{dd:α}(g:α->List Nat)(l:List α)(a:List Int):GS g (atL dd l a)=GS g (Fy dd l a):=by
 refine Kj (P:=fun a=>GS g (atL dd l a)=GS g (Fy dd l a)) ?_ (fun a i d=>?_) a
 ·unfold atL;rw[Kf,LP];rfl
 ·unfold atL
  rw[I7,TF];by_cases h:0<=i/\i<(l.length:Int)
  ·rw[if_pos h,if_pos h,RR g (by rw[Ke];omega) _ (by omega),EV,<-d]
   rfl
  ·rw[if_neg h,if_neg h,<-d]
   rfl
theorem Xj{dd:α}(l:List α)(a:List Int):(atL dd l a).length<=a.length:=by
 refine Kj (P:=fun a=>(atL dd l a).length<=a.length) ?_ (fun a i d=>?_) a
 ·unfold atL;rw[Kf,LP];exact Nat.le_refl _
 ·unfold atL
  rw[I7,List.length_append,List.length_singleton];by_cases h:0<=i/\i<(l.length:Int)
  ·rw[if_pos h]
   have e:=Um (dd:=dd) (l:=l) (c:=Cz l.length a) (b:=i.toNat) (by rw[Ke];omega) l.length;rw[if_pos (by omega)]at e;unfold atL at d;omega
  ·rw[if_neg h]
   unfold atL at d;omega
theorem VF{dd:α}{l:List α}{a:List Int}{p:α}:p∈atL dd l a↔p∈Fy dd l a:=by
 refine Kj (P:=fun a=>p∈atL dd l a↔p∈Fy dd l a) ?_ (fun a i m=>?_) a
 ·unfold atL;rw[Kf,LP];exact Iff.rfl
 ·unfold atL at m⊢
  rw[I7,TF];by_cases h:0<=i/\i<(l.length:Int)
  ·rw[if_pos h,if_pos h,List.mem_append,List.mem_singleton,<-m,Pr,Pr]
   have o:i.toNat<(Cz l.length a).length:=by rw[Ke];omega
   constructor
   ·rintro⟨j,f,g,d⟩
    by_cases e:j=i.toNat
    ·subst e;exact .inr d
    ·rw[MD e]at g
     exact .inl ⟨j,f,g,d⟩
   ·rintro(⟨j,f,g,d⟩|d)
    ·by_cases e:j=i.toNat
     ·subst e
      exact⟨i.toNat,f,by rw[Ms o];omega,d⟩
     ·exact⟨j,f,by rw[MD e];exact g,d⟩
    ·exact⟨i.toNat,by omega,by rw[Ms o];omega,d⟩
  ·rw[if_neg h,if_neg h,m]
theorem Un{α β:Type}{dd:α}(f:α->β)(l:List α)(c:List Nat):∀n,n<=l.length->(B9 dd l c n).map f=B9 (f dd) (l.map f) c n
 |0,_=>rfl
 |n+1,h=>by
  have d:=Un (dd:=dd) f l c n (by omega);have e:f (l.getD n dd)=(l.map f).getD n (f dd):=by
   rw[List.getD_eq_getElem?_getD,List.getElem?_eq_getElem (show n<l.length by omega),List.getD_eq_getElem?_getD,List.getElem?_map,List.getElem?_eq_getElem (show n<l.length by omega)];rfl
  by_cases z:c.getD n 0=0
  ·rw[Fj z,Fj z,d]
  ·by_cases a:c.getD n 0%2=0
   ·rw[ET z a,ET z a,List.map_append,List.map_append,d,List.map_singleton,e]
   ·rw[Eh z a,Eh z a,List.map_append,d,List.map_singleton,e]
theorem Xk{β:Type}{dd:α}(f:α->β)(l:List α)(a:List Int):(atL dd l a).map f=atL (f dd) (l.map f) a:=by
 unfold atL;rw[Un f l _ _ (Nat.le_refl _),List.length_map]
theorem jn{P Q:List PD}(a:∀p,p∈P↔p∈Q)(u:E7 P=E7 Q)(ht:GY P=GY Q):E6 P=E6 Q:=by
 cases P with
 |nil=>
  cases Q with
  |nil=>rfl
  |cons q Q=>exact absurd ((a q).2 List.mem_cons_self) (by simp)
 |cons p P=>
  cases Q with
  |nil=>exact absurd ((a p).1 List.mem_cons_self) (by simp)
  |cons q Q=>
   have s:Db (p::P)=Db (q::Q):=by
    apply Int.le_antisymm
    ·exact WH fun r g=>Mr ((a r).1 g)
    ·exact WH fun r g=>Mr ((a r).2 g)
   have f:∀{p q:PD} {P Q:List PD},(∀r,r∈p::P↔r∈q::Q)->(∀r∈P,Bp p r=true)->(∀r∈Q,Bp q r=true)/\Bp p q=true:=by
    intro p q P Q a h
    have d:∀r∈p::P,Bp p r=true:=fun r g=>by
     rcases List.mem_cons.1 g with e|e
     ·rw[e];exact OA _
     ·exact h r e
    have m:Bp p q=true:=d q ((a q).2 List.mem_cons_self);exact⟨fun r g=>Sn (TN m) (d r ((a r).2 (List.mem_cons_of_mem _ g))),m⟩
   rw[Ka,Ka,u,ht,s];by_cases h:∀r∈P,Bp p r=true
   ·obtain⟨o,j⟩:=f a h
    by_cases l:0<cnt (E7 (q::Q))/\Db (q::Q)<15
    ·rw[if_pos ⟨h,l⟩,if_pos ⟨o,l⟩]
     unfold Bp at j;rw[decide_eq_true_eq]at j;rw[j.1,j.2.1,j.2.2.1,j.2.2.2]
    ·rw[if_neg (fun e=>l e.2),if_neg (fun e=>l e.2)]
   ·rw[if_neg (fun e=>h e.1),if_neg (fun e=>h (f (fun r=>(a r).symm) e.1).1)]
theorem ZP(L:List PD)(a:List Int):E6 (atL .dflt L a)=Ha L a:=jn (fun p=>VF) (VG (fun p:PD=>p.xs) L a) (VG (fun p:PD=>tx p.s) L a)
def DQ(d:Nat)(t:Int):Int:=if (d:Int)<t then t-d else d-t
theorem NV(d:Nat)(t:Int):0<=DQ d t:=by unfold DQ;split<;>omega
def Fz(V:List (List Nat))(v:List Nat)(i:Nat):Nat:=cnt (xorL v (V.getD i []))
def F0(V:List (List Nat))(ch:List Bool)(v:List Nat)(t:Int)(i:Nat)(z:Int):Prop:=ch.getD i false=false/\0<Fz V v i/\DQ (Fz V v i) t<z
def XT(V:List (List Nat))(ch:List Bool)(v:List Nat)(t:Int)(i:Nat)(z:Int):Decidable (F0 V ch v t i z):=
 inferInstanceAs (Decidable (ch.getD i false=false/\0<Fz V v i/\DQ (Fz V v i) t<z))
def BH(V:List (List Nat))(ch:List Bool)(v:List Nat)(t:Int):Nat->Option Nat×Int
 |0=>(none,DQ (cnt v) t)
 |i+1=> @ite _ (F0 V ch v t i (BH V ch v t i).2) (XT V ch v t i (BH V ch v t i).2) (some i,DQ (Fz V v i) t) (BH V ch v t i)
theorem Np{ch:List Bool}{v:List Nat}(h:F0 V ch v t i (BH V ch v t i).2):BH V ch v t (i+1)=(some i,DQ (Fz V v i) t):=by
 exact if_pos h
theorem Of{ch:List Bool}{v:List Nat}(h:¬F0 V ch v t i (BH V ch v t i).2):BH V ch v t (i+1)=BH V ch v t i:=by
 exact if_neg h
theorem So(V:List (List Nat))(ch:List Bool)(v:List Nat)(t:Int):∀n,(BH V ch v t n).2<=DQ (cnt v) t/\(∀j,j<n->¬F0 V ch v t j (BH V ch v t n).2)/\
  match (BH V ch v t n).1 with
  |none=>(BH V ch v t n).2=DQ (cnt v) t
  |some b=>b<n/\F0 V ch v t b (DQ (cnt v) t)/\(BH V ch v t n).2=DQ (Fz V v b) t/\∀j,j<b->¬F0 V ch v t j (DQ (Fz V v b) t+1)
 |0=>⟨Int.le_refl _,fun j f=>by omega,rfl⟩
 |n+1=>by
  obtain⟨m,g,d⟩:=So V ch v t n;by_cases h:F0 V ch v t n (BH V ch v t n).2
  ·rw[Np h]
   refine⟨by have:=h.2.2;omega,fun j f a=>?_,by omega,⟨h.1,h.2.1,by have:=h.2.2;omega⟩,rfl,fun j f a=>g j f ⟨a.1,a.2.1,by have:=a.2.2;have:=h.2.2;omega⟩⟩;rcases Nat.lt_or_ge j n with e|e
   ·exact g j e ⟨a.1,a.2.1,Int.lt_trans a.2.2 h.2.2⟩
   ·obtain rfl:j=n:=by omega
    have:=a.2.2;dsimp only at this;omega
  ·rw[Of h]
   refine⟨m,fun j f=>?_,?_⟩
   ·rcases Nat.lt_or_ge j n with e|e
    ·exact g j e
    ·obtain rfl:j=n:=by omega
     exact h
   ·cases l:(BH V ch v t n).1 with
    |none=>rw[l]at d;exact d
    |some b=>rw[l]at d;exact⟨by have:=d.1;omega,d.2⟩
theorem P0{ch:List Bool}{x:Bool}(a:b<ch.length):(ch.set b x).getD b false=x:=by
 rw[List.getD_eq_getElem?_getD,List.getElem?_set_self a];rfl
theorem UQ{ch:List Bool}{x:Bool}(h:i≠b):(ch.set b x).getD i false=ch.getD i false:=by
 rw[List.getD_eq_getElem?_getD,List.getD_eq_getElem?_getD,List.getElem?_set_ne (fun e=>h e.symm)]
def FP(ch:List Bool)(n:Nat):List Nat:=(List.range n).filter fun i=>ch.getD i false
theorem Rt(ch:List Bool)(n:Nat):(FP ch n).Pairwise (· < ·):=List.Pairwise.filter _ List.pairwise_lt_range
theorem fg{ch:List Bool}{n:Nat}:i∈FP ch n↔i<n/\ch.getD i false=true:=by
 unfold FP;rw[List.mem_filter,List.mem_range]
structure CS where
 ch:List Bool
 v:List Nat
def GP(V:List (List Nat))(t:Int)(s:CS):CS:=match (BH V s.ch s.v t V.length).1 with
 |none=>s
 |some b=>⟨s.ch.set b true,xorL s.v (V.getD b [])⟩
def BA(V:List (List Nat))(t:Int)(p:Nat):Nat->CS
 |0=>⟨(List.replicate V.length false).set p true,V.getD p []⟩
 |k+1=>GP V t (BA V t p k)
theorem kP{s:CS}(h:(BH V s.ch s.v t V.length).1=none):GP V t s=s:=by unfold GP;rw[h]
theorem kQ{s:CS}(h:(BH V s.ch s.v t V.length).1=some b):GP V t s=⟨s.ch.set b true,xorL s.v (V.getD b [])⟩:=by unfold GP;rw[h]
theorem Uu{V:List (List Nat)}{t:Int}{p k:Nat}(h:(BH V (BA V t p k).ch (BA V t p k).v t V.length).1=none):∀j,BA V t p (k+j)=BA V t p k
 |0=>rfl
 |j+1=>by
  show GP V t (BA V t p (k+j))=_;rw[Uu h j,kP h]
variable {L:List Nat}
def BE(L:List Nat)(n:Nat):Nat:=if n<=L.length then L.getD (n-1) 0 else n*11400714819323198485%18446744073709551616
theorem nh{n:Nat}(h:n<L.length):BE L (n+1)=L.getD n 0:=by
 unfold BE;rw[if_pos (by omega),Nat.add_sub_cancel]
theorem iq{n:Nat}(h:L.length<n):BE L n=n*11400714819323198485%18446744073709551616:=by
 unfold BE;rw[if_neg (by omega)]
theorem UD(h:Ac L)(n:Nat):BE L n<18446744073709551616:=by
 unfold BE;split
 ·exact h.get _
 ·omega
def B8(L:List Nat)(N:Nat)(a:List Nat):Nat->List Nat
 |0=>a
 |k+1=>(B8 L N a k).eraseIdx (BE L (N+k+1)%(B8 L N a k).length)
def Ek(L:List Nat)(N:Nat)(a:List Nat):Nat->List Nat
 |0=>[]
 |k+1=>Ek L N a k++[(B8 L N a k).getD (BE L (N+k+1)%(B8 L N a k).length) 0]
theorem Na(L:List Nat)(N:Nat)(a:List Nat):∀k,k<=a.length->(B8 L N a k).length=a.length-k
 |0,_=>rfl
 |k+1,h=>by
  have e:=Na L N a k (by omega);have d:BE L (N+k+1)%(B8 L N a k).length<(B8 L N a k).length:=Nat.mod_lt _ (by omega);show((B8 L N a k).eraseIdx _).length=_;rw[List.length_eraseIdx,if_pos d,e];omega
theorem K8(L:List Nat)(N:Nat)(a:List Nat):∀k,(Ek L N a k).length=k
 |0=>rfl
 |k+1=>by
  show(Ek L N a k++[_]).length=_;rw[List.length_append,K8 L N a k];rfl
theorem eX(l:List Nat)(j:Nat)(h:j<l.length):(l.getD j 0::l.eraseIdx j).Perm l:=by
 rw[List.eraseIdx_eq_take_drop_succ];have e:l=l.take j++l.getD j 0::l.drop (j+1):=by
  rw[List.getD_eq_getElem?_getD,List.getElem?_eq_getElem h];simp
 exact(List.perm_middle.symm).trans (List.Perm.of_eq e.symm)
theorem Sd(L:List Nat)(N:Nat)(a:List Nat):∀k,k<=a.length->(Ek L N a k++B8 L N a k).Perm a
 |0,_=>List.Perm.refl _
 |k+1,h=>by
  have e:=Sd L N a k (by omega);have f:=Na L N a k (by omega);have d:BE L (N+k+1)%(B8 L N a k).length<(B8 L N a k).length:=Nat.mod_lt _ (by omega);show((Ek L N a k++[_])++(B8 L N a k).eraseIdx _).Perm a;rw[List.append_assoc];exact(List.Perm.append_left _ (eX _ _ d)).trans e
def Dm(L:List Nat)(N n k:Nat):List Nat:=(List.range n).filter fun i=>decide (i∉B8 L N (List.range n) k)
theorem S9(L:List Nat)(N n k:Nat)(h:k<=n):(Ek L N (List.range n) k).Perm (Dm L N n k):=by
 have hp:=Sd L N (List.range n) k (by simpa using h);have m:=hp.symm.nodup List.nodup_range;obtain⟨_,_,l⟩:=List.nodup_append.1 m;have e:=hp.filter fun i=>decide (i∉B8 L N (List.range n) k);have f:(Ek L N (List.range n) k).filter (fun i=>decide (i∉B8 L N (List.range n) k))=Ek L N (List.range n) k:=List.filter_eq_self.2 fun a d=>by simpa using fun j=>l a d a j rfl
 have g:(B8 L N (List.range n) k).filter (fun i=>decide (i∉B8 L N (List.range n) k))=[]:=List.filter_eq_nil_iff.2 fun a d=>by simp[d]
 rw[List.filter_append,f,g,List.append_nil]at e;exact e
theorem QR(L:List Nat)(N n k:Nat)(h:k<=n):(Dm L N n k).length=k:=by
 rw[<-(S9 L N n k h).length_eq,K8]
def A5(l:List Nat):List Int:=l.map fun(x:Nat)=>(x:Int)
theorem Hj(l:List Nat):(A5 l).length=l.length:=by simp[A5]
theorem Lh(l:List Nat)(i:Nat):(A5 l).getD i 0=((l.getD i 0:Nat):Int):=by
 simp only[A5,List.getD_eq_getElem?_getD,List.getElem?_map];cases l[i]? <;>rfl
theorem QM(l m:List Nat):A5 (l++m)=A5 l++A5 m:=by simp[A5]
theorem cE(l:List Nat)(j:Nat):A5 (l.eraseIdx j)=(A5 l).eraseIdx j:=by
 simp[A5,List.eraseIdx_eq_take_drop_succ,List.map_take,List.map_drop]
theorem jU(L:List Nat)(N n k:Nat)(h:k<=n):(A5 (Ek L N (List.range n) k)).mergeSort (fun x y=>decide (x<=y))=A5 (Dm L N n k):=by
 have hp:((A5 (Ek L N (List.range n) k)).mergeSort fun x y=>decide (x<=y)).Perm (A5 (Dm L N n k)):=(List.mergeSort_perm _ _).trans ((S9 L N n k h).map _);refine List.Perm.eq_of_pairwise (le:=fun x y:Int=>x<=y) (fun a b _ _ d e=>Int.le_antisymm d e) ?_ ?_ hp
 ·have:=List.pairwise_mergeSort (le:=fun x y:Int=>decide (x<=y)) (fun a b c d e=>by simp at*;omega) (fun a b=>by simp;omega) (A5 (Ek L N (List.range n) k))
  exact this.imp fun h=>by simpa using h
 ·have:(Dm L N n k).Pairwise (· < ·):=List.Pairwise.filter _ List.pairwise_lt_range
  exact List.Pairwise.map _ (fun a b f=>by omega) this
theorem nW(L:List Nat)(N n k i:Nat)(h:i<(Dm L N n k).length):(Dm L N n k).getD i 0<n:=by
 have a:(Dm L N n k)[i]∈Dm L N n k:=List.getElem_mem h;have:=(List.mem_filter.1 a).1;simpa [List.getD_eq_getElem?_getD,List.getElem?_eq_getElem h]using this
variable {ch:List Bool}{ps:List Nat}{n:Nat}
structure Fa(n:Nat)(ch:List Bool)(ps:List Nat):Prop where
 len:ch.length=n
 nodup:ps.Nodup
 lt:∀i∈ps,i<n
 mem:∀i,i<n->ch.getD i false=decide (i∈ps)
theorem Xw{p:Nat}(hp:p<n):Fa n ((List.replicate n false).set p true) [p]:=by
 refine⟨by rw[List.length_set,List.length_replicate],by simp,fun i a=>by rw[List.mem_singleton.1 a];exact hp,fun i a=>?_⟩;by_cases e:i=p
 ·subst e
  rw[P0 (by rw[List.length_replicate];exact a)];simp
 ·rw[UQ e,List.getD_eq_getElem?_getD,List.getElem?_replicate,if_pos a]
  simp[e]
theorem Fa.snoc(h:Fa n ch ps){b:Nat}(f:b<n)(l:ch.getD b false=false):Fa n (ch.set b true) (ps++[b]):=by
 have m:b∉ps:=by
  have:=h.mem b f;rw[l]at this;exact fun e=>by rw[decide_eq_true e]at this;cases this
 refine⟨by rw[List.length_set,h.len],?_,fun i d=>?_,fun i d=>?_⟩
 ·rw[List.nodup_append]
  refine⟨h.nodup,by simp,fun a g c j e=>m ?_⟩;rw[<-List.mem_singleton.1 j,<-e];exact g
 ·rcases List.mem_append.1 d with e|e
  ·exact h.lt i e
  ·rw[List.mem_singleton.1 e];exact f
 ·by_cases e:i=b
  ·subst e
   rw[P0 (by rw[h.len];exact d)];simp
  ·rw[UQ e,h.mem i d]
   simp[e]
theorem Fa.many(h:Fa n ch ps):ps.Perm (FP ch n):=by
 have e:(FP ch n).Nodup:=(Rt ch n).imp fun h=>Nat.ne_of_lt h;refine(List.perm_ext_iff_of_nodup h.nodup e).2 fun i=>?_;rw[fg];constructor
 ·intro a
  exact⟨h.lt i a,by rw[h.mem i (h.lt i a)];exact decide_eq_true a⟩
 ·rintro⟨f,d⟩
  rw[h.mem i f]at d;exact of_decide_eq_true d
theorem Fa.sort(h:Fa n ch ps):(A5 ps).mergeSort (fun x y=>decide (x<=y))=A5 (FP ch n):=by
 have hp:((A5 ps).mergeSort fun x y=>decide (x<=y)).Perm (A5 (FP ch n)):=(List.mergeSort_perm _ _).trans (h.many.map _);refine List.Perm.eq_of_pairwise (le:=fun x y:Int=>x<=y) (fun a b _ _ d e=>Int.le_antisymm d e) ?_ ?_ hp
 ·have:=List.pairwise_mergeSort (le:=fun x y:Int=>decide (x<=y)) (fun a b c d e=>by simp at*;omega) (fun a b=>by simp;omega) (A5 ps)
  exact this.imp fun h=>by simpa using h
 ·exact List.Pairwise.map _ (fun a b f=>by omega) (Rt ch n)
theorem mU(ps:List Nat)(i:Nat):decide ((i:Int)∈A5 ps)=decide (i∈ps):=by
 have:((i:Int)∈A5 ps)↔i∈ps:=by
  unfold A5;rw[List.mem_map];constructor
  ·rintro⟨j,a,d⟩
   have:j=i:=by omega
   rw[<-this];exact a
  ·exact fun h=>⟨i,h,rfl⟩
 simp only[this]
theorem nU(a v:List Nat):cnt (a.take (min a.length v.length))<=cnt a/\cnt a-cnt (a.take (min a.length v.length))+cnt (xorL (a.take (min a.length v.length)) v)=cnt (xorL a v):=by
 have g:cnt (a.take (min a.length v.length))+cnt (a.drop (min a.length v.length))=cnt a:=by rw[<-NG,List.take_append_drop]
 refine⟨by omega,?_⟩;rcases Nat.lt_or_ge a.length v.length with h|h
 ·rw[Nat.min_eq_left (Nat.le_of_lt h),List.take_length]
  omega
 ·have d:xorL a v=xorL (a.take (min a.length v.length)) v++a.drop (min a.length v.length):=by
   rw[Nat.min_eq_right h];apply Ei
   ·rw[BV,List.length_append,BV,List.length_take,List.length_drop]
    omega
   ·intro i m
    rw[Dx,List.getD_eq_getElem?_getD (l:=_++_),List.getElem?_append];have f:(xorL (a.take v.length) v).length=v.length:=by rw[BV,List.length_take];omega
    rw[f];by_cases e:i<v.length
    ·rw[if_pos e,<-List.getD_eq_getElem?_getD,Dx]
     congr 1;rw[List.getD_eq_getElem?_getD,List.getD_eq_getElem?_getD,List.getElem?_take,if_pos e]
    ·rw[if_neg e,FL (a:=v) (by omega),Nat.xor_zero,List.getElem?_drop,List.getD_eq_getElem?_getD]
     congr 2;omega
  have j:cnt (xorL a v)=cnt (xorL (a.take (min a.length v.length)) v)+cnt (a.drop (min a.length v.length)):=by rw[d,NG]
  omega
def distN(d:Nat)(t:Int):Nat:=(DQ d t).toNat
theorem Rd(d:Nat)(t:Int):((distN d t:Nat):Int)=DQ d t:=Int.toNat_of_nonneg (NV d t)
theorem jI{V:List (List Nat)}{t:Int}{p k:Nat}(a:k<=31)(h:(BH V (BA V t p k).ch (BA V t p k).v t V.length).1=none):BA V t p k=BA V t p 31:=by
 have:=Uu h (31-k);rw[show k+(31-k)=31 by omega]at this;exact this.symm
theorem Uv{V:List (List Nat)}{t:Int}{p:Nat}{m:Nat}(a:∀i,(V.getD i []).length<=m):∀k,(BA V t p k).v.length<=m
 |0=>a p
 |k+1=>by
  have d:=Uv (t:=t) (p:=p) a k;show(GP V t (BA V t p k)).v.length<=m;unfold GP;split
  ·exact d
  ·rename_i b _
   show(xorL _ _).length<=m;rw[BV];have:=a b;omega
def placeN(b:Int)(n:Nat):Nat:=((b.tmod n+n).tmod n).toNat
theorem Vq(b:Int){n:Nat}(f:0<n):((placeN b n:Nat):Int)=(b.tmod n+n).tmod n/\placeN b n<n:=by
 have a: -(n:Int)<b.tmod n:=by
  have:=Int.lt_tmod_of_pos b (show(0:Int)<n by omega);omega
 have d:0<=(b.tmod n+n).tmod n:=Int.tmod_nonneg _ (by omega);have e:(b.tmod n+n).tmod n<n:=Int.tmod_lt_of_pos _ (by omega);unfold placeN;omega
def emitD(L:List PD)(b:Nat)(t:Int):Option PD:=Ha L (A5 (FP (BA (vecsD L) t b 31).ch L.length))
theorem gW{L:List PD}{e:List Int}{d:PD}(h:Ha L e=some d):∃q Q,Fy .dflt L e=q::Q/\E6 (q::Q)=some d/\d.xs=E7 (q::Q)/\d.s=st (GY (q::Q))/\(∀p∈q::Q,p∈L):=by
 have a:E6 (Fy .dflt L e)=some d:=h;cases f:Fy .dflt L e with
 |nil=>rw[f]at a;cases a
 |cons q Q=>
  rw[f]at a;refine⟨q,Q,rfl,a,?_,?_,fun p hp=>UP (by rw[f];exact hp)⟩
  all_goals
   rw[Ka]at a;split at a
   ·obtain rfl:=Option.some.inj a;rfl
   ·cases a
theorem XP{L:List PD}{l:List Int}{d:PD}(e:∀p∈L,BN p=true)(h:Ha L l=some d):BN d=true/\1<=d.h:=by
 obtain⟨q,Q,_,f,_,_,a⟩:=gW h;obtain⟨j,r⟩:=ZQ (fun p hp=>e p (a p hp)) f;have o:=Mr (q:=q) (Q:=Q) (p:=q) List.mem_cons_self;obtain⟨⟨_,_,_,g⟩,_⟩:=Fl.1 (e q (a q List.mem_cons_self));have m:0<=q.h:=g.1;exact⟨j,by omega⟩
end Go.Proofs.YtfpfcnfmigaphaaGreatDoor
