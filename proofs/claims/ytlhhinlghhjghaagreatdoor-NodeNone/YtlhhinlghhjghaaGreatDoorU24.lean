/-
  Plain mathematics of places that are named again and again: how often each is ('timesL'), what stands there once or twice ('atTo'), and that the xor, the members and the packet made are those of the places as they are named. No condition.
  Plain mathematics of choosing rows: a distance ('distZ'), the first row that brings the degree nearest ('nearTo', 'near_is'), what is chosen step by step ('chTo') and what always holds of it; the xor of what is chosen ('sumCh'). No condition.
  Plain lists for draws: the n-th draw of a list ('drawN'), numbers taken one after the other of those that are left ('leftL', 'picksL'), the same rising ('distL'), and what is taken by marks ('untaken', 'marked'). No condition.
  Plain mathematics of what is chosen as a list of places ('Chn'): it is what 'chTo' holds, its sort is 'placesCh'; a degree that is told from the words that meet ('deg_with'); a distance as a number without sign. No condition.
  Plain mathematics of what a relay emits: of packets that may be ('emitD'): it may be, it is in the span of what was put, it is true of blocks where they are. No condition.
-/
import Derived.Test.YtlhhinlghhjghaaGreatDoorU23
import Derived.Test.YtlhhinlghhjghaaGreatDoorU12
import Derived.Test.YtlhhinlghhjghaaGreatDoorU1
import Derived.Test.YtlhhinlghhjghaaGreatDoorU2
import Derived.Test.YtlhhinlghhjghaaGreatDoorU0
import Derived.Test.YtlhhinlghhjghaaGreatDoorU4
namespace Go.Proofs.YtlhhinlghhjghaaGreatDoor
open Go.RowKit
set_option linter.unusedVariables false
set_option linter.unusedSimpArgs false
set_option maxRecDepth 4000
set_option maxHeartbeats 8000000
variable {t:Int}{V:List (List Nat)}{ch:List Bool}{c:List Nat}{k b i:Nat}{α:Type}
def Zbb(n:Nat)(ws:List Int):List Nat:=ws.foldl (fun c i=>if 0≤i∧i<(n:Int)then c.set i.toNat (c.getD i.toNat 0+1)else c) (List.replicate n 0)
theorem ZdA(n:Nat):Zbb n []=List.replicate n 0:=rfl
theorem Zci(n:Nat)(ws:List Int)(i:Int):Zbb n (ws++[i])=if 0≤i∧i<(n:Int)then(Zbb n ws).set i.toNat ((Zbb n ws).getD i.toNat 0+1)else Zbb n ws:=by
 unfold Zbb
 rw[List.foldl_append]
 rfl
theorem Zfd{P:List α→Prop}(h0:P [])(h1:∀l a,P l→P (l++[a])):∀l,P l:=fun l=>by
 have:∀k,k≤l.length→P (l.take k):=fun k=>by
  induction k with
  |zero=>intro _;rw[List.take_zero];exact h0
  |succ k ih=>intro hk;rw[List.take_succ_eq_append_getElem (by omega)];exact h1 _ _ (ih (by omega))
 have h2:=this l.length (Nat.le_refl _)
 rwa[List.take_length]at h2
theorem ZdK(n:Nat)(ws:List Int):(Zbb n ws).length=n:=by
 refine Zfd (P:=fun ws=>(Zbb n ws).length=n) (by rw[ZdA,List.length_replicate]) (fun l i ih=>?_) ws
 rw[Zci]
 split
 ·rw[List.length_set,ih]
 ·exact ih
theorem Zoq(n:Nat)(ws:List Int):∀b,(Zbb n ws).getD b 0≤ws.length:=by
 refine Zfd (P:=fun ws=> ∀b,(Zbb n ws).getD b 0≤ws.length) (fun b=>?_) (fun l i ih b=>?_) ws
 ·rw[ZdA,List.getD_eq_getElem?_getD,List.getElem?_replicate]
  split<;>simp
 ·rw[Zci,List.length_append,List.length_singleton]
  split
  ·rw[ZaP]
   have:=ih b
   have:=ih i.toNat
   split<;>omega
  ·have:=ih b
   omega
def atTo{α:Type}(dd:α)(l:List α)(c:List Nat):Nat→List α
 |0=>[]
 |k+1=>if c.getD k 0=0 then atTo dd l c k else if c.getD k 0%2=0 then atTo dd l c k++[l.getD k dd]++[l.getD k dd]else atTo dd l c k++[l.getD k dd]
theorem Zb4{dd:α}{l:List α}(h:c.getD k 0=0):atTo dd l c (k+1)=atTo dd l c k:=if_pos h
theorem ZaQ{dd:α}{l:List α}(h:c.getD k 0≠0)(h2:c.getD k 0%2=0):atTo dd l c (k+1)=atTo dd l c k++[l.getD k dd]++[l.getD k dd]:=(if_neg h).trans (if_pos h2)
theorem Za0{dd:α}{l:List α}(h:c.getD k 0≠0)(h2:¬c.getD k 0%2=0):atTo dd l c (k+1)=atTo dd l c k++[l.getD k dd]:=(if_neg h).trans (if_neg h2)
theorem ZjK{α:Type}{dd:α}{l:List α}{c:List Nat}{b x:Nat}:∀n,n≤b→atTo dd l (c.set b x) n=atTo dd l c n
 |0,_=>rfl
 |n+1,h=>by
  have e:(c.set b x).getD n 0=c.getD n 0:=by rw[ZaP,if_neg (by omega)]
  show(if _ then _ else _)=(if _ then _ else _)
  rw[e,ZjK n (by omega)]
def Zjn{α:Type}(g:α→List Nat)(Q:List α):List Nat:=Q.foldl (fun a p=>xorL a (g p)) []
theorem ZaD(g:α→List Nat)(Q:List α)(p:α):Zjn g (Q++[p])=xorL (Zjn g Q) (g p):=by
 unfold Zjn
 rw[List.foldl_append]
 rfl
theorem Zqs(a b:List Nat):xorL (xorL (xorL a b) b) b=xorL a b:=by
 apply Za1
 ·simp only[Zae];omega
 ·intro i _
  simp only[Zau]
  rw[Nat.xor_assoc,Nat.xor_self,Nat.xor_zero]
theorem ZfG(a b c:List Nat):xorL (xorL a b) c=xorL (xorL a c) b:=by
 apply Za1
 ·simp only[Zae];omega
 ·intro i _
  simp only[Zau]
  rw[Nat.xor_assoc,Nat.xor_comm (b.getD i 0),←Nat.xor_assoc]
theorem Zn8{x:Nat}(h:b<c.length):(c.set b x).getD b 0=x:=by rw[ZaP,if_pos ⟨rfl,h⟩]
theorem Zv1{x:Nat}(h:i≠b):(c.set b x).getD i 0=c.getD i 0:=by rw[ZaP,if_neg (fun e=>h e.1)]
theorem Zh0{α:Type}{dd:α}(g:α→List Nat){l:List α}{c:List Nat}{b:Nat}(hb:b<c.length):∀n,b<n→Zjn g (atTo dd l (c.set b (c.getD b 0+1)) n)=xorL (Zjn g (atTo dd l c n)) (g (l.getD b dd))
 |0,h=>by omega
 |n+1,h=>by
  by_cases e:n=b
  ·subst e
   have e1:(c.set n (c.getD n 0+1)).getD n 0=c.getD n 0+1:=Zn8 hb
   have e2:atTo dd l (c.set n (c.getD n 0+1)) n=atTo dd l c n:=ZjK n (Nat.le_refl _)
   by_cases z:c.getD n 0=0
   ·rw[Za0 (by omega) (by omega),Zb4 z,e2,ZaD]
   ·by_cases z2:c.getD n 0%2=0
    ·rw[Za0 (by omega) (by omega),ZaQ z z2,e2,ZaD,ZaD,ZaD,Zqs]
    ·rw[ZaQ (by omega) (by omega),Za0 z z2,e2,ZaD,ZaD]
  ·have ih:=Zh0 (dd:=dd) g (l:=l) hb n (by omega)
   have e1:(c.set b (c.getD b 0+1)).getD n 0=c.getD n 0:=Zv1 e
   by_cases z:c.getD n 0=0
   ·rw[Zb4 (by omega),Zb4 z,ih]
   ·by_cases z2:c.getD n 0%2=0
    ·rw[ZaQ (by omega) (by omega),ZaQ z z2,ZaD,ZaD,ZaD,ZaD,ih,ZfG _ (g (l.getD b dd)),ZfG _ (g (l.getD b dd))]
    ·rw[Za0 (by omega) (by omega),Za0 z z2,ZaD,ZaD,ih,ZfG]
theorem ZnX{α:Type}{dd:α}{l:List α}{c:List Nat}{b:Nat}(hb:b<c.length):∀n,(atTo dd l (c.set b (c.getD b 0+1)) n).length≤(atTo dd l c n).length+(if b<n then 1 else 0)
 |0=>Nat.zero_le _
 |n+1=>by
  have ih:=ZnX (dd:=dd) (l:=l) hb n
  by_cases e:n=b
  ·subst e
   have e1:(c.set n (c.getD n 0+1)).getD n 0=c.getD n 0+1:=Zn8 hb
   have e2:atTo dd l (c.set n (c.getD n 0+1)) n=atTo dd l c n:=ZjK n (Nat.le_refl _)
   rw[if_pos (by omega)]
   by_cases z:c.getD n 0=0
   ·rw[Za0 (by omega) (by omega),Zb4 z,e2,List.length_append,List.length_singleton]
    exact Nat.le_refl _
   ·by_cases z2:c.getD n 0%2=0
    ·rw[Za0 (by omega) (by omega),ZaQ z z2,e2]
     simp only[List.length_append,List.length_singleton]
     omega
    ·rw[ZaQ (by omega) (by omega),Za0 z z2,e2]
     simp only[List.length_append,List.length_singleton]
     omega
  ·have e1:(c.set b (c.getD b 0+1)).getD n 0=c.getD n 0:=Zv1 e
   rw[show(if b<n+1 then 1 else 0)=(if b<n then 1 else 0) by split<;>split<;>omega]
   by_cases z:c.getD n 0=0
   ·rw[Zb4 (by omega),Zb4 z];exact ih
   ·by_cases z2:c.getD n 0%2=0
    ·rw[ZaQ (by omega) (by omega),ZaQ z z2]
     simp only[List.length_append,List.length_singleton]
     omega
    ·rw[Za0 (by omega) (by omega),Za0 z z2]
     simp only[List.length_append,List.length_singleton]
     omega
theorem Zt0{α:Type}{dd:α}{l:List α}{c:List Nat}{p:α}:∀n,p∈atTo dd l c n↔∃i,i<n∧c.getD i 0≠0∧p=l.getD i dd
 |0=>by
  constructor
  ·intro h;cases h
  ·rintro⟨i,h,_⟩;omega
 |n+1=>by
  have ih:=Zt0 (dd:=dd) (l:=l) (c:=c) (p:=p) n
  have key:(∃i,i<n+1∧c.getD i 0≠0∧p=l.getD i dd)↔(∃i,i<n∧c.getD i 0≠0∧p=l.getD i dd)∨(c.getD n 0≠0∧p=l.getD n dd):=by
   constructor
   ·rintro⟨i,h1,h2,h3⟩
    rcases Nat.lt_or_ge i n with e|e
    ·exact .inl ⟨i,e,h2,h3⟩
    ·obtain rfl:i=n:=by omega
     exact .inr ⟨h2,h3⟩
   ·rintro(⟨i,h1,h2,h3⟩|⟨h2,h3⟩)
    ·exact⟨i,by omega,h2,h3⟩
    ·exact⟨n,by omega,h2,h3⟩
  rw[key,←ih]
  by_cases z:c.getD n 0=0
  ·rw[Zb4 z]
   exact⟨.inl,fun h=>h.elim id fun h=>absurd z h.1⟩
  ·by_cases z2:c.getD n 0%2=0
   ·rw[ZaQ z z2,List.mem_append,List.mem_append,List.mem_singleton]
    constructor
    ·rintro((h|h)|h)
     ·exact .inl h
     ·exact .inr ⟨z,h⟩
     ·exact .inr ⟨z,h⟩
    ·rintro(h|h)
     ·exact .inl (.inl h)
     ·exact .inr h.2
   ·rw[Za0 z z2,List.mem_append,List.mem_singleton]
    constructor
    ·rintro(h|h)
     ·exact .inl h
     ·exact .inr ⟨z,h⟩
    ·rintro(h|h)
     ·exact .inl h
     ·exact .inr h.2
def selL{α:Type}(dd:α)(l:List α)(ws:List Int):List α:=ws.filterMap fun(i:Int)=>if 0≤i∧i<(l.length:Int)then some (l.getD i.toNat dd)else none
theorem Zke{dd:α}(l:List α)(ws:List Int)(i:Int):selL dd l (ws++[i])=if 0≤i∧i<(l.length:Int)then selL dd l ws++[l.getD i.toNat dd]else selL dd l ws:=by
 unfold selL
 rw[List.filterMap_append]
 by_cases h:0≤i∧i<(l.length:Int)
 ·rw[if_pos h,List.filterMap_cons,List.filterMap_nil,if_pos h]
 ·rw[if_neg h,List.filterMap_cons,List.filterMap_nil,if_neg h]
  exact List.append_nil _
theorem ZmY{dd:α}{l:List α}{ws:List Int}{p:α}(h:p∈selL dd l ws):p∈l:=by
 obtain⟨i,_,hi⟩:=List.mem_filterMap.1 h
 split at hi
 ·rename_i hc
  rw[←Option.some.inj hi,List.getD_eq_getElem?_getD,List.getElem?_eq_getElem (show i.toNat<l.length by omega)]
  exact List.getElem_mem _
 ·cases hi
def atL{α:Type}(dd:α)(l:List α)(ws:List Int):List α:=atTo dd l (Zbb l.length ws) l.length
theorem ZgD{α:Type}{dd:α}(l:List α):∀n,atTo dd l (List.replicate l.length 0) n=[]
 |0=>rfl
 |n+1=>by
  rw[Zb4,ZgD l n]
  rw[List.getD_eq_getElem?_getD,List.getElem?_replicate]
  split<;>rfl
theorem Zux{dd:α}(g:α→List Nat)(l:List α)(ws:List Int):Zjn g (atL dd l ws)=Zjn g (selL dd l ws):=by
 refine Zfd (P:=fun ws=>Zjn g (atL dd l ws)=Zjn g (selL dd l ws)) ?_ (fun ws i ih=>?_) ws
 ·unfold atL;rw[ZdA,ZgD];rfl
 ·unfold atL
  rw[Zci,Zke]
  by_cases h:0≤i∧i<(l.length:Int)
  ·rw[if_pos h,if_pos h,Zh0 g (by rw[ZdK];omega) _ (by omega),ZaD,←ih]
   rfl
  ·rw[if_neg h,if_neg h,←ih]
   rfl
theorem Zzl{dd:α}(l:List α)(ws:List Int):(atL dd l ws).length≤ws.length:=by
 refine Zfd (P:=fun ws=>(atL dd l ws).length≤ws.length) ?_ (fun ws i ih=>?_) ws
 ·unfold atL;rw[ZdA,ZgD];exact Nat.le_refl _
 ·unfold atL
  rw[Zci,List.length_append,List.length_singleton]
  by_cases h:0≤i∧i<(l.length:Int)
  ·rw[if_pos h]
   have h1:=ZnX (dd:=dd) (l:=l) (c:=Zbb l.length ws) (b:=i.toNat) (by rw[ZdK];omega) l.length
   rw[if_pos (by omega)]at h1
   unfold atL at ih
   omega
  ·rw[if_neg h]
   unfold atL at ih
   omega
theorem Zud{dd:α}{l:List α}{ws:List Int}{p:α}:p∈atL dd l ws↔p∈selL dd l ws:=by
 refine Zfd (P:=fun ws=>p∈atL dd l ws↔p∈selL dd l ws) ?_ (fun ws i ih=>?_) ws
 ·unfold atL;rw[ZdA,ZgD];exact Iff.rfl
 ·unfold atL at ih⊢
  rw[Zci,Zke]
  by_cases h:0≤i∧i<(l.length:Int)
  ·rw[if_pos h,if_pos h,List.mem_append,List.mem_singleton,←ih,Zt0,Zt0]
   have hb:i.toNat<(Zbb l.length ws).length:=by rw[ZdK];omega
   constructor
   ·rintro⟨j,h1,h2,h3⟩
    by_cases e:j=i.toNat
    ·subst e;exact .inr h3
    ·rw[Zv1 e]at h2
     exact .inl ⟨j,h1,h2,h3⟩
   ·rintro(⟨j,h1,h2,h3⟩|h3)
    ·by_cases e:j=i.toNat
     ·subst e
      exact⟨i.toNat,h1,by rw[Zn8 hb];omega,h3⟩
     ·exact⟨j,h1,by rw[Zv1 e];exact h2,h3⟩
    ·exact⟨i.toNat,by omega,by rw[Zn8 hb];omega,h3⟩
  ·rw[if_neg h,if_neg h,ih]
theorem Zoc{α β:Type}{dd:α}(f:α→β)(l:List α)(c:List Nat):∀n,n≤l.length→(atTo dd l c n).map f=atTo (f dd) (l.map f) c n
 |0,_=>rfl
 |n+1,h=>by
  have ih:=Zoc (dd:=dd) f l c n (by omega)
  have e:f (l.getD n dd)=(l.map f).getD n (f dd):=by
   rw[List.getD_eq_getElem?_getD,List.getElem?_eq_getElem (show n<l.length by omega),List.getD_eq_getElem?_getD,List.getElem?_map,List.getElem?_eq_getElem (show n<l.length by omega)]
   rfl
  by_cases z:c.getD n 0=0
  ·rw[Zb4 z,Zb4 z,ih]
  ·by_cases z2:c.getD n 0%2=0
   ·rw[ZaQ z z2,ZaQ z z2,List.map_append,List.map_append,ih,List.map_singleton,e]
   ·rw[Za0 z z2,Za0 z z2,List.map_append,ih,List.map_singleton,e]
theorem ZzJ{β:Type}{dd:α}(f:α→β)(l:List α)(ws:List Int):(atL dd l ws).map f=atL (f dd) (l.map f) ws:=by
 unfold atL
 rw[Zoc f l _ _ (Nat.le_refl _),List.length_map]
theorem Ztd{P Q:List PD}(hm:∀p,p∈P↔p∈Q)(hv:vecX P=vecX Q)(ht:txtX P=txtX Q):mixL P=mixL Q:=by
 cases P with
 |nil=>
  cases Q with
  |nil=>rfl
  |cons q Q=>exact absurd ((hm q).2 List.mem_cons_self) (by simp)
 |cons p P=>
  cases Q with
  |nil=>exact absurd ((hm p).1 List.mem_cons_self) (by simp)
  |cons q Q=>
   have hh:hopX (p::P)=hopX (q::Q):=by
    apply Int.le_antisymm
    ·exact Zyj fun r hr=>Zok ((hm r).1 hr)
    ·exact Zyj fun r hr=>Zok ((hm r).2 hr)
   have side:∀{p q:PD} {P Q:List PD},(∀r,r∈p::P↔r∈q::Q)→(∀r∈P,alkD p r=true)→(∀r∈Q,alkD q r=true)∧alkD p q=true:=by
    intro p q P Q hm h
    have hall:∀r∈p::P,alkD p r=true:=fun r hr=>by
     rcases List.mem_cons.1 hr with e|e
     ·rw[e];exact Zi1 _
     ·exact h r e
    have hq:alkD p q=true:=hall q ((hm q).2 List.mem_cons_self)
    exact⟨fun r hr=>ZkK (Zn4 hq) (hall r ((hm r).2 (List.mem_cons_of_mem _ hr))),hq⟩
   rw[ZdX,ZdX,hv,ht,hh]
   by_cases h:∀r∈P,alkD p r=true
   ·obtain⟨h1,h2⟩:=side hm h
    by_cases h3:0<cnt (vecX (q::Q))∧hopX (q::Q)<15
    ·rw[if_pos ⟨h,h3⟩,if_pos ⟨h1,h3⟩]
     unfold alkD at h2
     rw[decide_eq_true_eq]at h2
     rw[h2.1,h2.2.1,h2.2.2.1,h2.2.2.2]
    ·rw[if_neg (fun e=>h3 e.2),if_neg (fun e=>h3 e.2)]
   ·rw[if_neg (fun e=>h e.1),if_neg (fun e=>h (side (fun r=>(hm r).symm) e.1).1)]
theorem ZAr(L:List PD)(ws:List Int):mixL (atL .dflt L ws)=mixD L ws:=Ztd (fun p=>Zud) (Zux (fun p:PD=>p.xs) L ws) (Zux (fun p:PD=>tx p.s) L ws)
def ZdT(d:Nat)(t:Int):Int:=if (d:Int)<t then t-d else d-t
theorem ZhM(d:Nat)(t:Int):0≤ZdT d t:=by unfold ZdT;split<;>omega
def brD(V:List (List Nat))(v:List Nat)(i:Nat):Nat:=cnt (xorL v (V.getD i []))
def ZcZ(V:List (List Nat))(ch:List Bool)(v:List Nat)(t:Int)(i:Nat)(z:Int):Prop:=ch.getD i false=false∧0<brD V v i∧ZdT (brD V v i) t<z
def ZzA(V:List (List Nat))(ch:List Bool)(v:List Nat)(t:Int)(i:Nat)(z:Int):Decidable (ZcZ V ch v t i z):=
 inferInstanceAs (Decidable (ch.getD i false=false∧0<brD V v i∧ZdT (brD V v i) t<z))
def Zaz(V:List (List Nat))(ch:List Bool)(v:List Nat)(t:Int):Nat→Option Nat×Int
 |0=>(none,ZdT (cnt v) t)
 |i+1=> @ite _ (ZcZ V ch v t i (Zaz V ch v t i).2) (ZzA V ch v t i (Zaz V ch v t i).2) (some i,ZdT (brD V v i) t) (Zaz V ch v t i)
theorem ZfB{v:List Nat}(h:ZcZ V ch v t i (Zaz V ch v t i).2):Zaz V ch v t (i+1)=(some i,ZdT (brD V v i) t):=by
 exact if_pos h
theorem ZgJ{v:List Nat}(h:¬ZcZ V ch v t i (Zaz V ch v t i).2):Zaz V ch v t (i+1)=Zaz V ch v t i:=by
 exact if_neg h
theorem ZjZ(V:List (List Nat))(ch:List Bool)(v:List Nat)(t:Int):∀n,(Zaz V ch v t n).2≤ZdT (cnt v) t∧(∀j,j<n→¬ZcZ V ch v t j (Zaz V ch v t n).2)∧
  match (Zaz V ch v t n).1 with
  |none=>(Zaz V ch v t n).2=ZdT (cnt v) t
  |some b=>b<n∧ZcZ V ch v t b (ZdT (cnt v) t)∧(Zaz V ch v t n).2=ZdT (brD V v b) t∧∀j,j<b→¬ZcZ V ch v t j (ZdT (brD V v b) t+1)
 |0=>⟨Int.le_refl _,fun j hj=>by omega,rfl⟩
 |n+1=>by
  obtain⟨h1,h2,h3⟩:=ZjZ V ch v t n
  by_cases h:ZcZ V ch v t n (Zaz V ch v t n).2
  ·rw[ZfB h]
   refine⟨by have:=h.2.2;omega,fun j hj hn=>?_,by omega,⟨h.1,h.2.1,by have:=h.2.2;omega⟩,rfl,fun j hj hn=>h2 j hj ⟨hn.1,hn.2.1,by have:=hn.2.2;have:=h.2.2;omega⟩⟩
   rcases Nat.lt_or_ge j n with e|e
   ·exact h2 j e ⟨hn.1,hn.2.1,Int.lt_trans hn.2.2 h.2.2⟩
   ·obtain rfl:j=n:=by omega
    have:=hn.2.2
    dsimp only at this
    omega
  ·rw[ZgJ h]
   refine⟨h1,fun j hj=>?_,?_⟩
   ·rcases Nat.lt_or_ge j n with e|e
    ·exact h2 j e
    ·obtain rfl:j=n:=by omega
     exact h
   ·cases hb:(Zaz V ch v t n).1 with
    |none=>rw[hb]at h3;exact h3
    |some b=>rw[hb]at h3;exact⟨by have:=h3.1;omega,h3.2⟩
theorem Zx0{x:Bool}(hl:b<ch.length):(ch.set b x).getD b false=x:=by
 rw[List.getD_eq_getElem?_getD,List.getElem?_set_self hl]
 rfl
theorem Zov{x:Bool}(h:i≠b):(ch.set b x).getD i false=ch.getD i false:=by
 rw[List.getD_eq_getElem?_getD,List.getD_eq_getElem?_getD,List.getElem?_set_ne (fun e=>h e.symm)]
def ZbJ(ch:List Bool)(n:Nat):List Nat:=(List.range n).filter fun i=>ch.getD i false
theorem Zhy(ch:List Bool)(n:Nat):(ZbJ ch n).Pairwise (· < ·):=List.Pairwise.filter _ List.pairwise_lt_range
theorem ZpJ{n:Nat}:i∈ZbJ ch n↔i<n∧ch.getD i false=true:=by
 unfold ZbJ
 rw[List.mem_filter,List.mem_range]
structure CS where
 ch:List Bool
 v:List Nat
def Zfe(V:List (List Nat))(t:Int)(s:CS):CS:=match (Zaz V s.ch s.v t V.length).1 with
 |none=>s
 |some b=>⟨s.ch.set b true,xorL s.v (V.getD b [])⟩
def chTo(V:List (List Nat))(t:Int)(p:Nat):Nat→CS
 |0=>⟨(List.replicate V.length false).set p true,V.getD p []⟩
 |k+1=>Zfe V t (chTo V t p k)
theorem ZtS{s:CS}(h:(Zaz V s.ch s.v t V.length).1=none):Zfe V t s=s:=by unfold Zfe;rw[h]
theorem ZqT{s:CS}(h:(Zaz V s.ch s.v t V.length).1=some b):Zfe V t s=⟨s.ch.set b true,xorL s.v (V.getD b [])⟩:=by unfold Zfe;rw[h]
theorem ZnH{V:List (List Nat)}{t:Int}{p k:Nat}(h:(Zaz V (chTo V t p k).ch (chTo V t p k).v t V.length).1=none):∀j,chTo V t p (k+j)=chTo V t p k
 |0=>rfl
 |j+1=>by
  show Zfe V t (chTo V t p (k+j))=_
  rw[ZnH h j,ZtS h]
end Go.Proofs.YtlhhinlghhjghaaGreatDoor
namespace Go.Proofs.YtlhhinlghhjghaaGreatDoor
set_option linter.unusedVariables false
set_option linter.unusedSimpArgs false
set_option maxRecDepth 4000
set_option maxHeartbeats 8000000
variable {L:List Nat}
def Zbg(L:List Nat)(n:Nat):Nat:=if n≤L.length then L.getD (n-1) 0 else n*11400714819323198485%18446744073709551616
theorem Zvp{n:Nat}(h:n<L.length):Zbg L (n+1)=L.getD n 0:=by
 unfold Zbg
 rw[if_pos (by omega),Nat.add_sub_cancel]
theorem Zub{n:Nat}(h:L.length<n):Zbg L n=n*11400714819323198485%18446744073709551616:=by
 unfold Zbg
 rw[if_neg (by omega)]
theorem ZmW(h:smalls L)(n:Nat):Zbg L n<18446744073709551616:=by
 unfold Zbg
 split
 ·exact h.get _
 ·omega
def ZbD(L:List Nat)(N:Nat)(zs:List Nat):Nat→List Nat
 |0=>zs
 |k+1=>(ZbD L N zs k).eraseIdx (Zbg L (N+k+1)%(ZbD L N zs k).length)
def Zcw(L:List Nat)(N:Nat)(zs:List Nat):Nat→List Nat
 |0=>[]
 |k+1=>Zcw L N zs k++[(ZbD L N zs k).getD (Zbg L (N+k+1)%(ZbD L N zs k).length) 0]
theorem ZdB(L:List Nat)(N:Nat)(zs:List Nat):∀k,k≤zs.length→(ZbD L N zs k).length=zs.length-k
 |0,_=>rfl
 |k+1,h=>by
  have ih:=ZdB L N zs k (by omega)
  have hlt:Zbg L (N+k+1)%(ZbD L N zs k).length<(ZbD L N zs k).length:=Nat.mod_lt _ (by omega)
  show((ZbD L N zs k).eraseIdx _).length=_
  rw[List.length_eraseIdx,if_pos hlt,ih]
  omega
theorem Zcb(L:List Nat)(N:Nat)(zs:List Nat):∀k,(Zcw L N zs k).length=k
 |0=>rfl
 |k+1=>by
  show(Zcw L N zs k++[_]).length=_
  rw[List.length_append,Zcb L N zs k];rfl
theorem Zqq(l:List Nat)(j:Nat)(h:j<l.length):(l.getD j 0::l.eraseIdx j).Perm l:=by
 rw[List.eraseIdx_eq_take_drop_succ]
 have e:l=l.take j++l.getD j 0::l.drop (j+1):=by
  rw[List.getD_eq_getElem?_getD,List.getElem?_eq_getElem h]
  simp
 exact(List.perm_middle.symm).trans (List.Perm.of_eq e.symm)
theorem Ziz(L:List Nat)(N:Nat)(zs:List Nat):∀k,k≤zs.length→(Zcw L N zs k++ZbD L N zs k).Perm zs
 |0,_=>List.Perm.refl _
 |k+1,h=>by
  have ih:=Ziz L N zs k (by omega)
  have hl:=ZdB L N zs k (by omega)
  have hlt:Zbg L (N+k+1)%(ZbD L N zs k).length<(ZbD L N zs k).length:=Nat.mod_lt _ (by omega)
  show((Zcw L N zs k++[_])++(ZbD L N zs k).eraseIdx _).Perm zs
  rw[List.append_assoc]
  exact(List.Perm.append_left _ (Zqq _ _ hlt)).trans ih
def Zc2(L:List Nat)(N n k:Nat):List Nat:=(List.range n).filter fun i=>decide (i∉ZbD L N (List.range n) k)
theorem ZkL(L:List Nat)(N n k:Nat)(h:k≤n):(Zcw L N (List.range n) k).Perm (Zc2 L N n k):=by
 have hp:=Ziz L N (List.range n) k (by simpa using h)
 have hn:=hp.symm.nodup List.nodup_range
 obtain⟨_,_,hd⟩:=List.nodup_append.1 hn
 have hf:=hp.filter fun i=>decide (i∉ZbD L N (List.range n) k)
 have h1:(Zcw L N (List.range n) k).filter (fun i=>decide (i∉ZbD L N (List.range n) k))=Zcw L N (List.range n) k:=List.filter_eq_self.2 fun a ha=>by simpa using fun hb=>hd a ha a hb rfl
 have h2:(ZbD L N (List.range n) k).filter (fun i=>decide (i∉ZbD L N (List.range n) k))=[]:=List.filter_eq_nil_iff.2 fun a ha=>by simp[ha]
 rw[List.filter_append,h1,h2,List.append_nil]at hf
 exact hf
theorem Zgd(L:List Nat)(N n k:Nat)(h:k≤n):(Zc2 L N n k).length=k:=by
 rw[←(ZkL L N n k h).length_eq,Zcb]
def ZaF(l:List Nat):List Int:=l.map fun(x:Nat)=>(x:Int)
theorem ZaY(l:List Nat):(ZaF l).length=l.length:=by simp[ZaF]
theorem Zd3(l:List Nat)(i:Nat):(ZaF l).getD i 0=((l.getD i 0:Nat):Int):=by
 simp only[ZaF,List.getD_eq_getElem?_getD,List.getElem?_map]
 cases l[i]? <;>rfl
theorem Zgf(l m:List Nat):ZaF (l++m)=ZaF l++ZaF m:=by simp[ZaF]
theorem ZmB(l:List Nat)(j:Nat):ZaF (l.eraseIdx j)=(ZaF l).eraseIdx j:=by
 simp[ZaF,List.eraseIdx_eq_take_drop_succ,List.map_take,List.map_drop]
theorem Zt7(L:List Nat)(N n k:Nat)(h:k≤n):(ZaF (Zcw L N (List.range n) k)).mergeSort (fun x y=>decide (x≤y))=ZaF (Zc2 L N n k):=by
 have hp:((ZaF (Zcw L N (List.range n) k)).mergeSort fun x y=>decide (x≤y)).Perm (ZaF (Zc2 L N n k)):=(List.mergeSort_perm _ _).trans ((ZkL L N n k h).map _)
 refine List.Perm.eq_of_pairwise (le:=fun x y:Int=>x≤y) (fun a b _ _ h1 h2=>Int.le_antisymm h1 h2) ?_ ?_ hp
 ·have:=List.pairwise_mergeSort (le:=fun x y:Int=>decide (x≤y)) (fun a b c h1 h2=>by simp at*;omega) (fun a b=>by simp;omega) (ZaF (Zcw L N (List.range n) k))
  exact this.imp fun h=>by simpa using h
 ·have:(Zc2 L N n k).Pairwise (· < ·):=List.Pairwise.filter _ List.pairwise_lt_range
  exact List.Pairwise.map _ (fun a b hab=>by omega) this
theorem ZxB(L:List Nat)(N n k i:Nat)(h:i<(Zc2 L N n k).length):(Zc2 L N n k).getD i 0<n:=by
 have hm:(Zc2 L N n k)[i]∈Zc2 L N n k:=List.getElem_mem h
 have:=(List.mem_filter.1 hm).1
 simpa [List.getD_eq_getElem?_getD,List.getElem?_eq_getElem h]using this
end Go.Proofs.YtlhhinlghhjghaaGreatDoor
namespace Go.Proofs.YtlhhinlghhjghaaGreatDoor
open Go.RowKit
set_option linter.unusedVariables false
set_option linter.unusedSimpArgs false
set_option maxRecDepth 4000
set_option maxHeartbeats 8000000
variable {ch:List Bool}{ps:List Nat}{n:Nat}
structure Chn(n:Nat)(ch:List Bool)(ps:List Nat):Prop where
 len:ch.length=n
 nodup:ps.Nodup
 lt:∀i∈ps,i<n
 mem:∀i,i<n→ch.getD i false=decide (i∈ps)
theorem Zy1{p:Nat}(hp:p<n):Chn n ((List.replicate n false).set p true) [p]:=by
 refine⟨by rw[List.length_set,List.length_replicate],by simp,fun i hi=>by rw[List.mem_singleton.1 hi];exact hp,fun i hi=>?_⟩
 by_cases e:i=p
 ·subst e
  rw[Zx0 (by rw[List.length_replicate];exact hi)]
  simp
 ·rw[Zov e,List.getD_eq_getElem?_getD,List.getElem?_replicate,if_pos hi]
  simp[e]
theorem Chn.snoc(h:Chn n ch ps){b:Nat}(hb:b<n)(hf:ch.getD b false=false):Chn n (ch.set b true) (ps++[b]):=by
 have hn:b∉ps:=by
  have:=h.mem b hb
  rw[hf]at this
  exact fun e=>by rw[decide_eq_true e]at this;cases this
 refine⟨by rw[List.length_set,h.len],?_,fun i hi=>?_,fun i hi=>?_⟩
 ·rw[List.nodup_append]
  refine⟨h.nodup,by simp,fun a ha c hc e=>hn ?_⟩
  rw[←List.mem_singleton.1 hc,←e]
  exact ha
 ·rcases List.mem_append.1 hi with e|e
  ·exact h.lt i e
  ·rw[List.mem_singleton.1 e];exact hb
 ·by_cases e:i=b
  ·subst e
   rw[Zx0 (by rw[h.len];exact hi)]
   simp
  ·rw[Zov e,h.mem i hi]
   simp[e]
theorem Chn.many(h:Chn n ch ps):ps.Perm (ZbJ ch n):=by
 have h2:(ZbJ ch n).Nodup:=(Zhy ch n).imp fun h=>Nat.ne_of_lt h
 refine(List.perm_ext_iff_of_nodup h.nodup h2).2 fun i=>?_
 rw[ZpJ]
 constructor
 ·intro hi
  exact⟨h.lt i hi,by rw[h.mem i (h.lt i hi)];exact decide_eq_true hi⟩
 ·rintro⟨h3,h4⟩
  rw[h.mem i h3]at h4
  exact of_decide_eq_true h4
theorem Chn.sort(h:Chn n ch ps):(ZaF ps).mergeSort (fun x y=>decide (x≤y))=ZaF (ZbJ ch n):=by
 have hp:((ZaF ps).mergeSort fun x y=>decide (x≤y)).Perm (ZaF (ZbJ ch n)):=(List.mergeSort_perm _ _).trans (h.many.map _)
 refine List.Perm.eq_of_pairwise (le:=fun x y:Int=>x≤y) (fun a b _ _ h1 h2=>Int.le_antisymm h1 h2) ?_ ?_ hp
 ·have:=List.pairwise_mergeSort (le:=fun x y:Int=>decide (x≤y)) (fun a b c h1 h2=>by simp at*;omega) (fun a b=>by simp;omega) (ZaF ps)
  exact this.imp fun h=>by simpa using h
 ·exact List.Pairwise.map _ (fun a b hab=>by omega) (Zhy ch n)
theorem Zvo(ps:List Nat)(i:Nat):decide ((i:Int)∈ZaF ps)=decide (i∈ps):=by
 have:((i:Int)∈ZaF ps)↔i∈ps:=by
  unfold ZaF
  rw[List.mem_map]
  constructor
  ·rintro⟨j,h1,h2⟩
   have:j=i:=by omega
   rw[←this];exact h1
  ·exact fun h=>⟨i,h,rfl⟩
 simp only[this]
theorem Zvu(a v:List Nat):cnt (a.take (min a.length v.length))≤cnt a∧cnt a-cnt (a.take (min a.length v.length))+cnt (xorL (a.take (min a.length v.length)) v)=cnt (xorL a v):=by
 have h1:cnt (a.take (min a.length v.length))+cnt (a.drop (min a.length v.length))=cnt a:=by rw[←ZfN,List.take_append_drop]
 refine⟨by omega,?_⟩
 rcases Nat.lt_or_ge a.length v.length with h|h
 ·rw[Nat.min_eq_left (Nat.le_of_lt h),List.take_length]
  omega
 ·have h2:xorL a v=xorL (a.take (min a.length v.length)) v++a.drop (min a.length v.length):=by
   rw[Nat.min_eq_right h]
   apply Za1
   ·rw[Zae,List.length_append,Zae,List.length_take,List.length_drop]
    omega
   ·intro i hi
    rw[Zau,List.getD_eq_getElem?_getD (l:=_++_),List.getElem?_append]
    have hl:(xorL (a.take v.length) v).length=v.length:=by rw[Zae,List.length_take];omega
    rw[hl]
    by_cases e:i<v.length
    ·rw[if_pos e,←List.getD_eq_getElem?_getD,Zau]
     congr 1
     rw[List.getD_eq_getElem?_getD,List.getD_eq_getElem?_getD,List.getElem?_take,if_pos e]
    ·rw[if_neg e,ZaS (a:=v) (by omega),Nat.xor_zero,List.getElem?_drop,List.getD_eq_getElem?_getD]
     congr 2
     omega
  have h3:cnt (xorL a v)=cnt (xorL (a.take (min a.length v.length)) v)+cnt (a.drop (min a.length v.length)):=by rw[h2,ZfN]
  omega
def distN(d:Nat)(t:Int):Nat:=(ZdT d t).toNat
theorem ZiG(d:Nat)(t:Int):((distN d t:Nat):Int)=ZdT d t:=Int.toNat_of_nonneg (ZhM d t)
theorem Zug{V:List (List Nat)}{t:Int}{p k:Nat}(hk:k≤31)(h:(Zaz V (chTo V t p k).ch (chTo V t p k).v t V.length).1=none):chTo V t p k=chTo V t p 31:=by
 have:=ZnH h (31-k)
 rw[show k+(31-k)=31 by omega]at this
 exact this.symm
theorem Zn5{V:List (List Nat)}{t:Int}{p:Nat}{m:Nat}(hV:∀i,(V.getD i []).length≤m):∀k,(chTo V t p k).v.length≤m
 |0=>hV p
 |k+1=>by
  have ih:=Zn5 (t:=t) (p:=p) hV k
  show(Zfe V t (chTo V t p k)).v.length≤m
  unfold Zfe
  split
  ·exact ih
  ·rename_i b _
   show(xorL _ _).length≤m
   rw[Zae]
   have:=hV b
   omega
def placeN(b:Int)(n:Nat):Nat:=((b.tmod n+n).tmod n).toNat
theorem Zoe(b:Int){n:Nat}(hn:0<n):((placeN b n:Nat):Int)=(b.tmod n+n).tmod n∧placeN b n<n:=by
 have h1: -(n:Int)<b.tmod n:=by
  have:=Int.lt_tmod_of_pos b (show(0:Int)<n by omega)
  omega
 have h2:0≤(b.tmod n+n).tmod n:=Int.tmod_nonneg _ (by omega)
 have h3:(b.tmod n+n).tmod n<n:=Int.tmod_lt_of_pos _ (by omega)
 unfold placeN
 omega
end Go.Proofs.YtlhhinlghhjghaaGreatDoor
namespace Go.Proofs.YtlhhinlghhjghaaGreatDoor
open Go.RowKit Go.Sort
set_option linter.unusedVariables false
set_option linter.unusedSimpArgs false
set_option maxRecDepth 4000
set_option maxHeartbeats 8000000
def emitD(L:List PD)(b:Nat)(t:Int):Option PD:=mixD L (ZaF (ZbJ (chTo (vecsD L) t b 31).ch L.length))
theorem Zpj{L:List PD}{ws:List Int}{d:PD}(h:mixD L ws=some d):∃q Q,selL .dflt L ws=q::Q∧mixL (q::Q)=some d∧d.xs=vecX (q::Q)∧d.s=st (txtX (q::Q))∧(∀p∈q::Q,p∈L):=by
 have h2:mixL (selL .dflt L ws)=some d:=h
 cases hu:selL .dflt L ws with
 |nil=>rw[hu]at h2;cases h2
 |cons q Q=>
  rw[hu]at h2
  refine⟨q,Q,rfl,h2,?_,?_,fun p hp=>ZmY (by rw[hu];exact hp)⟩
  all_goals
   rw[ZdX]at h2
   split at h2
   ·obtain rfl:=Option.some.inj h2;rfl
   ·cases h2
theorem ZyT{L:List PD}{ws:List Int}{d:PD}(hok:∀p∈L,okD p=true)(h:mixD L ws=some d):okD d=true∧1≤d.h:=by
 obtain⟨q,Q,_,h2,_,_,hsub⟩:=Zpj h
 obtain⟨k1,k2⟩:=ZBi (fun p hp=>hok p (hsub p hp)) h2
 have hg:=Zok (q:=q) (Q:=Q) (p:=q) List.mem_cons_self
 obtain⟨⟨_,_,_,hh⟩,_⟩:=Zcr.1 (hok q (hsub q List.mem_cons_self))
 have h5:0≤q.h:=hh.1
 exact⟨k1,by omega⟩
end Go.Proofs.YtlhhinlghhjghaaGreatDoor
