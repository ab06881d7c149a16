/- Laws for the proof. -/
import Derived.Lib.TrailingZeros
import Derived.Laws.BitsAllLaws
import Derived.Test.YtfpmnekaockodaaGreatDoorRows
import Derived.WalkKit
import Derived.WalkSpells
import Derived.WalkLawsBesides
import Derived.Laws.AppendOwnNone
import Derived.Laws.IdiomStrings
import Derived.Laws.CopyRow
import Derived.Laws.MakeOwn
import Derived.Lib.QuietBelow
import Derived.Deep.RegionWith
import Derived.BigQuiet
set_option linter.all false
open Go.Proofs.Tryz
open List renaming getD_eq_getElem?_getD->U,getElem?_eq_getElem->β,mem_of_getElem?->τ,mem_or_eq_of_mem_set->φ,range->Η
open Option renaming none->α,some->γ
open Go.RowKit renaming Below->δ
open Go renaming World->ε,Value->ξ
open Go.Value renaming slice->ζ,int->η,int->π,string->ψ
open Go.World renaming block_lt_of_cell?->θ,cell?_setCell_other->ν,frozen?_setCell->σ
open Go.Value.slice renaming injEq->ι
open Go.Proofs.Tryz renaming prog->κ
open Nat renaming le_refl->μ,testBit_xor->ο,testBit_mul_two_pow->χ,eq_of_testBit_eq->Β,pow_lt_pow_right->Γ,testBit_two_pow->Δ,lt_of_lt_of_le->Ε,xor_lt_two_pow->Ζ
open Go.Ending renaming returned->ρ,returned->ω
open Go.RowKit.Below renaming refl->ς
open Go.Lib renaming ctz->υ,ctzFrom->Α
namespace Go.Proofs.YtfpmnekaockodaaGreatDoor
open Go.RowKit Go.Sort
set_option maxRecDepth 4000
set_option maxHeartbeats 8000000
def Ee{a b:List Nat}(e:a.length=b.length)(h:∀i,i<a.length->a.getD i 0=b.getD i 0):a=b:=by
 apply List.ext_getElem e;intro i c d;have:=h i c;simpa [U,β c,β d]using this
def Ge{a:List Nat}{i:Nat}(h:a.length<=i):a.getD i 0=0:=by
 simp[U,List.getElem?_eq_none h]
def LH(n:Nat)(f:Nat->Nat)(i:Nat):((Η n).map f).getD i 0=if i<n then f i else 0:=by
 rw[U];by_cases h:i<n
 ·simp[h]
 ·simp[h]
def DT(a:List Nat)(j i x:Nat):(a.set j x).getD i 0=if i=j/\j<a.length then x else a.getD i 0:=by
 rw[U,U,List.getElem?_set];by_cases h:j=i
 ·subst h
  by_cases b:j<a.length
  ·simp[b]
  ·simp[b]
 ·have c:¬i=j:=fun e=>h e.symm
  simp[h,c]
def xorL(a b:List Nat):List Nat:=(Η (max a.length b.length)).map fun i=>a.getD i 0^^^b.getD i 0
def BS(a b:List Nat):(xorL a b).length=max a.length b.length:=by simp[xorL]
def Do(a b:List Nat)(i:Nat):(xorL a b).getD i 0=a.getD i 0^^^b.getD i 0:=by
 unfold xorL;rw[LH];split
 ·rfl
 ·rw[Ge (a:=a) (by omega),Ge (a:=b) (by omega)];rfl
def KS(a b:List Nat):xorL a b=xorL b a:=by
 apply Ee
 ·simp[BS,Nat.max_comm]
 ·intro i _;rw[Do,Do,Nat.xor_comm]
def Db(a b:List Nat)(k:Nat):List Nat:=(Η a.length).map fun i=>if i<k then a.getD i 0^^^b.getD i 0 else a.getD i 0
def BZ(a b:List Nat)(k:Nat):(Db a b k).length=a.length:=by simp[Db]
def Hi(a b:List Nat)(k i:Nat)(h:i<a.length):(Db a b k).getD i 0=if i<k then a.getD i 0^^^b.getD i 0 else a.getD i 0:=by
 unfold Db;rw[LH,if_pos h]
def KL(a b:List Nat):Db a b 0=a:=by
 apply Ee (BZ a b 0);intro i h;rw[Hi a b 0 i (by rwa[BZ]at h)];simp
def SZ(a b:List Nat)(k:Nat)(f:k<a.length):(Db a b k).set k (a.getD k 0^^^b.getD k 0)=Db a b (k+1):=by
 apply Ee
 ·simp[BZ]
 ·intro i h
  have d:i<a.length:=by simpa [BZ]using h
  rw[DT,Hi a b k i d,Hi a b (k+1) i d,BZ];by_cases e:i=k
  ·subst e;simp[f]
  ·simp only[e,false_and,if_false]
   by_cases c:i<k
   ·simp[c,Nat.lt_succ_of_lt c]
   ·simp[c,show¬i<k+1 by omega]
def KT(a b:List Nat)(h:b.length<=a.length):Db a b b.length=xorL a b:=by
 apply Ee
 ·rw[BZ,BS];omega
 ·intro i d
  have c:i<a.length:=by rwa[BZ]at d
  rw[Hi a b _ i c,Do];split
  ·rfl
  ·rw[Ge (a:=b) (by omega)];simp
def setW(x k:Nat)(on:Bool):Nat:=if x.testBit k=on then x else x^^^2^k
def By(xs:List Nat)(i:Nat)(on:Bool):List Nat:=xs.set (i/64) (setW (xs.getD (i/64) 0) (i%64) on)
def Ah(xs:List Nat)(i:Nat):Bool:=(xs.getD (i/64) 0).testBit (i%64)
def Iu(xs:List Nat)(i:Nat)(on:Bool):(By xs i on).length=xs.length:=by simp[By]
def qy(xs:List Nat)(i:Nat)(on:Bool)(h:xs.length<=i/64):By xs i on=xs:=by
 unfold By;exact List.set_eq_of_length_le h
def Xk(x k:Nat):x|||2^k=setW x k true:=by
 unfold setW;apply Β;intro i;rw[Nat.testBit_or,Δ];by_cases e:k=i
 ·subst e
  cases h:x.testBit k<;>simp[h,ο]
 ·split<;>simp[e,ο]
def ea(x k:Nat)(l:x<18446744073709551616)(f:k<64):x&&&(18446744073709551615-2^k)=setW x k false:=by
 have c:2^k<2^64:=Γ (by decide) f;unfold setW;apply Β;intro i;have b:18446744073709551615-2^k=2^64-(2^k+1):=by omega
 rw[Nat.testBit_and,b,Nat.testBit_two_pow_sub_succ c,Δ];by_cases d:i<64
 ·by_cases e:k=i
  ·subst e
   cases h:x.testBit k<;>simp[h,ο]
  ·split<;>simp[e,d,ο]
 ·have j:x.testBit i=false:=Nat.testBit_lt_two_pow (Ε (show x<2^64 by omega) (Nat.pow_le_pow_right (by decide) (by omega)))
  have e:¬k=i:=by omega
  split<;>simp[j,e,ο]
def MM(x k:Nat)(on:Bool)(d:x<18446744073709551616)(c:k<64):setW x k on<18446744073709551616:=by
 have b:2^k<2^64:=Γ (by decide) c;unfold setW;split
 ·exact d
 ·exact Ζ (n:=64) (by omega) b
def CN:Nat->Nat->Nat
 |0,_=>0
 |f+1,x=>x%2+CN f (x/2)
def pop(x:Nat):Nat:=CN 64 x
def UN:∀f,CN f 0=0
 |0=>rfl
 |f+1=>by simp[CN,UN f]
def PY:∀f x,CN f x<=f
 |0,_=>μ _
 |f+1,x=>by have:=PY f (x/2);simp only[CN];omega
def QI(x:Nat):pop x<=64:=PY 64 x
def rL:pop 0=0:=UN 64
def R3:∀f x,x<2^f->CN f x=0->x=0
 |0,x,h,_=>by simpa using h
 |f+1,x,h,b=>by
  simp only[CN]at b;have:=R3 f (x/2) (by rw[Nat.pow_succ]at h;omega) (by omega);omega
def fL(x:Nat)(h:x<18446744073709551616)(b:pop x=0):x=0:=
 R3 64 x (by rw[show(2:Nat)^64=18446744073709551616 by decide];exact h) b
def cnt(xs:List Nat):Nat:=(xs.map pop).sum
def Yv:cnt []=0:=rfl
def Mu(x:Nat)(xs:List Nat):cnt (x::xs)=pop x+cnt xs:=by simp[cnt]
def On(a b:List Nat):cnt (a++b)=cnt a+cnt b:=by simp[cnt]
def Le(xs:List Nat):cnt xs<=64*xs.length:=by
 induction xs with
 |nil=>simp[Yv]
 |cons x xs b=>rw[Mu];have:=QI x;simp only[List.length_cons];omega
def ow(xs:List Nat)(k:Nat)(h:k<xs.length):cnt (xs.take (k+1))=cnt (xs.take k)+pop (xs.getD k 0):=by
 rw[List.take_succ_eq_append_getElem h,On];simp[cnt,U,β h]
def NP(xs:List Nat)(h:∀i,i<xs.length->xs.getD i 0=0):cnt xs=0:=by
 induction xs with
 |nil=>rfl
 |cons x xs d=>
  have b:=h 0 (by simp)
  have c:∀i,i<xs.length->xs.getD i 0=0:=fun i e=>by
   have:=h (i+1) (by simp;omega);simpa using this
  simp at b;rw[Mu,d c,b,rL]
def Sx(xs:List Nat)(c:∀x∈xs,x<18446744073709551616)(h:cnt xs=0):∀x∈xs,x=0:=by
 induction xs with
 |nil=>intro x b;cases b
 |cons y xs e=>
  rw[Mu]at h;intro x b;rcases List.mem_cons.1 b with rfl|b
  ·exact fL _ (c _ (by simp)) (by omega)
  ·exact e (fun z d=>c z (by simp[d])) (by omega) x b
def firstI:List Nat->Int
 |[]=> -1
 |x::r=>if x≠0 then(υ 64 x:Int)else if firstI r<0 then -1 else 64+firstI r
def RZ:∀xs,firstI xs= -1\/0<=firstI xs
 |[]=>.inl rfl
 |x::r=>by
  simp only[firstI];split
  ·right;omega
  ·split
   ·exact .inl rfl
   ·right;omega
def Sg(xs:List Nat)(h:∀x∈xs,x=0):firstI xs= -1:=by
 induction xs with
 |nil=>rfl
 |cons x r e=>
  have b:=h x (by simp);have c:=e (fun y d=>h y (by simp[d]));simp[firstI,b,c]
def Mq:∀(xs:List Nat) (k:Nat),k<xs.length->(∀j,j<k->xs.getD j 0=0)->xs.getD k 0≠0->firstI xs=(k:Int)*64+υ 64 (xs.getD k 0)
 |[],k,h,_,_=>by simp at h
 |x::r,0,_,_,h=>by
  simp at h;simp[firstI,h]
 |x::r,k+1,d,c,h=>by
  have b:=c 0 (by omega);simp at b;have f:=Mq r k (by simpa using d) (fun j i=>by have:=c (j+1) (by omega);simpa using this) (by simpa using h);have e:(x::r).getD (k+1) 0=r.getD k 0:=by simp
  rw[e];simp only[firstI,b];rw[f];simp;omega
def RD(xs:List Nat):firstI xs<0↔∀x∈xs,x=0:=by
 constructor
 ·induction xs with
  |nil=>intro _ x b;cases b
  |cons y r e=>
   intro h x b;simp only[firstI]at h;split at h
   ·omega
   ·rename_i f
    have c:y=0:=by omega
    rcases List.mem_cons.1 b with rfl|b
    ·exact c
    ·split at h
     ·rename_i d;exact e d x b
     ·omega
 ·intro h;rw[Sg xs h];omega
def Kk(xs:List Nat):(∀x∈xs,x=0)↔∀i,xs.getD i 0=0:=by
 constructor
 ·intro h i
  rw[U];cases b:xs[i]? with
  |none=>rfl
  |some x=>exact h x (τ b)
 ·intro h x b
  obtain⟨i,c,rfl⟩:=List.getElem_of_mem b;have:=h i;simpa [U,β c]using this
def du(a:List Nat):∀x∈xorL a a,x=0:=by
 rw[Kk];intro i;rw[Do];simp
def Sd(xs:List Nat)(h:∀x∈xs,x=0):cnt xs=0:=NP xs fun i _=>(Kk xs).1 h i
def M0(x:Nat)(b:x≠0)(c:x<18446744073709551616):υ 64 x<64:=(Lib.lowest_bit 64 x b (by omega)).2
def WM(x:Nat)(b:x≠0)(h:x<18446744073709551616):x.testBit (υ 64 x)=true:=by
 obtain⟨m,d,f⟩:=Lib.ctzFrom_spec 64 x (by omega) (by omega);have e:υ 64 x=Α 64 x:=by simp[υ,b]
 rw[e];generalize Α 64 x=c at*;rw[d,Nat.mul_comm,χ];simp[Nat.testBit_zero]
def WN(x j:Nat)(b:x≠0)(i:x<18446744073709551616)(d:j<υ 64 x):x.testBit j=false:=by
 obtain⟨m,f,h⟩:=Lib.ctzFrom_spec 64 x (by omega) (by omega);have e:υ 64 x=Α 64 x:=by simp[υ,b]
 rw[e]at d;generalize Α 64 x=c at*;rw[f,Nat.mul_comm,χ];simp;omega
def MQ(xs:List Nat)(k j:Nat)(b:j<64):Ah xs (64*k+j)=(xs.getD k 0).testBit j:=by
 unfold Ah;rw[show(64*k+j)/64=k by omega,show(64*k+j)%64=j by omega]
def EV(xs:List Nat)(i:Nat)(h:64*xs.length<=i):Ah xs i=false:=by
 unfold Ah;rw[Ge (by omega)];simp
variable {xs:List Nat}{n B:Nat}{a:Option Addr}{v:ξ}{w w' wk:ε}
def Ab{p:Prop}(h:p):Hid p:=h
def Aa{p:Prop}(h:Hid p):p:=h
def cellsU(xs:List Nat):List ξ:=xs.map fun(x:Nat)=>η .u64 (x:Int)
def NL(xs:List Nat):(cellsU xs).length=xs.length:=by simp[cellsU]
def L3(xs:List Nat)(i:Nat)(h:i<xs.length):(cellsU xs)[i]? =γ (π .u64 ((xs.getD i 0:Nat):Int)):=by
 simp[cellsU,β h,U]
def So(xs:List Nat):∀u∈cellsU xs,u.oneCell'=true:=by
 intro u b;obtain⟨_,_,rfl⟩:=List.mem_map.1 b;rfl
def iF(xs:List Nat)(i x:Nat):(cellsU xs).set i (π .u64 (x:Int))=cellsU (xs.set i x):=by
 simp[cellsU,List.map_set]
def small(x:Nat):Prop:=x<18446744073709551616
def Ac(xs:List Nat):Prop:=∀x∈xs,small x
def Ac.get(h:Ac xs)(i:Nat):xs.getD i 0<18446744073709551616:=by
 rw[U];cases b:xs[i]? with
 |none=>simp
 |some x=>exact h x (τ b)
def Ac.set(h:Ac xs)(i x:Nat)(c:x<18446744073709551616):Ac (xs.set i x):=by
 intro y d;rcases φ d with b|rfl
 ·exact h y b
 ·exact c
def RowAt(w:ε)(a:Option Addr)(n:Nat)(xs:List Nat):Prop:=
 xs.length=n/\Ac xs/\(n=0\/∃b off,a=γ ⟨b,off,α⟩/\∀i,i<n->w.cell? ⟨b,off+i,α⟩=γ (π .u64 ((xs.getD i 0:Nat):Int)))
def RowAt.at(h:RowAt w a n xs){i:Nat}(d:i<n):
  ∃b off,a=γ ⟨b,off,α⟩/\∀i,i<n->w.cell? ⟨b,off+i,α⟩=γ (π .u64 ((xs.getD i 0:Nat):Int)):=by
 rcases h.2.2 with c|c
 ·omega
 ·exact c
def RowAt.below(h:RowAt w a n xs)(f:δ w.heap.size w w'):RowAt w' a n xs:=by
 refine⟨h.1,h.2.1,?_⟩;rcases h.2.2 with e|⟨b,off,rfl,c⟩
 ·exact .inl e
 ·exact .inr ⟨b,off,rfl,fun i d=>(f.cell (θ w _ (c i d))).trans (c i d)⟩
def RowAt.news{e:Addr}(h:RowAt w (γ e) n xs):∀j u,(cellsU xs)[j]? =γ u->w.cell? (e.add j)=γ u:=by
 intro j u d;have c:j<xs.length:=by
  have:=(List.getElem?_eq_some_iff.1 d).1;rwa[NL]at this
 obtain⟨b,off,k,l⟩:=h.at (i:=j) (by rw[<-h.1];exact c);simp only[Option.some.injEq]at k;subst k;rw[L3 xs j c]at d;have:=l j (by rw[<-h.1];exact c);by_cases f:j=0
 ·subst f;simpa [Addr.add]using this.trans d
 ·simpa [Addr.add,f]using this.trans d
def Own(w:ε)(B:Nat)(v:ξ)(xs:List Nat):Prop:=Ac xs/\w.ownsRow B 265 1 v xs.length (cellsU xs)
def Own.row(h:Own w B v xs):∃a c,v=ζ a xs.length c/\RowAt w a xs.length xs:=by
 obtain⟨f,e⟩:=h;have b:=e;rcases e.2 with⟨rfl,d⟩|⟨g,cap,j,rfl,m,o,q,p,l,ht⟩
 ·exact⟨α,0,by rw[d],rfl,f,.inl d⟩
 ·refine⟨_,cap,rfl,rfl,f,.inr ⟨g,0,rfl,fun i k=>?_⟩⟩
  rw[Nat.zero_add,b.cellAt i (by omega),L3 xs i k]
def Own.cap{c:Nat}(h:Own w B (ζ a n c) xs):n<=c:=by
 rcases h.2.2 with⟨e,f⟩|⟨g,cap,b,e,i,j,l,k,d,ht⟩
 ·simp only[ι]at e
  omega
 ·simp only[ι]at e
  omega
def Own.nil(w:ε)(B:Nat):Own w B (ζ none 0 0) []:=⟨(fun _ h=>by cases h),World.ownsRow_nil _ _ _ _⟩
def Own.mono{B':Nat}(h:Own w B v xs)(e:B'<=B):Own w B' v xs:=by
 refine⟨h.1,h.2.1,?_⟩;rcases h.2.2 with c|⟨g,cap,b,d,f,r⟩
 ·exact .inl c
 ·exact .inr ⟨g,cap,b,d,Nat.le_trans e f,r⟩
def Own.below(h:Own w B v xs)(f:δ w.heap.size w w'):Own w' B v xs:=by
 refine⟨h.1,h.2.1,?_⟩;rcases h.2.2 with d|⟨g,cap,c,e,i,b,r⟩
 ·exact .inl d
 ·exact .inr ⟨g,cap,c,e,i,(f.block g (Array.getElem?_eq_some_iff.1 b).1).trans b,r⟩
def Own.at(h:Own w B v xs)(k:0<xs.length):
  ∃g cap,v=.slice (γ ⟨g,0,α⟩) xs.length cap/\B<=g/\g<w.heap.size/\(∀i,i<xs.length->w.cell? ⟨g,i,α⟩=γ (π .u64 ((xs.getD i 0:Nat):Int)))/\∀i,w.frozen? ⟨g,i,α⟩=false:=by
 obtain⟨p,c⟩:=h;have b:=c;rcases c.2 with⟨rfl,m⟩|⟨g,cap,d,rfl,e,f,k,o,l,ht⟩
 ·omega
 ·refine⟨g,cap,rfl,e,(Array.getElem?_eq_some_iff.1 f).1,fun i j=>?_,fun i=>b.frozenAt i⟩
  rw[b.cellAt i (by omega),L3 xs i j]
def Own.stored{g cap:Nat}(h:Own w B (.slice (γ ⟨g,0,α⟩) xs.length cap) xs)(i x:Nat)(d:x<18446744073709551616):
  Own (w.setCell ⟨g,i,α⟩ (π .u64 (x:Int))) B (.slice (γ ⟨g,0,α⟩) xs.length cap) (xs.set i x):=by
 obtain⟨c,b⟩:=h;refine⟨c.set i x d,?_⟩;have:=(b.stored i (π .u64 (x:Int))).1;rw[iF]at this;simpa using this
def KX:(Tryz.prog.info? 265).map (fun i=>(i.zero,i.size,i.bytes))=γ (γ (π .u64 0),1,8):=by kernel_rfl
def Cu{k:IntKind}{a b:Int}(h:a=b):ω (.int k a)=ρ (.int k b):=by rw[h]
def B8{a b:Bool}(h:a=b):ω (.bool a)=ρ (.bool b):=by rw[h]
def Rn{W w1:ε}(c:δ W.heap.size W w1):(∀b o,b<W.heap.size->w1.cell? ⟨b,o,α⟩=W.cell? ⟨b,o,α⟩)/\(∀b o,b<W.heap.size->w1.frozen? ⟨b,o,α⟩=W.frozen? ⟨b,o,α⟩):=
 ⟨fun b o h=>c.cell (p:=⟨b,o,α⟩) h,fun b o h=>c.frozen (p:=⟨b,o,α⟩) h⟩
def rc(w:ε)(x:Nat)(b:x<18446744073709551616):RowAt (w.alloc (.cells #[π .u64 (x:Int)] 265)) (γ ⟨w.heap.size,0,α⟩) 1 [x]:=by
 refine⟨rfl,fun y c=>by rw[List.mem_singleton.1 c];exact b,.inr ⟨w.heap.size,0,rfl,fun i d=>?_⟩⟩;obtain rfl:i=0:=by omega
 simp
def GP(h:RowAt w a n xs)(o:Obj):RowAt (w.alloc o) a n xs:=h.below ((ς _ _).alloc (μ _) _)
def Qm{o:Obj}(b:δ w.heap.size w wk)(c:δ (wk.alloc o).heap.size (wk.alloc o) w'):δ w.heap.size w w':=
 (b.alloc b.size o).trans (c.mono (by have:=b.size;simp;omega))
def GW{o c:Obj}(b:δ w.heap.size w wk)(d:δ ((wk.alloc o).alloc c).heap.size ((wk.alloc o).alloc c) w'):δ w.heap.size w w':=
 Qm (b.alloc b.size o) d
def Ad(b:δ w.heap.size w wk)(c:δ wk.heap.size wk w'):δ w.heap.size w w':=b.trans (c.mono b.size)
def A7(w:ε)(o:Obj):(w.alloc o).heap.size=w.heap.size+1:=by simp
def C8(w:ε):RowAt w none 0 []:=⟨rfl,(fun _ h=>by cases h),.inl rfl⟩
def As(w:ε)(o:Obj):δ w.heap.size w (w.alloc o):=(ς _ _).alloc (μ _) _
variable {xs ys:List Nat}{B g cap:Nat}{v:ξ}{w:ε}
def tx(s:ByteArray):List Nat:=s.data.toList.map fun b=>b.toNat
def st(xs:List Nat):ByteArray:=⟨(xs.map UInt8.ofNat).toArray⟩
def bytes(xs:List Nat):Prop:=∀x∈xs,x<256
def AR(s:ByteArray):(tx s).length=s.size:=by cases s;simp[tx,ByteArray.size]
def Cg(s:ByteArray):bytes (tx s):=by
 intro x c;obtain⟨b,_,rfl⟩:=List.mem_map.1 c;exact b.toNat_lt
def IH(s:ByteArray):st (tx s)=s:=by
 cases s with
 |mk d=>
  unfold st tx;congr 1;rw[List.map_map];have e:((fun x=>UInt8.ofNat x)∘fun b:UInt8=>b.toNat)=id:=by funext b;simp
  rw[e];simp
def Dv(h:bytes xs):tx (st xs)=xs:=by
 unfold tx st;simp only[List.map_map]
 conv=>rhs;rw[<-List.map_id xs]
 apply List.map_congr_left;intro x b;have:=h x b;simp[Nat.mod_eq_of_lt this]
def Jj{a b:ByteArray}(h:tx a=tx b):a=b:=by rw[<-IH a,<-IH b,h]
def Gd(h:bytes xs)(k:Nat):bytes (xs.take k):=fun x b=>h x (List.mem_of_mem_take b)
def Ho(h:bytes xs)(k:Nat):bytes (xs.drop k):=fun x b=>h x (List.mem_of_mem_drop b)
def bytes.get(h:bytes xs)(i:Nat):xs.getD i 0<256:=by
 rw[U];cases b:xs[i]? with
 |none=>simp
 |some x=>exact h x (τ b)
def Lg(s:ByteArray)(k:Nat)(h:k<s.size):s[k].toNat=(tx s).getD k 0:=by
 cases s with
 |mk d=>
  have b:k<d.size:=h;simp only[tx,U,List.getElem?_map,Array.getElem?_toList,Array.getElem?_eq_getElem b];rfl
def bytes.set(h:bytes xs)(i x:Nat)(c:x<256):bytes (xs.set i x):=by
 intro y d;rcases φ d with b|rfl
 ·exact h y b
 ·exact c
def Qg{x y:Nat}(b:x<256)(c:y<256):x^^^y<256:=Ζ (n:=8) (by omega) (by omega)
def Od(c:bytes xs)(d:bytes ys):bytes (xorL xs ys):=by
 intro z b;unfold xorL at b;obtain⟨i,_,rfl⟩:=List.mem_map.1 b;exact Qg (c.get i) (d.get i)
def Jy:bytes []:=fun _ h=>by cases h
def Ju(a b:ByteArray):ByteArray:=st (xorL (tx a) (tx b))
def MN(a b:ByteArray):tx (Ju a b)=xorL (tx a) (tx b):=Dv (Od (Cg a) (Cg b))
def UE(a b:ByteArray):(Ju a b).size=max a.size b.size:=by rw[<-AR,MN,BS,AR,AR]
def MH(a:List Nat):xorL a []=a:=by
 apply Ee
 ·rw[BS];simp
 ·intro i b;rw[Do];simp
def PC(a:List Nat):xorL [] a=a:=by rw[KS,MH]
def ji(a b c:List Nat):xorL (xorL a b) c=xorL a (xorL b c):=by
 apply Ee
 ·simp only[BS];omega
 ·intro i d;simp only[Do];exact Nat.xor_assoc _ _ _
def Mz(a b:ByteArray):(a.toList==b.toList)=decide (a=b):=by
 rw[ByteArray.toList_eq,ByteArray.toList_eq,Bool.eq_iff_iff];simp only[beq_iff_eq,decide_eq_true_eq,Array.toList_inj];constructor
 ·intro h;cases a;cases b;simp_all
 ·intro h;rw[h]
def AB(w:ε)(B:Nat)(v:ξ)(xs:List Nat):Prop:=
 bytes xs/\((v=ζ none 0 0/\xs=[])\/∃g cap,v=.slice (γ ⟨g,0,α⟩) xs.length cap/\B<=g/\g<w.heap.size/\
  (∀i,i<xs.length->w.cell? ⟨g,i,α⟩=γ (π .u8 ((xs.getD i 0:Nat):Int)))/\∀i,i<xs.length->w.frozen? ⟨g,i,α⟩=false)
def AB.nil(w:ε)(B:Nat):AB w B (ζ none 0 0) []:=⟨Jy,.inl ⟨rfl,rfl⟩⟩
def AB.slice(h:AB w B v xs):∃a c,v=ζ a xs.length c:=by
 rcases h.2 with⟨rfl,rfl⟩|⟨g,cap,rfl,_⟩
 ·exact⟨_,_,rfl⟩
 ·exact⟨_,_,rfl⟩
def AB.at(h:AB w B v xs)(b:0<xs.length):
  ∃g cap,v=.slice (γ ⟨g,0,α⟩) xs.length cap/\B<=g/\g<w.heap.size/\(∀i,i<xs.length->w.cell? ⟨g,i,α⟩=γ (π .u8 ((xs.getD i 0:Nat):Int)))/\∀i,i<xs.length->w.frozen? ⟨g,i,α⟩=false:=by
 rcases h.2 with⟨_,rfl⟩|h
 ·simp at b
 ·exact h
def AB.mono{B':Nat}(h:AB w B v xs)(d:B'<=B):AB w B' v xs:=by
 refine⟨h.1,?_⟩;rcases h.2 with b|⟨g,cap,c,e,r⟩
 ·exact .inl b
 ·exact .inr ⟨g,cap,c,Nat.le_trans d e,r⟩
def AB.below{w':ε}(h:AB w B v xs)(c:δ w.heap.size w w'):AB w' B v xs:=by
 refine⟨h.1,?_⟩;rcases h.2 with e|⟨g,cap,f,l,b,j,k⟩
 ·exact .inl e
 ·exact .inr ⟨g,cap,f,l,Ε b c.size,fun i d=>((Rn c).1 g i b).trans (j i d),fun i d=>((Rn c).2 g i b).trans (k i d)⟩
def AB.stored(h:AB w B (.slice (γ ⟨g,0,α⟩) xs.length cap) xs)(i x:Nat)(q:x<256):
  AB (w.setCell ⟨g,i,α⟩ (π .u8 (x:Int))) B (.slice (γ ⟨g,0,α⟩) xs.length cap) (xs.set i x):=by
 refine⟨h.1.set i x q,.inr ?_⟩;rcases h.2 with⟨c,_⟩|⟨g',k,c,p,d,l,o⟩
 ·cases c
 ·simp only[ι,Option.some.injEq,Addr.mk.injEq,and_true,true_and]at c
  obtain⟨rfl,rfl⟩:=c;refine⟨g,cap,by rw[List.length_set],p,by simpa using d,fun j b=>?_,fun j b=>by rw[σ];exact o j (by simpa using b)⟩;rw[List.length_set]at b;rw[DT];by_cases e:j=i
  ·subst e
   rw[if_pos ⟨rfl,b⟩];exact World.cell?_setCell_same _ _ _ (l j b)
  ·rw[if_neg (fun h=>e h.1)]
   have f:(⟨g,i,α⟩:Addr)≠⟨g,j,α⟩:=fun h=>e (by injection h with c m;exact m.symm);exact(ν (h:=f) ..).trans (l j b)
def AB.drew(h:AB w B v xs):AB w.drew B v xs:=by
 refine⟨h.1,?_⟩;rcases h.2 with c|⟨g,cap,d,i,b,e,f⟩
 ·exact .inl c
 ·exact .inr ⟨g,cap,d,i,b,e,f⟩
def VL{wr:ε}{k z:Nat}(i:bytes xs)(j:bytes ys)(h:k<xs.length)(e:B<=g)
  (d:AB wr B (.slice (γ ⟨g,0,α⟩) xs.length cap) (Db xs ys k)) (f:δ B w wr) (l:z=xs.getD k 0^^^ys.getD k 0):
  AB (wr.setCell ⟨g,k,α⟩ (π .u8 (z:Int))) B (.slice (γ ⟨g,0,α⟩) xs.length cap) (Db xs ys (k+1))/\δ B w (wr.setCell ⟨g,k,α⟩ (π .u8 (z:Int))):=by
 have c:=BZ xs ys k;subst l;rw[<-c]at d;have b:=d.stored k (xs.getD k 0^^^ys.getD k 0) (Qg (i.get k) (j.get k));rw[SZ xs ys k h,c]at b;exact⟨b,f.setCell (by exact e) _⟩
def nS{wr:ε}{k z:Nat}(i:bytes xs)(j:bytes ys)(f:k<xs.length)(d:B<=g)
  (h:AB wr B (.slice (γ ⟨g,0,α⟩) xs.length cap) (Db xs ys k)) (e:δ B w wr) (l:z=xs.getD k 0^^^ys.getD k 0):
  AB (wr.setCell ⟨g,k,α⟩ (π .u8 (z:Int))).drew B (.slice (γ ⟨g,0,α⟩) xs.length cap) (Db xs ys (k+1))/\δ B w (wr.setCell ⟨g,k,α⟩ (π .u8 (z:Int))).drew:=by
 obtain⟨b,c⟩:=VL i j f d h e l;exact⟨b.drew,c.drew⟩
def AB.text(h:AB w B v xs):(convert 165 9 v).run κ w=.ok (ψ (st xs)) w:=by
 rcases h.2 with⟨rfl,rfl⟩|⟨g,cap,rfl,l,f,d,k⟩
 ·rw[run_convert_bytes_string w 165 9 5 none 0 0 underlying165 underlying5 underlying9]
  rfl
 ·have:=run_convert_bytes_back (P:=κ) w 165 9 5 ⟨g,0,α⟩ cap (xs.map UInt8.ofNat) underlying165 underlying5 underlying9 (fun j i=>by
   have b:j<xs.length:=by simpa using i
   have e:(⟨g,0,α⟩:Addr).add j=⟨g,j,α⟩:=by unfold Addr.add;split<;>simp_all
   rw[e,d j b];have c:=h.1.get j;simp only[List.getElem_map];rw[U,β b]at c⊢;simp only[Option.getD_some]at c⊢;rw[UInt8.toNat_ofNat_of_lt' c])
  rw[List.length_map]at this;exact this
def Qc:(Tryz.prog.info? 5).map (fun i=>(i.zero,i.size,i.bytes))=γ (γ (π .u8 0),1,1):=by kernel_rfl
def RC{P:Program}(w:ε)(k A C d:TypeId)(g n cap:Nat)(s:ByteArray)(c:Array ξ)(t:TypeId)(u:P.underlying k=γ (.slice d))(r:(P.info? d).map (·.size)=γ 1)
  (p:w.heap[g]? =γ (.cells c t (0,0))) (l:c.size=s.size) (q:n=s.size):
  (Builtin.copy_ #[k,A] C #[.slice (γ ⟨g,0,α⟩) n cap,ψ s]).run P w=.ok (goInt s.size) (w.setRow g (s.data.map fun b=>η .u8 (b.toNat:Int))):=by
 subst q;have e:(s.data.toList.map fun b=>η .u8 (b.toNat:Int)).length=s.size:=by rw[List.length_map];rfl
 have h:=run_storeCells_at P g 0 t (s.data.toList.map fun b=>η .u8 (b.toNat:Int)) 0 c w p (by rw[e,l];omega)
  (fun v z=>by obtain⟨b,_,rfl⟩:=List.mem_map.1 z;rfl)
 have o:(List.take (0+0) c.toList++(s.data.toList.map fun b=>η .u8 (b.toNat:Int))++List.drop (0+0+(s.data.toList.map fun b=>η .u8 (b.toNat:Int)).length) c.toList).toArray=s.data.map fun b=>η .u8 (b.toNat:Int):=by
  rw[List.drop_eq_nil_of_le (by rw[e,Array.length_toList,l];omega)];apply Array.ext';simp
 rw[o]at h;have f:Nat.min s.size s.size=s.size:=Nat.min_self _;have j:List.take s.size (s.data.toList.map fun b=>η .u8 (b.toNat:Int))=s.data.toList.map fun b=>η .u8 (b.toNat:Int):=List.take_of_length_le (by rw[e];omega);cases m:P.info? d with
 |none=>simp[m]at r
 |some i=>
  simp[Builtin.copy_,run_underlying u,Builtin.lenOf,Builtin.firstCells,sizeOf,typeInfo,m,f,j,h]
def Zt{a b:ByteArray}(h:a=b):ω (ψ a)=ρ (ψ b):=by rw[h]
def hJ(w:ε)(s:ByteArray):∃w' cap,(convert 9 165 (ψ s)).run κ w=.ok (.slice (γ ⟨w.heap.size,0,α⟩) s.size cap) w'/\
  AB w' w.heap.size (.slice (γ ⟨w.heap.size,0,α⟩) s.size cap) (tx s)/\δ w.heap.size w w':=by
 refine⟨_,_,run_bytes_of_string w 9 165 5 s underlying9 underlying165 underlying5,⟨Cg s,.inr ⟨w.heap.size,_,by rw[AR],μ _,by simp,fun i d=>?_,fun i d=>?_⟩⟩,?_⟩
 ·have b:i<s.size:=by rwa[AR]at d
  have c:=World.cell?_alloc_mark w.drew (bytesRow s (grownCap w s.size 0 5)) 5 ((bytesRow s (grownCap w s.size 0 5)).size,(bytesRow s (grownCap w s.size 0 5)).size+1) i;refine c.trans ?_;rw[bytesRow_at s _ i b,<-Lg s i b];rfl
 ·have b:i<s.size:=by rwa[AR]at d
  have c:=World.frozen?_alloc_mark w.drew (bytesRow s (grownCap w s.size 0 5)) 5 (bytesRow s (grownCap w s.size 0 5)).size ((bytesRow s (grownCap w s.size 0 5)).size+1) i;refine c.trans ?_;have e:s.size<=(bytesRow s (grownCap w s.size 0 5)).size:=by
   unfold bytesRow;rw[Array.size_append,Array.size_map];exact Nat.le_add_right _ _
  have:¬(bytesRow s (grownCap w s.size 0 5)).size<=i:=by omega
  simp[this]
 ·exact((ς _ _).drew).alloc (μ _) _
def Us(a b:ByteArray):tx (a++b)=tx a++tx b:=by
 unfold tx;rw[ByteArray.data_append,Array.toList_append,List.map_append]
def Dq(xs:List Nat):(st xs).size=xs.length:=by simp[st,ByteArray.size]
def Eu(s:ByteArray)(a b:Nat):tx (s.extract a b)=((tx s).drop a).take (b-a):=by
 unfold tx;rw[ByteArray.data_extract,Array.toList_extract,List.extract_eq_take_drop,List.map_take,List.map_drop]
def Jc(x y:Nat)(b:Array TypeId)(t:TypeId)(w:ε):(Builtin.min_ b t #[π .i64 (x:Int),π .i64 (y:Int)]).run κ w=.ok (π .i64 ((min x y:Nat):Int)) w:=by
 rw[run_min_int2];congr 2;split<;>omega
variable {g:Nat}{v x y:ξ}{w:ε}
def Cf{W:ε}{f:FuncId}{args:Array ξ}(h:∀w',δ W.heap.size W w'->Calls κ f args w' fun e b=>e=ρ v/\δ w'.heap.size w' b)(d:Nat)(os:Array Obj):
  Calls κ f args (grow (redrawn W d) os) fun e b=>e=ρ v/\∃p:Regrown,b=grow (redrawn W p.d) p.os:=
 Calls.regrown_of (h _ (below_regrown W d os))
def Tr{f:FuncId}{args:Array ξ}(h:Calls κ f args w fun e b=>e=ρ v/\b=w):Calls κ f args w fun e b=>e=ρ v/\δ w.heap.size w b:=
 h.mono fun e w' ⟨c,d⟩=>⟨c,by rw[d];exact ς _ _⟩
def Bq(w:ε)(g:Nat)(x y:ξ):Prop:=w.cell? ⟨g,0,α⟩=γ x/\w.cell? ⟨g,1,α⟩=γ y
def GT(w:ε)(x y:ξ):Bq (w.alloc (.cells #[x,y] 73)) w.heap.size x y:=by
 constructor<;>simp
def Bq.below{w':ε}(h:Bq w g x y)(b:δ w.heap.size w w'):Bq w' g x y:=
 ⟨(b.cell (θ w _ h.1)).trans h.1,(b.cell (θ w _ h.2)).trans h.2⟩
def Ca(w:ε)(g:Nat)(x y:ξ):Prop:=Bq w g x y/\w.frozen? ⟨g,0,α⟩=false/\w.frozen? ⟨g,1,α⟩=false
def JM(w:ε)(x y:ξ):Ca (w.alloc (.cells #[x,y] 73)) w.heap.size x y:=⟨GT w x y,by simp,by simp⟩
def Ca.below{w':ε}(h:Ca w g x y)(b:δ w.heap.size w w'):Ca w' g x y:=
 ⟨h.1.below b,(b.frozen (θ w _ h.1.1)).trans h.2.1,(b.frozen (θ w _ h.1.2)).trans h.2.2⟩
def Ca.alloc(h:Ca w g x y)(o:Obj):Ca (w.alloc o) g x y:=h.below ((ς _ _).alloc (μ _) _)
def Ca.other(h:Ca w g x y){g':Nat}(i:Nat)(u:ξ)(b:g'≠g):Ca (w.setCell ⟨g',i,α⟩ u) g x y:=by
 have c:(⟨g',i,α⟩:Addr)≠⟨g,0,α⟩:=fun h=>b (by injection h);have d:(⟨g',i,α⟩:Addr)≠⟨g,1,α⟩:=fun h=>b (by injection h);exact⟨⟨(ν (h:=c) ..).trans h.1.1,(ν (h:=d) ..).trans h.1.2⟩,by rw[σ];exact h.2.1,by rw[σ];exact h.2.2⟩
def dW{k i:Nat}(u:ξ)(h:k≠g):(w.setCell ⟨g,i,α⟩ u).heap[k]? =w.heap[k]? :=by
 unfold World.setCell;simp[Array.getElem?_modify,Ne.symm h]
def Own.other{B:Nat}{xs:List Nat}(h:Own w B v xs){g:Nat}(i:Nat)(u:ξ)(j:g<B):Own (w.setCell ⟨g,i,α⟩ u) B v xs:=by
 refine⟨h.1,h.2.1,?_⟩;rcases h.2.2 with e|⟨g',cap,b,f,c,d,r⟩
 ·exact .inl e
 ·exact .inr ⟨g',cap,b,f,c,(dW u (by omega)).trans d,r⟩
def lN(w:ε)(g:Nat)(t:ByteArray)(b:Array ξ)(e:TypeId)(d:w.heap[g]? =γ (.cells b e (0,0)))(o:b.size=t.size)
  (B:Nat) (w0:ε) (m:δ B w0 w) (f:B<=g):
  ∃w',(Builtin.copy_ #[165,9] 3 #[.slice (γ ⟨g,0,α⟩) t.size t.size,ψ t]).run κ w=.ok (goInt t.size) w'/\AB w' B (.slice (γ ⟨g,0,α⟩) t.size t.size) (tx t)/\δ B w0 w':=by
 obtain⟨s,h,p,j,q⟩:=info_parts Qc;refine⟨_,RC w 165 9 3 5 g t.size t.size t b e underlying165 (by rw[h];simp[j]) d o rfl,⟨Cg t,.inr ⟨g,t.size,by rw[AR],f,?_,fun i l=>?_,fun i l=>?_⟩⟩,?_⟩
 ·simpa using(Array.getElem?_eq_some_iff.1 d).1
 ·rw[cell_setRow_same w g i _ _ _ _ d]
  have c:i<t.size:=by rwa[AR]at l
  rw[<-Lg t i c];have:i<t.data.size:=c;simp only[Array.getElem?_map,Array.getElem?_eq_getElem this];rfl
 ·simp[World.frozen?,setRow_heap w g _ _ _ _ d]
 ·exact m.trans ⟨rfl,rfl,rfl,by simp,fun k r=>setRow_other w g k _ (by omega)⟩
def ML(v:ξ)(xs:List Nat)(s:ByteArray)(B:Nat)(w:ε)(h:AB w B v xs)(hB:B<=w.heap.size)(hn:xs.length<=1048576)(hm:s.size<=1048576):
  Calls κ 239 #[v,ψ s] w fun e w'=> ∃v',e=ρ v'/\AB w' B v' (xorL xs (tx s))/\δ B w w':=by
 obtain⟨va,vc,rfl⟩:=h.slice;have r:=AR s;by_cases N:s.size<=xs.length
 ·have j:decide ((s.size:Int)<=(xs.length:Int))=true:=by simp;omega
  go_enter func239,ntmps239;go_wp2;go_loopw [16] (fun i wr=> ∃k:Nat,k<=s.size/\i=π .i64 k/\Hid (AB wr B (.slice va xs.length vc) (Db xs (tx s) k))/\Hid (δ B w wr)) (fun i _=>s.size-(intOf i).toNat)
  case atStart=>exact⟨0,Nat.zero_le _,rfl,Ab (by rw[KL];exact h),Ab (ς _ _)⟩
  case round=>
   obtain⟨k,hk,rfl,c,A⟩:=hrel;by_cases q:k<s.size
   ·have Y:k<xs.length:=by omega
    have L:(k:Int)<(xs.length:Int):=by omega
    have O:(k:Int)<(s.size:Int):=by omega
    obtain⟨g,cap,u,o,W,d,f⟩:=(Aa c).at (by rw[BZ];omega);rw[BZ]at u;simp only[ι,true_and]at u;obtain⟨rfl,rfl⟩:=u;have b:=d k (by rw[BZ];omega);have V:=f k (by rw[BZ];omega);rw[Hi xs (tx s) k k (by omega),if_neg (by omega)]at b;have Z:=u8_xor_nat (xs.getD k 0) s[k].toNat (h.1.get k) s[k].toNat_lt;have R:=Ab (nS (z:=xs.getD k 0^^^s[k].toNat) h.1 (Cg s) (by omega) o (Aa c) (Aa A) (by rw[Lg s k q]));generalize xs.getD k 0=x at*;clear d f h c N j;go_wp2;go_region
    all_goals go_wp2
    go_roundw
    case rel=>exact⟨k+1,by omega,by go_num,Ab (Aa R).1,Ab (Aa R).2⟩
    case measure=>simp[intOf];omega
   ·have p:k=(tx s).length:=by omega
    rw[p,KT xs (tx s) (by omega)]at c;clear h;go_wp2;go_ret;exact⟨_,rfl,Aa c,Aa A⟩
 ·have j:decide ((s.size:Int)<=(xs.length:Int))=false:=by simp;omega
  obtain⟨C,X,aa,ab,ac⟩:=info_parts Qc;have m:=run_make (P:=κ) w 165 5 C (π .u8 0) underlying165 X aa .i64 .i64 (s.size:Int) (s.size:Int) (by omega) (by omega) (by rw[ac];omega) (by omega);simp only[Int.toNat_natCast]at m;have K:(w.alloc (.cells (madeCells (η .u8 0).cells (s.size*C.size)) 5)).heap[w.heap.size]? =γ (.cells (madeCells (η .u8 0).cells (s.size*C.size)) 5 (0,0)):=by
   show(w.heap.push _)[w.heap.size]? =_;simp
  have J:(madeCells (η .u8 0).cells (s.size*C.size)).size=s.size:=by rw[size_madeCells,ab,Nat.mul_one]
  have I:δ w.heap.size w (w.alloc (.cells (madeCells (η .u8 0).cells (s.size*C.size)) 5)):=(ς _ _).alloc (μ _) _;generalize madeCells (η .u8 0).cells (s.size*C.size)=H at*;generalize w.alloc (.cells H 5)=wm at*;obtain⟨w1,T,ho,hb⟩:=lN wm w.heap.size s H 5 K J w.heap.size w I (μ _);have E:=Ab ho;have D:=Ab hb;clear ho hb K J I;go_enter func239,ntmps239;go_wp2;go_loopw [38] (fun i wr=> ∃k:Nat,k<=xs.length/\i=π .i64 k/\Hid (AB wr w.heap.size (.slice (γ ⟨w.heap.size,0,α⟩) s.size s.size) (Db (tx s) xs k))/\Hid (δ w.heap.size w wr)) (fun i _=>xs.length-(intOf i).toNat)
  case atStart=>exact⟨0,Nat.zero_le _,rfl,Ab (by rw[KL];exact Aa E),D⟩
  case round=>
   obtain⟨k,hk,rfl,c,A⟩:=hrel;clear E D T m;by_cases q:k<xs.length
   ·have Y:k<s.size:=by omega
    have L:(k:Int)<(s.size:Int):=by omega
    have O:(k:Int)<(xs.length:Int):=by omega
    obtain⟨g',ad,Q,_,_,l,_⟩:=(h.below (Aa A)).at (by omega);simp only[ι,true_and]at Q;obtain⟨rfl,rfl⟩:=Q;have S:=l k q;obtain⟨g,cap,u,o,W,d,f⟩:=(Aa c).at (by rw[BZ];omega);rw[BZ,r]at u;simp only[ι,Option.some.injEq,Addr.mk.injEq,and_true,true_and]at u;obtain⟨rfl,rfl⟩:=u;have b:=d k (by rw[BZ];omega);have V:=f k (by rw[BZ];omega);rw[Hi (tx s) xs k k (by omega),if_neg (by omega)]at b;have Z:=u8_xor_nat ((tx s).getD k 0) (xs.getD k 0) ((Cg s).get k) (h.1.get k);rw[<-r]at c;have R:=Ab (VL (Cg s) h.1 (by omega) o (Aa c) (Aa A) rfl);rw[r]at R;generalize (tx s).getD k 0=x at*;generalize xs.getD k 0=y at*;clear d f l h c N j;go_wp2;go_roundw
    case rel=>exact⟨k+1,by omega,by go_num,Ab (Aa R).1,Ab (Aa R).2⟩
    case measure=>simp[intOf];omega
   ·have p:k=xs.length:=by omega
    rw[p,KT (tx s) xs (by omega),KS]at c;clear h;go_wp2;go_ret;exact⟨_,rfl,(Aa c).mono hB,(Aa A).mono hB⟩
end Go.Proofs.YtfpmnekaockodaaGreatDoor
