/-
  Plain mathematics of rows of words: bits, xors, counts, the first bit. Of no program. No condition but that words are below 2^64 where it is said.
  Rows of words in memory: what a slice of uint64 that can be read holds ('RowAt'), and what a slice of the call's own holds ('Own'). No condition.
  Contracts of slices.Clone at []uint64, words.within, words.mask, words.Get, bucketlineref01.Get: for every row of fewer than 2^47 bytes and every int.
-/
import Derived.Lib.TrailingZeros
import Derived.Laws.BitsAllLaws
import Derived.Test.YtlhhinlghhjghaaGreatDoorRows
import Derived.WalkKit
import Derived.WalkSpells
import Derived.WalkLawsBesides
import Derived.Laws.AppendOwnNone
import Derived.BigQuiet
import Derived.Deep.QuietTactic
namespace Go.Proofs.YtlhhinlghhjghaaGreatDoor
set_option maxHeartbeats 8000000
theorem Za1{a b:List Nat}(hl:a.length=b.length)(h:∀i,i<a.length→a.getD i 0=b.getD i 0):a=b:=by
 apply List.ext_getElem hl
 intro i h1 h2
 have:=h i h1
 simpa [List.getD_eq_getElem?_getD,List.getElem?_eq_getElem h1,List.getElem?_eq_getElem h2]using this
theorem ZaS{a:List Nat}{i:Nat}(h:a.length≤i):a.getD i 0=0:=by
 simp[List.getD_eq_getElem?_getD,List.getElem?_eq_none h]
theorem ZbU(n:Nat)(f:Nat→Nat)(i:Nat):((List.range n).map f).getD i 0=if i<n then f i else 0:=by
 rw[List.getD_eq_getElem?_getD]
 by_cases h:i<n
 ·simp[h]
 ·simp[h]
theorem ZaP(a:List Nat)(j i x:Nat):(a.set j x).getD i 0=if i=j∧j<a.length then x else a.getD i 0:=by
 rw[List.getD_eq_getElem?_getD,List.getD_eq_getElem?_getD,List.getElem?_set]
 by_cases h:j=i
 ·subst h
  by_cases h2:j<a.length
  ·simp[h2]
  ·simp[h2]
 ·have h':¬i=j:=fun e=>h e.symm
  simp[h,h']
def xorL(a b:List Nat):List Nat:=(List.range (max a.length b.length)).map fun i=>a.getD i 0^^^b.getD i 0
theorem Zae(a b:List Nat):(xorL a b).length=max a.length b.length:=by simp[xorL]
theorem Zau(a b:List Nat)(i:Nat):(xorL a b).getD i 0=a.getD i 0^^^b.getD i 0:=by
 unfold xorL
 rw[ZbU]
 split
 ·rfl
 ·rw[ZaS (a:=a) (by omega),ZaS (a:=b) (by omega)];rfl
theorem ZdN(a b:List Nat):xorL a b=xorL b a:=by
 apply Za1
 ·simp[Zae,Nat.max_comm]
 ·intro i _;rw[Zau,Zau,Nat.xor_comm]
def Zc3(a b:List Nat)(k:Nat):List Nat:=(List.range a.length).map fun i=>if i<k then a.getD i 0^^^b.getD i 0 else a.getD i 0
theorem Zac(a b:List Nat)(k:Nat):(Zc3 a b k).length=a.length:=by simp[Zc3]
theorem Zbl(a b:List Nat)(k i:Nat)(h:i<a.length):(Zc3 a b k).getD i 0=if i<k then a.getD i 0^^^b.getD i 0 else a.getD i 0:=by
 unfold Zc3;rw[ZbU,if_pos h]
theorem ZcT(a b:List Nat):Zc3 a b 0=a:=by
 apply Za1 (Zac a b 0)
 intro i h;rw[Zbl a b 0 i (by rwa[Zac]at h)];simp
theorem Zid(a b:List Nat)(k:Nat)(hk:k<a.length):(Zc3 a b k).set k (a.getD k 0^^^b.getD k 0)=Zc3 a b (k+1):=by
 apply Za1
 ·simp[Zac]
 ·intro i h
  have hi:i<a.length:=by simpa [Zac]using h
  rw[ZaP,Zbl a b k i hi,Zbl a b (k+1) i hi,Zac]
  by_cases e:i=k
  ·subst e;simp[hk]
  ·simp only[e,false_and,if_false]
   by_cases h1:i<k
   ·simp[h1,Nat.lt_succ_of_lt h1]
   ·simp[h1,show¬i<k+1 by omega]
theorem ZdS(a b:List Nat)(h:b.length≤a.length):Zc3 a b b.length=xorL a b:=by
 apply Za1
 ·rw[Zac,Zae];omega
 ·intro i hi
  have hi':i<a.length:=by rwa[Zac]at hi
  rw[Zbl a b _ i hi',Zau]
  split
  ·rfl
  ·rw[ZaS (a:=b) (by omega)];simp
def setW(x k:Nat)(on:Bool):Nat:=if x.testBit k=on then x else x^^^2^k
def setB(xs:List Nat)(i:Nat)(on:Bool):List Nat:=xs.set (i/64) (setW (xs.getD (i/64) 0) (i%64) on)
def getB(xs:List Nat)(i:Nat):Bool:=(xs.getD (i/64) 0).testBit (i%64)
theorem Zbh(xs:List Nat)(i:Nat)(on:Bool):(setB xs i on).length=xs.length:=by simp[setB]
theorem ZuM(xs:List Nat)(i:Nat)(on:Bool)(h:xs.length≤i/64):setB xs i on=xs:=by
 unfold setB;exact List.set_eq_of_length_le h
theorem ZsK(x k:Nat):x|||2^k=setW x k true:=by
 unfold setW
 apply Nat.eq_of_testBit_eq
 intro i
 rw[Nat.testBit_or,Nat.testBit_two_pow]
 by_cases e:k=i
 ·subst e
  cases h:x.testBit k<;>simp[h,Nat.testBit_xor]
 ·split<;>simp[e,Nat.testBit_xor]
theorem Zmm(x k:Nat)(hx:x<18446744073709551616)(hk:k<64):x&&&(18446744073709551615-2^k)=setW x k false:=by
 have h2:2^k<2^64:=Nat.pow_lt_pow_right (by decide) hk
 unfold setW
 apply Nat.eq_of_testBit_eq
 intro i
 have e1:18446744073709551615-2^k=2^64-(2^k+1):=by omega
 rw[Nat.testBit_and,e1,Nat.testBit_two_pow_sub_succ h2,Nat.testBit_two_pow]
 by_cases hi:i<64
 ·by_cases e:k=i
  ·subst e
   cases h:x.testBit k<;>simp[h,Nat.testBit_xor]
  ·split<;>simp[e,hi,Nat.testBit_xor]
 ·have hz:x.testBit i=false:=Nat.testBit_lt_two_pow (Nat.lt_of_lt_of_le (show x<2^64 by omega) (Nat.pow_le_pow_right (by decide) (by omega)))
  have e:¬k=i:=by omega
  split<;>simp[hz,e,Nat.testBit_xor]
theorem ZjI(x k:Nat)(on:Bool)(hx:x<18446744073709551616)(hk:k<64):setW x k on<18446744073709551616:=by
 have h2:2^k<2^64:=Nat.pow_lt_pow_right (by decide) hk
 unfold setW
 split
 ·exact hx
 ·exact Nat.xor_lt_two_pow (n:=64) (by omega) h2
def popF:Nat→Nat→Nat
 |0,_=>0
 |f+1,x=>x%2+popF f (x/2)
def pop(x:Nat):Nat:=popF 64 x
theorem Zk4:∀f,popF f 0=0
 |0=>rfl
 |f+1=>by simp[popF,Zk4 f]
theorem Zmz:∀f x,popF f x≤f
 |0,_=>Nat.le_refl _
 |f+1,x=>by have:=Zmz f (x/2);simp only[popF];omega
theorem ZxR(x:Nat):pop x≤64:=Zmz 64 x
theorem ZvZ:pop 0=0:=Zk4 64
theorem Zgb:∀f x,x<2^f→popF f x=0→x=0
 |0,x,h,_=>by simpa using h
 |f+1,x,h,h0=>by
  simp only[popF]at h0
  have:=Zgb f (x/2) (by rw[Nat.pow_succ]at h;omega) (by omega)
  omega
theorem ZmI(x:Nat)(h:x<18446744073709551616)(h0:pop x=0):x=0:=
 Zgb 64 x (by rw[show(2:Nat)^64=18446744073709551616 by decide];exact h) h0
def cnt(xs:List Nat):Nat:=(xs.map pop).sum
theorem ZyJ:cnt []=0:=rfl
theorem Zgr(x:Nat)(xs:List Nat):cnt (x::xs)=pop x+cnt xs:=by simp[cnt]
theorem ZfN(a b:List Nat):cnt (a++b)=cnt a+cnt b:=by simp[cnt]
theorem Zkw(xs:List Nat):cnt xs≤64*xs.length:=by
 induction xs with
 |nil=>simp[ZyJ]
 |cons x xs ih=>rw[Zgr];have:=ZxR x;simp only[List.length_cons];omega
theorem Zvs(xs:List Nat)(k:Nat)(h:k<xs.length):cnt (xs.take (k+1))=cnt (xs.take k)+pop (xs.getD k 0):=by
 rw[List.take_succ_eq_append_getElem h,ZfN]
 simp[cnt,List.getD_eq_getElem?_getD,List.getElem?_eq_getElem h]
theorem Zer(xs:List Nat)(h:∀i,i<xs.length→xs.getD i 0=0):cnt xs=0:=by
 induction xs with
 |nil=>rfl
 |cons x xs ih=>
  have h0:=h 0 (by simp)
  have h1:∀i,i<xs.length→xs.getD i 0=0:=fun i hi=>by
   have:=h (i+1) (by simp;omega)
   simpa using this
  simp at h0
  rw[Zgr,ih h1,h0,ZvZ]
theorem ZgV(xs:List Nat)(hs:∀x∈xs,x<18446744073709551616)(h:cnt xs=0):∀x∈xs,x=0:=by
 induction xs with
 |nil=>intro x hx;cases hx
 |cons y xs ih=>
  rw[Zgr]at h
  intro x hx
  rcases List.mem_cons.1 hx with rfl|hx
  ·exact ZmI _ (hs _ (by simp)) (by omega)
  ·exact ih (fun z hz=>hs z (by simp[hz])) (by omega) x hx
def firstI:List Nat→Int
 |[]=> -1
 |x::r=>if x≠0 then(Lib.ctz 64 x:Int)else if firstI r<0 then -1 else 64+firstI r
theorem Zf5:∀xs,firstI xs= -1∨0≤firstI xs
 |[]=>.inl rfl
 |x::r=>by
  simp only[firstI]
  split
  ·right;omega
  ·split
   ·exact .inl rfl
   ·right;omega
theorem ZgT(xs:List Nat)(h:∀x∈xs,x=0):firstI xs= -1:=by
 induction xs with
 |nil=>rfl
 |cons x r ih=>
  have h0:=h x (by simp)
  have h1:=ih (fun y hy=>h y (by simp[hy]))
  simp[firstI,h0,h1]
theorem Zfj:∀(xs:List Nat) (k:Nat),k<xs.length→(∀j,j<k→xs.getD j 0=0)→xs.getD k 0≠0→firstI xs=(k:Int)*64+Lib.ctz 64 (xs.getD k 0)
 |[],k,h,_,_=>by simp at h
 |x::r,0,_,_,h=>by
  simp at h
  simp[firstI,h]
 |x::r,k+1,hk,hz,h=>by
  have h0:=hz 0 (by omega)
  simp at h0
  have ih:=Zfj r k (by simpa using hk) (fun j hj=>by have:=hz (j+1) (by omega);simpa using this) (by simpa using h)
  have e:(x::r).getD (k+1) 0=r.getD k 0:=by simp
  rw[e]
  simp only[firstI,h0]
  rw[ih]
  simp
  omega
theorem ZcO(xs:List Nat):firstI xs<0↔∀x∈xs,x=0:=by
 constructor
 ·induction xs with
  |nil=>intro _ x hx;cases hx
  |cons y r ih=>
   intro h x hx
   simp only[firstI]at h
   split at h
   ·omega
   ·rename_i hy
    have hy0:y=0:=by omega
    rcases List.mem_cons.1 hx with rfl|hx
    ·exact hy0
    ·split at h
     ·rename_i hr;exact ih hr x hx
     ·omega
 ·intro h;rw[ZgT xs h];omega
theorem ZbW(xs:List Nat):(∀x∈xs,x=0)↔∀i,xs.getD i 0=0:=by
 constructor
 ·intro h i
  rw[List.getD_eq_getElem?_getD]
  cases hx:xs[i]? with
  |none=>rfl
  |some x=>exact h x (List.mem_of_getElem? hx)
 ·intro h x hx
  obtain⟨i,hi,rfl⟩:=List.getElem_of_mem hx
  have:=h i
  simpa [List.getD_eq_getElem?_getD,List.getElem?_eq_getElem hi]using this
theorem ZhX(a:List Nat):∀x∈xorL a a,x=0:=by
 rw[ZbW];intro i;rw[Zau];simp
theorem Zhu(xs:List Nat)(h:∀x∈xs,x=0):cnt xs=0:=Zer xs fun i _=>(ZbW xs).1 h i
theorem Zng(x:Nat)(h0:x≠0)(hx:x<18446744073709551616):Lib.ctz 64 x<64:=(Lib.lowest_bit 64 x h0 (by omega)).2
theorem Zr2(x:Nat)(h0:x≠0)(hx:x<18446744073709551616):x.testBit (Lib.ctz 64 x)=true:=by
 obtain⟨m,hm,hk⟩:=Lib.ctzFrom_spec 64 x (by omega) (by omega)
 have e:Lib.ctz 64 x=Lib.ctzFrom 64 x:=by simp[Lib.ctz,h0]
 rw[e]
 generalize Lib.ctzFrom 64 x=c at*
 rw[hm,Nat.mul_comm,Nat.testBit_mul_two_pow]
 simp[Nat.testBit_zero]
theorem Zss(x j:Nat)(h0:x≠0)(hx:x<18446744073709551616)(hj:j<Lib.ctz 64 x):x.testBit j=false:=by
 obtain⟨m,hm,hk⟩:=Lib.ctzFrom_spec 64 x (by omega) (by omega)
 have e:Lib.ctz 64 x=Lib.ctzFrom 64 x:=by simp[Lib.ctz,h0]
 rw[e]at hj
 generalize Lib.ctzFrom 64 x=c at*
 rw[hm,Nat.mul_comm,Nat.testBit_mul_two_pow]
 simp;omega
theorem ZjJ(xs:List Nat)(k j:Nat)(hj:j<64):getB xs (64*k+j)=(xs.getD k 0).testBit j:=by
 unfold getB
 rw[show(64*k+j)/64=k by omega,show(64*k+j)%64=j by omega]
theorem Zbn(xs:List Nat)(i:Nat)(h:64*xs.length≤i):getB xs i=false:=by
 unfold getB
 rw[ZaS (by omega)]
 simp
end Go.Proofs.YtlhhinlghhjghaaGreatDoor
namespace Go.Proofs.YtlhhinlghhjghaaGreatDoor
open Go.RowKit
set_option maxHeartbeats 8000000
variable {xs:List Nat}{n B:Nat}{a:Option Addr}{v:Value}{w w' wk:World}
theorem hide{p:Prop}(h:p):Hid p:=h
theorem unhide{p:Prop}(h:Hid p):p:=h
def cellsU(xs:List Nat):List Value:=xs.map fun(x:Nat)=>Value.int .u64 (x:Int)
theorem Zc9(xs:List Nat):(cellsU xs).length=xs.length:=by simp[cellsU]
theorem ZdZ(xs:List Nat)(i:Nat)(h:i<xs.length):(cellsU xs)[i]? =some (.int .u64 ((xs.getD i 0:Nat):Int)):=by
 simp[cellsU,List.getElem?_eq_getElem h,List.getD_eq_getElem?_getD]
theorem Zh6(xs:List Nat):∀u∈cellsU xs,u.oneCell'=true:=by
 intro u hu
 obtain⟨_,_,rfl⟩:=List.mem_map.1 hu
 rfl
theorem Zpn(xs:List Nat)(i x:Nat):(cellsU xs).set i (.int .u64 (x:Int))=cellsU (xs.set i x):=by
 simp[cellsU,List.map_set]
def small(x:Nat):Prop:=x<18446744073709551616
def smalls(xs:List Nat):Prop:=∀x∈xs,small x
theorem smalls.get(h:smalls xs)(i:Nat):xs.getD i 0<18446744073709551616:=by
 rw[List.getD_eq_getElem?_getD]
 cases hx:xs[i]? with
 |none=>simp
 |some x=>exact h x (List.mem_of_getElem? hx)
theorem smalls.set(h:smalls xs)(i x:Nat)(hx:x<18446744073709551616):smalls (xs.set i x):=by
 intro y hy
 rcases List.mem_or_eq_of_mem_set hy with h1|rfl
 ·exact h y h1
 ·exact hx
def RowAt(w:World)(a:Option Addr)(n:Nat)(xs:List Nat):Prop:=
 xs.length=n∧smalls xs∧(n=0∨∃b off,a=some ⟨b,off,none⟩∧∀i,i<n→w.cell? ⟨b,off+i,none⟩=some (.int .u64 ((xs.getD i 0:Nat):Int)))
theorem RowAt.at(h:RowAt w a n xs){i:Nat}(hi:i<n):
  ∃b off,a=some ⟨b,off,none⟩∧∀i,i<n→w.cell? ⟨b,off+i,none⟩=some (.int .u64 ((xs.getD i 0:Nat):Int)):=by
 rcases h.2.2 with h0|h0
 ·omega
 ·exact h0
theorem RowAt.below(h:RowAt w a n xs)(hb:Below w.heap.size w w'):RowAt w' a n xs:=by
 refine⟨h.1,h.2.1,?_⟩
 rcases h.2.2 with h0|⟨b,off,rfl,hc⟩
 ·exact .inl h0
 ·exact .inr ⟨b,off,rfl,fun i hi=>(hb.cell (World.block_lt_of_cell? w _ (hc i hi))).trans (hc i hi)⟩
theorem RowAt.news{ad:Addr}(h:RowAt w (some ad) n xs):∀j u,(cellsU xs)[j]? =some u→w.cell? (ad.add j)=some u:=by
 intro j u hj
 have hlt:j<xs.length:=by
  have:=(List.getElem?_eq_some_iff.1 hj).1
  rwa[Zc9]at this
 obtain⟨b,off,he,hc⟩:=h.at (i:=j) (by rw[←h.1];exact hlt)
 simp only[Option.some.injEq]at he
 subst he
 rw[ZdZ xs j hlt]at hj
 have:=hc j (by rw[←h.1];exact hlt)
 by_cases h0:j=0
 ·subst h0;simpa [Addr.add]using this.trans hj
 ·simpa [Addr.add,h0]using this.trans hj
def Own(w:World)(B:Nat)(v:Value)(xs:List Nat):Prop:=smalls xs∧w.ownsRow B 69 1 v xs.length (cellsU xs)
theorem Own.row(h:Own w B v xs):∃a c,v=.slice a xs.length c∧RowAt w a xs.length xs:=by
 obtain⟨hs,ho⟩:=h
 have ho':=ho
 rcases ho.2 with⟨rfl,h0⟩|⟨g,cap,cur,rfl,hb,hg,hn,hm,hsz,ht⟩
 ·exact⟨none,0,by rw[h0],rfl,hs,.inl h0⟩
 ·refine⟨_,cap,rfl,rfl,hs,.inr ⟨g,0,rfl,fun i hi=>?_⟩⟩
  rw[Nat.zero_add,ho'.cellAt i (by omega),ZdZ xs i hi]
theorem Own.cap{c:Nat}(h:Own w B (.slice a n c) xs):n≤c:=by
 rcases h.2.2 with⟨e,h0⟩|⟨g,cap,cur,e,hb,hg,hn,hm,hsz,ht⟩
 ·simp only[Value.slice.injEq]at e
  omega
 ·simp only[Value.slice.injEq]at e
  omega
theorem Own.nil(w:World)(B:Nat):Own w B (.slice none 0 0) []:=⟨(fun _ h=>by cases h),World.ownsRow_nil _ _ _ _⟩
theorem Own.mono{B':Nat}(h:Own w B v xs)(hB:B'≤B):Own w B' v xs:=by
 refine⟨h.1,h.2.1,?_⟩
 rcases h.2.2 with h0|⟨g,cap,cur,h1,hb,r⟩
 ·exact .inl h0
 ·exact .inr ⟨g,cap,cur,h1,Nat.le_trans hB hb,r⟩
theorem Own.below(h:Own w B v xs)(hb:Below w.heap.size w w'):Own w' B v xs:=by
 refine⟨h.1,h.2.1,?_⟩
 rcases h.2.2 with h0|⟨g,cap,cur,h1,hg,hgg,r⟩
 ·exact .inl h0
 ·exact .inr ⟨g,cap,cur,h1,hg,(hb.block g (Array.getElem?_eq_some_iff.1 hgg).1).trans hgg,r⟩
theorem Own.at(h:Own w B v xs)(hn:0<xs.length):
  ∃g cap,v=.slice (some ⟨g,0,none⟩) xs.length cap∧B≤g∧g<w.heap.size∧(∀i,i<xs.length→w.cell? ⟨g,i,none⟩=some (.int .u64 ((xs.getD i 0:Nat):Int)))∧∀i,w.frozen? ⟨g,i,none⟩=false:=by
 obtain⟨hs,ho⟩:=h
 have ho':=ho
 rcases ho.2 with⟨rfl,h0⟩|⟨g,cap,cur,rfl,hb,hg,hn,hm,hsz,ht⟩
 ·omega
 ·refine⟨g,cap,rfl,hb,(Array.getElem?_eq_some_iff.1 hg).1,fun i hi=>?_,fun i=>ho'.frozenAt i⟩
  rw[ho'.cellAt i (by omega),ZdZ xs i hi]
theorem Own.stored{g cap:Nat}(h:Own w B (.slice (some ⟨g,0,none⟩) xs.length cap) xs)(i x:Nat)(hx:x<18446744073709551616):
  Own (w.setCell ⟨g,i,none⟩ (.int .u64 (x:Int))) B (.slice (some ⟨g,0,none⟩) xs.length cap) (xs.set i x):=by
 obtain⟨hs,ho⟩:=h
 refine⟨hs.set i x hx,?_⟩
 have:=(ho.stored i (.int .u64 (x:Int))).1
 rw[Zpn]at this
 simpa using this
theorem ZeL:(Tryz.prog.info? 69).map (fun i=>(i.zero,i.size,i.bytes))=some (some (.int .u64 0),1,8):=by kernel_rfl
theorem ZaE{k:IntKind}{a b:Int}(h:a=b):Ending.returned (.int k a)=.returned (.int k b):=by rw[h]
theorem Zak{a b:Bool}(h:a=b):Ending.returned (.bool a)=.returned (.bool b):=by rw[h]
theorem ZAk{W w1:World}(hb:Below W.heap.size W w1):(∀b o,b<W.heap.size→w1.cell? ⟨b,o,none⟩=W.cell? ⟨b,o,none⟩)∧(∀b o,b<W.heap.size→w1.frozen? ⟨b,o,none⟩=W.frozen? ⟨b,o,none⟩):=
 ⟨fun b o h=>hb.cell (p:=⟨b,o,none⟩) h,fun b o h=>hb.frozen (p:=⟨b,o,none⟩) h⟩
theorem ZwB(w:World)(x:Nat)(hx:x<18446744073709551616):RowAt (w.alloc (.cells #[.int .u64 (x:Int)] 69)) (some ⟨w.heap.size,0,none⟩) 1 [x]:=by
 refine⟨rfl,fun y hy=>by rw[List.mem_singleton.1 hy];exact hx,.inr ⟨w.heap.size,0,rfl,fun i hi=>?_⟩⟩
 obtain rfl:i=0:=by omega
 simp
theorem Zbu(h:RowAt w a n xs)(o:Obj):RowAt (w.alloc o) a n xs:=h.below ((Below.refl _ _).alloc (Nat.le_refl _) _)
theorem Ztv{o:Obj}(hB:Below w.heap.size w wk)(hb:Below (wk.alloc o).heap.size (wk.alloc o) w'):Below w.heap.size w w':=
 (hB.alloc hB.size o).trans (hb.mono (by have:=hB.size;simp;omega))
theorem Zel{o o':Obj}(hB:Below w.heap.size w wk)(hb:Below ((wk.alloc o).alloc o').heap.size ((wk.alloc o).alloc o') w'):Below w.heap.size w w':=
 Ztv (hB.alloc hB.size o) hb
theorem below0(hB:Below w.heap.size w wk)(hb:Below wk.heap.size wk w'):Below w.heap.size w w':=hB.trans (hb.mono hB.size)
theorem Zab(w:World)(o:Obj):(w.alloc o).heap.size=w.heap.size+1:=by simp
theorem ZbT(w:World):RowAt w none 0 []:=⟨rfl,(fun _ h=>by cases h),.inl rfl⟩
theorem alloc_low(w:World)(o:Obj):Below w.heap.size w (w.alloc o):=(Below.refl _ _).alloc (Nat.le_refl _) _
end Go.Proofs.YtlhhinlghhjghaaGreatDoor
namespace Go.Proofs.YtlhhinlghhjghaaGreatDoor
open Go.RowKit
set_option linter.unusedVariables false
set_option linter.unusedSimpArgs false
set_option maxRecDepth 4000
set_option maxHeartbeats 8000000
theorem ZbE(a:Option Addr)(n c:Nat)(xs:List Nat)(w:World)(h:RowAt w a n xs)(hn:n*8≤140737488351232):
  Calls Tryz.prog 236 #[.slice a n c] w fun e w'=> ∃v,e=.returned v∧Own w' w.heap.size v xs∧Below w.heap.size w w':=by
 have hnil:=fun wx=>Lib.run_eql_slice_nil (P:=Tryz.prog) wx 32 69 a n c 0 0 Tryz.underlying32
 obtain⟨i0,hi,hz0,hz1,hz2⟩:=info_parts ZeL
 cases a with
 |none=>
  have h0:n=0:=by
   rcases h.2.2 with h0|⟨b,off,h1,_⟩
   ·exact h0
   ·cases h1
  subst h0
  have hx:xs=[]:=List.eq_nil_of_length_eq_zero h.1
  subst hx
  go_enter Tryz.func236,Tryz.ntmps236
  go_wp2
  go_ret
  exact⟨_,rfl,Own.nil _ _,Below.refl _ _⟩
 |some ad=>
  go_enter Tryz.func236,Tryz.ntmps236
  go_wp2_with (first|(at_builtin;refine wpList_append_own _ rfl (.tmp 5) (.tmp 6) 32 rfl w.heap.size 69 i0 (.int .u64 0) 1 8 Tryz.underlying32 hi hz0 hz1 hz2 rfl (by decide) _ _ _ rfl (World.ownsRow_lit _ #[] 0 (Nat.le_refl _) (by decide) rfl) ad n c (cellsU xs) rfl ?c0 ?c1 ?c2 ?c3 ?c4 ?c5 ?_))
  case c0=>rw[Zc9,h.1,Nat.mul_one]
  case c1=>exact(h.below ((Below.refl _ _).alloc (Nat.le_refl _) _)).news
  case c2=>exact Zh6 xs
  case c3=>unfold maxLen;omega
  case c4=>omega
  case c5=>simp
  intro v' w1 hown hgrow _
  have hb:Below w.heap.size w w1:=((Below.refl _ _).alloc (Nat.le_refl _) _).grown hgrow (by simp) (fun k hk=>by simp[Value.ownBlock]at hk;omega)
  have ho:Own w1 w.heap.size v' xs:=⟨h.2.1,by rw[h.1];simpa using hown⟩
  have HO:=hide ho
  have HB:=hide hb
  clear hown hgrow hb ho hnil h
  go_wp2
  go_ret
  exact⟨_,rfl,unhide HO,unhide HB⟩
theorem Zd2(a:Option Addr)(n c:Nat)(i:Int)(h0:0≤i)(hi:i≤9223372036854775807)(w:World):
  Calls Tryz.prog 293 #[.slice a n c,.int .i64 i] w fun e w'=>e=.returned (.bool (decide (i/64<(n:Int))))∧w'=w:=by
 go_enter Tryz.func293,Tryz.ntmps293
 go_wp2
 go_ret
 exact⟨rfl,rfl⟩
theorem ZhZ(a:Option Addr)(n c:Nat)(i:Int)(h0:i<0)(w:World):
  Calls Tryz.prog 293 #[.slice a n c,.int .i64 i] w fun e w'=>e=.returned (.bool false)∧w'=w:=by
 have h1:decide (0≤i)=false:=by simp;omega
 go_enter Tryz.func293,Tryz.ntmps293
 go_wp2
 go_ret
 exact⟨rfl,rfl⟩
theorem Zjo(i:Int):IntKind.u64.wrap (2^(i%64).toNat)=((2^(i%64).toNat:Nat):Int):=by
 have h:(i%64).toNat<64:=by omega
 have h2:2^(i%64).toNat<2^64:=Nat.pow_lt_pow_right (by decide) h
 rw[IntKind.wrap_u64]
 have h3:((2:Int)^(i%64).toNat)=((2^(i%64).toNat:Nat):Int):=by simp
 rw[h3]
 exact Int.emod_eq_of_lt (Int.natCast_nonneg _) (by omega)
theorem ZnQ(i:Int)(h0:0≤i)(hi:i≤9223372036854775807)(w:World):
  Calls Tryz.prog 294 #[.int .i64 i] w fun e w'=>e=.returned (.int .u64 ((2^(i%64).toNat:Nat):Int))∧w'=w:=by
 go_enter Tryz.func294,Tryz.ntmps294
 go_wp2
 go_ret
 exact⟨ZaE (Zjo i),rfl⟩
theorem Zzp(x:Nat)(i:Int)(hx:x<18446744073709551616):(bits .and .u64 (x:Int) ((2^(i%64).toNat:Nat):Int) !=0)=x.testBit (i%64).toNat:=by
 have h:(i%64).toNat<64:=by omega
 have h2:2^(i%64).toNat<2^64:=Nat.pow_lt_pow_right (by decide) h
 rw[u64_and_nat x _ hx (by omega),nat_bit,Nat.testBit_eq_decide_div_mod_eq]
 have hp:0<2^(i%64).toNat:=Nat.pow_pos (by decide)
 rcases Nat.mod_two_eq_zero_or_one (x/2^(i%64).toNat)with e|e
 ·rw[e];simp
 ·rw[e]
  rw[bne_iff_ne.2 (by omega)]
  simp
theorem ZAb(a:Option Addr)(n c:Nat)(i:Int)(w:World)(hi:i≤9223372036854775807)(ho:i<0∨(n:Int)≤i/64):
  Calls Tryz.prog 253 #[.slice a n c,.int .i64 i] w fun e w'=>e=.returned (.bool false)∧∃d,w'=w.drewN d:=by
 have hc:∀wx:World,Calls Tryz.prog 293 #[.slice a n c,.int .i64 i] wx fun e w'=>e=.returned (.bool false)∧w'=wx:=by
  by_cases h0:0≤i
  ·have hd:decide (i/64<(n:Int))=false:=by simp;omega
   intro wx
   have:=Zd2 a n c i h0 hi wx
   rwa[hd]at this
  ·exact fun wx=>ZhZ a n c i (by omega) wx
 have HC:=hide hc
 clear hc
 go_enter Tryz.func253,Tryz.ntmps253
 go_wp2_with fail
 go_quiet ((go_at_call 293;exact Calls.quiet_of_same (unhide HC _)))
 go_wp2
 go_ret
 exact⟨rfl,_,rfl⟩
theorem ZA3(a:Option Addr)(n c:Nat)(xs:List Nat)(i:Int)(w:World)(h:RowAt w a n xs)(h0:0≤i)(hi:i≤9223372036854775807)(hlt:i/64<(n:Int))(hn:n*8≤140737488351232):
  Calls Tryz.prog 253 #[.slice a n c,.int .i64 i] w fun e w'=>e=.returned (.bool (getB xs i.toNat))∧∃d,w'=w.drewN d:=by
 obtain⟨b,off,rfl,hc⟩:=h.at (i:=(i/64).toNat) (by omega)
 have hcell:=hc (i/64).toNat (by omega)
 have hnum:=Zzp (xs.getD (i/64).toNat 0) i (h.2.1.get _)
 have HN:=hide hnum
 have hW:∀wx:World,Calls Tryz.prog 293 #[.slice (some ⟨b,off,none⟩) n c,.int .i64 i] wx fun e w'=>e=.returned (.bool true)∧w'=wx:=by
  intro wx
  have:=Zd2 (some ⟨b,off,none⟩) n c i h0 hi wx
  rwa[show decide (i/64<(n:Int))=true by simp;omega]at this
 have HW:=hide hW
 have hM:=fun wx=>ZnQ i h0 hi wx
 have HM:=hide hM
 have he:getB xs i.toNat=(xs.getD (i/64).toNat 0).testBit (i%64).toNat:=by
  unfold getB
  rw[show i.toNat/64=(i/64).toNat by omega,show i.toNat%64=(i%64).toNat by omega]
 have HE:=hide he
 generalize xs.getD (i/64).toNat 0=x at*
 clear hnum hW hM he hc h
 go_enter Tryz.func253,Tryz.ntmps253
 go_wp2_with fail
 go_quiet ((first|(go_at_call 293;exact Calls.quiet_of_same (unhide HW _))|(go_at_call 294;exact Calls.quiet_of_same (unhide HM _))))
 go_wp2
 go_ret
 exact⟨Zak ((unhide HN).trans (unhide HE).symm),_,rfl⟩
end Go.Proofs.YtlhhinlghhjghaaGreatDoor
