/-
  Laws that the proof stands on.
-/
import Derived.Lib.TrailingZeros
import Derived.Laws.BitsAllLaws
import Derived.Test.YtfpfcnfmigaphaaGreatDoorRows
import Derived.WalkKit
import Derived.WalkSpells
import Derived.WalkLawsBesides
import Derived.Laws.AppendOwnNone
import Derived.BigQuiet
import Derived.Deep.QuietTactic
import Derived.Laws.Bits128
namespace Go.Proofs.YtfpfcnfmigaphaaGreatDoor
open Go.RowKit
set_option linter.unusedVariables false
set_option linter.unusedSimpArgs false
set_option maxRecDepth 4000
set_option maxHeartbeats 8000000
theorem Ei{a b:List Nat}(e:a.length=b.length)(h:∀i,i<a.length->a.getD i 0=b.getD i 0):a=b:=by
 apply List.ext_getElem e;intro i c d;have:=h i c;simpa [List.getD_eq_getElem?_getD,List.getElem?_eq_getElem c,List.getElem?_eq_getElem d]using this
theorem FL{a:List Nat}{i:Nat}(h:a.length<=i):a.getD i 0=0:=by
 simp[List.getD_eq_getElem?_getD,List.getElem?_eq_none h]
theorem K6(n:Nat)(f:Nat->Nat)(i:Nat):((List.range n).map f).getD i 0=if i<n then f i else 0:=by
 rw[List.getD_eq_getElem?_getD];by_cases h:i<n
 ·simp[h]
 ·simp[h]
theorem D7(a:List Nat)(j i x:Nat):(a.set j x).getD i 0=if i=j/\j<a.length then x else a.getD i 0:=by
 rw[List.getD_eq_getElem?_getD,List.getD_eq_getElem?_getD,List.getElem?_set];by_cases h:j=i
 ·subst h
  by_cases b:j<a.length
  ·simp[b]
  ·simp[b]
 ·have c:¬i=j:=fun e=>h e.symm
  simp[h,c]
def xorL(a b:List Nat):List Nat:=(List.range (max a.length b.length)).map fun i=>a.getD i 0^^^b.getD i 0
theorem BV(a b:List Nat):(xorL a b).length=max a.length b.length:=by simp[xorL]
theorem Dx(a b:List Nat)(i:Nat):(xorL a b).getD i 0=a.getD i 0^^^b.getD i 0:=by
 unfold xorL;rw[K6];split
 ·rfl
 ·rw[FL (a:=a) (by omega),FL (a:=b) (by omega)];rfl
theorem J5(a b:List Nat):xorL a b=xorL b a:=by
 apply Ei
 ·simp[BV,Nat.max_comm]
 ·intro i _;rw[Dx,Dx,Nat.xor_comm]
def Do(a b:List Nat)(k:Nat):List Nat:=(List.range a.length).map fun i=>if i<k then a.getD i 0^^^b.getD i 0 else a.getD i 0
theorem Ce(a b:List Nat)(k:Nat):(Do a b k).length=a.length:=by simp[Do]
theorem GE(a b:List Nat)(k i:Nat)(h:i<a.length):(Do a b k).getD i 0=if i<k then a.getD i 0^^^b.getD i 0 else a.getD i 0:=by
 unfold Do;rw[K6,if_pos h]
theorem J4(a b:List Nat):Do a b 0=a:=by
 apply Ei (Ce a b 0);intro i h;rw[GE a b 0 i (by rwa[Ce]at h)];simp
theorem RS(a b:List Nat)(k:Nat)(f:k<a.length):(Do a b k).set k (a.getD k 0^^^b.getD k 0)=Do a b (k+1):=by
 apply Ei
 ·simp[Ce]
 ·intro i h
  have d:i<a.length:=by simpa [Ce]using h
  rw[D7,GE a b k i d,GE a b (k+1) i d,Ce];by_cases e:i=k
  ·subst e;simp[f]
  ·simp only[e,false_and,if_false]
   by_cases c:i<k
   ·simp[c,Nat.lt_succ_of_lt c]
   ·simp[c,show¬i<k+1 by omega]
theorem J6(a b:List Nat)(h:b.length<=a.length):Do a b b.length=xorL a b:=by
 apply Ei
 ·rw[Ce,BV];omega
 ·intro i d
  have c:i<a.length:=by rwa[Ce]at d
  rw[GE a b _ i c,Dx];split
  ·rfl
  ·rw[FL (a:=b) (by omega)];simp
def setW(x k:Nat)(on:Bool):Nat:=if x.testBit k=on then x else x^^^2^k
def Bw(xs:List Nat)(i:Nat)(on:Bool):List Nat:=xs.set (i/64) (setW (xs.getD (i/64) 0) (i%64) on)
def Ah(xs:List Nat)(i:Nat):Bool:=(xs.getD (i/64) 0).testBit (i%64)
theorem Hl(xs:List Nat)(i:Nat)(on:Bool):(Bw xs i on).length=xs.length:=by simp[Bw]
theorem pb(xs:List Nat)(i:Nat)(on:Bool)(h:xs.length<=i/64):Bw xs i on=xs:=by
 unfold Bw;exact List.set_eq_of_length_le h
theorem V5(x k:Nat):x|||2^k=setW x k true:=by
 unfold setW;apply Nat.eq_of_testBit_eq;intro i;rw[Nat.testBit_or,Nat.testBit_two_pow];by_cases e:k=i
 ·subst e
  cases h:x.testBit k<;>simp[h,Nat.testBit_xor]
 ·split<;>simp[e,Nat.testBit_xor]
theorem cN(x k:Nat)(j:x<18446744073709551616)(f:k<64):x&&&(18446744073709551615-2^k)=setW x k false:=by
 have c:2^k<2^64:=Nat.pow_lt_pow_right (by decide) f;unfold setW;apply Nat.eq_of_testBit_eq;intro i;have b:18446744073709551615-2^k=2^64-(2^k+1):=by omega
 rw[Nat.testBit_and,b,Nat.testBit_two_pow_sub_succ c,Nat.testBit_two_pow];by_cases d:i<64
 ·by_cases e:k=i
  ·subst e
   cases h:x.testBit k<;>simp[h,Nat.testBit_xor]
  ·split<;>simp[e,d,Nat.testBit_xor]
 ·have g:x.testBit i=false:=Nat.testBit_lt_two_pow (Nat.lt_of_lt_of_le (show x<2^64 by omega) (Nat.pow_le_pow_right (by decide) (by omega)))
  have e:¬k=i:=by omega
  split<;>simp[g,e,Nat.testBit_xor]
theorem Ma(x k:Nat)(on:Bool)(d:x<18446744073709551616)(c:k<64):setW x k on<18446744073709551616:=by
 have b:2^k<2^64:=Nat.pow_lt_pow_right (by decide) c;unfold setW;split
 ·exact d
 ·exact Nat.xor_lt_two_pow (n:=64) (by omega) b
def CC:Nat->Nat->Nat
 |0,_=>0
 |f+1,x=>x%2+CC f (x/2)
def pop(x:Nat):Nat:=CC 64 x
theorem Ls:∀f,CC f 0=0
 |0=>rfl
 |f+1=>by simp[CC,Ls f]
theorem Pa:∀f x,CC f x<=f
 |0,_=>Nat.le_refl _
 |f+1,x=>by have:=Pa f (x/2);simp only[CC];omega
theorem Tw:∀f g x,x<2^f->CC (f+g) x=CC f x
 |0,g,x,h=>by
  have:x=0:=by simpa using h
  subst this;rw[Ls,Ls]
 |f+1,g,x,h=>by
  rw[show f+1+g=(f+g)+1 by omega];simp only[CC];rw[Tw f g (x/2) (by rw[Nat.pow_succ]at h;omega)]
theorem oR(x:Nat)(h:x<18446744073709551616):pop x=x%2+pop (x/2):=by
 unfold pop;rw[show(64:Nat)=63+1 from rfl];rw[Tw 63 1 (x/2) (by rw[show(2:Nat)^63=9223372036854775808 by decide];omega)];rfl
theorem PH(x:Nat):pop x<=64:=Pa 64 x
theorem Vt:pop 0=0:=Ls 64
theorem QF:∀f x,x<2^f->CC f x=0->x=0
 |0,x,h,_=>by simpa using h
 |f+1,x,h,b=>by
  simp only[CC]at b;have:=QF f (x/2) (by rw[Nat.pow_succ]at h;omega) (by omega);omega
theorem dG(x:Nat)(h:x<18446744073709551616)(b:pop x=0):x=0:=
 QF 64 x (by rw[show(2:Nat)^64=18446744073709551616 by decide];exact h) b
def cnt(xs:List Nat):Nat:=(xs.map pop).sum
theorem Xx:cnt []=0:=rfl
theorem LQ(x:Nat)(xs:List Nat):cnt (x::xs)=pop x+cnt xs:=by simp[cnt]
theorem NG(a b:List Nat):cnt (a++b)=cnt a+cnt b:=by simp[cnt]
theorem Ju(xs:List Nat):cnt xs<=64*xs.length:=by
 induction xs with
 |nil=>simp[Xx]
 |cons x xs b=>rw[LQ];have:=PH x;simp only[List.length_cons];omega
theorem Ux(xs:List Nat)(k:Nat)(h:k<xs.length):cnt (xs.take (k+1))=cnt (xs.take k)+pop (xs.getD k 0):=by
 rw[List.take_succ_eq_append_getElem h,NG];simp[cnt,List.getD_eq_getElem?_getD,List.getElem?_eq_getElem h]
theorem M4(xs:List Nat)(h:∀i,i<xs.length->xs.getD i 0=0):cnt xs=0:=by
 induction xs with
 |nil=>rfl
 |cons x xs d=>
  have b:=h 0 (by simp)
  have c:∀i,i<xs.length->xs.getD i 0=0:=fun i e=>by
   have:=h (i+1) (by simp;omega);simpa using this
  simp at b;rw[LQ,d c,b,Vt]
theorem Ri(xs:List Nat)(c:∀x∈xs,x<18446744073709551616)(h:cnt xs=0):∀x∈xs,x=0:=by
 induction xs with
 |nil=>intro x b;cases b
 |cons y xs e=>
  rw[LQ]at h;intro x b;rcases List.mem_cons.1 b with rfl|b
  ·exact dG _ (c _ (by simp)) (by omega)
  ·exact e (fun z d=>c z (by simp[d])) (by omega) x b
def firstI:List Nat->Int
 |[]=> -1
 |x::r=>if x≠0 then(Lib.ctz 64 x:Int)else if firstI r<0 then -1 else 64+firstI r
theorem QT:∀xs,firstI xs= -1\/0<=firstI xs
 |[]=>.inl rfl
 |x::r=>by
  simp only[firstI];split
  ·right;omega
  ·split
   ·exact .inl rfl
   ·right;omega
theorem Q4(xs:List Nat)(h:∀x∈xs,x=0):firstI xs= -1:=by
 induction xs with
 |nil=>rfl
 |cons x r e=>
  have b:=h x (by simp);have c:=e (fun y d=>h y (by simp[d]));simp[firstI,b,c]
theorem Lz:∀(xs:List Nat) (k:Nat),k<xs.length->(∀j,j<k->xs.getD j 0=0)->xs.getD k 0≠0->firstI xs=(k:Int)*64+Lib.ctz 64 (xs.getD k 0)
 |[],k,h,_,_=>by simp at h
 |x::r,0,_,_,h=>by
  simp at h;simp[firstI,h]
 |x::r,k+1,d,c,h=>by
  have b:=c 0 (by omega);simp at b;have f:=Lz r k (by simpa using d) (fun j g=>by have:=c (j+1) (by omega);simpa using this) (by simpa using h);have e:(x::r).getD (k+1) 0=r.getD k 0:=by simp
  rw[e];simp only[firstI,b];rw[f];simp;omega
theorem Qz(xs:List Nat):firstI xs<0↔∀x∈xs,x=0:=by
 constructor
 ·induction xs with
  |nil=>intro _ x b;cases b
  |cons y r e=>
   intro h x b;simp only[firstI]at h;split at h
   ·omega
   ·rename_i f
    have c:y=0:=by omega
    rcases List.mem_cons.1 b with rfl|b
    ·exact c
    ·split at h
     ·rename_i d;exact e d x b
     ·omega
 ·intro h;rw[Q4 xs h];omega
theorem JU(xs:List Nat):(∀x∈xs,x=0)↔∀i,xs.getD i 0=0:=by
 constructor
 ·intro h i
  rw[List.getD_eq_getElem?_getD];cases b:xs[i]? with
  |none=>rfl
  |some x=>exact h x (List.mem_of_getElem? b)
 ·intro h x b
  obtain⟨i,c,rfl⟩:=List.getElem_of_mem b;have:=h i;simpa [List.getD_eq_getElem?_getD,List.getElem?_eq_getElem c]using this
theorem aY(a:List Nat):∀x∈xorL a a,x=0:=by
 rw[JU];intro i;rw[Dx];simp
theorem Q1(xs:List Nat)(h:∀x∈xs,x=0):cnt xs=0:=M4 xs fun i _=>(JU xs).1 h i
theorem Mw(x:Nat)(b:x≠0)(c:x<18446744073709551616):Lib.ctz 64 x<64:=(Lib.lowest_bit 64 x b (by omega)).2
theorem VX(x:Nat)(b:x≠0)(g:x<18446744073709551616):x.testBit (Lib.ctz 64 x)=true:=by
 obtain⟨m,d,f⟩:=Lib.ctzFrom_spec 64 x (by omega) (by omega);have e:Lib.ctz 64 x=Lib.ctzFrom 64 x:=by simp[Lib.ctz,b]
 rw[e];generalize Lib.ctzFrom 64 x=c at*;rw[d,Nat.mul_comm,Nat.testBit_mul_two_pow];simp[Nat.testBit_zero]
theorem VY(x j:Nat)(b:x≠0)(h:x<18446744073709551616)(d:j<Lib.ctz 64 x):x.testBit j=false:=by
 obtain⟨m,f,g⟩:=Lib.ctzFrom_spec 64 x (by omega) (by omega);have e:Lib.ctz 64 x=Lib.ctzFrom 64 x:=by simp[Lib.ctz,b]
 rw[e]at d;generalize Lib.ctzFrom 64 x=c at*;rw[f,Nat.mul_comm,Nat.testBit_mul_two_pow];simp;omega
theorem Mh(xs:List Nat)(k j:Nat)(b:j<64):Ah xs (64*k+j)=(xs.getD k 0).testBit j:=by
 unfold Ah;rw[show(64*k+j)/64=k by omega,show(64*k+j)%64=j by omega]
theorem EC(xs:List Nat)(i:Nat)(h:64*xs.length<=i):Ah xs i=false:=by
 unfold Ah;rw[FL (by omega)];simp
variable {xs:List Nat}{n B:Nat}{a:Option Addr}{v:Value}{w w' wk:World}
theorem Ab{p:Prop}(h:p):Hid p:=h
theorem Aa{p:Prop}(h:Hid p):p:=h
def cellsU(xs:List Nat):List Value:=xs.map fun(x:Nat)=>Value.int .u64 (x:Int)
theorem M0(xs:List Nat):(cellsU xs).length=xs.length:=by simp[cellsU]
theorem Li(xs:List Nat)(i:Nat)(h:i<xs.length):(cellsU xs)[i]? =some (.int .u64 ((xs.getD i 0:Nat):Int)):=by
 simp[cellsU,List.getElem?_eq_getElem h,List.getD_eq_getElem?_getD]
theorem Q9(xs:List Nat):∀u∈cellsU xs,u.oneCell'=true:=by
 intro u b;obtain⟨_,_,rfl⟩:=List.mem_map.1 b;rfl
theorem fI(xs:List Nat)(i x:Nat):(cellsU xs).set i (.int .u64 (x:Int))=cellsU (xs.set i x):=by
 simp[cellsU,List.map_set]
def small(x:Nat):Prop:=x<18446744073709551616
def Ac(xs:List Nat):Prop:=∀x∈xs,small x
theorem Ac.get(h:Ac xs)(i:Nat):xs.getD i 0<18446744073709551616:=by
 rw[List.getD_eq_getElem?_getD];cases b:xs[i]? with
 |none=>simp
 |some x=>exact h x (List.mem_of_getElem? b)
theorem Ac.set(h:Ac xs)(i x:Nat)(c:x<18446744073709551616):Ac (xs.set i x):=by
 intro y d;rcases List.mem_or_eq_of_mem_set d with b|rfl
 ·exact h y b
 ·exact c
def RowAt(w:World)(a:Option Addr)(n:Nat)(xs:List Nat):Prop:=
 xs.length=n/\Ac xs/\(n=0\/∃b off,a=some ⟨b,off,none⟩/\∀i,i<n->w.cell? ⟨b,off+i,none⟩=some (.int .u64 ((xs.getD i 0:Nat):Int)))
theorem RowAt.at(h:RowAt w a n xs){i:Nat}(d:i<n):
  ∃b off,a=some ⟨b,off,none⟩/\∀i,i<n->w.cell? ⟨b,off+i,none⟩=some (.int .u64 ((xs.getD i 0:Nat):Int)):=by
 rcases h.2.2 with c|c
 ·omega
 ·exact c
theorem RowAt.below(h:RowAt w a n xs)(f:Below w.heap.size w w'):RowAt w' a n xs:=by
 refine⟨h.1,h.2.1,?_⟩;rcases h.2.2 with e|⟨b,off,rfl,c⟩
 ·exact .inl e
 ·exact .inr ⟨b,off,rfl,fun i d=>(f.cell (World.block_lt_of_cell? w _ (c i d))).trans (c i d)⟩
theorem RowAt.news{e:Addr}(h:RowAt w (some e) n xs):∀j u,(cellsU xs)[j]? =some u->w.cell? (e.add j)=some u:=by
 intro j u d;have c:j<xs.length:=by
  have:=(List.getElem?_eq_some_iff.1 d).1;rwa[M0]at this
 obtain⟨b,off,g,k⟩:=h.at (i:=j) (by rw[<-h.1];exact c);simp only[Option.some.injEq]at g;subst g;rw[Li xs j c]at d;have:=k j (by rw[<-h.1];exact c);by_cases f:j=0
 ·subst f;simpa [Addr.add]using this.trans d
 ·simpa [Addr.add,f]using this.trans d
def Own(w:World)(B:Nat)(v:Value)(xs:List Nat):Prop:=Ac xs/\w.ownsRow B 69 1 v xs.length (cellsU xs)
theorem Own.row(h:Own w B v xs):∃a c,v=.slice a xs.length c/\RowAt w a xs.length xs:=by
 obtain⟨f,e⟩:=h;have b:=e;rcases e.2 with⟨rfl,d⟩|⟨g,cap,j,rfl,m,o,q,p,l,ht⟩
 ·exact⟨none,0,by rw[d],rfl,f,.inl d⟩
 ·refine⟨_,cap,rfl,rfl,f,.inr ⟨g,0,rfl,fun i k=>?_⟩⟩
  rw[Nat.zero_add,b.cellAt i (by omega),Li xs i k]
theorem Own.cap{c:Nat}(h:Own w B (.slice a n c) xs):n<=c:=by
 rcases h.2.2 with⟨e,f⟩|⟨g,cap,b,e,i,j,l,k,d,ht⟩
 ·simp only[Value.slice.injEq]at e
  omega
 ·simp only[Value.slice.injEq]at e
  omega
theorem Own.nil(w:World)(B:Nat):Own w B (.slice none 0 0) []:=⟨(fun _ h=>by cases h),World.ownsRow_nil _ _ _ _⟩
theorem Own.mono{B':Nat}(h:Own w B v xs)(e:B'<=B):Own w B' v xs:=by
 refine⟨h.1,h.2.1,?_⟩;rcases h.2.2 with c|⟨g,cap,b,d,f,r⟩
 ·exact .inl c
 ·exact .inr ⟨g,cap,b,d,Nat.le_trans e f,r⟩
theorem Own.below(h:Own w B v xs)(f:Below w.heap.size w w'):Own w' B v xs:=by
 refine⟨h.1,h.2.1,?_⟩;rcases h.2.2 with d|⟨g,cap,c,e,i,b,r⟩
 ·exact .inl d
 ·exact .inr ⟨g,cap,c,e,i,(f.block g (Array.getElem?_eq_some_iff.1 b).1).trans b,r⟩
theorem Own.at(h:Own w B v xs)(k:0<xs.length):
  ∃g cap,v=.slice (some ⟨g,0,none⟩) xs.length cap/\B<=g/\g<w.heap.size/\(∀i,i<xs.length->w.cell? ⟨g,i,none⟩=some (.int .u64 ((xs.getD i 0:Nat):Int)))/\∀i,w.frozen? ⟨g,i,none⟩=false:=by
 obtain⟨p,c⟩:=h;have b:=c;rcases c.2 with⟨rfl,m⟩|⟨g,cap,d,rfl,e,f,k,o,l,ht⟩
 ·omega
 ·refine⟨g,cap,rfl,e,(Array.getElem?_eq_some_iff.1 f).1,fun i j=>?_,fun i=>b.frozenAt i⟩
  rw[b.cellAt i (by omega),Li xs i j]
theorem Own.stored{g cap:Nat}(h:Own w B (.slice (some ⟨g,0,none⟩) xs.length cap) xs)(i x:Nat)(d:x<18446744073709551616):
  Own (w.setCell ⟨g,i,none⟩ (.int .u64 (x:Int))) B (.slice (some ⟨g,0,none⟩) xs.length cap) (xs.set i x):=by
 obtain⟨c,b⟩:=h;refine⟨c.set i x d,?_⟩;have:=(b.stored i (.int .u64 (x:Int))).1;rw[fI]at this;simpa using this
theorem Jj:(Tryz.prog.info? 69).map (fun i=>(i.zero,i.size,i.bytes))=some (some (.int .u64 0),1,8):=by kernel_rfl
theorem Bu{k:IntKind}{a b:Int}(h:a=b):Ending.returned (.int k a)=.returned (.int k b):=by rw[h]
theorem BJ{a b:Bool}(h:a=b):Ending.returned (.bool a)=.returned (.bool b):=by rw[h]
theorem Qg{W w1:World}(c:Below W.heap.size W w1):(∀b o,b<W.heap.size->w1.cell? ⟨b,o,none⟩=W.cell? ⟨b,o,none⟩)/\(∀b o,b<W.heap.size->w1.frozen? ⟨b,o,none⟩=W.frozen? ⟨b,o,none⟩):=
 ⟨fun b o h=>c.cell (p:=⟨b,o,none⟩) h,fun b o h=>c.frozen (p:=⟨b,o,none⟩) h⟩
theorem nw(w:World)(x:Nat)(b:x<18446744073709551616):RowAt (w.alloc (.cells #[.int .u64 (x:Int)] 69)) (some ⟨w.heap.size,0,none⟩) 1 [x]:=by
 refine⟨rfl,fun y c=>by rw[List.mem_singleton.1 c];exact b,.inr ⟨w.heap.size,0,rfl,fun i d=>?_⟩⟩;obtain rfl:i=0:=by omega
 simp
theorem Fh(h:RowAt w a n xs)(o:Obj):RowAt (w.alloc o) a n xs:=h.below ((Below.refl _ _).alloc (Nat.le_refl _) _)
theorem Ps{o:Obj}(b:Below w.heap.size w wk)(c:Below (wk.alloc o).heap.size (wk.alloc o) w'):Below w.heap.size w w':=
 (b.alloc b.size o).trans (c.mono (by have:=b.size;simp;omega))
theorem Gn{o c:Obj}(b:Below w.heap.size w wk)(d:Below ((wk.alloc o).alloc c).heap.size ((wk.alloc o).alloc c) w'):Below w.heap.size w w':=
 Ps (b.alloc b.size o) d
theorem Ad(b:Below w.heap.size w wk)(c:Below wk.heap.size wk w'):Below w.heap.size w w':=b.trans (c.mono b.size)
theorem Bb(w:World)(o:Obj):(w.alloc o).heap.size=w.heap.size+1:=by simp
theorem FQ(w:World):RowAt w none 0 []:=⟨rfl,(fun _ h=>by cases h),.inl rfl⟩
theorem AB(w:World)(o:Obj):Below w.heap.size w (w.alloc o):=(Below.refl _ _).alloc (Nat.le_refl _) _
theorem GF(a:Option Addr)(n c:Nat)(xs:List Nat)(w:World)(h:RowAt w a n xs)(C:n*8<=140737488351232):
  Calls Tryz.prog 236 #[.slice a n c] w fun e w'=> ∃v,e=.returned v/\Own w' w.heap.size v xs/\Below w.heap.size w w':=by
 have g:=fun wx=>Lib.run_eql_slice_nil (P:=Tryz.prog) wx 32 69 a n c 0 0 Tryz.underlying32;obtain⟨A,x,j,l,m⟩:=info_parts Jj;cases a with
 |none=>
  have i:n=0:=by
   rcases h.2.2 with i|⟨b,off,u,_⟩
   ·exact i
   ·cases u
  subst i;have z:xs=[]:=List.eq_nil_of_length_eq_zero h.1;subst z;go_enter Tryz.func236,Tryz.ntmps236;go_wp2;go_ret;exact⟨_,rfl,Own.nil _ _,Below.refl _ _⟩
 |some s=>
  go_enter Tryz.func236,Tryz.ntmps236;go_wp2_with (first|(at_builtin;refine wpList_append_own _ rfl (.tmp 5) (.tmp 6) 32 rfl w.heap.size 69 A (.int .u64 0) 1 8 Tryz.underlying32 x j l m rfl (by decide) _ _ _ rfl (World.ownsRow_lit _ #[] 0 (Nat.le_refl _) (by decide) rfl) s n c (cellsU xs) rfl ?c0 ?c1 ?c2 ?c3 ?c4 ?c5 ?_))
  case c0=>rw[M0,h.1,Nat.mul_one]
  case c1=>exact(h.below ((Below.refl _ _).alloc (Nat.le_refl _) _)).news
  case c2=>exact Q9 xs
  case c3=>unfold maxLen;omega
  case c4=>omega
  case c5=>simp
  intro v' w1 f d _;have o:Below w.heap.size w w1:=((Below.refl _ _).alloc (Nat.le_refl _) _).grown d (by simp) (fun k y=>by simp[Value.ownBlock]at y;omega);have p:Own w1 w.heap.size v' xs:=⟨h.2.1,by rw[h.1];simpa using f⟩;have r:=Ab p;have q:=Ab o;clear f d o p g h;go_wp2;go_ret;exact⟨_,rfl,Aa r,Aa q⟩
theorem Lq(a:Option Addr)(n c:Nat)(i:Int)(b:0<=i)(d:i<=9223372036854775807)(w:World):
  Calls Tryz.prog 293 #[.slice a n c,.int .i64 i] w fun e w'=>e=.returned (.bool (decide (i/64<(n:Int))))/\w'=w:=by
 go_enter Tryz.func293,Tryz.ntmps293;go_wp2;go_ret;exact⟨rfl,rfl⟩
theorem RQ(a:Option Addr)(n c:Nat)(i:Int)(b:i<0)(w:World):
  Calls Tryz.prog 293 #[.slice a n c,.int .i64 i] w fun e w'=>e=.returned (.bool false)/\w'=w:=by
 have d:decide (0<=i)=false:=by simp;omega
 go_enter Tryz.func293,Tryz.ntmps293;go_wp2;go_ret;exact⟨rfl,rfl⟩
theorem OV(i:Int):IntKind.u64.wrap (2^(i%64).toNat)=((2^(i%64).toNat:Nat):Int):=by
 have h:(i%64).toNat<64:=by omega
 have c:2^(i%64).toNat<2^64:=Nat.pow_lt_pow_right (by decide) h;rw[IntKind.wrap_u64];have b:((2:Int)^(i%64).toNat)=((2^(i%64).toNat:Nat):Int):=by simp
 rw[b];exact Int.emod_eq_of_lt (Int.natCast_nonneg _) (by omega)
theorem Ve(i:Int)(b:0<=i)(c:i<=9223372036854775807)(w:World):
  Calls Tryz.prog 294 #[.int .i64 i] w fun e w'=>e=.returned (.int .u64 ((2^(i%64).toNat:Nat):Int))/\w'=w:=by
 go_enter Tryz.func294,Tryz.ntmps294;go_wp2;go_ret;exact⟨Bu (OV i),rfl⟩
theorem Yp(x:Nat)(i:Int)(b:x<18446744073709551616):(bits .and .u64 (x:Int) ((2^(i%64).toNat:Nat):Int) !=0)=x.testBit (i%64).toNat:=by
 have h:(i%64).toNat<64:=by omega
 have c:2^(i%64).toNat<2^64:=Nat.pow_lt_pow_right (by decide) h;rw[u64_and_nat x _ b (by omega),nat_bit,Nat.testBit_eq_decide_div_mod_eq];have hp:0<2^(i%64).toNat:=Nat.pow_pos (by decide);rcases Nat.mod_two_eq_zero_or_one (x/2^(i%64).toNat)with e|e
 ·rw[e];simp
 ·rw[e]
  rw[bne_iff_ne.2 (by omega)];simp
theorem Yq(a:Option Addr)(n c:Nat)(i:Int)(w:World)(j:i<=9223372036854775807)(k:i<0\/(n:Int)<=i/64):
  Calls Tryz.prog 253 #[.slice a n c,.int .i64 i] w fun e w'=>e=.returned (.bool false)/\∃d,w'=w.drewN d:=by
 have b:∀wx:World,Calls Tryz.prog 293 #[.slice a n c,.int .i64 i] wx fun e w'=>e=.returned (.bool false)/\w'=wx:=by
  by_cases g:0<=i
  ·have h:decide (i/64<(n:Int))=false:=by simp;omega
   intro wx;have:=Lq a n c i g j wx;rwa[h]at this
  ·exact fun wx=>RQ a n c i (by omega) wx
 have f:=Ab b;clear b;go_enter Tryz.func253,Tryz.ntmps253;go_wp2_with fail;go_quiet ((go_at_call 293;exact Calls.quiet_of_same (Aa f _)));go_wp2;go_ret;exact⟨rfl,_,rfl⟩
theorem YD(a:Option Addr)(n c:Nat)(xs:List Nat)(i:Int)(w:World)(h:RowAt w a n xs)(j:0<=i)(o:i<=9223372036854775807)(u:i/64<(n:Int))(y:n*8<=140737488351232):
  Calls Tryz.prog 253 #[.slice a n c,.int .i64 i] w fun e w'=>e=.returned (.bool (Ah xs i.toNat))/\∃d,w'=w.drewN d:=by
 obtain⟨b,off,rfl,l⟩:=h.at (i:=(i/64).toNat) (by omega);have g:=l (i/64).toNat (by omega);have f:=Yp (xs.getD (i/64).toNat 0) i (h.2.1.get _);have r:=Ab f;have hW:∀wx:World,Calls Tryz.prog 293 #[.slice (some ⟨b,off,none⟩) n c,.int .i64 i] wx fun e w'=>e=.returned (.bool true)/\w'=wx:=by
  intro wx;have:=Lq (some ⟨b,off,none⟩) n c i j o wx;rwa[show decide (i/64<(n:Int))=true by simp;omega]at this
 have s:=Ab hW;have k:=fun wx=>Ve i j o wx;have q:=Ab k;have m:Ah xs i.toNat=(xs.getD (i/64).toNat 0).testBit (i%64).toNat:=by
  unfold Ah;rw[show i.toNat/64=(i/64).toNat by omega,show i.toNat%64=(i%64).toNat by omega]
 have p:=Ab m;generalize xs.getD (i/64).toNat 0=x at*;clear f hW k m l h;go_enter Tryz.func253,Tryz.ntmps253;go_wp2_with fail;go_quiet ((first|(go_at_call 293;exact Calls.quiet_of_same (Aa s _))|(go_at_call 294;exact Calls.quiet_of_same (Aa q _))));go_wp2;go_ret;exact⟨BJ ((Aa r).trans (Aa p).symm),_,rfl⟩
theorem nu(x k:Nat)(b:x<18446744073709551616):(bits .and .u64 ((x:Int)/2^k) 1==1)=x.testBit k:=by
 have e:((x:Int)/2^k)=((x/2^k:Nat):Int):=by simp
 have h:=u64_and_nat (x/2^k) 1 (Nat.lt_of_le_of_lt (Nat.div_le_self _ _) b) (by omega);rw[nat_mask1]at h;rw[e,show(1:Int)=((1:Nat):Int) from rfl,h,Nat.testBit_eq_decide_div_mod_eq];rcases Nat.mod_two_eq_zero_or_one (x/2^k)with e|e
 ·rw[e];rfl
 ·rw[e];rfl
theorem XL(a:Option Addr)(n c:Nat)(xs:List Nat)(i:Int)(w:World)(h:RowAt w a n xs)(o:0<=i)(p:i<=9223372036854775807)(m:i/64<(n:Int))(q:n*8<=140737488351232):
  Calls Tryz.prog 157 #[.slice a n c,.int .i64 i] w fun e w'=>e=.returned (.bool (Ah xs i.toNat))/\w'=w:=by
 obtain⟨b,off,rfl,g⟩:=h.at (i:=(i/64).toNat) (by omega);have f:=g (i/64).toNat (by omega);have j:Ah xs i.toNat=(xs.getD (i/64).toNat 0).testBit (i%64).toNat:=by
  unfold Ah;rw[show i.toNat/64=(i/64).toNat by omega,show i.toNat%64=(i%64).toNat by omega]
 have k:=Ab j;have d:=nu (xs.getD (i/64).toNat 0) (i%64).toNat (h.2.1.get _);have l:=Ab d;generalize xs.getD (i/64).toNat 0=x at*;clear j g h d;go_enter Tryz.func157,Tryz.ntmps157;go_wp2;go_ret;exact⟨BJ ((Aa l).trans (Aa k).symm),rfl⟩
def o1(x:Int):Int:=IntKind.u64.wrap (bits .and .u64 (x/2) 6148914691236517205+bits .and .u64 x 6148914691236517205)
def o2(x:Int):Int:=IntKind.u64.wrap (bits .and .u64 (x/4) 3689348814741910323+bits .and .u64 x 3689348814741910323)
def o3(x:Int):Int:=bits .and .u64 (IntKind.u64.wrap (x/16+x)) 1085102592571150095
def o4(x:Int):Int:=IntKind.u64.wrap (x+x/256)
def o5(x:Int):Int:=IntKind.u64.wrap (x+x/65536)
def o6(x:Int):Int:=IntKind.u64.wrap (x+x/4294967296)
def o7(x:Int):Int:=bits .and .i64 (wrap64 x) 127
theorem JY(a b m n:Nat)(c:a<256)(d:m<256):(a+256*b)&&&(m+256*n)=(a&&&m)+256*(b&&&n):=by
 have e:a&&&m<2^8:=Nat.lt_of_le_of_lt Nat.and_le_left c;apply Nat.eq_of_testBit_eq;intro i;rw[Nat.testBit_and,Nat.add_comm a,Nat.add_comm m,Nat.add_comm (a&&&m),show(256:Nat)=2^8 from rfl];rw[Nat.testBit_two_pow_mul_add b c,Nat.testBit_two_pow_mul_add n d,Nat.testBit_two_pow_mul_add (b&&&n) e];split
 ·rw[Nat.testBit_and]
 ·rw[Nat.testBit_and]
def DZ(m:Nat):Nat->Nat
 |0=>0
 |k+1=>m+256*DZ m k
def y8(x:Nat):Nat:=(x/2&&&85)+(x&&&85)
def z8(x:Nat):Nat:=(x/4&&&51)+(x&&&51)
def yk(k x:Nat):Nat:=(x/2&&&DZ 85 k)+(x&&&DZ 85 k)
def zk(k x:Nat):Nat:=(x/4&&&DZ 51 k)+(x&&&DZ 51 k)
def gk(k x:Nat):Nat:=(x/16+x)&&&DZ 15 k
theorem ZA:∀(a:Fin 256) (c:Fin 2),(a.val/2+128*c.val)&&&85=a.val/2&&&85:=by decide+kernel
theorem ZB:∀(a:Fin 256) (c:Fin 4),(a.val/4+64*c.val)&&&51=a.val/4&&&51:=by decide+kernel
theorem Qj:∀a:Fin 256,y8 a.val<256:=by decide+kernel
theorem Qk:∀a:Fin 256,z8 a.val<256/\z8 a.val%16<=6:=by decide+kernel
theorem YC:∀(a:Fin 256) (c:Fin 7),z8 (y8 a.val)/16+16*c.val+z8 (y8 a.val)<256/\(z8 (y8 a.val)/16+16*c.val+z8 (y8 a.val))&&&15=CC 8 a.val:=by decide+kernel
theorem pV(k lo b:Nat)(h:lo<256):yk (k+1) (lo+256*b)=y8 lo+256*yk k b:=by
 unfold yk y8;have e:(lo+256*b)/2=(lo/2+128*(b%2))+256*(b/2):=by omega
 have d:=ZA ⟨lo,h⟩ ⟨b%2,by omega⟩;simp only at d;rw[e,show DZ 85 (k+1)=85+256*DZ 85 k from rfl,JY _ _ _ _ (by omega) (by omega),JY _ _ _ _ h (by omega),d];omega
theorem UL(k lo b:Nat)(h:lo<256):zk (k+1) (lo+256*b)=z8 lo+256*zk k b:=by
 unfold zk z8;have e:(lo+256*b)/4=(lo/4+64*(b%4))+256*(b/4):=by omega
 have d:=ZB ⟨lo,h⟩ ⟨b%4,by omega⟩;simp only at d;rw[e,show DZ 51 (k+1)=51+256*DZ 51 k from rfl,JY _ _ _ _ (by omega) (by omega),JY _ _ _ _ h (by omega),d];omega
theorem ZD:∀k x,zk k x%16<=6
 |0,x=>by simp[zk,DZ]
 |k+1,x=>by
  have e:x=x%256+256*(x/256):=by omega
  rw[e,UL k _ _ (by omega)];have:=(Qk ⟨x%256,by omega⟩).2;simp only at this;omega
theorem mS(k lo b:Nat)(h:lo<256):gk (k+1) (zk (k+1) (yk (k+1) (lo+256*b)))=CC 8 lo+256*gk k (zk k (yk k b)):=by
 rw[pV k lo b h,UL k _ _ (Qj ⟨lo,h⟩)];have f:=ZD k (yk k b);generalize zk k (yk k b)=t at*;have d:=YC ⟨lo,h⟩ ⟨t%16,by omega⟩;simp only at d;have c:=(Qk ⟨y8 lo,Qj ⟨lo,h⟩⟩).1;simp only at c;generalize z8 (y8 lo)=s at*;unfold gk;have e:(s+256*t)/16+(s+256*t)=(s/16+16*(t%16)+s)+256*(t/16+t):=by omega
 rw[e,show DZ 15 (k+1)=15+256*DZ 15 k from rfl,JY _ _ _ _ d.1 (by omega),d.2]
theorem OF:∀f x,CC f x=CC f (x%2^f)
 |0,x=>rfl
 |f+1,x=>by
  simp only[CC];rw[OF f (x/2),OF f (x%2^(f+1)/2)];have b:x%2^(f+1)%2=x%2:=Nat.mod_mod_of_dvd x ⟨2^f,by rw[Nat.pow_succ,Nat.mul_comm]⟩;have c:x%2^(f+1)/2=x/2%2^f:=by rw[Nat.pow_succ,Nat.mul_comm,Nat.mod_mul_right_div_self]
  rw[b,c,Nat.mod_mod]
theorem Vr:∀a b x,CC (a+b) x=CC a x+CC b (x/2^a)
 |0,b,x=>by simp[CC]
 |a+1,b,x=>by
  rw[show a+1+b=(a+b)+1 by omega];simp only[CC];rw[Vr a b (x/2),Nat.div_div_eq_div_mul,Nat.pow_succ,Nat.mul_comm 2];omega
theorem WG:∀k x,∃p:List Nat,p.length=k/\(∀q∈p,q<=8)/\CC (8*k) x=p.sum/\gk k (zk k (yk k x))=p.foldr (fun q s=>q+256*s) 0
 |0,x=>⟨[],rfl,by simp,rfl,by simp[gk,DZ]⟩
 |k+1,x=>by
  obtain⟨p,c,d,f,g⟩:=WG k (x/256);refine⟨CC 8 (x%256)::p,by simp[c],?_,?_,?_⟩
  ·intro q b
   rcases List.mem_cons.1 b with rfl|b
   ·exact Pa 8 _
   ·exact d q b
  ·rw[show 8*(k+1)=8+8*k by omega,Vr,List.sum_cons,<-f,OF 8 x]
  ·have e:x=x%256+256*(x/256):=by omega
   conv=>lhs;rw[e]
   rw[mS k _ _ (by omega),g];rfl
theorem Zt:DZ 85 8=6148914691236517205:=by decide+kernel
theorem Zs:DZ 51 8=3689348814741910323:=by decide+kernel
theorem Zr:DZ 15 8=1085102592571150095:=by decide+kernel
theorem Zm(x:Nat)(h:x<18446744073709551616):o1 (x:Int)=(yk 8 x:Nat)/\yk 8 x<=12297829382473034410:=by
 unfold o1 yk;rw[Zt];have e:((x:Int)/2)=((x/2:Nat):Int):=by omega
 have f:=Nat.and_le_right (n:=x/2) (m:=6148914691236517205);have g:=Nat.and_le_right (n:=x) (m:=6148914691236517205);have b:=u64_and_nat (x/2) 6148914691236517205 (by omega) (by omega);have d:=u64_and_nat x 6148914691236517205 (by omega) (by omega);have c:((6148914691236517205:Nat):Int)=6148914691236517205:=rfl;rw[c]at b d;rw[e,b,d,IntKind.wrap_u64];omega
theorem Zn(x:Nat)(h:x<18446744073709551616):o2 (x:Int)=(zk 8 x:Nat)/\zk 8 x<=7378697629483820646:=by
 unfold o2 zk;rw[Zs];have e:((x:Int)/4)=((x/4:Nat):Int):=by omega
 have f:=Nat.and_le_right (n:=x/4) (m:=3689348814741910323);have g:=Nat.and_le_right (n:=x) (m:=3689348814741910323);have b:=u64_and_nat (x/4) 3689348814741910323 (by omega) (by omega);have d:=u64_and_nat x 3689348814741910323 (by omega) (by omega);have c:((3689348814741910323:Nat):Int)=3689348814741910323:=rfl;rw[c]at b d;rw[e,b,d,IntKind.wrap_u64];omega
theorem Zo(x:Nat)(h:x<=7378697629483820646):o3 (x:Int)=(gk 8 x:Nat):=by
 unfold o3 gk;rw[Zr];have e:IntKind.u64.wrap ((x:Int)/16+(x:Int))=((x/16+x:Nat):Int):=by rw[IntKind.wrap_u64];omega
 have b:=u64_and_nat (x/16+x) 1085102592571150095 (by omega) (by omega);have c:((1085102592571150095:Nat):Int)=1085102592571150095:=rfl;rw[c]at b;rw[e,b]
theorem Zp(x:Nat)(h:x<9223372036854775808):o7 (x:Int)=((x%128:Nat):Int):=by
 unfold o7;have e:wrap64 (x:Int)=(x:Int):=by unfold wrap64;omega
 rw[e,i64_and127];omega
theorem pC(P T:Nat)(h:P<=64):(P+256*T)%128=P:=by omega
theorem aB(A b c:Nat)(d:A=c+256*b)(q:c<=8)(e:A<=600000000000000000):o4 (A:Int)=((A+b:Nat):Int):=by
 unfold o4;rw[IntKind.wrap_u64];omega
theorem aC(A b c d u u1:Nat)(g:A=u+65536*c)(e:b=u1+65536*d)(q:u<=2056)(i:u1<=2056)(h:A<=600000000000000000)(f:b<=600000000000000000):o5 ((A+b:Nat):Int)=((A+b+c+d:Nat):Int):=by
 unfold o5;rw[IntKind.wrap_u64];omega
theorem aD(A b c d e f g h v i j v3:Nat)(s:A=v+4294967296*e)(k:b=i+4294967296*f)(l:c=j+4294967296*g)(m:d=v3+4294967296*h)
  (q:v+i+j+v3<4294967296) (u:A<=600000000000000000) (o:b<=600000000000000000) (p:c<=600000000000000000) (r:d<=600000000000000000):
  o6 ((A+b+c+d:Nat):Int)=((A+b+c+d+(e+f+g+h):Nat):Int):=by
 unfold o6;rw[IntKind.wrap_u64];omega
theorem jX(p k g b h l q r:Nat)(J:p<=8)(T:k<=8)(V:g<=8)(W:b<=8)(X:h<=8)(Y:l<=8)(Z:q<=8)(q7:r<=8):
  o7 (o6 (o5 (o4 ((p+256*(k+256*(g+256*(b+256*(h+256*(l+256*(q+256*(r+256*0))))))):Nat):Int))))=((p+(k+(g+(b+(h+(l+(q+(r+0))))))):Nat):Int):=by
 obtain⟨o,I⟩:∃o,o=r+256*0:=⟨_,rfl⟩;obtain⟨m,H⟩:∃m,m=q+256*o:=⟨_,rfl⟩;obtain⟨j,G⟩:∃j,j=l+256*m:=⟨_,rfl⟩;obtain⟨i,E⟩:∃i,i=h+256*j:=⟨_,rfl⟩;obtain⟨f,D⟩:∃f,f=b+256*i:=⟨_,rfl⟩;obtain⟨d,C⟩:∃d,d=g+256*f:=⟨_,rfl⟩;obtain⟨c,z⟩:∃c,c=k+256*d:=⟨_,rfl⟩;obtain⟨A,s⟩:∃A,A=p+256*c:=⟨_,rfl⟩;rw[<-I,<-H,<-G,<-E,<-D,<-C,<-z,<-s];have S:o<=8:=by omega
 have R:m<=2056:=by omega
 have Q:j<=526344:=by omega
 have P:i<=134744072:=by omega
 have O:f<=34494482440:=by omega
 have N:d<=8830587504648:=by omega
 have L:c<=2260630401189896:=by omega
 have K:A<=578721382704613384:=by omega
 rw[aB A c p s J (by omega)];have u0:A=(p+256*k)+65536*d:=by omega
 have u1:c=(k+256*g)+65536*f:=by omega
 have u2:d=(g+256*b)+65536*i:=by omega
 have u3:f=(b+256*h)+65536*j:=by omega
 have u4:i=(h+256*l)+65536*m:=by omega
 have u5:j=(l+256*q)+65536*o:=by omega
 rw[aC A c d f _ _ u0 u1 (by omega) (by omega) (by omega) (by omega)];have v0:A=((p+256*k)+65536*(g+256*b))+4294967296*i:=by rw[u0,u2];omega
 have x:c=((k+256*g)+65536*(b+256*h))+4294967296*j:=by rw[u1,u3];omega
 have y:d=((g+256*b)+65536*(h+256*l))+4294967296*m:=by rw[u2,u4];omega
 have v3:f=((b+256*h)+65536*(l+256*q))+4294967296*o:=by rw[u3,u5];omega
 rw[aD A c d f i j m o _ _ _ _ v0 x y v3 (by omega) (by omega) (by omega) (by omega) (by omega)];clear u0 u1 u2 u3 u4 u5 v0 x y v3;rw[Zp _ (by omega)];have e:A+c+d+f+(i+j+m+o)=(p+(k+(g+(b+(h+(l+(q+(r+0))))))))+256*(c+d+f+i+j+m+o):=by omega
 rw[e];have u:p+(k+(g+(b+(h+(l+(q+(r+0)))))))<=64:=by omega
 rw[pC _ _ u];clear e u;omega
theorem X6(x:Nat)(h:x<18446744073709551616):o7 (o6 (o5 (o4 (o3 (o2 (o1 (x:Int)))))))=(pop x:Nat):=by
 obtain⟨c,s⟩:=Zm x h;obtain⟨d,b⟩:=Zn (yk 8 x) (by omega);have e:=Zo (zk 8 (yk 8 x)) b;rw[c,d,e];obtain⟨p,u,hp,g,f⟩:=WG 8 x;rw[f];unfold pop;rw[show(64:Nat)=8*8 from rfl,g]
 match p,u with
 |[i,j,k,l,m,o,q,r],_=>
  have y:=hp i (by simp);have z:=hp j (by simp);have A:=hp k (by simp);have C:=hp l (by simp);have D:=hp m (by simp);have E:=hp o (by simp);have G:=hp q (by simp);have H:=hp r (by simp);clear hp g f c d e s b h;simp only[List.foldr_cons,List.foldr_nil,List.sum_cons,List.sum_nil];exact jX i j k l m o q r y z A C D E G H
theorem oE(x:Nat)(b:x<18446744073709551616)(w:World):
  Calls Tryz.prog 205 #[.int .u64 (x:Int)] w fun e w'=>e=.returned (.int .i64 ((pop x:Nat):Int))/\w'=w:=by
 have H:=Ab (X6 x b);clear b;go_enter Tryz.func205,Tryz.ntmps205;go_wp2;go_ret;exact⟨Bu (Aa H),rfl⟩
def Tab(w:World):Prop:=∀i,i<64->w.cell? ⟨3,i,none⟩=some (.int .u8 ((Lib.deBruijn64tab.getD i 0:Nat):Int))
theorem Tab.below{w w':World}(h:Tab w)(c:Below w.heap.size w w'):Tab w':=fun i b=>(c.cell (World.block_lt_of_cell? w _ (h i b))).trans (h i b)
theorem Zv(x:Nat)(b:x≠0)(h:x<18446744073709551616):
  ∃q:Nat,q<64/\Lib.deBruijn64tab.getD q 0=Lib.ctz 64 x/\IntKind.u64.wrap (bits .and .u64 (x:Int) (IntKind.u64.wrap (-(x:Int)))*285870213051353865)/288230376151711744=(q:Int):=by
 obtain⟨c,d⟩:=Lib.lowest_bit 64 x b (by omega);obtain⟨f,g⟩:=Lib.deBruijn64_at (Lib.ctz 64 x) d;refine⟨_,f,g,?_⟩;have e:IntKind.u64.wrap (-(x:Int))=((2^64-x:Nat):Int):=by rw[IntKind.wrap_u64];omega
 rw[e,u64_and_nat x (2^64-x) h (by omega),c,IntKind.wrap_u64];rw[show((2^Lib.ctz 64 x:Nat):Int)*285870213051353865=((2^Lib.ctz 64 x*285870213051353865:Nat):Int) from by rw[Int.natCast_mul];rfl];generalize 2^Lib.ctz 64 x*285870213051353865=z;omega
theorem Zu(x:Nat)(c:x≠0)(i:x<18446744073709551616)(w:World)(ht:Tab w):
  Calls Tryz.prog 303 #[.int .u64 (x:Int)] w fun e w'=>e=.returned (.int .i64 ((Lib.ctz 64 x:Nat):Int))/\w'=w:=by
 have g:((x:Int)==0)=false:=by simp;omega
 obtain⟨q,h,d,j⟩:=Zv x c i;have b:=ht q h;rw[d]at b;have f:Lib.ctz 64 x<64:=(Lib.lowest_bit 64 x c (by omega)).2;generalize Lib.ctz 64 x=t at*;clear ht d c;go_enter Tryz.func303,Tryz.ntmps303;go_wp2;go_ret;exact⟨rfl,rfl⟩
theorem Gh(a:Option Addr)(n c:Nat)(xs:List Nat)(w:World)(h:RowAt w a n xs)(r:n<=1048576):
  Calls Tryz.prog 181 #[.slice a n c] w fun e w'=>e=.returned (.int .i64 ((cnt xs:Nat):Int))/\w'=w:=by
 go_enter Tryz.func181,Tryz.ntmps181;go_wp2;go_loop [3,8] (fun t i=> ∃k:Nat,k<=n/\i=.int .i64 k/\t=.int .i64 ((cnt (xs.take k):Nat):Int)) (fun _ i=>n-(intOf i).toNat)
 case atStart=>exact⟨0,Nat.zero_le _,rfl,rfl⟩
 case round=>
  obtain⟨k,q,rfl,rfl⟩:=hrel;by_cases d:k<n
  ·obtain⟨b,off,rfl,g⟩:=h.at d
   have f:=g k d;have o:=h.2.1.get k;have l:=Ux xs k (by rw[h.1];exact d);have p:=Ju (xs.take k);have j:(xs.take k).length<=k:=List.length_take_le _ _;have hp:=PH (xs.getD k 0);have m:=Ab l;generalize xs.getD k 0=x at*;generalize cnt (xs.take k)=s at*;clear l g h;go_wp2_with (go_at_call 205;refine(oE x o _).mono ?_;rintro e w' ⟨rfl,rfl⟩);go_round
   case rel=>exact⟨k+1,by omega,by go_num,by rw[Aa m];go_num⟩
   case measure=>simp[intOf];omega
  ·go_wp2
   go_ret;exact⟨Bu (by rw[List.take_of_length_le (by rw[h.1];omega)]),rfl⟩
theorem ek(xs:List Nat)(k:Nat)(h:∀j,j<k->xs.getD j 0=0)(b:xs.getD k 0=0):∀j,j<k+1->xs.getD j 0=0:=by
 intro j c;by_cases e:j=k
 ·rw[e];exact b
 ·exact h j (by omega)
theorem ej(xs:List Nat)(h:∀j,j<xs.length->xs.getD j 0=0):firstI xs= -1:=
 Q4 xs ((JU xs).2 fun i=>by
  by_cases b:i<xs.length
  ·exact h i b
  ·exact FL (by omega))
theorem Jd(a:Option Addr)(n c:Nat)(xs:List Nat)(w:World)(ht:Tab w)(h:RowAt w a n xs)(z:n<=1048576):
  Calls Tryz.prog 267 #[.slice a n c] w fun e w'=>e=.returned (.int .i64 (firstI xs))/\w'=w:=by
 go_enter Tryz.func267,Tryz.ntmps267;go_wp2;go_loop [7] (fun i=> ∃k:Nat,k<=n/\i=.int .i64 k/\Hid (∀j,j<k->xs.getD j 0=0)) (fun i=>n-(intOf i).toNat)
 case atStart=>exact⟨0,Nat.zero_le _,rfl,Ab (fun j s=>by omega)⟩
 case round=>
  obtain⟨k,y,rfl,m⟩:=hrel;by_cases f:k<n
  ·obtain⟨b,off,rfl,o⟩:=h.at f
   have d:=o k f;have p:=h.2.1.get k;by_cases g:xs.getD k 0=0
   ·rw[g]at d
    have q:=Ab (ek xs k (Aa m) g);clear o h g p ht;go_wp2;go_round
    case rel=>exact⟨k+1,by omega,by go_num,q⟩
    case measure=>simp[intOf];omega
   ·have l:=Ab (Lz xs k (by rw[h.1];exact f) (Aa m) g)
    have r:=(Lib.lowest_bit 64 (xs.getD k 0) g (by omega)).2;have u:(((xs.getD k 0:Nat):Int) !=0)=true:=by rw[bne_iff_ne];omega
    generalize xs.getD k 0=x at*;clear o h;go_wp2_with (go_at_call 303;refine(Zu x g p _ ht).mono ?_;rintro e w' ⟨rfl,rfl⟩);go_ret;exact⟨Bu (Aa l).symm,rfl⟩
  ·have l:=Ab (ej xs (fun j s=>Aa m j (by have:=h.1;omega)))
   go_wp2;go_ret;exact⟨Bu (Aa l).symm,rfl⟩
theorem Oc{w wr:World}{B g cap:Nat}{xs b:List Nat}{k:Nat}(j:Ac xs)(l:Ac b)(i:k<xs.length)(f:B<=g)
  (e:Own wr B (.slice (some ⟨g,0,none⟩) xs.length cap) (Do xs b k)) (h:Below B w wr):
  Own (wr.setCell ⟨g,k,none⟩ (.int .u64 ((xs.getD k 0^^^b.getD k 0:Nat):Int))) B (.slice (some ⟨g,0,none⟩) xs.length cap) (Do xs b (k+1))/\
  Below B w (wr.setCell ⟨g,k,none⟩ (.int .u64 ((xs.getD k 0^^^b.getD k 0:Nat):Int))):=by
 have d:=Ce xs b k;rw[<-d]at e;have c:=e.stored k (xs.getD k 0^^^b.getD k 0) (Nat.xor_lt_two_pow (n:=64) (by have:=j.get k;omega) (by have:=l.get k;omega));rw[RS xs b k i,d]at c;exact⟨c,h.setCell (by exact f) _⟩
theorem IL(a:Option Addr)(n c:Nat)(xs:List Nat)(E:Option Addr)(m L:Nat)(b:List Nat)(w:World)(h:RowAt w a n xs)(j:RowAt w E m b)(S:n<=1048576)(Q:m<=1048576):
  Calls Tryz.prog 299 #[.slice a n c,.slice E m L] w fun e w'=> ∃v,e=.returned v/\Own w' w.heap.size v (xorL xs b)/\Below w.heap.size w w':=by
 obtain rfl:n=xs.length:=h.1.symm;obtain rfl:m=b.length:=j.1.symm;by_cases P:xs.length<b.length
 ·have H:((xs.length:Int)<(b.length:Int)):=by omega
  go_enter Tryz.func299,Tryz.ntmps299;go_wp2_with (go_at_call 236;refine(GF E b.length L b _ j (by omega)).mono ?_;rintro e w1 ⟨v,rfl,C,A⟩);go_loopw [19] (fun i wr=> ∃k:Nat,k<=xs.length/\i=.int .i64 k/\Hid (Own wr w.heap.size v (Do b xs k))/\Hid (Below w.heap.size w wr)) (fun i _=>xs.length-(intOf i).toNat)
  case atStart=>exact⟨0,Nat.zero_le _,rfl,Ab (by rw[J4];exact C),Ab A⟩
  case round=>
   obtain⟨k,O,rfl,f,s⟩:=hrel;clear C A;by_cases q:k<xs.length
   ·obtain⟨N,D,rfl,l⟩:=(h.below (Aa s)).at q
    have J:k<b.length:=by omega
    obtain⟨g,cap,rfl,u,I,o,p⟩:=(Aa f).at (by rw[Ce];omega);have r:=l k q;have d:=o k (by rw[Ce];omega);have G:=p k;rw[GE b xs k k (by omega),if_neg (by omega)]at d;have K:=u64_xor_nat (b.getD k 0) (xs.getD k 0) (j.2.1.get k) (h.2.1.get k);rw[Ce]at f;have R:=Ab (Oc j.2.1 h.2.1 (by omega) u (Aa f) (Aa s));rw[Ce];generalize b.getD k 0=x at*;generalize xs.getD k 0=y at*;clear l o p h j f;go_wp2;go_roundw
    case rel=>exact⟨k+1,by omega,by go_num,Ab (Aa R).1,Ab (Aa R).2⟩
    case measure=>simp[intOf];omega
   ·have z:k=xs.length:=by omega
    subst z;rw[J6 b xs (by omega)]at f;clear h j;go_wp2;go_ret;exact⟨_,rfl,by rw[J5];exact Aa f,Aa s⟩
 ·have H:¬((xs.length:Int)<(b.length:Int)):=by omega
  go_enter Tryz.func299,Tryz.ntmps299;go_wp2_with (go_at_call 236;refine(GF a xs.length c xs _ h (by omega)).mono ?_;rintro e w1 ⟨v,rfl,C,A⟩);go_loopw [19] (fun i wr=> ∃k:Nat,k<=b.length/\i=.int .i64 k/\Hid (Own wr w.heap.size v (Do xs b k))/\Hid (Below w.heap.size w wr)) (fun i _=>b.length-(intOf i).toNat)
  case atStart=>exact⟨0,Nat.zero_le _,rfl,Ab (by rw[J4];exact C),Ab A⟩
  case round=>
   obtain⟨k,O,rfl,f,s⟩:=hrel;clear C A;by_cases q:k<b.length
   ·obtain⟨N,D,rfl,l⟩:=(j.below (Aa s)).at q
    have J:k<xs.length:=by omega
    obtain⟨g,cap,rfl,u,I,o,p⟩:=(Aa f).at (by rw[Ce];omega);have r:=l k q;have d:=o k (by rw[Ce];omega);have G:=p k;rw[GE xs b k k (by omega),if_neg (by omega)]at d;have K:=u64_xor_nat (xs.getD k 0) (b.getD k 0) (h.2.1.get k) (j.2.1.get k);rw[Ce]at f;have R:=Ab (Oc h.2.1 j.2.1 (by omega) u (Aa f) (Aa s));rw[Ce];generalize xs.getD k 0=x at*;generalize b.getD k 0=y at*;clear l o p h j f;go_wp2;go_roundw
    case rel=>exact⟨k+1,by omega,by go_num,Ab (Aa R).1,Ab (Aa R).2⟩
    case measure=>simp[intOf];omega
   ·have z:k=b.length:=by omega
    subst z;rw[J6 xs b (by omega)]at f;clear h j;go_wp2;go_ret;exact⟨_,rfl,Aa f,Aa s⟩
theorem Lr{xs c:List Nat}(d:Ac xs)(e:Ac c):Ac (xorL xs c):=by
 intro z b;unfold xorL at b;obtain⟨i,_,rfl⟩:=List.mem_map.1 b;have f:=d.get i;have g:=e.get i;exact Nat.xor_lt_two_pow (n:=64) (by omega) (by omega)
theorem oB(a:Option Addr)(n c:Nat)(xs:List Nat)(d:Option Addr)(m g:Nat)(b:List Nat)(w:World)(ht:Tab w)(h:RowAt w a n xs)(i:RowAt w d m b)(p:n<=1048576)(o:m<=1048576):
  Calls Tryz.prog 265 #[.slice a n c,.slice d m g] w fun e w'=>e=.returned (.bool (decide (firstI (xorL xs b)<0)))/\Below w.heap.size w w':=by
 go_enter Tryz.func265,Tryz.ntmps265;go_wp2_with fail;refine(IL a n c xs d m g b _ h i p o).mono ?_;rintro e w1 ⟨v,rfl,q,j⟩;obtain⟨k,c1,rfl,r⟩:=q.row;have l:(xorL xs b).length<=1048576:=by rw[BV,h.1,i.1];omega
 have f:=ht.below j;go_wp2_with fail;refine(Jd k _ c1 _ _ f r l).mono ?_;rintro e w2 ⟨rfl,rfl⟩;go_wp2;go_ret;exact⟨rfl,j⟩
end Go.Proofs.YtfpfcnfmigaphaaGreatDoor
