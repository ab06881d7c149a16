/- Laws for the proof. -/
import Derived.Lib.TrailingZeros
import Derived.Laws.BitsAllLaws
import Derived.Test.YtfpmnekaockodaaGreatDoorRows
import Derived.WalkKit
import Derived.WalkSpells
import Derived.WalkLawsBesides
import Derived.Laws.AppendOwnNone
import Derived.Laws.IdiomStrings
import Derived.Laws.CopyRow
import Derived.Laws.MakeOwn
import Derived.Lib.QuietBelow
import Derived.Deep.RegionWith
import Derived.BigQuiet
namespace Go.Proofs.YtfpmnekaockodaaGreatDoor
open Go.RowKit Go.Sort
set_option linter.all false
set_option maxRecDepth 4000
set_option maxHeartbeats 8000000
theorem Ei{a b:List Nat}(e:a.length=b.length)(h:∀i,i<a.length->a.getD i 0=b.getD i 0):a=b:=by
 apply List.ext_getElem e;intro i c d;have:=h i c;simpa [List.getD_eq_getElem?_getD,List.getElem?_eq_getElem c,List.getElem?_eq_getElem d]using this
theorem Ge{a:List Nat}{i:Nat}(h:a.length<=i):a.getD i 0=0:=by
 simp[List.getD_eq_getElem?_getD,List.getElem?_eq_none h]
theorem LJ(n:Nat)(f:Nat->Nat)(i:Nat):((List.range n).map f).getD i 0=if i<n then f i else 0:=by
 rw[List.getD_eq_getElem?_getD];by_cases h:i<n
 ·simp[h]
 ·simp[h]
theorem DZ(a:List Nat)(j i x:Nat):(a.set j x).getD i 0=if i=j/\j<a.length then x else a.getD i 0:=by
 rw[List.getD_eq_getElem?_getD,List.getD_eq_getElem?_getD,List.getElem?_set];by_cases h:j=i
 ·subst h
  by_cases b:j<a.length
  ·simp[b]
  ·simp[b]
 ·have c:¬i=j:=fun e=>h e.symm
  simp[h,c]
def xorL(a b:List Nat):List Nat:=(List.range (max a.length b.length)).map fun i=>a.getD i 0^^^b.getD i 0
theorem BY(a b:List Nat):(xorL a b).length=max a.length b.length:=by simp[xorL]
theorem Du(a b:List Nat)(i:Nat):(xorL a b).getD i 0=a.getD i 0^^^b.getD i 0:=by
 unfold xorL;rw[LJ];split
 ·rfl
 ·rw[Ge (a:=a) (by omega),Ge (a:=b) (by omega)];rfl
theorem KP(a b:List Nat):xorL a b=xorL b a:=by
 apply Ei
 ·simp[BY,Nat.max_comm]
 ·intro i _;rw[Du,Du,Nat.xor_comm]
def Dg(a b:List Nat)(k:Nat):List Nat:=(List.range a.length).map fun i=>if i<k then a.getD i 0^^^b.getD i 0 else a.getD i 0
theorem Cd(a b:List Nat)(k:Nat):(Dg a b k).length=a.length:=by simp[Dg]
theorem Hd(a b:List Nat)(k i:Nat)(h:i<a.length):(Dg a b k).getD i 0=if i<k then a.getD i 0^^^b.getD i 0 else a.getD i 0:=by
 unfold Dg;rw[LJ,if_pos h]
theorem KG(a b:List Nat):Dg a b 0=a:=by
 apply Ei (Cd a b 0);intro i h;rw[Hd a b 0 i (by rwa[Cd]at h)];simp
theorem SW(a b:List Nat)(k:Nat)(f:k<a.length):(Dg a b k).set k (a.getD k 0^^^b.getD k 0)=Dg a b (k+1):=by
 apply Ei
 ·simp[Cd]
 ·intro i h
  have d:i<a.length:=by simpa [Cd]using h
  rw[DZ,Hd a b k i d,Hd a b (k+1) i d,Cd];by_cases e:i=k
  ·subst e;simp[f]
  ·simp only[e,false_and,if_false]
   by_cases c:i<k
   ·simp[c,Nat.lt_succ_of_lt c]
   ·simp[c,show¬i<k+1 by omega]
theorem KQ(a b:List Nat)(h:b.length<=a.length):Dg a b b.length=xorL a b:=by
 apply Ei
 ·rw[Cd,BY];omega
 ·intro i d
  have c:i<a.length:=by rwa[Cd]at d
  rw[Hd a b _ i c,Du];split
  ·rfl
  ·rw[Ge (a:=b) (by omega)];simp
def setW(x k:Nat)(on:Bool):Nat:=if x.testBit k=on then x else x^^^2^k
def BE(xs:List Nat)(i:Nat)(on:Bool):List Nat:=xs.set (i/64) (setW (xs.getD (i/64) 0) (i%64) on)
def Ai(xs:List Nat)(i:Nat):Bool:=(xs.getD (i/64) 0).testBit (i%64)
theorem Ir(xs:List Nat)(i:Nat)(on:Bool):(BE xs i on).length=xs.length:=by simp[BE]
theorem rI(xs:List Nat)(i:Nat)(on:Bool)(h:xs.length<=i/64):BE xs i on=xs:=by
 unfold BE;exact List.set_eq_of_length_le h
theorem Xl(x k:Nat):x|||2^k=setW x k true:=by
 unfold setW;apply Nat.eq_of_testBit_eq;intro i;rw[Nat.testBit_or,Nat.testBit_two_pow];by_cases e:k=i
 ·subst e
  cases h:x.testBit k<;>simp[h,Nat.testBit_xor]
 ·split<;>simp[e,Nat.testBit_xor]
theorem eS(x k:Nat)(l:x<18446744073709551616)(f:k<64):x&&&(18446744073709551615-2^k)=setW x k false:=by
 have c:2^k<2^64:=Nat.pow_lt_pow_right (by decide) f;unfold setW;apply Nat.eq_of_testBit_eq;intro i;have b:18446744073709551615-2^k=2^64-(2^k+1):=by omega
 rw[Nat.testBit_and,b,Nat.testBit_two_pow_sub_succ c,Nat.testBit_two_pow];by_cases d:i<64
 ·by_cases e:k=i
  ·subst e
   cases h:x.testBit k<;>simp[h,Nat.testBit_xor]
  ·split<;>simp[e,d,Nat.testBit_xor]
 ·have j:x.testBit i=false:=Nat.testBit_lt_two_pow (Nat.lt_of_lt_of_le (show x<2^64 by omega) (Nat.pow_le_pow_right (by decide) (by omega)))
  have e:¬k=i:=by omega
  split<;>simp[j,e,Nat.testBit_xor]
theorem MZ(x k:Nat)(on:Bool)(d:x<18446744073709551616)(c:k<64):setW x k on<18446744073709551616:=by
 have b:2^k<2^64:=Nat.pow_lt_pow_right (by decide) c;unfold setW;split
 ·exact d
 ·exact Nat.xor_lt_two_pow (n:=64) (by omega) b
def C0:Nat->Nat->Nat
 |0,_=>0
 |f+1,x=>x%2+C0 f (x/2)
def pop(x:Nat):Nat:=C0 64 x
theorem TH:∀f,C0 f 0=0
 |0=>rfl
 |f+1=>by simp[C0,TH f]
theorem PN:∀f x,C0 f x<=f
 |0,_=>Nat.le_refl _
 |f+1,x=>by have:=PN f (x/2);simp only[C0];omega
theorem QV(x:Nat):pop x<=64:=PN 64 x
theorem rp:pop 0=0:=TH 64
theorem R1:∀f x,x<2^f->C0 f x=0->x=0
 |0,x,h,_=>by simpa using h
 |f+1,x,h,b=>by
  simp only[C0]at b;have:=R1 f (x/2) (by rw[Nat.pow_succ]at h;omega) (by omega);omega
theorem er(x:Nat)(h:x<18446744073709551616)(b:pop x=0):x=0:=
 R1 64 x (by rw[show(2:Nat)^64=18446744073709551616 by decide];exact h) b
def cnt(xs:List Nat):Nat:=(xs.map pop).sum
theorem YM:cnt []=0:=rfl
theorem Mw(x:Nat)(xs:List Nat):cnt (x::xs)=pop x+cnt xs:=by simp[cnt]
theorem Oo(a b:List Nat):cnt (a++b)=cnt a+cnt b:=by simp[cnt]
theorem Li(xs:List Nat):cnt xs<=64*xs.length:=by
 induction xs with
 |nil=>simp[YM]
 |cons x xs b=>rw[Mw];have:=QV x;simp only[List.length_cons];omega
theorem oO(xs:List Nat)(k:Nat)(h:k<xs.length):cnt (xs.take (k+1))=cnt (xs.take k)+pop (xs.getD k 0):=by
 rw[List.take_succ_eq_append_getElem h,Oo];simp[cnt,List.getD_eq_getElem?_getD,List.getElem?_eq_getElem h]
theorem NN(xs:List Nat)(h:∀i,i<xs.length->xs.getD i 0=0):cnt xs=0:=by
 induction xs with
 |nil=>rfl
 |cons x xs d=>
  have b:=h 0 (by simp)
  have c:∀i,i<xs.length->xs.getD i 0=0:=fun i e=>by
   have:=h (i+1) (by simp;omega);simpa using this
  simp at b;rw[Mw,d c,b,rp]
theorem SP(xs:List Nat)(c:∀x∈xs,x<18446744073709551616)(h:cnt xs=0):∀x∈xs,x=0:=by
 induction xs with
 |nil=>intro x b;cases b
 |cons y xs e=>
  rw[Mw]at h;intro x b;rcases List.mem_cons.1 b with rfl|b
  ·exact er _ (c _ (by simp)) (by omega)
  ·exact e (fun z d=>c z (by simp[d])) (by omega) x b
def firstI:List Nat->Int
 |[]=> -1
 |x::r=>if x≠0 then(Lib.ctz 64 x:Int)else if firstI r<0 then -1 else 64+firstI r
theorem RX:∀xs,firstI xs= -1\/0<=firstI xs
 |[]=>.inl rfl
 |x::r=>by
  simp only[firstI];split
  ·right;omega
  ·split
   ·exact .inl rfl
   ·right;omega
theorem Sb(xs:List Nat)(h:∀x∈xs,x=0):firstI xs= -1:=by
 induction xs with
 |nil=>rfl
 |cons x r e=>
  have b:=h x (by simp);have c:=e (fun y d=>h y (by simp[d]));simp[firstI,b,c]
theorem Ms:∀(xs:List Nat) (k:Nat),k<xs.length->(∀j,j<k->xs.getD j 0=0)->xs.getD k 0≠0->firstI xs=(k:Int)*64+Lib.ctz 64 (xs.getD k 0)
 |[],k,h,_,_=>by simp at h
 |x::r,0,_,_,h=>by
  simp at h;simp[firstI,h]
 |x::r,k+1,d,c,h=>by
  have b:=c 0 (by omega);simp at b;have f:=Ms r k (by simpa using d) (fun j i=>by have:=c (j+1) (by omega);simpa using this) (by simpa using h);have e:(x::r).getD (k+1) 0=r.getD k 0:=by simp
  rw[e];simp only[firstI,b];rw[f];simp;omega
theorem RB(xs:List Nat):firstI xs<0↔∀x∈xs,x=0:=by
 constructor
 ·induction xs with
  |nil=>intro _ x b;cases b
  |cons y r e=>
   intro h x b;simp only[firstI]at h;split at h
   ·omega
   ·rename_i f
    have c:y=0:=by omega
    rcases List.mem_cons.1 b with rfl|b
    ·exact c
    ·split at h
     ·rename_i d;exact e d x b
     ·omega
 ·intro h;rw[Sb xs h];omega
theorem Kp(xs:List Nat):(∀x∈xs,x=0)↔∀i,xs.getD i 0=0:=by
 constructor
 ·intro h i
  rw[List.getD_eq_getElem?_getD];cases b:xs[i]? with
  |none=>rfl
  |some x=>exact h x (List.mem_of_getElem? b)
 ·intro h x b
  obtain⟨i,c,rfl⟩:=List.getElem_of_mem b;have:=h i;simpa [List.getD_eq_getElem?_getD,List.getElem?_eq_getElem c]using this
theorem dM(a:List Nat):∀x∈xorL a a,x=0:=by
 rw[Kp];intro i;rw[Du];simp
theorem R8(xs:List Nat)(h:∀x∈xs,x=0):cnt xs=0:=NN xs fun i _=>(Kp xs).1 h i
theorem M6(x:Nat)(b:x≠0)(c:x<18446744073709551616):Lib.ctz 64 x<64:=(Lib.lowest_bit 64 x b (by omega)).2
theorem WW(x:Nat)(b:x≠0)(h:x<18446744073709551616):x.testBit (Lib.ctz 64 x)=true:=by
 obtain⟨m,d,f⟩:=Lib.ctzFrom_spec 64 x (by omega) (by omega);have e:Lib.ctz 64 x=Lib.ctzFrom 64 x:=by simp[Lib.ctz,b]
 rw[e];generalize Lib.ctzFrom 64 x=c at*;rw[d,Nat.mul_comm,Nat.testBit_mul_two_pow];simp[Nat.testBit_zero]
theorem WX(x j:Nat)(b:x≠0)(i:x<18446744073709551616)(d:j<Lib.ctz 64 x):x.testBit j=false:=by
 obtain⟨m,f,h⟩:=Lib.ctzFrom_spec 64 x (by omega) (by omega);have e:Lib.ctz 64 x=Lib.ctzFrom 64 x:=by simp[Lib.ctz,b]
 rw[e]at d;generalize Lib.ctzFrom 64 x=c at*;rw[f,Nat.mul_comm,Nat.testBit_mul_two_pow];simp;omega
theorem MQ(xs:List Nat)(k j:Nat)(b:j<64):Ai xs (64*k+j)=(xs.getD k 0).testBit j:=by
 unfold Ai;rw[show(64*k+j)/64=k by omega,show(64*k+j)%64=j by omega]
theorem E1(xs:List Nat)(i:Nat)(h:64*xs.length<=i):Ai xs i=false:=by
 unfold Ai;rw[Ge (by omega)];simp
variable {xs:List Nat}{n B:Nat}{a:Option Addr}{v:Value}{w w' wk:World}
theorem Ab{p:Prop}(h:p):Hid p:=h
theorem Aa{p:Prop}(h:Hid p):p:=h
def cellsU(xs:List Nat):List Value:=xs.map fun(x:Nat)=>Value.int .u64 (x:Int)
theorem NL(xs:List Nat):(cellsU xs).length=xs.length:=by simp[cellsU]
theorem L3(xs:List Nat)(i:Nat)(h:i<xs.length):(cellsU xs)[i]? =some (.int .u64 ((xs.getD i 0:Nat):Int)):=by
 simp[cellsU,List.getElem?_eq_getElem h,List.getD_eq_getElem?_getD]
theorem SD(xs:List Nat):∀u∈cellsU xs,u.oneCell'=true:=by
 intro u b;obtain⟨_,_,rfl⟩:=List.mem_map.1 b;rfl
theorem gg(xs:List Nat)(i x:Nat):(cellsU xs).set i (.int .u64 (x:Int))=cellsU (xs.set i x):=by
 simp[cellsU,List.map_set]
def small(x:Nat):Prop:=x<18446744073709551616
def Ac(xs:List Nat):Prop:=∀x∈xs,small x
theorem Ac.get(h:Ac xs)(i:Nat):xs.getD i 0<18446744073709551616:=by
 rw[List.getD_eq_getElem?_getD];cases b:xs[i]? with
 |none=>simp
 |some x=>exact h x (List.mem_of_getElem? b)
theorem Ac.set(h:Ac xs)(i x:Nat)(c:x<18446744073709551616):Ac (xs.set i x):=by
 intro y d;rcases List.mem_or_eq_of_mem_set d with b|rfl
 ·exact h y b
 ·exact c
def RowAt(w:World)(a:Option Addr)(n:Nat)(xs:List Nat):Prop:=
 xs.length=n/\Ac xs/\(n=0\/∃b off,a=some ⟨b,off,none⟩/\∀i,i<n->w.cell? ⟨b,off+i,none⟩=some (.int .u64 ((xs.getD i 0:Nat):Int)))
theorem RowAt.at(h:RowAt w a n xs){i:Nat}(d:i<n):
  ∃b off,a=some ⟨b,off,none⟩/\∀i,i<n->w.cell? ⟨b,off+i,none⟩=some (.int .u64 ((xs.getD i 0:Nat):Int)):=by
 rcases h.2.2 with c|c
 ·omega
 ·exact c
theorem RowAt.below(h:RowAt w a n xs)(f:Below w.heap.size w w'):RowAt w' a n xs:=by
 refine⟨h.1,h.2.1,?_⟩;rcases h.2.2 with e|⟨b,off,rfl,c⟩
 ·exact .inl e
 ·exact .inr ⟨b,off,rfl,fun i d=>(f.cell (World.block_lt_of_cell? w _ (c i d))).trans (c i d)⟩
theorem RowAt.news{e:Addr}(h:RowAt w (some e) n xs):∀j u,(cellsU xs)[j]? =some u->w.cell? (e.add j)=some u:=by
 intro j u d;have c:j<xs.length:=by
  have:=(List.getElem?_eq_some_iff.1 d).1;rwa[NL]at this
 obtain⟨b,off,k,l⟩:=h.at (i:=j) (by rw[<-h.1];exact c);simp only[Option.some.injEq]at k;subst k;rw[L3 xs j c]at d;have:=l j (by rw[<-h.1];exact c);by_cases f:j=0
 ·subst f;simpa [Addr.add]using this.trans d
 ·simpa [Addr.add,f]using this.trans d
def Own(w:World)(B:Nat)(v:Value)(xs:List Nat):Prop:=Ac xs/\w.ownsRow B 265 1 v xs.length (cellsU xs)
theorem Own.row(h:Own w B v xs):∃a c,v=.slice a xs.length c/\RowAt w a xs.length xs:=by
 obtain⟨f,e⟩:=h;have b:=e;rcases e.2 with⟨rfl,d⟩|⟨g,cap,j,rfl,m,o,q,p,l,ht⟩
 ·exact⟨none,0,by rw[d],rfl,f,.inl d⟩
 ·refine⟨_,cap,rfl,rfl,f,.inr ⟨g,0,rfl,fun i k=>?_⟩⟩
  rw[Nat.zero_add,b.cellAt i (by omega),L3 xs i k]
theorem Own.cap{c:Nat}(h:Own w B (.slice a n c) xs):n<=c:=by
 rcases h.2.2 with⟨e,f⟩|⟨g,cap,b,e,i,j,l,k,d,ht⟩
 ·simp only[Value.slice.injEq]at e
  omega
 ·simp only[Value.slice.injEq]at e
  omega
theorem Own.nil(w:World)(B:Nat):Own w B (.slice none 0 0) []:=⟨(fun _ h=>by cases h),World.ownsRow_nil _ _ _ _⟩
theorem Own.mono{B':Nat}(h:Own w B v xs)(e:B'<=B):Own w B' v xs:=by
 refine⟨h.1,h.2.1,?_⟩;rcases h.2.2 with c|⟨g,cap,b,d,f,r⟩
 ·exact .inl c
 ·exact .inr ⟨g,cap,b,d,Nat.le_trans e f,r⟩
theorem Own.below(h:Own w B v xs)(f:Below w.heap.size w w'):Own w' B v xs:=by
 refine⟨h.1,h.2.1,?_⟩;rcases h.2.2 with d|⟨g,cap,c,e,i,b,r⟩
 ·exact .inl d
 ·exact .inr ⟨g,cap,c,e,i,(f.block g (Array.getElem?_eq_some_iff.1 b).1).trans b,r⟩
theorem Own.at(h:Own w B v xs)(k:0<xs.length):
  ∃g cap,v=.slice (some ⟨g,0,none⟩) xs.length cap/\B<=g/\g<w.heap.size/\(∀i,i<xs.length->w.cell? ⟨g,i,none⟩=some (.int .u64 ((xs.getD i 0:Nat):Int)))/\∀i,w.frozen? ⟨g,i,none⟩=false:=by
 obtain⟨p,c⟩:=h;have b:=c;rcases c.2 with⟨rfl,m⟩|⟨g,cap,d,rfl,e,f,k,o,l,ht⟩
 ·omega
 ·refine⟨g,cap,rfl,e,(Array.getElem?_eq_some_iff.1 f).1,fun i j=>?_,fun i=>b.frozenAt i⟩
  rw[b.cellAt i (by omega),L3 xs i j]
theorem Own.stored{g cap:Nat}(h:Own w B (.slice (some ⟨g,0,none⟩) xs.length cap) xs)(i x:Nat)(d:x<18446744073709551616):
  Own (w.setCell ⟨g,i,none⟩ (.int .u64 (x:Int))) B (.slice (some ⟨g,0,none⟩) xs.length cap) (xs.set i x):=by
 obtain⟨c,b⟩:=h;refine⟨c.set i x d,?_⟩;have:=(b.stored i (.int .u64 (x:Int))).1;rw[gg]at this;simpa using this
theorem KV:(Tryz.prog.info? 265).map (fun i=>(i.zero,i.size,i.bytes))=some (some (.int .u64 0),1,8):=by kernel_rfl
theorem CC{k:IntKind}{a b:Int}(h:a=b):Ending.returned (.int k a)=.returned (.int k b):=by rw[h]
theorem Ce{a b:Bool}(h:a=b):Ending.returned (.bool a)=.returned (.bool b):=by rw[h]
theorem Rl{W w1:World}(c:Below W.heap.size W w1):(∀b o,b<W.heap.size->w1.cell? ⟨b,o,none⟩=W.cell? ⟨b,o,none⟩)/\(∀b o,b<W.heap.size->w1.frozen? ⟨b,o,none⟩=W.frozen? ⟨b,o,none⟩):=
 ⟨fun b o h=>c.cell (p:=⟨b,o,none⟩) h,fun b o h=>c.frozen (p:=⟨b,o,none⟩) h⟩
theorem rA(w:World)(x:Nat)(b:x<18446744073709551616):RowAt (w.alloc (.cells #[.int .u64 (x:Int)] 265)) (some ⟨w.heap.size,0,none⟩) 1 [x]:=by
 refine⟨rfl,fun y c=>by rw[List.mem_singleton.1 c];exact b,.inr ⟨w.heap.size,0,rfl,fun i d=>?_⟩⟩;obtain rfl:i=0:=by omega
 simp
theorem GQ(h:RowAt w a n xs)(o:Obj):RowAt (w.alloc o) a n xs:=h.below ((Below.refl _ _).alloc (Nat.le_refl _) _)
theorem Qe{o:Obj}(b:Below w.heap.size w wk)(c:Below (wk.alloc o).heap.size (wk.alloc o) w'):Below w.heap.size w w':=
 (b.alloc b.size o).trans (c.mono (by have:=b.size;simp;omega))
theorem GV{o c:Obj}(b:Below w.heap.size w wk)(d:Below ((wk.alloc o).alloc c).heap.size ((wk.alloc o).alloc c) w'):Below w.heap.size w w':=
 Qe (b.alloc b.size o) d
theorem Ad(b:Below w.heap.size w wk)(c:Below wk.heap.size wk w'):Below w.heap.size w w':=b.trans (c.mono b.size)
theorem Bc(w:World)(o:Obj):(w.alloc o).heap.size=w.heap.size+1:=by simp
theorem Dv(w:World):RowAt w none 0 []:=⟨rfl,(fun _ h=>by cases h),.inl rfl⟩
theorem Ax(w:World)(o:Obj):Below w.heap.size w (w.alloc o):=(Below.refl _ _).alloc (Nat.le_refl _) _
variable {xs ys:List Nat}{B g cap:Nat}{v:Value}{w:World}
def tx(s:ByteArray):List Nat:=s.data.toList.map fun b=>b.toNat
def st(xs:List Nat):ByteArray:=⟨(xs.map UInt8.ofNat).toArray⟩
def bytes(xs:List Nat):Prop:=∀x∈xs,x<256
theorem AU(s:ByteArray):(tx s).length=s.size:=by cases s;simp[tx,ByteArray.size]
theorem Ck(s:ByteArray):bytes (tx s):=by
 intro x c;obtain⟨b,_,rfl⟩:=List.mem_map.1 c;exact b.toNat_lt
theorem IG(s:ByteArray):st (tx s)=s:=by
 cases s with
 |mk d=>
  unfold st tx;congr 1;rw[List.map_map];have e:((fun x=>UInt8.ofNat x)∘fun b:UInt8=>b.toNat)=id:=by funext b;simp
  rw[e];simp
theorem DE(h:bytes xs):tx (st xs)=xs:=by
 unfold tx st;simp only[List.map_map]
 conv=>rhs;rw[<-List.map_id xs]
 apply List.map_congr_left;intro x b;have:=h x b;simp[Nat.mod_eq_of_lt this]
theorem Jj{a b:ByteArray}(h:tx a=tx b):a=b:=by rw[<-IG a,<-IG b,h]
theorem Gd(h:bytes xs)(k:Nat):bytes (xs.take k):=fun x b=>h x (List.mem_of_mem_take b)
theorem Hk(h:bytes xs)(k:Nat):bytes (xs.drop k):=fun x b=>h x (List.mem_of_mem_drop b)
theorem bytes.get(h:bytes xs)(i:Nat):xs.getD i 0<256:=by
 rw[List.getD_eq_getElem?_getD];cases b:xs[i]? with
 |none=>simp
 |some x=>exact h x (List.mem_of_getElem? b)
theorem Lk(s:ByteArray)(k:Nat)(h:k<s.size):s[k].toNat=(tx s).getD k 0:=by
 cases s with
 |mk d=>
  have b:k<d.size:=h;simp only[tx,List.getD_eq_getElem?_getD,List.getElem?_map,Array.getElem?_toList,Array.getElem?_eq_getElem b];rfl
theorem bytes.set(h:bytes xs)(i x:Nat)(c:x<256):bytes (xs.set i x):=by
 intro y d;rcases List.mem_or_eq_of_mem_set d with b|rfl
 ·exact h y b
 ·exact c
theorem PK{x y:Nat}(b:x<256)(c:y<256):x^^^y<256:=Nat.xor_lt_two_pow (n:=8) (by omega) (by omega)
theorem Oe(c:bytes xs)(d:bytes ys):bytes (xorL xs ys):=by
 intro z b;unfold xorL at b;obtain⟨i,_,rfl⟩:=List.mem_map.1 b;exact PK (c.get i) (d.get i)
theorem Jx:bytes []:=fun _ h=>by cases h
def Jt(a b:ByteArray):ByteArray:=st (xorL (tx a) (tx b))
theorem MO(a b:ByteArray):tx (Jt a b)=xorL (tx a) (tx b):=DE (Oe (Ck a) (Ck b))
theorem UB(a b:ByteArray):(Jt a b).size=max a.size b.size:=by rw[<-AU,MO,BY,AU,AU]
theorem MI(a:List Nat):xorL a []=a:=by
 apply Ei
 ·rw[BY];simp
 ·intro i b;rw[Du];simp
theorem Ps(a:List Nat):xorL [] a=a:=by rw[KP,MI]
theorem jz(a b c:List Nat):xorL (xorL a b) c=xorL a (xorL b c):=by
 apply Ei
 ·simp only[BY];omega
 ·intro i d;simp only[Du];exact Nat.xor_assoc _ _ _
theorem MA(a b:ByteArray):(a.toList==b.toList)=decide (a=b):=by
 rw[ByteArray.toList_eq,ByteArray.toList_eq,Bool.eq_iff_iff];simp only[beq_iff_eq,decide_eq_true_eq,Array.toList_inj];constructor
 ·intro h;cases a;cases b;simp_all
 ·intro h;rw[h]
def AE(w:World)(B:Nat)(v:Value)(xs:List Nat):Prop:=
 bytes xs/\((v=.slice none 0 0/\xs=[])\/∃g cap,v=.slice (some ⟨g,0,none⟩) xs.length cap/\B<=g/\g<w.heap.size/\
  (∀i,i<xs.length->w.cell? ⟨g,i,none⟩=some (.int .u8 ((xs.getD i 0:Nat):Int)))/\∀i,i<xs.length->w.frozen? ⟨g,i,none⟩=false)
theorem AE.nil(w:World)(B:Nat):AE w B (.slice none 0 0) []:=⟨Jx,.inl ⟨rfl,rfl⟩⟩
theorem AE.slice(h:AE w B v xs):∃a c,v=.slice a xs.length c:=by
 rcases h.2 with⟨rfl,rfl⟩|⟨g,cap,rfl,_⟩
 ·exact⟨_,_,rfl⟩
 ·exact⟨_,_,rfl⟩
theorem AE.at(h:AE w B v xs)(b:0<xs.length):
  ∃g cap,v=.slice (some ⟨g,0,none⟩) xs.length cap/\B<=g/\g<w.heap.size/\(∀i,i<xs.length->w.cell? ⟨g,i,none⟩=some (.int .u8 ((xs.getD i 0:Nat):Int)))/\∀i,i<xs.length->w.frozen? ⟨g,i,none⟩=false:=by
 rcases h.2 with⟨_,rfl⟩|h
 ·simp at b
 ·exact h
theorem AE.mono{B':Nat}(h:AE w B v xs)(d:B'<=B):AE w B' v xs:=by
 refine⟨h.1,?_⟩;rcases h.2 with b|⟨g,cap,c,e,r⟩
 ·exact .inl b
 ·exact .inr ⟨g,cap,c,Nat.le_trans d e,r⟩
theorem AE.below{w':World}(h:AE w B v xs)(c:Below w.heap.size w w'):AE w' B v xs:=by
 refine⟨h.1,?_⟩;rcases h.2 with e|⟨g,cap,f,l,b,j,k⟩
 ·exact .inl e
 ·exact .inr ⟨g,cap,f,l,Nat.lt_of_lt_of_le b c.size,fun i d=>((Rl c).1 g i b).trans (j i d),fun i d=>((Rl c).2 g i b).trans (k i d)⟩
theorem AE.stored(h:AE w B (.slice (some ⟨g,0,none⟩) xs.length cap) xs)(i x:Nat)(q:x<256):
  AE (w.setCell ⟨g,i,none⟩ (.int .u8 (x:Int))) B (.slice (some ⟨g,0,none⟩) xs.length cap) (xs.set i x):=by
 refine⟨h.1.set i x q,.inr ?_⟩;rcases h.2 with⟨c,_⟩|⟨g',k,c,p,d,l,o⟩
 ·cases c
 ·simp only[Value.slice.injEq,Option.some.injEq,Addr.mk.injEq,and_true,true_and]at c
  obtain⟨rfl,rfl⟩:=c;refine⟨g,cap,by rw[List.length_set],p,by simpa using d,fun j b=>?_,fun j b=>by rw[World.frozen?_setCell];exact o j (by simpa using b)⟩;rw[List.length_set]at b;rw[DZ];by_cases e:j=i
  ·subst e
   rw[if_pos ⟨rfl,b⟩];exact World.cell?_setCell_same _ _ _ (l j b)
  ·rw[if_neg (fun h=>e h.1)]
   have f:(⟨g,i,none⟩:Addr)≠⟨g,j,none⟩:=fun h=>e (by injection h with c m;exact m.symm);exact(World.cell?_setCell_other (h:=f) ..).trans (l j b)
theorem AE.drew(h:AE w B v xs):AE w.drew B v xs:=by
 refine⟨h.1,?_⟩;rcases h.2 with c|⟨g,cap,d,i,b,e,f⟩
 ·exact .inl c
 ·exact .inr ⟨g,cap,d,i,b,e,f⟩
theorem Wa{wr:World}{k z:Nat}(i:bytes xs)(j:bytes ys)(h:k<xs.length)(e:B<=g)
  (d:AE wr B (.slice (some ⟨g,0,none⟩) xs.length cap) (Dg xs ys k)) (f:Below B w wr) (l:z=xs.getD k 0^^^ys.getD k 0):
  AE (wr.setCell ⟨g,k,none⟩ (.int .u8 (z:Int))) B (.slice (some ⟨g,0,none⟩) xs.length cap) (Dg xs ys (k+1))/\Below B w (wr.setCell ⟨g,k,none⟩ (.int .u8 (z:Int))):=by
 have c:=Cd xs ys k;subst l;rw[<-c]at d;have b:=d.stored k (xs.getD k 0^^^ys.getD k 0) (PK (i.get k) (j.get k));rw[SW xs ys k h,c]at b;exact⟨b,f.setCell (by exact e) _⟩
theorem nW{wr:World}{k z:Nat}(i:bytes xs)(j:bytes ys)(f:k<xs.length)(d:B<=g)
  (h:AE wr B (.slice (some ⟨g,0,none⟩) xs.length cap) (Dg xs ys k)) (e:Below B w wr) (l:z=xs.getD k 0^^^ys.getD k 0):
  AE (wr.setCell ⟨g,k,none⟩ (.int .u8 (z:Int))).drew B (.slice (some ⟨g,0,none⟩) xs.length cap) (Dg xs ys (k+1))/\Below B w (wr.setCell ⟨g,k,none⟩ (.int .u8 (z:Int))).drew:=by
 obtain⟨b,c⟩:=Wa i j f d h e l;exact⟨b.drew,c.drew⟩
theorem AE.text(h:AE w B v xs):(convert 165 9 v).run Tryz.prog w=.ok (.string (st xs)) w:=by
 rcases h.2 with⟨rfl,rfl⟩|⟨g,cap,rfl,l,f,d,k⟩
 ·rw[run_convert_bytes_string w 165 9 5 none 0 0 Tryz.underlying165 Tryz.underlying5 Tryz.underlying9]
  rfl
 ·have:=run_convert_bytes_back (P:=Tryz.prog) w 165 9 5 ⟨g,0,none⟩ cap (xs.map UInt8.ofNat) Tryz.underlying165 Tryz.underlying5 Tryz.underlying9 (fun j i=>by
   have b:j<xs.length:=by simpa using i
   have e:(⟨g,0,none⟩:Addr).add j=⟨g,j,none⟩:=by unfold Addr.add;split<;>simp_all
   rw[e,d j b];have c:=h.1.get j;simp only[List.getElem_map];rw[List.getD_eq_getElem?_getD,List.getElem?_eq_getElem b]at c⊢;simp only[Option.getD_some]at c⊢;rw[UInt8.toNat_ofNat_of_lt' c])
  rw[List.length_map]at this;exact this
theorem P8:(Tryz.prog.info? 5).map (fun i=>(i.zero,i.size,i.bytes))=some (some (.int .u8 0),1,1):=by kernel_rfl
theorem RA{P:Program}(w:World)(k A C d:TypeId)(g n cap:Nat)(s:ByteArray)(c:Array Value)(t:TypeId)(u:P.underlying k=some (.slice d))(r:(P.info? d).map (·.size)=some 1)
  (p:w.heap[g]? =some (.cells c t (0,0))) (l:c.size=s.size) (q:n=s.size):
  (Builtin.copy_ #[k,A] C #[.slice (some ⟨g,0,none⟩) n cap,.string s]).run P w=.ok (goInt s.size) (w.setRow g (s.data.map fun b=>Value.int .u8 (b.toNat:Int))):=by
 subst q;have e:(s.data.toList.map fun b=>Value.int .u8 (b.toNat:Int)).length=s.size:=by rw[List.length_map];rfl
 have h:=run_storeCells_at P g 0 t (s.data.toList.map fun b=>Value.int .u8 (b.toNat:Int)) 0 c w p (by rw[e,l];omega)
  (fun v z=>by obtain⟨b,_,rfl⟩:=List.mem_map.1 z;rfl)
 have o:(List.take (0+0) c.toList++(s.data.toList.map fun b=>Value.int .u8 (b.toNat:Int))++List.drop (0+0+(s.data.toList.map fun b=>Value.int .u8 (b.toNat:Int)).length) c.toList).toArray=s.data.map fun b=>Value.int .u8 (b.toNat:Int):=by
  rw[List.drop_eq_nil_of_le (by rw[e,Array.length_toList,l];omega)];apply Array.ext';simp
 rw[o]at h;have f:Nat.min s.size s.size=s.size:=Nat.min_self _;have j:List.take s.size (s.data.toList.map fun b=>Value.int .u8 (b.toNat:Int))=s.data.toList.map fun b=>Value.int .u8 (b.toNat:Int):=List.take_of_length_le (by rw[e];omega);cases m:P.info? d with
 |none=>simp[m]at r
 |some i=>
  simp[Builtin.copy_,run_underlying u,Builtin.lenOf,Builtin.firstCells,sizeOf,typeInfo,m,f,j,h]
theorem YZ{a b:ByteArray}(h:a=b):Ending.returned (.string a)=.returned (.string b):=by rw[h]
theorem gW(w:World)(s:ByteArray):∃w' cap,(convert 9 165 (.string s)).run Tryz.prog w=.ok (.slice (some ⟨w.heap.size,0,none⟩) s.size cap) w'/\
  AE w' w.heap.size (.slice (some ⟨w.heap.size,0,none⟩) s.size cap) (tx s)/\Below w.heap.size w w':=by
 refine⟨_,_,run_bytes_of_string w 9 165 5 s Tryz.underlying9 Tryz.underlying165 Tryz.underlying5,⟨Ck s,.inr ⟨w.heap.size,_,by rw[AU],Nat.le_refl _,by simp,fun i d=>?_,fun i d=>?_⟩⟩,?_⟩
 ·have b:i<s.size:=by rwa[AU]at d
  have c:=World.cell?_alloc_mark w.drew (bytesRow s (grownCap w s.size 0 5)) 5 ((bytesRow s (grownCap w s.size 0 5)).size,(bytesRow s (grownCap w s.size 0 5)).size+1) i;refine c.trans ?_;rw[bytesRow_at s _ i b,<-Lk s i b];rfl
 ·have b:i<s.size:=by rwa[AU]at d
  have c:=World.frozen?_alloc_mark w.drew (bytesRow s (grownCap w s.size 0 5)) 5 (bytesRow s (grownCap w s.size 0 5)).size ((bytesRow s (grownCap w s.size 0 5)).size+1) i;refine c.trans ?_;have e:s.size<=(bytesRow s (grownCap w s.size 0 5)).size:=by
   unfold bytesRow;rw[Array.size_append,Array.size_map];exact Nat.le_add_right _ _
  have:¬(bytesRow s (grownCap w s.size 0 5)).size<=i:=by omega
  simp[this]
 ·exact((Below.refl _ _).drew).alloc (Nat.le_refl _) _
theorem UM(a b:ByteArray):tx (a++b)=tx a++tx b:=by
 unfold tx;rw[ByteArray.data_append,Array.toList_append,List.map_append]
theorem Dw(xs:List Nat):(st xs).size=xs.length:=by simp[st,ByteArray.size]
theorem Ex(s:ByteArray)(a b:Nat):tx (s.extract a b)=((tx s).drop a).take (b-a):=by
 unfold tx;rw[ByteArray.data_extract,Array.toList_extract,List.extract_eq_take_drop,List.map_take,List.map_drop]
theorem Jc(x y:Nat)(b:Array TypeId)(t:TypeId)(w:World):(Builtin.min_ b t #[.int .i64 (x:Int),.int .i64 (y:Int)]).run Tryz.prog w=.ok (.int .i64 ((min x y:Nat):Int)) w:=by
 rw[run_min_int2];congr 2;split<;>omega
variable {g:Nat}{v x y:Value}{w:World}
theorem Cr{W:World}{f:FuncId}{args:Array Value}(h:∀w',Below W.heap.size W w'->Calls Tryz.prog f args w' fun e b=>e=.returned v/\Below w'.heap.size w' b)(d:Nat)(os:Array Obj):
  Calls Tryz.prog f args (grow (redrawn W d) os) fun e b=>e=.returned v/\∃p:Regrown,b=grow (redrawn W p.d) p.os:=
 Calls.regrown_of (h _ (below_regrown W d os))
theorem Th{f:FuncId}{args:Array Value}(h:Calls Tryz.prog f args w fun e b=>e=.returned v/\b=w):Calls Tryz.prog f args w fun e b=>e=.returned v/\Below w.heap.size w b:=
 h.mono fun e w' ⟨c,d⟩=>⟨c,by rw[d];exact Below.refl _ _⟩
def A5(w:World)(g:Nat)(x y:Value):Prop:=w.cell? ⟨g,0,none⟩=some x/\w.cell? ⟨g,1,none⟩=some y
theorem GT(w:World)(x y:Value):A5 (w.alloc (.cells #[x,y] 73)) w.heap.size x y:=by
 constructor<;>simp
theorem A5.below{w':World}(h:A5 w g x y)(b:Below w.heap.size w w'):A5 w' g x y:=
 ⟨(b.cell (World.block_lt_of_cell? w _ h.1)).trans h.1,(b.cell (World.block_lt_of_cell? w _ h.2)).trans h.2⟩
theorem A5.alloc(h:A5 w g x y)(o:Obj):A5 (w.alloc o) g x y:=h.below ((Below.refl _ _).alloc (Nat.le_refl _) _)
def Ba(w:World)(g:Nat)(x y:Value):Prop:=A5 w g x y/\w.frozen? ⟨g,0,none⟩=false/\w.frozen? ⟨g,1,none⟩=false
theorem JO(w:World)(x y:Value):Ba (w.alloc (.cells #[x,y] 73)) w.heap.size x y:=⟨GT w x y,by simp,by simp⟩
theorem Ba.below{w':World}(h:Ba w g x y)(b:Below w.heap.size w w'):Ba w' g x y:=
 ⟨h.1.below b,(b.frozen (World.block_lt_of_cell? w _ h.1.1)).trans h.2.1,(b.frozen (World.block_lt_of_cell? w _ h.1.2)).trans h.2.2⟩
theorem Ba.alloc(h:Ba w g x y)(o:Obj):Ba (w.alloc o) g x y:=h.below ((Below.refl _ _).alloc (Nat.le_refl _) _)
theorem Ba.other(h:Ba w g x y){g':Nat}(i:Nat)(u:Value)(b:g'≠g):Ba (w.setCell ⟨g',i,none⟩ u) g x y:=by
 have c:(⟨g',i,none⟩:Addr)≠⟨g,0,none⟩:=fun h=>b (by injection h);have d:(⟨g',i,none⟩:Addr)≠⟨g,1,none⟩:=fun h=>b (by injection h);exact⟨⟨(World.cell?_setCell_other (h:=c) ..).trans h.1.1,(World.cell?_setCell_other (h:=d) ..).trans h.1.2⟩,by rw[World.frozen?_setCell];exact h.2.1,by rw[World.frozen?_setCell];exact h.2.2⟩
theorem dB{k i:Nat}(u:Value)(h:k≠g):(w.setCell ⟨g,i,none⟩ u).heap[k]? =w.heap[k]? :=by
 unfold World.setCell;simp[Array.getElem?_modify,Ne.symm h]
theorem Own.other{B:Nat}{xs:List Nat}(h:Own w B v xs){g:Nat}(i:Nat)(u:Value)(j:g<B):Own (w.setCell ⟨g,i,none⟩ u) B v xs:=by
 refine⟨h.1,h.2.1,?_⟩;rcases h.2.2 with e|⟨g',cap,b,f,c,d,r⟩
 ·exact .inl e
 ·exact .inr ⟨g',cap,b,f,c,(dB u (by omega)).trans d,r⟩
theorem Ba.set0(h:Ba w g x y)(u:Value):Ba (w.setCell ⟨g,0,none⟩ u) g u y:=
 ⟨⟨World.cell?_setCell_same _ _ _ h.1.1,(World.cell?_setCell_other (h:=by simp) ..).trans h.1.2⟩,by rw[World.frozen?_setCell];exact h.2.1,by rw[World.frozen?_setCell];exact h.2.2⟩
theorem Ba.set1(h:Ba w g x y)(u:Value):Ba (w.setCell ⟨g,1,none⟩ u) g x u:=
 ⟨⟨(World.cell?_setCell_other (h:=by simp) ..).trans h.1.1,World.cell?_setCell_same _ _ _ h.1.2⟩,by rw[World.frozen?_setCell];exact h.2.1,by rw[World.frozen?_setCell];exact h.2.2⟩
theorem ky(w:World)(g:Nat)(t:ByteArray)(b:Array Value)(e:TypeId)(d:w.heap[g]? =some (.cells b e (0,0)))(o:b.size=t.size)
  (B:Nat) (w0:World) (m:Below B w0 w) (f:B<=g):
  ∃w',(Builtin.copy_ #[165,9] 3 #[.slice (some ⟨g,0,none⟩) t.size t.size,.string t]).run Tryz.prog w=.ok (goInt t.size) w'/\AE w' B (.slice (some ⟨g,0,none⟩) t.size t.size) (tx t)/\Below B w0 w':=by
 obtain⟨s,h,p,j,q⟩:=info_parts P8;refine⟨_,RA w 165 9 3 5 g t.size t.size t b e Tryz.underlying165 (by rw[h];simp[j]) d o rfl,⟨Ck t,.inr ⟨g,t.size,by rw[AU],f,?_,fun i l=>?_,fun i l=>?_⟩⟩,?_⟩
 ·simpa using(Array.getElem?_eq_some_iff.1 d).1
 ·rw[cell_setRow_same w g i _ _ _ _ d]
  have c:i<t.size:=by rwa[AU]at l
  rw[<-Lk t i c];have:i<t.data.size:=c;simp only[Array.getElem?_map,Array.getElem?_eq_getElem this];rfl
 ·simp[World.frozen?,setRow_heap w g _ _ _ _ d]
 ·exact m.trans ⟨rfl,rfl,rfl,by simp,fun k r=>setRow_other w g k _ (by omega)⟩
theorem MM(v:Value)(xs:List Nat)(s:ByteArray)(B:Nat)(w:World)(h:AE w B v xs)(hB:B<=w.heap.size)(hn:xs.length<=1048576)(hm:s.size<=1048576):
  Calls Tryz.prog 239 #[v,.string s] w fun e w'=> ∃v',e=.returned v'/\AE w' B v' (xorL xs (tx s))/\Below B w w':=by
 obtain⟨va,vc,rfl⟩:=h.slice;have r:=AU s;by_cases N:s.size<=xs.length
 ·have j:decide ((s.size:Int)<=(xs.length:Int))=true:=by simp;omega
  go_enter Tryz.func239,Tryz.ntmps239;go_wp2;go_loopw [16] (fun i wr=> ∃k:Nat,k<=s.size/\i=.int .i64 k/\Hid (AE wr B (.slice va xs.length vc) (Dg xs (tx s) k))/\Hid (Below B w wr)) (fun i _=>s.size-(intOf i).toNat)
  case atStart=>exact⟨0,Nat.zero_le _,rfl,Ab (by rw[KG];exact h),Ab (Below.refl _ _)⟩
  case round=>
   obtain⟨k,hk,rfl,c,A⟩:=hrel;by_cases q:k<s.size
   ·have Y:k<xs.length:=by omega
    have L:(k:Int)<(xs.length:Int):=by omega
    have O:(k:Int)<(s.size:Int):=by omega
    obtain⟨g,cap,u,o,W,d,f⟩:=(Aa c).at (by rw[Cd];omega);rw[Cd]at u;simp only[Value.slice.injEq,true_and]at u;obtain⟨rfl,rfl⟩:=u;have b:=d k (by rw[Cd];omega);have V:=f k (by rw[Cd];omega);rw[Hd xs (tx s) k k (by omega),if_neg (by omega)]at b;have Z:=u8_xor_nat (xs.getD k 0) s[k].toNat (h.1.get k) s[k].toNat_lt;have R:=Ab (nW (z:=xs.getD k 0^^^s[k].toNat) h.1 (Ck s) (by omega) o (Aa c) (Aa A) (by rw[Lk s k q]));generalize xs.getD k 0=x at*;clear d f h c N j;go_wp2;go_region
    all_goals go_wp2
    go_roundw
    case rel=>exact⟨k+1,by omega,by go_num,Ab (Aa R).1,Ab (Aa R).2⟩
    case measure=>simp[intOf];omega
   ·have p:k=(tx s).length:=by omega
    rw[p,KQ xs (tx s) (by omega)]at c;clear h;go_wp2;go_ret;exact⟨_,rfl,Aa c,Aa A⟩
 ·have j:decide ((s.size:Int)<=(xs.length:Int))=false:=by simp;omega
  obtain⟨C,X,aa,ab,ac⟩:=info_parts P8;have m:=run_make (P:=Tryz.prog) w 165 5 C (.int .u8 0) Tryz.underlying165 X aa .i64 .i64 (s.size:Int) (s.size:Int) (by omega) (by omega) (by rw[ac];omega) (by omega);simp only[Int.toNat_natCast]at m;have K:(w.alloc (.cells (madeCells (Value.int .u8 0).cells (s.size*C.size)) 5)).heap[w.heap.size]? =some (.cells (madeCells (Value.int .u8 0).cells (s.size*C.size)) 5 (0,0)):=by
   show(w.heap.push _)[w.heap.size]? =_;simp
  have J:(madeCells (Value.int .u8 0).cells (s.size*C.size)).size=s.size:=by rw[size_madeCells,ab,Nat.mul_one]
  have I:Below w.heap.size w (w.alloc (.cells (madeCells (Value.int .u8 0).cells (s.size*C.size)) 5)):=(Below.refl _ _).alloc (Nat.le_refl _) _;generalize madeCells (Value.int .u8 0).cells (s.size*C.size)=H at*;generalize w.alloc (.cells H 5)=wm at*;obtain⟨w1,T,ho,hb⟩:=ky wm w.heap.size s H 5 K J w.heap.size w I (Nat.le_refl _);have E:=Ab ho;have D:=Ab hb;clear ho hb K J I;go_enter Tryz.func239,Tryz.ntmps239;go_wp2;go_loopw [38] (fun i wr=> ∃k:Nat,k<=xs.length/\i=.int .i64 k/\Hid (AE wr w.heap.size (.slice (some ⟨w.heap.size,0,none⟩) s.size s.size) (Dg (tx s) xs k))/\Hid (Below w.heap.size w wr)) (fun i _=>xs.length-(intOf i).toNat)
  case atStart=>exact⟨0,Nat.zero_le _,rfl,Ab (by rw[KG];exact Aa E),D⟩
  case round=>
   obtain⟨k,hk,rfl,c,A⟩:=hrel;clear E D T m;by_cases q:k<xs.length
   ·have Y:k<s.size:=by omega
    have L:(k:Int)<(s.size:Int):=by omega
    have O:(k:Int)<(xs.length:Int):=by omega
    obtain⟨g',ad,Q,_,_,l,_⟩:=(h.below (Aa A)).at (by omega);simp only[Value.slice.injEq,true_and]at Q;obtain⟨rfl,rfl⟩:=Q;have S:=l k q;obtain⟨g,cap,u,o,W,d,f⟩:=(Aa c).at (by rw[Cd];omega);rw[Cd,r]at u;simp only[Value.slice.injEq,Option.some.injEq,Addr.mk.injEq,and_true,true_and]at u;obtain⟨rfl,rfl⟩:=u;have b:=d k (by rw[Cd];omega);have V:=f k (by rw[Cd];omega);rw[Hd (tx s) xs k k (by omega),if_neg (by omega)]at b;have Z:=u8_xor_nat ((tx s).getD k 0) (xs.getD k 0) ((Ck s).get k) (h.1.get k);rw[<-r]at c;have R:=Ab (Wa (Ck s) h.1 (by omega) o (Aa c) (Aa A) rfl);rw[r]at R;generalize (tx s).getD k 0=x at*;generalize xs.getD k 0=y at*;clear d f l h c N j;go_wp2;go_roundw
    case rel=>exact⟨k+1,by omega,by go_num,Ab (Aa R).1,Ab (Aa R).2⟩
    case measure=>simp[intOf];omega
   ·have p:k=xs.length:=by omega
    rw[p,KQ (tx s) xs (by omega),KP]at c;clear h;go_wp2;go_ret;exact⟨_,rfl,(Aa c).mono hB,(Aa A).mono hB⟩
end Go.Proofs.YtfpmnekaockodaaGreatDoor
