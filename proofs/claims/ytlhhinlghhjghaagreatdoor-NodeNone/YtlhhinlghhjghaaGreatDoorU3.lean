/-
  Contracts of words.Set and bucketlineref01.Set: for every row of at most 2^20 words, every int, both values.
  Contracts of words.from, words.Valid and bucketlineref01.Valid: for every int and every row.
  Contracts of words.Valid, words.Unit and bucketlineref01.Valid, Unit: for every int and every row of at most 2^20 words.
  Whether a row is one of k blocks, as a Bool.
  Contracts of words.Unit, bucketlineref01.Unit: for all ints.
  Plain mathematics of peeling: rows of bits without the known ones, what is told one after the other, what is left; what two ways of it share. Of no program.
-/
import Derived.Test.YtlhhinlghhjghaaGreatDoorU1
import Derived.Lib.SliceRun
import Derived.Test.YtlhhinlghhjghaaGreatDoorU2
namespace Go.Proofs.YtlhhinlghhjghaaGreatDoor
open Go.RowKit
set_option linter.unusedVariables false
set_option linter.unusedSimpArgs false
set_option maxRecDepth 4000
set_option maxHeartbeats 8000000
variable {on:Bool}{i k:Int}{xs:List Nat}{B g cap q:Nat}{w:World}
def setI(xs:List Nat)(i:Int)(on:Bool):List Nat:=if i<0 then xs else setB xs i.toNat on
theorem ZxQ(x:Nat)(i:Int)(hx:x<18446744073709551616):bits .or .u64 (x:Int) ((2^(i%64).toNat:Nat):Int)=((setW x (i%64).toNat true:Nat):Int):=by
 have h:(i%64).toNat<64:=by omega
 have h2:2^(i%64).toNat<2^64:=Nat.pow_lt_pow_right (by decide) h
 rw[u64_or_nat x _ hx (by omega),ZsK]
theorem Zpa(x:Nat)(i:Int)(hx:x<18446744073709551616):bits .andNot .u64 (x:Int) ((2^(i%64).toNat:Nat):Int)=((setW x (i%64).toNat false:Nat):Int):=by
 have h:(i%64).toNat<64:=by omega
 have h2:2^(i%64).toNat<2^64:=Nat.pow_lt_pow_right (by decide) h
 rw[u64_andNot_nat x _ hx (by omega),Zmm x _ hx h]
theorem Zgv(i:Int)(q:Nat)(h0:0≤i)(hi:i≤9223372036854775807)(hq:i/64=(q:Int)):IntKind.i64.wrap (i.tdiv 64)=(q:Int):=by
 rw[Int.tdiv_eq_ediv_of_nonneg h0,hq]
 simp[IntKind.wrap,IntKind.bits,IntKind.signed]
 omega
theorem Zls{wr:World}(h0:0≤i)(hq:i/64=(q:Int))(hx:smalls xs)(hB:B≤g)(ho:Own wr B (.slice (some ⟨g,0,none⟩) xs.length cap) xs)(hb:Below B w wr):
  Own (wr.setCell ⟨g,q,none⟩ (.int .u64 ((setW (xs.getD q 0) (i%64).toNat on:Nat):Int))) B (.slice (some ⟨g,0,none⟩) xs.length cap) (setI xs i on)∧
  Below B w (wr.setCell ⟨g,q,none⟩ (.int .u64 ((setW (xs.getD q 0) (i%64).toNat on:Nat):Int))):=by
 have h1:=ho.stored q (setW (xs.getD q 0) (i%64).toNat on) (ZjI _ _ _ (hx.get _) (by omega))
 refine⟨?_,hb.setCell (by exact hB) _⟩
 unfold setI setB
 rw[if_neg (by omega),show i.toNat/64=q by omega,show i.toNat%64=(i%64).toNat by omega]
 exact h1
theorem Own.drew{v:Value}(h:Own w B v xs):Own w.drew B v xs:=⟨h.1,h.2.drew⟩
theorem ZiV{wr:World}(h0:0≤i)(hq:i/64=(q:Int))(hx:smalls xs)(hB:B≤g)(ho:Own wr B (.slice (some ⟨g,0,none⟩) xs.length cap) xs)(hb:Below B w wr):
  Own (wr.setCell ⟨g,q,none⟩ (.int .u64 ((setW (xs.getD q 0) (i%64).toNat on:Nat):Int))).drew B (.slice (some ⟨g,0,none⟩) xs.length cap) (setI xs i on)∧
  Below B w (wr.setCell ⟨g,q,none⟩ (.int .u64 ((setW (xs.getD q 0) (i%64).toNat on:Nat):Int))).drew:=by
 obtain⟨h1,h2⟩:=Zls (on:=on) h0 hq hx hB ho hb
 exact⟨h1.drew,h2.drew⟩
theorem Zvv(h:¬(0≤i∧i/64<(xs.length:Int))):setI xs i on=xs:=by
 unfold setI
 split
 ·rfl
 ·exact ZuM xs _ on (by omega)
theorem Zsl(a:Option Addr)(n c:Nat)(xs:List Nat)(i:Int)(on:Bool)(w:World)(h:RowAt w a n xs)(hn:n≤1048576)(hi:i≤9223372036854775807):
  Calls Tryz.prog 249 #[.slice a n c,.int .i64 i,.bool on] w fun e w'=> ∃v,e=.returned v∧Own w' w.heap.size v (setI xs i on)∧Below w.heap.size w w':=by
 obtain rfl:n=xs.length:=h.1.symm
 by_cases hin:0≤i∧i/64<(xs.length:Int)
 ·obtain⟨h0,hlt⟩:=hin
  obtain⟨q,hq⟩:=Int.eq_ofNat_of_zero_le (show 0≤i/64 by omega)
  have hqw:=Zgv i q h0 hi hq
  have hql:q<xs.length:=by omega
  have hql':(q:Int)<(xs.length:Int):=by omega
  have HM:=hide (fun wx=>ZnQ i h0 hi wx)
  go_enter Tryz.func249,Tryz.ntmps249
  go_wp2_with fail
  refine(ZbE a xs.length c xs _ h (by omega)).mono ?_
  rintro e w1 ⟨v,rfl,ho,hb⟩
  have HO:=hide ho
  obtain⟨g,cap,rfl,hBg,hgs,hcg,hfg⟩:=ho.at (by omega)
  have hcell:=hcg q (by omega)
  have hfz:=hfg q
  have hx:=h.2.1.get q
  have hw:=Zd2 (some ⟨g,0,none⟩) xs.length cap i h0 hi w1
  rw[show decide (i/64<(xs.length:Int))=true by simp;omega]at hw
  have HW:=hide hw
  clear hw hcg hfg ho hlt
  have R1:=hide (ZiV (on:=true) h0 hq h.2.1 hBg (unhide HO) hb)
  have R2:=hide (ZiV (on:=false) h0 hq h.2.1 hBg (unhide HO) hb)
  have hor:=ZxQ (xs.getD q 0) i hx
  have han:=Zpa (xs.getD q 0) i hx
  generalize (2^(i%64).toNat:Nat)=mk at*
  generalize xs.getD q 0=x at*
  generalize setW x (i%64).toNat true=y at*
  generalize setW x (i%64).toNat false=z at*
  clear HO h hb
  cases on with
  |true=>
   go_wp2_with (go_at_call 293;refine(unhide HW).mono ?_;rintro e w' ⟨rfl,rfl⟩)
   go_region_with (go_at_call 294;refine(unhide HM _).mono ?_;rintro e w' ⟨rfl,rfl⟩)
   all_goals go_wp2
   all_goals go_ret
   all_goals exact⟨_,rfl,(unhide R1).1,(unhide R1).2⟩
  |false=>
   go_wp2_with (go_at_call 293;refine(unhide HW).mono ?_;rintro e w' ⟨rfl,rfl⟩)
   go_region_with (go_at_call 294;refine(unhide HM _).mono ?_;rintro e w' ⟨rfl,rfl⟩)
   all_goals go_wp2
   all_goals go_ret
   all_goals exact⟨_,rfl,(unhide R2).1,(unhide R2).2⟩
 ·have hw:∀(a1:Option Addr) (c1:Nat) (wx:World),Calls Tryz.prog 293 #[.slice a1 xs.length c1,.int .i64 i] wx fun e w'=>e=.returned (.bool false)∧w'=wx:=by
   intro a1 c1 wx
   by_cases h0:0≤i
   ·have:=Zd2 a1 xs.length c1 i h0 hi wx
    rwa[show decide (i/64<(xs.length:Int))=false by simp;omega]at this
   ·exact ZhZ a1 xs.length c1 i (by omega) wx
  have HW:=hide hw
  have HE:=hide (Zvv (on:=on) hin)
  clear hw hin
  go_enter Tryz.func249,Tryz.ntmps249
  go_wp2_with fail
  refine(ZbE a xs.length c xs _ h (by omega)).mono ?_
  rintro e w1 ⟨v,rfl,ho,hb⟩
  have HO:=hide ho
  obtain⟨a1,c1,rfl,hr⟩:=ho.row
  clear ho hr
  go_wp2_with (go_at_call 293;refine(unhide HW a1 c1 _).mono ?_;rintro e w' ⟨rfl,rfl⟩)
  go_ret
  exact⟨_,rfl,by rw[unhide HE];exact unhide HO,hb⟩
def zer(xs:List Nat):Nat→Nat→List Nat
 |_,0=>xs
 |o,m+1=>zer (xs.set o 0) (o+1) m
theorem Zby:∀(m o:Nat) (xs:List Nat),(zer xs o m).length=xs.length
 |0,_,_=>rfl
 |m+1,o,xs=>by rw[zer,Zby m];simp
theorem Zfm:∀(m o:Nat) (xs:List Nat) (j:Nat),(zer xs o m).getD j 0=if o≤j∧j<o+m then 0 else xs.getD j 0
 |0,o,xs,j=>by simp[zer];omega
 |m+1,o,xs,j=>by
  rw[zer,Zfm m (o+1),ZaP]
  by_cases h1:o+1≤j∧j<o+1+m
  ·rw[if_pos h1,if_pos (by omega)]
  ·rw[if_neg h1]
   by_cases h2:j=o
   ·subst h2
    rw[if_pos (c:=j≤j∧j<j+(m+1)) (by omega)]
    split
    ·rfl
    ·exact ZaS (by omega)
   ·rw[if_neg (by omega),if_neg (by omega)]
theorem Own.cleared:∀(m o:Nat) (xs:List Nat) (w:World),Own w B (.slice (some ⟨g,0,none⟩) xs.length cap) xs→
  Own (w.setCells g o (List.replicate m (.int .u64 0))) B (.slice (some ⟨g,0,none⟩) xs.length cap) (zer xs o m)
 |0,_,_,_,h=>h
 |m+1,o,xs,w,h=>by
  have h1:=h.stored o 0 (by decide)
  have h2:=Own.cleared m (o+1) (xs.set o 0) (w.setCell ⟨g,o,none⟩ (.int .u64 0)) (by simpa using h1)
  rw[List.replicate_succ]
  have h3:(xs.set o 0).length=xs.length:=by simp
  rw[h3]at h2
  exact h2
theorem Below.cells{w0:World}(hg:B≤g):∀(vs:List Value) (o:Nat) (w:World),Below B w0 w→Below B w0 (w.setCells g o vs)
 |[],_,_,h=>h
 |v::r,o,w,h=>Below.cells hg r (o+1) (w.setCell ⟨g,o,none⟩ v) (h.setCell (by exact hg) v)
def fmask(r:Nat):Nat:=18446744073709551615*2^r%18446744073709551616
theorem Zxz(r:Nat):fmask r<18446744073709551616:=Nat.mod_lt _ (by decide)
theorem Zw7(w:World):(zeroValue 69).run Tryz.prog w=.ok (.int .u64 0) w:=by kernel_rfl
theorem Zk7{w1:World}(ho:Own w1 B (.slice (some ⟨g,0,none⟩) xs.length cap) xs)(hq:q≤xs.length):
  ∀ty,(Builtin.clear_ #[32] ty #[.slice (some ⟨g,0,none⟩) q cap]).run Tryz.prog w1=.ok (.tuple #[]) (w1.setCells g 0 (List.replicate q (.int .u64 0))):=by
 intro ty
 by_cases e:q=0
 ·subst e
  simp[Builtin.clear_,run_underlying Tryz.underlying32,World.setCells]
 ·obtain⟨g',cap',hv,_,_,hcg,hfg⟩:=ho.at (by omega)
  simp only[Value.slice.injEq,Option.some.injEq,Addr.mk.injEq,and_true,true_and]at hv
  obtain⟨rfl,rfl⟩:=hv
  exact Lib.run_clear_slice w1 32 69 ty (.int .u64 0) Tryz.underlying32 Zw7 rfl rfl g 0 q cap (by omega) (fun j hj=>by rw[Nat.zero_add,hcg j (by omega)];rfl) (fun j hj=>by rw[Nat.zero_add];exact hfg j)
theorem Zxy(x r:Nat)(hx:x<18446744073709551616):bits .and .u64 (x:Int) (IntKind.u64.wrap (18446744073709551615*2^r))=((x&&&fmask r:Nat):Int):=by
 have e:IntKind.u64.wrap (18446744073709551615*2^r)=((fmask r:Nat):Int):=by
  rw[IntKind.wrap_u64];unfold fmask;simp
 rw[e,u64_and_nat x _ hx (Zxz r)]
theorem Zy3(a:Option Addr)(n c:Nat)(xs:List Nat)(k:Int)(q:Nat)(w:World)(h:RowAt w a n xs)(hn:n≤1048576)(h0:0≤k)(hk:k≤9223372036854775807)(hq:k/64=(q:Int))(hqn:q<n):
  Calls Tryz.prog 204 #[.slice a n c,.int .i64 k] w fun e w'=> ∃v,e=.returned v∧Own w' w.heap.size v ((zer xs 0 q).set q (xs.getD q 0&&&fmask (k%64).toNat))∧Below w.heap.size w w':=by
 obtain rfl:n=xs.length:=h.1.symm
 have hqw:=Zgv k q h0 hk hq
 have hql':(q:Int)<(xs.length:Int):=by omega
 go_enter Tryz.func204,Tryz.ntmps204
 go_wp2_with fail
 refine(ZbE a xs.length c xs _ h (by omega)).mono ?_
 rintro e w1 ⟨v,rfl,ho,hb⟩
 obtain⟨g,cap,rfl,hBg,hgs,hcg,hfg⟩:=ho.at (by omega)
 have hcap:=ho.cap
 have hcl:=Zk7 ho (by omega:q≤xs.length)
 have ho2:=Own.cleared q 0 xs w1 ho
 have hb2:=Below.cells (w0:=w) hBg (List.replicate q (.int .u64 0)) 0 w1 hb
 generalize w1.setCells g 0 (List.replicate q (.int .u64 0))=w2 at*
 have hlz:=Zby q 0 xs
 rw[←hlz]at ho2
 obtain⟨g',cap',hv,_,hgs2,hcg2,hfg2⟩:=ho2.at (by omega)
 simp only[Value.slice.injEq,Option.some.injEq,Addr.mk.injEq,and_true,true_and]at hv
 obtain⟨rfl,rfl⟩:=hv
 have hcell:=hcg2 q (by omega)
 have hfz:=hfg2 q
 rw[Zfm,if_neg (by omega)]at hcell
 have hnum:=Zxy (xs.getD q 0) (k%64).toNat (h.2.1.get q)
 have hlt2:xs.getD q 0&&&fmask (k%64).toNat<18446744073709551616:=Nat.lt_of_le_of_lt Nat.and_le_left (h.2.1.get q)
 have hst:=ho2.stored q (xs.getD q 0&&&fmask (k%64).toNat) hlt2
 have hbs:=hb2.setCell (p:=⟨g,q,none⟩) (by exact hBg) (.int .u64 ((xs.getD q 0&&&fmask (k%64).toNat:Nat):Int))
 rw[hlz]at hst
 obtain⟨y,hy⟩:∃y,y=xs.getD q 0&&&fmask (k%64).toNat:=⟨_,rfl⟩
 rw[←hy]at hnum hst hbs
 have HST:=hide hst
 have HBS:=hide hbs
 have HY:=hide hy
 clear hcg hfg hcg2 hfg2 ho ho2 hb hb2 h hlz hst hbs hlt2 hy
 generalize xs.getD q 0=x at hnum hcell
 go_wp2
 go_ret
 exact⟨_,rfl,by rw[←unhide HY];exact unhide HST,unhide HBS⟩
theorem Zvx(a:Option Addr)(n c:Nat)(xs:List Nat)(k:Int)(w:World)(h:RowAt w a n xs)(hn:n≤1048576)(hn0:0<n)(h0:0≤k)(hk:k≤9223372036854775807)(hq:k/64=(n:Int)):
  Calls Tryz.prog 204 #[.slice a n c,.int .i64 k] w fun e w'=> ∃v,e=.returned v∧Own w' w.heap.size v (zer xs 0 n)∧Below w.heap.size w w':=by
 obtain rfl:n=xs.length:=h.1.symm
 have hqw:=Zgv k xs.length h0 hk hq
 go_enter Tryz.func204,Tryz.ntmps204
 go_wp2_with fail
 refine(ZbE a xs.length c xs _ h (by omega)).mono ?_
 rintro e w1 ⟨v,rfl,ho,hb⟩
 obtain⟨g,cap,rfl,hBg,hgs,hcg,hfg⟩:=ho.at (by omega)
 have hcap:=ho.cap
 have hcl:=Zk7 ho (Nat.le_refl _)
 have ho2:=Own.cleared xs.length 0 xs w1 ho
 have hb2:=Below.cells (w0:=w) hBg (List.replicate xs.length (.int .u64 0)) 0 w1 hb
 generalize w1.setCells g 0 (List.replicate xs.length (.int .u64 0))=w2 at*
 have HST:=hide ho2
 have HBS:=hide hb2
 clear hcg hfg ho ho2 hb hb2 h
 go_wp2
 go_ret
 exact⟨_,rfl,unhide HST,unhide HBS⟩
def Za5(k:Int)(xs:List Nat):Prop:=0<xs.length∧xs.length=sizeOfK k∧∀i,k.toNat≤i→getB xs i=false
theorem Zeq(h:0<sizeOfK k):1≤k∧k≤128∧sizeOfK k=((k+63)/64).toNat:=by
 unfold sizeOfK at*
 split at h
 ·omega
 ·rename_i h1
  rw[if_neg h1]
  omega
theorem ZkA(r t:Nat)(ht:t<64):(fmask r).testBit t=decide (r≤t):=by
 unfold fmask
 rw[show(18446744073709551616:Nat)=2^64 from rfl,Nat.testBit_mod_two_pow,Nat.testBit_mul_two_pow,show(18446744073709551615:Nat)=2^64-1 from rfl,Nat.testBit_two_pow_sub_one]
 simp[ht]
 omega
theorem Zua(x r:Nat)(hx:x<18446744073709551616):(x&&&fmask r=0)↔∀t,t<64→r≤t→x.testBit t=false:=by
 constructor
 ·intro h t ht hr
  have h1:(x&&&fmask r).testBit t=false:=by rw[h];simp
  rw[Nat.testBit_and,ZkA r t ht]at h1
  simpa [hr]using h1
 ·intro h
  apply Nat.eq_of_testBit_eq
  intro t
  rw[Nat.testBit_and,Nat.zero_testBit]
  by_cases ht:t<64
  ·rw[ZkA r t ht]
   by_cases hr:r≤t
   ·simp[h t ht hr]
   ·simp[hr]
  ·have:x.testBit t=false:=Nat.testBit_lt_two_pow (Nat.lt_of_lt_of_le (show x<2^64 by omega) (Nat.pow_le_pow_right (by decide) (by omega)))
   simp[this]
theorem Ztk(h0:0<xs.length)(hs:xs.length=sizeOfK k)(hq:k/64=(xs.length:Int)):cnt (zer xs 0 xs.length)=0∧Za5 k xs:=by
 constructor
 ·apply Zer
  intro i hi
  rw[Zby]at hi
  rw[Zfm,if_pos (by omega)]
 ·exact⟨h0,hs,fun i hi=>Zbn xs i (by omega)⟩
theorem ZvS(hx:smalls xs)(h0:0<xs.length)(hs:xs.length=sizeOfK k)(hk:0≤k)(hq:k/64=(q:Int))(hqn:q<xs.length):
  cnt ((zer xs 0 q).set q (xs.getD q 0&&&fmask (k%64).toNat))=0↔Za5 k xs:=by
 have hp:=Zeq (k:=k) (by omega)
 have hqe:q+1=xs.length:=by omega
 have hy:smalls ((zer xs 0 q).set q (xs.getD q 0&&&fmask (k%64).toNat)):=by
  have hz:smalls (zer xs 0 q):=by
   intro z hz
   obtain⟨i,hi,rfl⟩:=List.getElem_of_mem hz
   have h1:=Zfm q 0 xs i
   have h2:(zer xs 0 q).getD i 0=(zer xs 0 q)[i]:=by simp[List.getD_eq_getElem?_getD,List.getElem?_eq_getElem hi]
   have h3:=hx.get i
   rw[h2]at h1
   show(zer xs 0 q)[i]<18446744073709551616
   rw[h1]
   split
   ·decide
   ·exact h3
  exact hz.set _ _ (Nat.lt_of_le_of_lt Nat.and_le_left (hx.get q))
 have e1:cnt ((zer xs 0 q).set q (xs.getD q 0&&&fmask (k%64).toNat))=0↔xs.getD q 0&&&fmask (k%64).toNat=0:=by
  constructor
  ·intro h
   have h1:=(ZbW _).1 (ZgV _ hy h) q
   rw[ZaP,if_pos ⟨rfl,by rw[Zby];exact hqn⟩]at h1
   exact h1
  ·intro h
   apply Zer
   intro i hi
   rw[List.length_set,Zby]at hi
   rw[ZaP]
   split
   ·exact h
   ·rw[Zfm,if_pos]
    rename_i hne
    rw[Zby]at hne
    omega
 rw[e1,Zua _ _ (hx.get q)]
 constructor
 ·intro h
  refine⟨h0,hs,fun i hi=>?_⟩
  by_cases hi2:64*xs.length≤i
  ·exact Zbn xs i hi2
  ·unfold getB
   rw[show i/64=q by omega]
   exact h (i%64) (by omega) (by omega)
 ·intro h t ht hr
  have:=h.2.2 (64*q+t) (by omega)
  rwa[ZjJ xs q t ht]at this
def RetB(e:Ending)(P:Prop):Prop:=∃b,e=.returned (.bool b)∧(b=true↔P)
theorem RetB.no{P:Prop}(h:¬P):RetB (.returned (.bool false)) P:=⟨false,rfl,by simp[h]⟩
theorem Zff(a:Option Addr)(n c:Nat)(xs:List Nat)(k:Int)(w:World)(h:RowAt w a n xs):
  Calls Tryz.prog 180 #[.int .i64 k,.slice a n c] w fun e w'=>RetB e (Za5 k xs)∧Below w.heap.size w w':=by
 obtain rfl:n=xs.length:=h.1.symm
 have HZ:=hide (Zcd k)
 by_cases h0:xs.length=0
 ·have hb0:((xs.length:Int)==0)=true:=by rw[h0];rfl
  have HF:=hide (show¬Za5 k xs from fun hv=>by have:=hv.1;omega)
  clear h h0
  go_enter Tryz.func180,Tryz.ntmps180
  go_wp2
  go_ret
  exact⟨RetB.no (unhide HF),Below.refl _ _⟩
 ·have hb0:((xs.length:Int)==0)=false:=by simp only[beq_eq_false_iff_ne,ne_eq];omega
  by_cases hs:xs.length=sizeOfK k
  ·have hp:=Zeq (k:=k) (by omega)
   have hb1:((xs.length:Int) !=((sizeOfK k:Nat):Int))=false:=by rw[hs];simp
   have hn2:xs.length≤1048576:=by omega
   obtain⟨q,hq⟩:=Int.eq_ofNat_of_zero_le (show 0≤k/64 by omega)
   have he:∀q:Nat,((q:Int)==0)=true↔q=0:=fun q=>by
    by_cases e:q=0
    ·subst e;simp
    ·simp[e]
   have HE:=hide he
   clear he
   by_cases hqn:q<xs.length
   ·have HV:=hide (ZvS h.2.1 (by omega) hs (by omega) hq hqn)
    have HF:=hide (fun wx (hr:RowAt wx a xs.length xs)=>Zy3 a xs.length c xs k q wx hr hn2 (by omega) (by omega) hq hqn)
    have hres:((zer xs 0 q).set q (xs.getD q 0&&&fmask (k%64).toNat)).length=xs.length:=by rw[List.length_set,Zby]
    have HR:=hide hres
    generalize (zer xs 0 q).set q (xs.getD q 0&&&fmask (k%64).toNat)=res at*
    clear hq hqn hs hres
    go_enter Tryz.func180,Tryz.ntmps180
    go_wp2_with (go_at_call 177;refine(unhide HZ _).mono ?_;rintro e w' ⟨rfl,rfl⟩)
    refine(unhide HF _ h).mono ?_
    rintro e w1 ⟨v,rfl,ho,hb⟩
    obtain⟨a1,c1,rfl,hr⟩:=ho.row
    go_wp2_with fail
    refine(Zbt a1 _ c1 _ _ hr (by rw[unhide HR];omega)).mono ?_
    rintro e w2 ⟨rfl,rfl⟩
    clear ho
    go_wp2
    go_ret
    exact⟨⟨_,rfl,(unhide HE _).trans (unhide HV)⟩,hb⟩
   ·have hqe:k/64=(xs.length:Int):=by omega
    have HV:=hide (Ztk (by omega) hs hqe)
    have HF:=hide (fun wx (hr:RowAt wx a xs.length xs)=>Zvx a xs.length c xs k wx hr hn2 (by omega) (by omega) (by omega) hqe)
    have HR:=hide (Zby xs.length 0 xs)
    generalize zer xs 0 xs.length=res at*
    clear hq hqn hqe hs
    go_enter Tryz.func180,Tryz.ntmps180
    go_wp2_with (go_at_call 177;refine(unhide HZ _).mono ?_;rintro e w' ⟨rfl,rfl⟩)
    refine(unhide HF _ h).mono ?_
    rintro e w1 ⟨v,rfl,ho,hb⟩
    obtain⟨a1,c1,rfl,hr⟩:=ho.row
    go_wp2_with fail
    refine(Zbt a1 _ c1 _ _ hr (by rw[unhide HR];omega)).mono ?_
    rintro e w2 ⟨rfl,rfl⟩
    clear ho
    go_wp2
    go_ret
    exact⟨⟨_,rfl,(unhide HE _).trans ⟨fun _=>(unhide HV).2,fun _=>(unhide HV).1⟩⟩,hb⟩
  ·have hb1:((xs.length:Int) !=((sizeOfK k:Nat):Int))=true:=by rw[bne_iff_ne];omega
   have HF:=hide (show¬Za5 k xs from fun hv=>hs hv.2.1)
   clear h h0 hs
   go_enter Tryz.func180,Tryz.ntmps180
   go_wp2_with (go_at_call 177;refine(unhide HZ _).mono ?_;rintro e w' ⟨rfl,rfl⟩)
   go_ret
   exact⟨RetB.no (unhide HF),Below.refl _ _⟩
theorem Zdr(n:Nat):smalls (List.replicate n 0):=fun x hx=>by rw[(List.mem_replicate.1 hx).2];show 0<18446744073709551616;decide
theorem ZaC(hs:0<sizeOfK k):k.toNat≤64*sizeOfK k∧1≤k∧k≤128:=by
 obtain⟨h1,h2,h3⟩:=Zeq hs
 omega
def Zaj(k:Int)(xs:List Nat):Bool:=decide (0<xs.length)&&decide (xs.length=sizeOfK k)&&(List.range (64*xs.length)).all fun i=>decide (i<k.toNat)|| !getB xs i
theorem Zbq:Zaj k xs=true↔Za5 k xs:=by
 unfold Zaj Za5
 rw[Bool.and_eq_true,Bool.and_eq_true,decide_eq_true_eq,decide_eq_true_eq,List.all_eq_true,and_assoc]
 refine and_congr_right fun _=>and_congr_right fun _=>?_
 constructor
 ·intro h i hi
  by_cases hl:i<64*xs.length
  ·have:=h i (List.mem_range.2 hl)
   rw[decide_eq_false (by omega)]at this
   simpa using this
  ·exact Zbn xs i (by omega)
 ·intro h i _
  by_cases hi:i<k.toNat
  ·simp[hi]
  ·rw[h i (by omega)];simp
theorem Za7(h:Zaj k xs=true):0<sizeOfK k∧xs.length=sizeOfK k∧∀i,getB xs i=true→i<k.toNat:=by
 obtain⟨h1,h2,h3⟩:=Zbq.1 h
 refine⟨by omega,h2,fun i hi=>?_⟩
 rcases Nat.lt_or_ge i k.toNat with h0|h0
 ·exact h0
 ·rw[h3 i h0]at hi;cases hi
theorem retV{e:Ending}(h:RetB e (Za5 k xs)):e=.returned (.bool (Zaj k xs)):=by
 obtain⟨b,rfl,hb⟩:=h
 have:b=Zaj k xs:=by
  cases hv:Zaj k xs
  ·rw[←Bool.not_eq_true]
   intro h
   rw[Zbq.2 (hb.1 h)]at hv
   cases hv
  ·exact hb.2 (Zbq.1 hv)
 rw[this]
def unitL(k i:Int):List Nat:=if i<0∨k≤i then []else setI (List.replicate (sizeOfK k) 0) i true
theorem ZnC{w':World}{n:Nat}(h:w'.ownsRow w.heap.size 69 1 (.slice (some ⟨w.heap.size,0,none⟩) n n) n (madeCells (Value.int .u64 0).cells (n*1)).toList):
  Own w' w.heap.size (.slice (some ⟨w.heap.size,0,none⟩) n n) (List.replicate n 0):=by
 refine⟨fun x hx=>?_,?_⟩
 ·rw[(List.mem_replicate.1 hx).2];show 0<18446744073709551616;decide
 ·have e:cellsU (List.replicate n 0)=(madeCells (Value.int .u64 0).cells (n*1)).toList:=by
   rw[show(Value.int .u64 0).cells=#[Value.int .u64 0] from rfl,toList_madeCells_one]
   simp[cellsU]
  rw[e,List.length_replicate]
  exact h
theorem Zas(k:Int):sizeOfK k≤2:=by
 unfold sizeOfK
 split
 ·omega
 ·omega
theorem ZnU(k i:Int)(w:World)(hi:i≤9223372036854775807):
  Calls Tryz.prog 241 #[.int .i64 k,.int .i64 i] w fun e w'=> ∃v,e=.returned v∧Own w' w.heap.size v (unitL k i)∧Below w.heap.size w w':=by
 have HZ:=hide (Zcd k)
 by_cases hin:i<0∨k≤i
 ·have HU:=hide (show unitL k i=[] from by unfold unitL;rw[if_pos hin])
  by_cases h1:i<0
  ·have hd1:decide (i<0)=true:=by simp;omega
   clear hin
   go_enter Tryz.func241,Tryz.ntmps241
   go_wp2
   go_ret
   exact⟨_,rfl,by rw[unhide HU];exact Own.nil _ _,Below.refl _ _⟩
  ·have hd1:decide (i<0)=false:=by simp;omega
   have hd2:decide (k≤i)=true:=by simp;omega
   clear hin
   go_enter Tryz.func241,Tryz.ntmps241
   go_wp2
   go_ret
   exact⟨_,rfl,by rw[unhide HU];exact Own.nil _ _,Below.refl _ _⟩
 ·have HU:=hide (show unitL k i=setI (List.replicate (sizeOfK k) 0) i true from by unfold unitL;rw[if_neg hin])
  have hd1:decide (i<0)=false:=by simp;omega
  have hd2:decide (k≤i)=false:=by simp;omega
  have hs:=Zas k
  obtain⟨i0,hi0,hz0,hz1,hz2⟩:=info_parts ZeL
  obtain⟨wm,hrun,hown,hgrow⟩:=run_make_full (P:=Tryz.prog) w w.heap.size 32 69 i0 (.int .u64 0) 1 Tryz.underlying32 hi0 hz0 hz1 .i64 .i64 (sizeOfK k) (by rw[hz2];omega) (by unfold maxLen;omega) (Nat.le_refl _)
  have ho:=ZnC hown
  have hb:Below w.heap.size w wm:=(Below.refl _ _).grown hgrow (Nat.le_refl _) (fun k hk=>by cases hk)
  obtain⟨a1,c1,hv,hr⟩:=ho.row
  rw[List.length_replicate]at hv hr
  have hr1:RowAt wm (some ⟨w.heap.size,0,none⟩) (sizeOfK k) (List.replicate (sizeOfK k) 0):=by
   simp only[Value.slice.injEq]at hv
   rw[hv.1];exact hr
  clear hin hown hgrow ho hv hr
  go_enter Tryz.func241,Tryz.ntmps241
  go_wp2_with (go_at_call 177;refine(unhide HZ _).mono ?_;rintro e w' ⟨rfl,hw⟩;obtain rfl:=hw.symm)
  refine(Zsl _ _ _ _ _ _ _ hr1 (by omega) hi).mono ?_
  rintro e w2 ⟨v,rfl,ho2,hb2⟩
  have HO:=hide ho2
  have HB:=hide (hb.trans (hb2.mono hb.size))
  clear ho2 hb2 hr1
  have hbs:=hb.size
  go_wp2
  go_ret
  exact⟨_,rfl,by rw[unhide HU];exact(unhide HO).mono hbs,unhide HB⟩
end Go.Proofs.YtlhhinlghhjghaaGreatDoor
namespace Go.Proofs.YtlhhinlghhjghaaGreatDoor
open Go.RowKit Go.Sort
set_option linter.unusedVariables false
set_option linter.unusedSimpArgs false
set_option maxRecDepth 4000
set_option maxHeartbeats 8000000
variable {k:Int}{bs:List ByteArray}{xs kn:List Nat}{rs:List RV}{b j:Nat}
def anW(x y:Nat):Nat:=x^^^(x&&&y)
theorem Zrx(x y i:Nat):(anW x y).testBit i=(x.testBit i&& !y.testBit i):=by
 unfold anW
 rw[Nat.testBit_xor,Nat.testBit_and]
 cases x.testBit i<;>cases y.testBit i<;>rfl
theorem ZxN(x y:Nat)(hx:x<18446744073709551616):anW x y<18446744073709551616:=by
 unfold anW
 have:x&&&y≤x:=Nat.and_le_left
 exact Nat.xor_lt_two_pow (n:=64) (by omega) (by omega)
theorem Zxf(x:Nat):anW x 0=x:=by simp[anW]
theorem Zzz(x y:Nat)(hx:x<18446744073709551616)(hy:y<18446744073709551616):bits .andNot .u64 (x:Int) (y:Int)=((anW x y:Nat):Int):=by
 rw[u64_andNot_nat x y hx hy]
 congr 1
 apply Nat.eq_of_testBit_eq
 intro i
 rw[Zrx,Nat.testBit_and,show 18446744073709551615-y=2^64-(y+1) by omega,Nat.testBit_two_pow_sub_succ (by omega)]
 by_cases hi:i<64
 ·simp[hi]
 ·have hz:x.testBit i=false:=Nat.testBit_lt_two_pow (Nat.lt_of_lt_of_le (show x<2^64 by omega) (Nat.pow_le_pow_right (by decide) (by omega)))
  simp[hz]
theorem ZvH{a b:List Nat}(hl:a.length=b.length)(ha:smalls a)(hb:smalls b)(h:∀i,getB a i=getB b i):a=b:=by
 apply Za1 hl
 intro i _
 apply Nat.eq_of_testBit_eq
 intro j
 by_cases hj:j<64
 ·have:=h (64*i+j)
  rwa[ZjJ a i j hj,ZjJ b i j hj]at this
 ·have hp:(2:Nat)^64≤2^j:=Nat.pow_le_pow_right (by decide) (by omega)
  have h1:=ha.get i
  have h2:=hb.get i
  rw[Nat.testBit_lt_two_pow (by omega),Nat.testBit_lt_two_pow (by omega)]
theorem Zwa{a b:List Nat}(h:∀i,getB a i=getB b i):∀n,upTo a n=upTo b n
 |0=>rfl
 |n+1=>by unfold upTo;rw[Zwa h n,h n]
theorem Zc1{vs:List Nat}:∀n,upTo vs n=0↔∀i,i<n→getB vs i=false
 |0=>by simp[upTo]
 |n+1=>by
  unfold upTo
  constructor
  ·intro h i hi
   have h1:=(Zc1 (vs:=vs) n).1 (by omega)
   by_cases e:i=n
   ·subst e;cases hg:getB vs i
    ·rfl
    ·rw[hg]at h;simp at h
   ·exact h1 i (by omega)
  ·intro h
   rw[(Zc1 n).2 (fun i hi=>h i (by omega)),h n (by omega)];rfl
theorem Zoz{vs:List Nat}:∀n,upTo vs n=1↔∃b,b<n∧getB vs b=true∧∀i,i<n→i≠b→getB vs i=false
 |0=>by simp[upTo]
 |n+1=>by
  unfold upTo
  cases hg:getB vs n
  ·simp only[Bool.false_eq_true,if_false,Nat.add_zero]
   rw[Zoz n]
   constructor
   ·rintro⟨b,hb,h1,h2⟩
    refine⟨b,by omega,h1,fun i hi hne=>?_⟩
    by_cases e:i=n
    ·rw[e];exact hg
    ·exact h2 i (by omega) hne
   ·rintro⟨b,hb,h1,h2⟩
    have:b≠n:=fun e=>by rw[e,hg]at h1;cases h1
    exact⟨b,by omega,h1,fun i hi hne=>h2 i (by omega) hne⟩
  ·simp only[if_true]
   constructor
   ·intro h
    have h1:=(Zc1 n).1 (show upTo vs n=0 by omega)
    exact⟨n,by omega,hg,fun i hi hne=>h1 i (by omega)⟩
   ·rintro⟨b,hb,h1,h2⟩
    have hbn:b=n:=by
     by_cases e:b=n
     ·exact e
     ·have:=h2 n (by omega) (Ne.symm e);rw[hg]at this;cases this
    subst hbn
    rw[(Zc1 b).2 (fun i hi=>h2 i (by omega) (by omega))]
theorem Zjr:cnt xs=0↔∀i,getB xs i=false:=by
 rw[Zgy,Zc1]
 constructor
 ·intro h i
  by_cases hi:i<64*xs.length
  ·exact h i hi
  ·exact Zbn xs i (by omega)
 ·exact fun h i _=>h i
theorem Zym:cnt xs=1↔∃b,∀i,getB xs i=decide (i=b):=by
 rw[Zgy,Zoz]
 constructor
 ·rintro⟨b,hb,h1,h2⟩
  refine⟨b,fun i=>?_⟩
  by_cases e:i=b
  ·rw[e,h1];simp
  ·rw[decide_eq_false e]
   by_cases hi:i<64*xs.length
   ·exact h2 i hi e
   ·exact Zbn xs i (by omega)
 ·rintro⟨b,h⟩
  have hb:getB xs b=true:=by rw[h b];simp
  refine⟨b,?_,hb,fun i _ hne=>by rw[h i,decide_eq_false hne]⟩
  rcases Nat.lt_or_ge b (64*xs.length)with h0|h0
  ·exact h0
  ·rw[Zbn xs b h0]at hb;cases hb
theorem ZiD:∀{xs:List Nat},smalls xs→(∃i,getB xs i=true)→∃f:Nat,firstI xs=(f:Int)∧getB xs f=true∧∀j,j<f→getB xs j=false
 |[],_,h=>by
  obtain⟨i,hi⟩:=h
  rw[ZnY]at hi
  cases hi
 |x::r,hs,h=>by
  have hx:x<18446744073709551616:=hs x List.mem_cons_self
  by_cases h0:x=0
  ·subst h0
   obtain⟨i,hi⟩:=h
   have hi64:64≤i:=by
    rcases Nat.lt_or_ge i 64 with hl|hl
    ·rw[ZbY 0 r i hl]at hi;simp at hi
    ·exact hl
   obtain⟨f,h1,h2,h3⟩:=ZiD (xs:=r) (fun y hy=>hs y (List.mem_cons_of_mem _ hy)) ⟨i-64,by rw[←ZcL 0 r (i-64),show 64+(i-64)=i by omega];exact hi⟩
   refine⟨64+f,?_,by rw[ZcL];exact h2,fun j hj=>?_⟩
   ·simp only[firstI]
    rw[h1]
    simp
    omega
   ·rcases Nat.lt_or_ge j 64 with hl|hl
    ·rw[ZbY 0 r j hl];simp
    ·have:=h3 (j-64) (by omega)
     rw[←ZcL 0 r (j-64),show 64+(j-64)=j by omega]at this
     exact this
  ·refine⟨Lib.ctz 64 x,by simp[firstI,h0],?_,fun j hj=>?_⟩
   ·rw[ZbY x r _ (Zng x h0 hx)];exact Zr2 x h0 hx
   ·rw[ZbY x r _ (by have:=Zng x h0 hx;omega)];exact Zss x j h0 hx hj
theorem Zqw(hs:smalls xs)(h:∀i,getB xs i=decide (i=b)):firstI xs=(b:Int):=by
 obtain⟨f,h1,h2,_⟩:=ZiD hs ⟨b,by rw[h b];simp⟩
 rw[h f]at h2
 rw[h1,of_decide_eq_true h2]
theorem ZcH(xs:List Nat)(i j:Nat)(on:Bool)(h:i<64*xs.length):getB (setB xs i on) j=if j=i then on else getB xs j:=by
 unfold getB setB
 rw[ZaP]
 by_cases e:j/64=i/64
 ·rw[if_pos ⟨e,by omega⟩,e]
  unfold setW
  by_cases e2:j=i
  ·subst e2
   rw[if_pos rfl]
   split
   ·assumption
   ·rename_i hb
    rw[Nat.testBit_xor,Nat.testBit_two_pow]
    simp only[decide_true]
    cases hx:(xs.getD (j/64) 0).testBit (j%64)<;>rw[hx]at hb<;>cases on<;>simp_all
  ·rw[if_neg e2]
   have hne:¬i%64=j%64:=by omega
   split
   ·rfl
   ·rw[Nat.testBit_xor,Nat.testBit_two_pow]
    simp[hne]
 ·rw[if_neg (by omega),if_neg (fun e2=>e (by rw[e2]))]
theorem ZcS(n i:Nat):getB (List.replicate n 0) i=false:=by
 unfold getB
 rw[show(List.replicate n 0).getD (i/64) 0=0 from ?_]
 ·simp
 ·rw[List.getD_eq_getElem?_getD]
  by_cases h:i/64<n
  ·simp[h]
  ·simp[h]
theorem Zha(h:smalls xs)(i:Nat)(on:Bool):smalls (setB xs i on):=h.set _ _ (ZjI _ _ _ (h.get _) (by omega))
theorem ZlV(hb:(b:Int)<k):unitL k b=setB (List.replicate (sizeOfK k) 0) b true:=by
 unfold unitL setI
 rw[if_neg (by omega),if_neg (by omega),Int.toNat_natCast]
theorem Zea(hb:(b:Int)<k):(unitL k b).length=sizeOfK k:=by
 rw[ZlV hb,Zbh,List.length_replicate]
theorem Zde(hs:0<sizeOfK k)(hb:(b:Int)<k)(i:Nat):getB (unitL k b) i=decide (i=b):=by
 have:=ZaC hs
 rw[ZlV hb,ZcH _ _ _ _ (by rw[List.length_replicate];omega),ZcS]
 by_cases e:i=b
 ·simp[e]
 ·simp[e]
theorem ZaI(hb:(b:Int)<k):smalls (unitL k b):=by rw[ZlV hb];exact Zha (Zdr _) _ _
def dropL(v kn:List Nat):List Nat:=(List.range v.length).map fun i=>anW (v.getD i 0) (kn.getD i 0)
theorem ZbB(v kn:List Nat):(dropL v kn).length=v.length:=by simp[dropL]
theorem Zfs(v kn:List Nat)(i:Nat):(dropL v kn).getD i 0=anW (v.getD i 0) (kn.getD i 0):=by
 unfold dropL
 rw[ZbU]
 split
 ·rfl
 ·rw[ZaS (a:=v) (by omega)];simp[anW]
theorem ZbC(v kn:List Nat)(i:Nat):getB (dropL v kn) i=(getB v i&& !getB kn i):=by
 unfold getB
 rw[Zfs,Zrx]
theorem Za4{v:List Nat}(h:smalls v)(kn:List Nat):smalls (dropL v kn):=by
 intro x hx
 obtain⟨i,hi,rfl⟩:=List.getElem_of_mem hx
 have:=Zfs v kn i
 rw[List.getD_eq_getElem?_getD,List.getElem?_eq_getElem hi]at this
 simp only[Option.getD_some]at this
 rw[this]
 exact ZxN _ _ (h.get i)
def Zdu(v kn:List Nat)(k:Nat):List Nat:=(List.range v.length).map fun i=>if i<k then anW (v.getD i 0) (kn.getD i 0)else v.getD i 0
theorem Zar(v kn:List Nat)(k:Nat):(Zdu v kn k).length=v.length:=by simp[Zdu]
theorem Zcn(v kn:List Nat)(k i:Nat)(h:i<v.length):(Zdu v kn k).getD i 0=if i<k then anW (v.getD i 0) (kn.getD i 0)else v.getD i 0:=by
 unfold Zdu;rw[ZbU,if_pos h]
theorem Zme(v kn:List Nat):Zdu v kn 0=v:=by
 apply Za1 (Zar v kn 0)
 intro i h;rw[Zcn v kn 0 i (by rwa[Zar]at h)];simp
theorem ZlG(v kn:List Nat)(k:Nat)(hk:k<v.length):(Zdu v kn k).set k (anW (v.getD k 0) (kn.getD k 0))=Zdu v kn (k+1):=by
 apply Za1
 ·simp[Zar]
 ·intro i h
  have hi:i<v.length:=by simpa [Zar]using h
  rw[ZaP,Zcn v kn k i hi,Zcn v kn (k+1) i hi,Zar]
  by_cases e:i=k
  ·subst e;simp[hk]
  ·simp only[e,false_and,if_false]
   by_cases h1:i<k
   ·simp[h1,Nat.lt_succ_of_lt h1]
   ·simp[h1,show¬i<k+1 by omega]
theorem Zpm(v kn:List Nat)(k:Nat)(h:min v.length kn.length≤k):Zdu v kn k=dropL v kn:=by
 apply Za1
 ·rw[Zar,ZbB]
 ·intro i hi
  have hi':i<v.length:=by rwa[Zar]at hi
  rw[Zcn v kn _ i hi',Zfs]
  split
  ·rfl
  ·rw[ZaS (a:=kn) (by omega),Zxf]
theorem ZlX(v a b:List Nat)(h:∀i,getB a i=true→getB b i=true)(hs:smalls v):dropL (dropL v a) b=dropL v b:=by
 refine ZvH (by simp[ZbB]) (Za4 (Za4 hs _) _) (Za4 hs _) fun i=>?_
 rw[ZbC,ZbC,ZbC]
 cases ha:getB a i
 ·simp
 ·rw[h i ha];simp
def txtL(bs:List ByteArray)(xs:List Nat)(s:ByteArray):ByteArray:=xorS s (st (ofL bs xs bs.length))
def Zbs(k:Int)(kn:List Nat)(r:RV):Bool:=Zaj k r.xs&&decide (cnt (dropL r.xs kn)=1)
def blkOf(kn:List Nat)(r:RV):Nat:=(firstI (dropL r.xs kn)).toNat
def Run(k:Int)(rs:List RV):Nat→List Nat→List ByteArray→Prop
 |0,kn,bs=>kn=List.replicate (sizeOfK k) 0∧bs=List.replicate k.toNat ByteArray.empty
 |j+1,kn,bs=> ∃kn0 bs0 r,Run k rs j kn0 bs0∧rs.find? (Zbs k kn0)=some r∧kn=setB kn0 (blkOf kn0 r) true∧bs=bs0.set (blkOf kn0 r) (txtL bs0 r.xs r.s)
def PeelP(k:Int)(rs:List RV)(kn:List Nat)(bs:List ByteArray):Prop:=(∃j,Run k rs j kn bs)∧rs.find? (Zbs k kn)=none
theorem Run.uniq:∀{j:Nat} {kn kn':List Nat} {bs bs':List ByteArray},Run k rs j kn bs→Run k rs j kn' bs'→kn=kn'∧bs=bs'
 |0,_,_,_,_,⟨h1,h2⟩,⟨h3,h4⟩=>⟨by rw[h1,h3],by rw[h2,h4]⟩
 |j+1,_,_,_,_,⟨a,b,r,h1,h2,h3,h4⟩,⟨a',b',r',g1,g2,g3,g4⟩=>by
  obtain⟨rfl,rfl⟩:=Run.uniq h1 g1
  rw[h2]at g2
  obtain rfl:=Option.some.inj g2
  exact⟨by rw[h3,g3],by rw[h4,g4]⟩
theorem Run.before:∀{d i:Nat} {kn:List Nat} {bs:List ByteArray},Run k rs (i+d+1) kn bs→∃kn0 bs0 r,Run k rs i kn0 bs0∧rs.find? (Zbs k kn0)=some r
 |0,i,_,_,⟨a,b,r,h1,h2,_⟩=>⟨a,b,r,h1,h2⟩
 |d+1,i,_,_,⟨a,b,r,h1,h2,_⟩=>Run.before (d:=d) h1
theorem PeelP.uniq{kn':List Nat}{bs':List ByteArray}(h:PeelP k rs kn bs)(g:PeelP k rs kn' bs'):kn=kn'∧bs=bs':=by
 obtain⟨⟨j,hj⟩,he⟩:=h
 obtain⟨⟨i,hi⟩,ge⟩:=g
 have key:∀{a b:Nat} {x x':List Nat} {y y':List ByteArray},Run k rs a x y→rs.find? (Zbs k x)=none→Run k rs b x' y'→¬a<b:=by
  intro a b x x' y y' h1 h2 h3 hlt
  obtain⟨x0,y0,r,g1,g2⟩:=Run.before (d:=b-a-1) (i:=a) (by rw[show a+(b-a-1)+1=b by omega];exact h3)
  obtain⟨rfl, -⟩:=Run.uniq h1 g1
  rw[h2]at g2
  cases g2
 have h1:=key hj he hi
 have h2:=key hi ge hj
 obtain rfl:i=j:=by omega
 exact hj.uniq hi
theorem ZyD{f:RV→Bool}{p:Nat}(hp:p<rs.length)(h:f (rs.getD p .dflt)=true)(hn:∀j,j<p→f (rs.getD j .dflt)=false):rs.find? f=some (rs.getD p .dflt):=by
 rw[List.find?_eq_some_iff_getElem]
 rw[List.getD_eq_getElem?_getD,List.getElem?_eq_getElem hp]at h⊢
 refine⟨h,p,hp,rfl,fun j hj=>?_⟩
 have:=hn j hj
 rw[List.getD_eq_getElem?_getD,List.getElem?_eq_getElem (by omega)]at this
 simpa using this
theorem Zyu{f:RV→Bool}(hn:∀j,j<rs.length→f (rs.getD j .dflt)=false):rs.find? f=none:=by
 rw[List.find?_eq_none]
 intro r hr
 obtain⟨i,hi,rfl⟩:=List.mem_iff_getElem.1 hr
 have:=hn i hi
 rw[List.getD_eq_getElem?_getD,List.getElem?_eq_getElem hi]at this
 simpa using this
theorem ZdH{r:RV}(hr:smalls r.xs)(h:Zbs k kn r=true):
  Zaj k r.xs=true∧(∀i,getB (dropL r.xs kn) i=decide (i=blkOf kn r))∧getB kn (blkOf kn r)=false∧getB r.xs (blkOf kn r)=true∧blkOf kn r<k.toNat∧firstI (dropL r.xs kn)=(blkOf kn r:Int):=by
 unfold Zbs at h
 rw[Bool.and_eq_true,decide_eq_true_eq,Zym]at h
 obtain⟨hv,b,hb⟩:=h
 have hf:=Zqw (Za4 hr kn) hb
 have e:blkOf kn r=b:=by unfold blkOf;rw[hf,Int.toNat_natCast]
 rw[e]
 have h1:=hb b
 rw[ZbC]at h1
 simp at h1
 exact⟨hv,hb,h1.2,h1.1,(Za7 hv).2.2 b h1.1,hf⟩
structure Kn(k:Int)(j:Nat)(kn:List Nat)(bs:List ByteArray):Prop where
 size:0<sizeOfK k
 len:kn.length=sizeOfK k
 small:smalls kn
 lenb:bs.length=k.toNat
 below:∀i,getB kn i=true→i<k.toNat
 none:∀i,getB kn i=false→bs.getD i ByteArray.empty=ByteArray.empty
 many:upTo kn k.toNat=j
 short:∀i,(bs.getD i ByteArray.empty).size≤1000
theorem Zcm(ss:List ByteArray)(k i:Nat)(z:ByteArray):(ss.set k z).getD i ByteArray.empty=if i=k∧k<ss.length then z else ss.getD i ByteArray.empty:=by
 rw[List.getD_eq_getElem?_getD,List.getD_eq_getElem?_getD,List.getElem?_set]
 by_cases h:k=i
 ·subst h
  by_cases h2:k<ss.length
  ·simp[h2]
  ·simp[h2]
 ·have h':¬i=k:=fun e=>h e.symm
  simp[h,h']
theorem Zn9(hb:b<64*xs.length)(h:getB xs b=false):∀n,upTo (setB xs b true) n=upTo xs n+if b<n then 1 else 0
 |0=>by simp[upTo]
 |n+1=>by
  unfold upTo
  rw[Zn9 hb h n,ZcH _ _ _ _ hb]
  by_cases e:n=b
  ·subst e;simp[h]
  ·rw[if_neg e]
   have e1:(if b<n+1 then 1 else 0:Nat)=if b<n then 1 else 0:=by
    by_cases h1:b<n
    ·rw[if_pos h1,if_pos (by omega)]
    ·rw[if_neg h1,if_neg (by omega)]
   rw[e1]
   omega
theorem ZxZ{ss:List ByteArray}(h:∀i,(ss.getD i ByteArray.empty).size≤1000)(vs:List Nat):∀n,(ofL ss vs n).length≤1000
 |0=>by simp[ofL]
 |n+1=>by
  have:=ZxZ h vs n
  have:=h n
  unfold ofL
  split
  ·rw[Zae,Zaa];omega
  ·assumption
theorem Zkp{s:ByteArray}(h:∀i,(bs.getD i ByteArray.empty).size≤1000)(hs:s.size≤1000):(txtL bs xs s).size≤1000:=by
 unfold txtL
 rw[Zkg,ZsA (ZcA _ _ _)]
 have:=ZxZ h xs bs.length
 omega
def Good(rs:List RV):Prop:=∀r∈rs,smalls r.xs∧r.s.size≤1000
theorem Kn.start(hs:0<sizeOfK k):Kn k 0 (List.replicate (sizeOfK k) 0) (List.replicate k.toNat ByteArray.empty):=by
 have he:∀i,(List.replicate k.toNat ByteArray.empty).getD i ByteArray.empty=ByteArray.empty:=fun i=>by
  rw[List.getD_eq_getElem?_getD]
  by_cases h:i<k.toNat
  ·simp[h]
  ·simp[h]
 exact⟨hs,by simp,Zdr _,by simp,(fun i hi=>by rw[ZcS]at hi;cases hi),fun i _=>he i,(Zc1 _).2 (fun i _=>ZcS _ _),fun i=>by rw[he];decide⟩
theorem Kn.step(h:Kn k j kn bs){r:RV}(hr:smalls r.xs)(hz:r.s.size≤1000)(ht:Zbs k kn r=true):
  Kn k (j+1) (setB kn (blkOf kn r) true) (bs.set (blkOf kn r) (txtL bs r.xs r.s)):=by
 obtain⟨hv,hb,hk,hx,hlt,hf⟩:=ZdH hr ht
 have hroom:=ZaC h.size
 have hin:blkOf kn r<64*kn.length:=by rw[h.len];omega
 refine⟨h.size,by rw[Zbh];exact h.len,Zha h.small _ _,by rw[List.length_set];exact h.lenb,fun i hi=>?_,fun i hi=>?_,?_,fun i=>?_⟩
 ·rw[ZcH _ _ _ _ hin]at hi
  by_cases e:i=blkOf kn r
  ·rw[e];exact hlt
  ·rw[if_neg e]at hi;exact h.below i hi
 ·rw[ZcH _ _ _ _ hin]at hi
  by_cases e:i=blkOf kn r
  ·rw[if_pos e]at hi;cases hi
  ·rw[if_neg e]at hi
   rw[Zcm,if_neg (fun h=>e h.1)]
   exact h.none i hi
 ·rw[Zn9 hin hk,if_pos hlt,h.many]
 ·rw[Zcm]
  split
  ·exact Zkp h.short hz
  ·exact h.short i
theorem Run.known(hs:0<sizeOfK k)(hg:Good rs):∀{j:Nat} {kn:List Nat} {bs:List ByteArray},Run k rs j kn bs→Kn k j kn bs
 |0,_,_,⟨h1,h2⟩=>by rw[h1,h2];exact .start hs
 |j+1,_,_,⟨a,b,r,h1,h2,h3,h4⟩=>by
  have hm:=hg r (List.mem_of_find?_eq_some h2)
  rw[h3,h4]
  exact(Run.known hs hg h1).step hm.1 hm.2 (List.find?_some h2)
theorem Kn.le(h:Kn k j kn bs):j≤k.toNat:=by
 rw[←h.many];exact ZlI _ _
theorem Kn.shorts(h:Kn k j kn bs):shorts bs:=by
 intro s hs
 obtain⟨i,hi,rfl⟩:=List.mem_iff_getElem.1 hs
 have:=h.short i
 rw[List.getD_eq_getElem?_getD,List.getElem?_eq_getElem hi]at this
 simp only[Option.getD_some]at this
 omega
end Go.Proofs.YtlhhinlghhjghaaGreatDoor
