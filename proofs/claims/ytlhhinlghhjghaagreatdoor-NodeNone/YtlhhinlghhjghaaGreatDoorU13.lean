/-
  The words of float64: those of the numbers from 0 to infinity lie as the numbers do (fl_order); which are above 0 (fl_gt0), at least 1000 (fl_ge), at most another one (fl_le); milN: a rate's thousandths, rounded down, by its word; it rises (milN_mono). No condition.
  Products of float64 words that math.Frexp and pace come to: a number below the least normal one times 2^52 (sub_mul), a fraction from 1/2 on times 2^53 (frac_mul), as an integer (frac_int); bits of words. No condition.
  Contracts of math.Float64bits, Float64frombits (the model's own entries), Abs, IsInf, IsNaN, normalize, frexp, Frexp of a number above 0; of pace.thousandths, pace.Milli of any float. No condition.
  A link in memory ('LkAt': its block, its bucket's, its queue's and the queue's channel); contracts of link.fill and link.New. No condition.
-/
import Derived.WalkLawsBesides
import Derived.Laws.BitsAllLaws
import Derived.Test.YtlhhinlghhjghaaGreatDoorU12
import Derived.Laws.Externs
import Derived.Deep.RegionLaw
namespace Go.Proofs.YtlhhinlghhjghaaGreatDoor
set_option linter.unusedVariables false
set_option linter.unusedSimpArgs false
set_option maxRecDepth 4000
set_option maxHeartbeats 8000000
def mgF(x:Nat):Nat:=if x<4503599627370496 then x else 4503599627370496+x%4503599627370496
def exF(x:Nat):Nat:=if x<4503599627370496 then 0 else x/4503599627370496-1
theorem Zr6:Ieee.double.signWeight=9223372036854775808:=rfl
theorem ZtZ:Ieee.double.binade=4503599627370496:=rfl
theorem Zsk:Ieee.double.infRung=9218868437227405312:=rfl
theorem ZhG:Ieee.double.leastPlace= -1074:=rfl
theorem ZcH(x:Nat)(h:x<9218868437227405312):Ieee.double.read x=.number false (mgF x) (-1074+(exF x:Int)):=by
 have h1:x/9223372036854775808%2=0:=by omega
 have h2:x%9223372036854775808=x:=by omega
 simp only[Ieee.Format.read,Zr6,ZtZ,Zsk,ZhG,h1,h2,mgF,exF]
 by_cases hb:x<4503599627370496
 ·simp[hb]
 ·simp[hb,h]
theorem ZvW(x:Nat)(h:9223372036854775808≤x)(h2:x<18446744073709551616):
  (∃m i,Ieee.double.read x=.number true m i)∨Ieee.double.read x=.infinity true∨∃t,Ieee.double.read x=.nan true t:=by
 have h1:x/9223372036854775808%2=1:=by omega
 simp only[Ieee.Format.read,Zr6,ZtZ,Zsk,ZhG,h1]
 split
 ·exact .inl ⟨_,_,rfl⟩
 ·split
  ·exact .inl ⟨_,_,rfl⟩
  ·split
   ·exact .inr (.inl rfl)
   ·exact .inr (.inr ⟨_,rfl⟩)
theorem Zuw(x:Nat)(h:9218868437227405312<x)(h2:x<9223372036854775808):∃t,Ieee.double.read x=.nan false t:=by
 have h1:x/9223372036854775808%2=0:=by omega
 have h3:x%9223372036854775808=x:=by omega
 simp only[Ieee.Format.read,Zr6,ZtZ,Zsk,ZhG,h1,h3]
 rw[if_neg (by omega),if_neg (by omega),if_neg (by omega)]
 exact⟨_,rfl⟩
theorem ZzZ(x:Nat):x=exF x*4503599627370496+mgF x∧mgF x<9007199254740992∧(0<exF x→4503599627370496≤mgF x):=by
 unfold mgF exF
 by_cases h:x<4503599627370496
 ·rw[if_pos h,if_pos h];omega
 ·rw[if_neg h,if_neg h];omega
theorem ZlW(n:Nat)(h:0<n):2≤2^n:=by
 obtain⟨m,rfl⟩:∃m,n=m+1:=⟨n-1,by omega⟩
 have:=Nat.two_pow_pos m
 rw[Nat.pow_succ];omega
theorem ZgG(a b:Nat):compare (a:Int) (b:Int)=compare a b:=by
 rcases Nat.lt_trichotomy a b with h|h|h
 ·rw[Nat.compare_eq_lt.2 h,Int.compare_eq_lt.2 (by omega)]
 ·subst h;simp
 ·rw[Nat.compare_eq_gt.2 h,Int.compare_eq_gt.2 (by omega)]
theorem Zc4(x y:Nat)(hx:x<9218868437227405312)(hy:y<9218868437227405312):Ieee.double.order x y=some (compare x y):=by
 obtain⟨ex,mx,gx⟩:=ZzZ x
 obtain⟨ey,my,gy⟩:=ZzZ y
 rw[Ieee.Format.order,ZcH x hx,ZcH y hy]
 simp only[Ieee.Datum.order,Ieee.signed,Bool.false_eq_true,if_false,Nat.shiftLeft_eq,ZgG]
 congr 1
 generalize exF x=a at*
 generalize exF y=c at*
 generalize mgF x=m at*
 generalize mgF y=n at*
 rcases Nat.lt_trichotomy a c with h|h|h
 ·have e1:(-1074+(a:Int)-min (-1074+(a:Int)) (-1074+(c:Int))).toNat=0:=by omega
  have e2:(-1074+(c:Int)-min (-1074+(a:Int)) (-1074+(c:Int))).toNat=c-a:=by omega
  rw[e1,e2]
  have:=gy (by omega)
  have p2:=ZlW (c-a) (by omega)
  have:4503599627370496*2≤n*2^(c-a):=Nat.mul_le_mul this p2
  have l1:m*2^0<n*2^(c-a):=by omega
  have l2:x<y:=by omega
  rw[Nat.compare_eq_lt.2 l1,Nat.compare_eq_lt.2 l2]
 ·subst h
  have e1:(-1074+(a:Int)-min (-1074+(a:Int)) (-1074+(a:Int))).toNat=0:=by omega
  rw[e1]
  rcases Nat.lt_trichotomy m n with l|l|l
  ·rw[Nat.compare_eq_lt.2 (by omega),Nat.compare_eq_lt.2 (by omega)]
  ·rw[Nat.compare_eq_eq.2 (by omega),Nat.compare_eq_eq.2 (by omega)]
  ·rw[Nat.compare_eq_gt.2 (by omega),Nat.compare_eq_gt.2 (by omega)]
 ·have e1:(-1074+(a:Int)-min (-1074+(a:Int)) (-1074+(c:Int))).toNat=a-c:=by omega
  have e2:(-1074+(c:Int)-min (-1074+(a:Int)) (-1074+(c:Int))).toNat=0:=by omega
  rw[e1,e2]
  have:=gx (by omega)
  have p2:=ZlW (a-c) (by omega)
  have:4503599627370496*2≤m*2^(a-c):=Nat.mul_le_mul this p2
  have l1:n*2^0<m*2^(a-c):=by omega
  have l2:y<x:=by omega
  rw[Nat.compare_eq_gt.2 l1,Nat.compare_eq_gt.2 l2]
def gtB(b:Nat):Bool:=decide (0<b∧b≤9218868437227405312)
theorem ZAe(b:Nat)(hb:b<18446744073709551616):(Ieee.double.order b 0==some .gt)=gtB b:=by
 rcases Nat.lt_or_ge b 9218868437227405312 with h|h
 ·rw[Zc4 b 0 h (by decide)]
  by_cases h0:b=0
  ·subst h0;rfl
  ·rw[Nat.compare_eq_gt.2 (by omega)]
   exact(decide_eq_true (by omega:0<b∧b≤9218868437227405312)).symm
 ·rcases Nat.lt_or_ge b 9223372036854775808 with h2|h2
  ·by_cases he:b=9218868437227405312
   ·subst he;rfl
   ·obtain⟨t,ht⟩:=Zuw b (by omega) h2
    rw[Ieee.Format.order,ht]
    exact(decide_eq_false (by omega:¬(0<b∧b≤9218868437227405312))).symm
  ·rw[Ieee.Format.order,ZcH 0 (by decide)]
   have hg:gtB b=false:=decide_eq_false (by omega)
   rw[hg]
   rcases ZvW b h2 hb with⟨m,i,hr⟩|hr|⟨t,hr⟩
   ·rw[hr]
    simp only[Ieee.Datum.order,Ieee.signed,if_true,Bool.false_eq_true,if_false,Nat.shiftLeft_eq,show mgF 0=0 from rfl,Nat.zero_mul]
    generalize m*2^_=k
    rcases Nat.eq_zero_or_pos k with h0|h0
    ·subst h0;rfl
    ·rw[Int.compare_eq_lt.2 (by simp;omega)];rfl
   ·rw[hr];rfl
   ·rw[hr];rfl
theorem ZAL(b:Nat)(h:gtB b=true):(Ieee.double.order b 4652007308841189376==some .gt||Ieee.double.order b 4652007308841189376==some .eq)=decide (4652007308841189376≤b):=by
 have hb:0<b∧b≤9218868437227405312:=of_decide_eq_true h
 by_cases he:b=9218868437227405312
 ·subst he;rfl
 ·rw[Zc4 b _ (by omega) (by decide)]
  rcases Nat.lt_trichotomy b 4652007308841189376 with l|l|l
  ·rw[Nat.compare_eq_lt.2 l,decide_eq_false (by omega)];rfl
  ·rw[Nat.compare_eq_eq.2 l,decide_eq_true (by omega)];rfl
  ·rw[Nat.compare_eq_gt.2 l,decide_eq_true (by omega)];rfl
def milN(b:Nat):Nat:=if b<4503599627370496 then 0 else(4503599627370496+b%4503599627370496)*1000/2^(1075-b/4503599627370496)
theorem ZrT(a b:Nat)(h:a≤b)(hb:b<4652007308841189376):milN a≤milN b:=by
 unfold milN
 by_cases ha:a<4503599627370496
 ·rw[if_pos ha];exact Nat.zero_le _
 ·rw[if_neg ha,if_neg (by omega)]
  rcases Nat.lt_or_ge (a/4503599627370496) (b/4503599627370496)with l|l
  ·have hB:b/4503599627370496≤1032:=by omega
   have e:1075-a/4503599627370496=(1075-b/4503599627370496)+(b/4503599627370496-a/4503599627370496):=by omega
   have p2:=ZlW (b/4503599627370496-a/4503599627370496) (by omega)
   rw[e,Nat.pow_add,Nat.mul_comm (2^(1075-b/4503599627370496)),←Nat.div_div_eq_div_mul]
   refine Nat.div_le_div_right ?_
   refine Nat.le_trans (Nat.div_le_div_left p2 (by decide)) ?_
   omega
  ·have e:a/4503599627370496=b/4503599627370496:=by have:=Nat.div_le_div_right (c:=4503599627370496) h;omega
   rw[e]
   refine Nat.div_le_div_right ?_
   have:=Nat.div_add_mod a 4503599627370496
   have:=Nat.div_add_mod b 4503599627370496
   omega
theorem Zzi(b:Nat)(hb:b<4652007308841189376):milN b≤999999:=by
 refine Nat.le_trans (ZrT b 4652007308841189375 (by omega) (by decide)) ?_
 exact Nat.le_of_eq (by decide)
def milZ(b:Nat):Nat:=if gtB b then(if 4652007308841189376≤b then 1000000 else milN b)else 0
theorem Zx1(b:Nat):milZ b≤1000000:=by
 unfold milZ
 split
 ·split
  ·exact Nat.le_refl _
  ·exact Nat.le_trans (Zzi b (by omega)) (by decide)
 ·decide
theorem ZyI(n k:Nat)(h1:2^k≤n)(h2:n<2^(k+1)):n.log2=k:=by
 have hn:n≠0:=by have:=Nat.two_pow_pos k;omega
 have a:=(Nat.le_log2 hn).2 h1
 have b:=(Nat.log2_lt hn).2 h2
 omega
theorem Zvq(n:Nat):Ieee.Toward.cut .zero false n 0=n:=by
 simp[Ieee.Toward.cut]
theorem ZyZ(b:Nat)(h0:0<b)(h:b<4503599627370496):∃y,floatBits .mul .f64 b 4841369599423283200=some y∧y≤238690780250636288:=by
 refine⟨Ieee.double.nearest false (b*4503599627370496) (-1074),?_,?_⟩
 ·show Ieee.double.mul b 4841369599423283200=_
  rw[Ieee.Format.mul,ZcH b (by omega),ZcH 4841369599423283200 (by decide)]
  have e1:mgF b=b:=by rw[mgF,if_pos h]
  have e2:exF b=0:=by rw[exF,if_pos h]
  rw[e1,e2,show mgF 4841369599423283200=4503599627370496 from rfl,show exF 4841369599423283200=1074 from rfl]
  rfl
 ·have hn:b*4503599627370496≠0:=by omega
  have l1:52≤(b*4503599627370496).log2:=(Nat.le_log2 hn).2 (by show 2^52≤_;omega)
  have l2:(b*4503599627370496).log2<104:=(Nat.log2_lt hn).2 (by show _<2^104;omega)
  have l3:b*4503599627370496<2^((b*4503599627370496).log2+1):=Nat.lt_log2_self
  generalize b*4503599627370496=n at*
  unfold Ieee.Format.nearest
  rw[if_neg hn]
  simp only[ZhG,ZtZ,Zsk,show Ieee.double.fractionBits=52 from rfl]
  have hg:1<<<min (n.log2-52) (n.log2+2)=2^(n.log2-52):=by rw[Nat.min_eq_left (by omega),Nat.shiftLeft_eq,Nat.one_mul]
  have hlow:n/2^(n.log2-52)<9007199254740992:=by
   refine Nat.div_lt_of_lt_mul (Nat.lt_of_lt_of_eq l3 ?_)
   rw[show(9007199254740992:Nat)=2^53 from rfl,←Nat.pow_add]
   exact congrArg _ (by omega)
  have e1:max (-1074+(n.log2:Int)-((52:Nat):Int)) (-1074)= -1074+(n.log2:Int)-52:=by omega
  rw[e1]
  have e2:(-1074-(-1074+(n.log2:Int)-52)).toNat=0:=by omega
  have e3:(-1074+(n.log2:Int)-52 - -1074).toNat=n.log2-52:=by omega
  rw[e2,e3,Nat.shiftLeft_zero]
  have hk:Ieee.Toward.cut .even false n (n.log2-52)≤9007199254740992:=by
   simp only[Ieee.Toward.cut,hg]
   refine Nat.le_trans (Nat.add_le_add_left (Bool.toNat_le _) _) ?_
   omega
  rw[Ieee.Format.word]
  simp only[Bool.false_eq_true,if_false]
  refine Nat.le_trans (Nat.min_le_left _ _) ?_
  omega
theorem ZwM(m:Nat)(h:m<4503599627370496):floatBits .mul .f64 (4602678819172646912+m) 4845873199050653696=some (4841369599423283200+m):=by
 show Ieee.double.mul _ 4845873199050653696=_
 rw[Ieee.Format.mul,ZcH (4602678819172646912+m) (by omega),ZcH 4845873199050653696 (by decide)]
 have e1:mgF (4602678819172646912+m)=4503599627370496+m:=by rw[mgF,if_neg (by omega)];omega
 have e2:exF (4602678819172646912+m)=1021:=by rw[exF,if_neg (by omega)];omega
 rw[e1,e2,show mgF 4845873199050653696=4503599627370496 from rfl,show exF 4845873199050653696=1075 from rfl]
 show some (Ieee.double.nearest false ((4503599627370496+m)*4503599627370496) (-52))=_
 have hl:((4503599627370496+m)*4503599627370496).log2=104:=ZyI _ _ (by show 2^104≤_;omega) (by show _<2^105;omega)
 unfold Ieee.Format.nearest
 rw[if_neg (by omega),hl]
 have hc:Ieee.Toward.cut .even false ((4503599627370496+m)*4503599627370496) 52=4503599627370496+m:=by
  have hg:1<<<min 52 (104+2)=4503599627370496:=rfl
  simp only[Ieee.Toward.cut,hl,hg]
  rw[Nat.mul_div_cancel _ (by decide),Nat.mul_mod_left]
  rfl
 simp only[ZhG,ZtZ,Zsk,show Ieee.double.fractionBits=52 from rfl]
 rw[show max (-52+((104:Nat):Int)-((52:Nat):Int)) (-1074)=0 from rfl,show(-52-(0:Int)).toNat=0 from rfl,show((0:Int) - -52).toNat=52 from rfl,show((0:Int) - -1074).toNat=1074 from rfl,Nat.shiftLeft_zero,hc,Ieee.Format.word]
 simp only[Bool.false_eq_true,if_false]
 congr 1
 omega
theorem Zu6(m:Nat)(h:m<4503599627370496):floatToIntVal .f64 (4841369599423283200+m) .u64=some ((4503599627370496+m:Nat):Int):=by
 have e1:mgF (4841369599423283200+m)=4503599627370496+m:=by rw[mgF,if_neg (by omega)];omega
 have e2:exF (4841369599423283200+m)=1074:=by rw[exF,if_neg (by omega)];omega
 have hd:FloatKind.f64.decode (4841369599423283200+m)=.number false (4503599627370496+m) 0:=by
  show Ieee.double.read _=_
  rw[ZcH _ (by omega),e1,e2]
  rfl
 have ht:(Ieee.Datum.number false (4503599627370496+m) 0).toInt .zero=some ((4503599627370496+m:Nat):Int):=by
  show some (Ieee.signed false (Ieee.Toward.cut .zero false ((4503599627370496+m)<<<(0:Int).toNat) (-(0:Int)).toNat) 0)=_
  rw[show(0:Int).toNat=0 from rfl,show(-(0:Int)).toNat=0 from rfl,Nat.shiftLeft_zero,Zvq,Ieee.signed]
  simp only[Bool.false_eq_true,if_false,Nat.shiftLeft_zero]
 rw[floatToIntVal,hd,ht]
 simp only
 rw[if_pos]
 have a:IntKind.u64.min=0:=rfl
 have b:IntKind.u64.max=18446744073709551615:=rfl
 omega
theorem Zlz(k x:Nat):x&&&(2^k-1)=x%2^k:=Nat.and_two_pow_sub_one_eq_mod x k
theorem Zqy(b:Nat)(h:b<9223372036854775808):bits .andNot .u64 (b:Int) 9223372036854775808=(b:Int):=by
 have:=u64_andNot_nat b 9223372036854775808 (by omega) (by decide)
 rw[show((9223372036854775808:Nat):Int)=9223372036854775808 from rfl]at this
 rw[this,show 18446744073709551615-9223372036854775808=2^63-1 from rfl,Zlz,Nat.mod_eq_of_lt (by omega)]
theorem Zw6(y:Nat)(h:y<9223372036854775808):bits .andNot .u64 (y:Int) 9218868437227405312=((y%4503599627370496:Nat):Int):=by
 have:=u64_andNot_nat y 9218868437227405312 (by omega) (by decide)
 rw[show((9218868437227405312:Nat):Int)=9218868437227405312 from rfl]at this
 rw[this,show 18446744073709551615-9218868437227405312=2^63*1+(2^52-1) from rfl,Nat.two_pow_add_eq_or_of_lt (by decide),Nat.and_or_distrib_left,Zlz]
 have:y&&&2^63*1=0:=by
  rw[Nat.mul_one]
  apply Nat.eq_of_testBit_eq
  intro i
  rw[Nat.testBit_and,Nat.zero_testBit,Nat.testBit_two_pow]
  by_cases hi:63=i
  ·subst hi
   rw[Nat.testBit_lt_two_pow (by omega:y<2^63)];rfl
  ·rw[decide_eq_false hi,Bool.and_false]
 rw[this,Nat.zero_or]
theorem Zri(m:Nat)(h:m<4503599627370496):bits .or .u64 (m:Int) 4602678819172646912=((4602678819172646912+m:Nat):Int):=by
 have:=u64_or_nat m 4602678819172646912 (by omega) (by decide)
 rw[show((4602678819172646912:Nat):Int)=4602678819172646912 from rfl]at this
 rw[this,show(4602678819172646912:Nat)=2^52*1022 from rfl,Nat.two_pow_add_eq_or_of_lt h,Nat.or_comm]
theorem Zqi(n:Nat)(h:n<2048):bits .and .u64 (n:Int) 2047=(n:Int):=by
 have:=u64_and_nat n 2047 (by omega) (by decide)
 rw[show((2047:Nat):Int)=2047 from rfl]at this
 rw[this,show(2047:Nat)=2^11-1 from rfl,Zlz,Nat.mod_eq_of_lt (by omega)]
end Go.Proofs.YtlhhinlghhjghaaGreatDoor
namespace Go.Proofs.YtlhhinlghhjghaaGreatDoor
open Go.RowKit
set_option linter.unusedVariables false
set_option linter.unusedSimpArgs false
set_option maxRecDepth 4000
set_option maxHeartbeats 8000000
theorem ZkD(b:Nat)(w:World):(callFunc 274 #[.float .f64 b]).run Tryz.prog w=.ok (.value (.int .u64 b)) w:=by
 rw[run_callFunc_extern Tryz.func274 (by kernel_rfl) (by kernel_rfl) (by kernel_rfl) (e:=Extern.MathFloatBits.float64bits) (by kernel_rfl)]
 rfl
theorem Zk4(n:Nat)(w:World):(callFunc 275 #[.int .u64 n]).run Tryz.prog w=.ok (.value (.float .f64 n)) w:=by
 rw[run_callFunc_extern Tryz.func275 (by kernel_rfl) (by kernel_rfl) (by kernel_rfl) (e:=Extern.MathFloatBits.float64frombits) (by kernel_rfl)]
 rfl
theorem Zl8(b:Nat)(hb:b<9223372036854775808)(w:World):Calls Tryz.prog 308 #[.float .f64 b] w fun e w'=>e=.returned (.float .f64 b)∧w'=w:=by
 have h1:=ZkD b w
 have h2:=Zk4 b w
 have h3:=Zqy b hb
 go_enter Tryz.func308,Tryz.ntmps308
 go_wp2
 go_ret
 exact⟨rfl,rfl⟩
theorem Zr9(b:Nat)(hb:b<9218868437227405312)(w:World):Calls Tryz.prog 271 #[.float .f64 b,.int .i64 0] w fun e w'=>e=.returned (.bool false)∧w'=w:=by
 have h1:(FloatKind.f64.format.order b 9218868437227405311==some .gt)=false:=by
  show(Ieee.double.order b 9218868437227405311==some .gt)=false
  rw[Zc4 b _ hb (by decide)]
  rcases Nat.lt_or_ge b 9218868437227405311 with l|l
  ·rw[Nat.compare_eq_lt.2 l];rfl
  ·rw[Nat.compare_eq_eq.2 (by omega)];rfl
 go_enter Tryz.func271,Tryz.ntmps271
 go_wp2_with (first
  |(go_at_call 308;refine(Zl8 b (by omega) _).mono ?_;rintro e w1 ⟨rfl,rfl⟩)
  |fail)
 go_ret
 exact⟨rfl,rfl⟩
theorem Zsw(b:Nat)(hb:b<9218868437227405312)(w:World):Calls Tryz.prog 272 #[.float .f64 b] w fun e w'=>e=.returned (.bool false)∧w'=w:=by
 have h1:(FloatKind.f64.format.order b b !=some .eq)=false:=by
  show(Ieee.double.order b b !=some .eq)=false
  rw[Zc4 b _ hb hb,Nat.compare_eq_eq.2 rfl];rfl
 go_enter Tryz.func272,Tryz.ntmps272
 go_wp2
 go_ret
 exact⟨rfl,rfl⟩
theorem ZuF(b:Nat)(hb:b<9218868437227405312)(h:4503599627370496≤b)(w:World):Calls Tryz.prog 273 #[.float .f64 b] w fun e w'=>e=.returned (.tuple #[.float .f64 b,.int .i64 0])∧w'=w:=by
 have h1:(FloatKind.f64.format.order b 4503599627370496==some .lt)=false:=by
  show(Ieee.double.order b 4503599627370496==some .lt)=false
  rw[Zc4 b _ hb (by decide)]
  rcases Nat.lt_or_ge 4503599627370496 b with l|l
  ·rw[Nat.compare_eq_gt.2 l];rfl
  ·rw[Nat.compare_eq_eq.2 (by omega)];rfl
 go_enter Tryz.func273,Tryz.ntmps273
 go_wp2_with (first
  |(go_at_call 308;refine(Zl8 b (by omega) _).mono ?_;rintro e w1 ⟨rfl,rfl⟩)
  |fail)
 go_ret2
 exact⟨rfl,rfl⟩
theorem ZuE(b y:Nat)(h:b<4503599627370496)(hy:floatBits .mul .f64 b 4841369599423283200=some y)(w:World):Calls Tryz.prog 273 #[.float .f64 b] w fun e w'=>e=.returned (.tuple #[.float .f64 y,.int .i64 (-52)])∧w'=w:=by
 have h1:(FloatKind.f64.format.order b 4503599627370496==some .lt)=true:=by
  show(Ieee.double.order b 4503599627370496==some .lt)=true
  rw[Zc4 b _ (by omega) (by decide),Nat.compare_eq_lt.2 h];rfl
 have h2:=run_float_arith (P:=Tryz.prog) w .mul 23 .f64 b 4841369599423283200 y hy
 go_enter Tryz.func273,Tryz.ntmps273
 go_wp2_with (first
  |(go_at_call 308;refine(Zl8 b (by omega) _).mono ?_;rintro e w1 ⟨rfl,rfl⟩)
  |fail)
 go_ret2
 exact⟨rfl,rfl⟩
theorem ZnW(b y:Nat)(d:Int)(h0:0<b)(hb:b<9218868437227405312)(hy:y<9218868437227405312)(hd: -52≤d∧d≤0)
  (hn:∀w,Calls Tryz.prog 273 #[.float .f64 b] w fun e w'=>e=.returned (.tuple #[.float .f64 y,.int .i64 d])∧w'=w) (w:World):
  Calls Tryz.prog 235 #[.float .f64 b] w fun e w'=>e=.returned (.tuple #[.float .f64 (4602678819172646912+y%4503599627370496),.int .i64 (d+((y/4503599627370496:Nat):Int)-1022)])∧w'=w:=by
 have h1:(FloatKind.f64.format.order b 0==some .eq)=false:=by
  show(Ieee.double.order b 0==some .eq)=false
  rw[Zc4 b _ hb (by decide),Nat.compare_eq_gt.2 h0];rfl
 have h2:=ZkD y w
 have h3:=Zk4 (4602678819172646912+y%4503599627370496) w
 have h4:=Zw6 y (by omega)
 have h5:=Zri (y%4503599627370496) (by omega)
 have h6:=Zqi (y/4503599627370496) (by omega)
 rw[show((4602678819172646912+y%4503599627370496:Nat):Int)=4602678819172646912+(y:Int)%4503599627370496 by omega]at h3 h5
 rw[show((y%4503599627370496:Nat):Int)=(y:Int)%4503599627370496 by omega]at h4 h5
 rw[show((y/4503599627370496:Nat):Int)=(y:Int)/4503599627370496 by omega]at h6
 have h7:0≤(y:Int)/4503599627370496:=by omega
 have h8:(y:Int)/4503599627370496≤2047:=by omega
 go_enter Tryz.func235,Tryz.ntmps235
 go_wp2_with (first
  |(go_at_call 271;refine(Zr9 b hb _).mono ?_;rintro e w1 ⟨rfl,rfl⟩)
  |(go_at_call 272;refine(Zsw b hb _).mono ?_;rintro e w1 ⟨rfl,rfl⟩)
  |(go_at_call 273;refine(hn _).mono ?_;rintro e w1 ⟨rfl,rfl⟩)
  |fail)
 go_ret2
 rw[show d+((y:Int)/4503599627370496-1023+1)=d+((y/4503599627370496:Nat):Int)-1022 by omega]
 exact⟨rfl,rfl⟩
theorem Znu(b f:Nat)(E:Int)(hn:∀w,Calls Tryz.prog 235 #[.float .f64 b] w fun e w'=>e=.returned (.tuple #[.float .f64 f,.int .i64 E])∧w'=w)(w:World):
  Calls Tryz.prog 201 #[.float .f64 b] w fun e w'=>e=.returned (.tuple #[.float .f64 f,.int .i64 E])∧w'=w:=by
 go_enter Tryz.func201,Tryz.ntmps201
 go_wp2_with (first
  |(go_at_call 235;refine(hn _).mono ?_;rintro e w1 ⟨rfl,rfl⟩)
  |fail)
 go_ret2
 exact⟨rfl,rfl⟩
theorem ZmK(b m:Nat)(E:Int)(hm:m<4503599627370496)(hE: -1200≤E∧E≤53)
  (hn:∀w,Calls Tryz.prog 201 #[.float .f64 b] w fun e w'=>e=.returned (.tuple #[.float .f64 (4602678819172646912+m),.int .i64 E])∧w'=w) (w:World):
  Calls Tryz.prog 172 #[.float .f64 b] w fun e w'=>e=.returned (.int .i64 (((4503599627370496+m)*1000/2^min (53-E).toNat 64:Nat):Int))∧w'=w:=by
 have h1:=run_float_arith (P:=Tryz.prog) w .mul 23 .f64 _ 4845873199050653696 _ (ZwM m hm)
 have h2:=run_convert_float_int (P:=Tryz.prog) w 23 69 .f64 .u64 _ _ (by rw[Tryz.underlying23];rfl) Tryz.underlying69 (Zu6 m hm)
 go_enter Tryz.func172,Tryz.ntmps172
 go_wp2_with (first
  |(go_at_call 201;refine(hn _).mono ?_;rintro e w1 ⟨rfl,rfl⟩)
  |fail)
 go_ret
 have hc:((4503599627370496+(m:Int))*1000/2^min (53-E).toNat 64)=(((4503599627370496+m)*1000/2^min (53-E).toNat 64:Nat):Int):=by
  generalize min (53-E).toNat 64=k
  rw[Int.natCast_ediv,Int.natCast_mul,Int.natCast_add,Int.natCast_pow];rfl
 have hl:(4503599627370496+m)*1000/2^min (53-E).toNat 64≤(4503599627370496+m)*1000:=Nat.div_le_self _ _
 rw[hc]
 generalize (4503599627370496+m)*1000/2^min (53-E).toNat 64=q at*
 rw[show wrap64 (q:Int)=q by unfold wrap64;omega]
 exact⟨rfl,rfl⟩
theorem Zte(b:Nat)(h0:0<b)(hb:b<4652007308841189376)(w:World):Calls Tryz.prog 172 #[.float .f64 b] w fun e w'=>e=.returned (.int .i64 (milN b:Nat))∧w'=w:=by
 by_cases h:b<4503599627370496
 ·obtain⟨y,hy,hl⟩:=ZyZ b h0 h
  have hm:y%4503599627370496<4503599627370496:=Nat.mod_lt _ (by decide)
  refine(ZmK b (y%4503599627370496) (-52+((y/4503599627370496:Nat):Int)-1022) hm (by omega) (Znu b _ _ (ZnW b y (-52) h0 (by omega) (by omega) (by omega) (ZuE b y h hy))) w).mono ?_
  rintro e w' ⟨rfl,rfl⟩
  rw[milN,if_pos h,show min (53-(-52+((y/4503599627370496:Nat):Int)-1022)).toNat 64=64 by omega,Nat.div_eq_of_lt (by omega)]
  exact⟨rfl,rfl⟩
 ·have hm:b%4503599627370496<4503599627370496:=Nat.mod_lt _ (by decide)
  refine(ZmK b (b%4503599627370496) (0+((b/4503599627370496:Nat):Int)-1022) hm (by omega) (Znu b _ _ (ZnW b b 0 h0 (by omega) (by omega) (by omega) (ZuF b (by omega) (by omega)))) w).mono ?_
  rintro e w' ⟨rfl,rfl⟩
  rw[milN,if_neg h]
  by_cases hk:b/4503599627370496≤1011
  ·rw[show min (53-(0+((b/4503599627370496:Nat):Int)-1022)).toNat 64=64 by omega,Nat.div_eq_of_lt (by omega),Nat.div_eq_of_lt]
   ·exact⟨rfl,rfl⟩
   ·refine Nat.lt_of_lt_of_le (m:=2^64) (by omega) (Nat.pow_le_pow_right (by decide) (by omega))
  ·rw[show min (53-(0+((b/4503599627370496:Nat):Int)-1022)).toNat 64=1075-b/4503599627370496 by omega]
   exact⟨rfl,rfl⟩
theorem ZrJ(b:Nat)(hb:b<18446744073709551616)(w:World):Calls Tryz.prog 120 #[.float .f64 b] w fun e w'=>e=.returned (.int .i64 (milZ b:Nat))∧w'=w:=by
 have h1:(FloatKind.f64.format.order b 0==some .gt)=gtB b:=ZAe b hb
 unfold milZ
 cases hg:gtB b
 ·rw[hg]at h1
  go_enter Tryz.func120,Tryz.ntmps120
  go_wp2
  go_ret
  exact⟨rfl,rfl⟩
 ·have h2:(FloatKind.f64.format.order b 4652007308841189376==some .gt||FloatKind.f64.format.order b 4652007308841189376==some .eq)=decide (4652007308841189376≤b):=ZAL b hg
  rw[hg]at h1
  have hp:0<b:=(of_decide_eq_true hg).1
  by_cases hk:4652007308841189376≤b
  ·rw[decide_eq_true hk]at h2
   rw[if_pos rfl,if_pos hk]
   go_enter Tryz.func120,Tryz.ntmps120
   go_wp2
   go_ret
   exact⟨rfl,rfl⟩
  ·rw[decide_eq_false hk]at h2
   rw[if_pos rfl,if_neg hk]
   go_enter Tryz.func120,Tryz.ntmps120
   go_wp2_with (first
    |(go_at_call 172;refine(Zte b hp (by omega) _).mono ?_;rintro e w1 ⟨rfl,rfl⟩)
    |fail)
   go_ret
   exact⟨rfl,rfl⟩
end Go.Proofs.YtlhhinlghhjghaaGreatDoor
namespace Go.Proofs.YtlhhinlghhjghaaGreatDoor
open Go.RowKit Go.Conc
set_option linter.unusedVariables false
set_option linter.unusedSimpArgs false
set_option maxRecDepth 4000
set_option maxHeartbeats 8000000
variable {M q Lv:Int}{L:List ByteArray}{g c gb gq lo:Nat}{w w':World}
structure LkAt(w:World)(g gb gq c:Nat)(M q Lv:Int)(L:List ByteArray)(lo:Nat):Prop where
 blk:BkA 190 w g [.int .i64 M,.int .i64 q,.pointer (some ⟨gb,0,none⟩),.pointer (some ⟨gq,0,none⟩)]
 bt:BtAt w gb M (1000*wiZ q 1 256) Lv
 qu:QuAt w gq c (capN q) L lo
def lkF(g gb gq c:Nat)(j:Nat):Prop:=j=g∨j=gb∨j=gq∨j=c
theorem BkA.neC{T:TypeId}{cs:List Value}{cap:Nat}{buf:Array Value}{cl:Bool}{s r:Nat}{tm:Bool}(h:BkA T w g cs)(hc:w.heap[c]? =some (.chan cap buf cl s r tm)):g≠c:=fun e=>by
 unfold BkA at h
 rw[e,hc]at h
 cases h
theorem BkA.neB{T T':TypeId}{g':Nat}{cs cs':List Value}(h:BkA T w g cs)(h':BkA T' w g' cs')(hT:T≠T'):g≠g':=by
 unfold BkA at h'
 exact h.ne h' hT
theorem LkAt.lt(h:LkAt w g gb gq c M q Lv L lo):g<w.heap.size∧gb<w.heap.size∧gq<w.heap.size∧c<w.heap.size:=
 ⟨h.blk.lt,h.bt.blk.lt,h.qu.lt.1,h.qu.lt.2⟩
theorem LkAt.ne(h:LkAt w g gb gq c M q Lv L lo):(g≠gb∧g≠gq∧g≠c)∧(gb≠gq∧gb≠c)∧gq≠c:=by
 obtain⟨s,r,hc⟩:=h.qu.chn
 exact⟨⟨h.blk.neB h.bt.blk (by decide),h.blk.neB h.qu.blk (by decide),h.blk.neC hc⟩,⟨h.bt.blk.neB h.qu.blk (by decide),h.bt.blk.neC hc⟩,h.qu.ne⟩
theorem LkAt.tu{F:Nat→Prop}(h:LkAt w g gb gq c M q Lv L lo)(ht:Tu F w w')(h1:¬F g)(h2:¬F gb)(h3:¬F gq)(h4:¬F c):LkAt w' g gb gq c M q Lv L lo:=
 ⟨h.blk.tu ht h1,h.bt.tu ht h2,h.qu.tu ht h3 h4⟩
theorem LkAt.below(h:LkAt w g gb gq c M q Lv L lo)(hb:Below w.heap.size w w'):LkAt w' g gb gq c M q Lv L lo:=
 h.tu (F:=fun _=>False) (Tu.of_below hb) id id id id
theorem LkAt.belowB{B:Nat}(h:LkAt w g gb gq c M q Lv L lo)(hb:Below B w w')(h1:g<B)(h2:gb<B)(h3:gq<B)(h4:c<B):LkAt w' g gb gq c M q Lv L lo:=
 ⟨h.blk.belowB hb h1,⟨h.bt.blk.belowB hb h2,h.bt.mil,h.bt.top,h.bt.lev⟩,h.qu.belowB hb h3 h4⟩
theorem LkAt.lev{Lv':Int}(h:LkAt w g gb gq c M q Lv L lo)(hb:BtAt w' gb M (1000*wiZ q 1 256) Lv')(ht:Tu (fun j=>j=gb) w w'):LkAt w' g gb gq c M q Lv' L lo:=
 ⟨h.blk.tu ht h.ne.1.1,hb,h.qu.tu ht (fun e=>h.ne.2.1.1 e.symm) (fun e=>h.ne.2.1.2 e.symm)⟩
theorem LkAt.que{lo':Nat}{L':List ByteArray}(h:LkAt w g gb gq c M q Lv L lo)(hq:QuAt w' gq c (capN q) L' lo')(ht:Tu (quF gq c) w w'):LkAt w' g gb gq c M q Lv L' lo':=
 ⟨h.blk.tu ht (fun e=>e.elim h.ne.1.2.1 h.ne.1.2.2),h.bt.tu ht (fun e=>e.elim h.ne.2.1.1 h.ne.2.1.2),hq⟩
theorem ZAN(ht:Tu (fun j=>j=gb) w w'):Tu (lkF g gb gq c) w w':=ht.wide fun j e=>.inr (.inl e)
theorem Zun(ht:Tu (quF gq c) w w'):Tu (lkF g gb gq c) w w':=ht.wide fun j e=>.inr (.inr e)
theorem Zjy{w1 w2:World}(h:Tu (lkF g gb gq c) w w1)(k:Tu (lkF g gb gq c) w1 w2):Tu (lkF g gb gq c) w w2:=h.trans k fun _ _ e=>e
theorem ZpT(g:Nat)(M q:Int)(u v:Value)(w:World)(h:BkA 190 w g [.int .i64 M,.int .i64 q,u,v])(hM:0≤M∧M≤1000000):
  Calls Tryz.prog 122 #[.pointer (some ⟨g,0,none⟩)] w fun e w'=>e=.returned (.tuple #[])∧∃gb,w.heap.size≤gb∧BkA 190 w' g [.int .i64 M,.int .i64 q,.pointer (some ⟨gb,0,none⟩),v]∧BtAt w' gb M (1000*wiZ q 1 256) (1000*wiZ q 1 256)∧Tu (fun j=>j=g) w w':=by
 have h0:=h.at 0 rfl
 have h1:=h.at 1 rfl
 have hN:∀wx,Below w.heap.size w wx→Calls Tryz.prog 173 #[.int .i64 M,.int .i64 q] wx fun e w'=> ∃gb,e=.returned (.pointer (some ⟨gb,0,none⟩))∧Hid (w.heap.size≤gb∧BkA 190 w' g [.int .i64 M,.int .i64 q,u,v]∧BtAt w' gb M (1000*wiZ q 1 256) (1000*wiZ q 1 256)∧Below w.heap.size w w'):=by
  intro wx hx
  refine(ZuX M q wx).mono ?_
  rw[ZzC hM.1 hM.2]
  rintro e w' ⟨gb,he,h2,h3,h4⟩
  exact⟨gb,he,hide ⟨Nat.le_trans hx.size h2,h.below (below0 hx h4),h3,below0 hx h4⟩⟩
 have HN:=hide (hN _ (Below.refl w.heap.size w).drew)
 clear hN
 have H:=hide h
 clear h
 go_enter Tryz.func122,Tryz.ntmps122
 go_wp2_with fail
 go_region_law (first
  |(go_simp;go_at_call 173;refine(unhide HN).mono ?_;rintro e w1 ⟨gb,rfl,HG⟩;have k1:=(unhide HG).2.1.frz 2;have k2:=(unhide HG).2.1.at 2 rfl))
 all_goals go_wp2
 all_goals go_end0
 all_goals refine⟨rfl,gb,(unhide HG).1,(unhide HG).2.1.set 2 _,(unhide HG).2.2.1.tu (Zav _ _ _ _) (fun e=>?_),Tu.after (unhide HG).2.2.2 (Zav _ _ _ _)⟩
 all_goals exact(unhide HG).2.1.neB (unhide HG).2.2.1.blk (by decide) e.symm
theorem Zs5(b:Nat)(hb:b<18446744073709551616)(q:Int)(w:World):
  Calls Tryz.prog 61 #[.float .f64 b,.int .i64 q] w fun e w'=> ∃g gb gq c,e=.returned (.pointer (some ⟨g,0,none⟩))∧(w.heap.size≤g∧w.heap.size≤gb∧w.heap.size≤gq∧w.heap.size≤c)∧LkAt w' g gb gq c (milZ b:Nat) q (1000*wiZ q 1 256) [] 0∧Below w.heap.size w w':=by
 have hM:0≤((milZ b:Nat):Int)∧((milZ b:Nat):Int)≤1000000:=by have:=Zx1 b;omega
 have HM:=hide (ZrJ b hb w)
 generalize ((milZ b:Nat):Int)=M at*
 go_enter Tryz.func61,Tryz.ntmps61
 go_wp2_with (first
  |(go_at_call 120;refine(unhide HM).mono ?_;rintro e w1 ⟨rfl,hw1⟩;obtain rfl:=hw1.symm;clear hw1)
  |(go_at_call 121;refine(ZqT q _).mono ?_;rintro e w1 ⟨gq,c,rfl,hg1,hc1,hm1,hb1⟩;have HQ:=hide (And.intro hm1 (And.intro hb1 (And.intro hg1 hc1)));clear hg1 hc1 hm1 hb1)
  |(go_at_call 122;refine(ZpT _ M q (.pointer none) (.pointer (some ⟨gq,0,none⟩)) _ (Zag 190 w1 [.int .i64 M,.int .i64 q,.pointer none,.pointer (some ⟨gq,0,none⟩)]) hM).mono ?_;rintro e w3 ⟨rfl,gb,hg3,hk3,hb3,ht3⟩;have HK:=hide (And.intro hg3 (And.intro hk3 (And.intro hb3 ht3)));clear hg3 hk3 hb3 ht3)
  |fail)
 go_ret
 obtain⟨hm1,hb1,hg1,hc1⟩:=unhide HQ
 obtain⟨hg3,hk3,hb3,ht3⟩:=unhide HK
 have hz:w.heap.size≤w1.heap.size:=hb1.size
 have hal:=alloc_low w1 (.cells #[.int .i64 M,.int .i64 q,.pointer none,.pointer (some ⟨gq,0,none⟩)] 190)
 have hq1:=hm1.below hal
 refine⟨w1.heap.size,gb,gq,c,rfl,⟨hz,?_,hg1,hc1⟩,⟨hk3,hb3,hq1.tu ht3 (fun e=>?_) (fun e=>?_)⟩,ZeI (below0 hb1 hal) ht3 hz⟩
 ·have:=hal.size;omega
 ·have:=hm1.lt.1;omega
 ·have:=hm1.lt.2;omega
end Go.Proofs.YtlhhinlghhjghaaGreatDoor
