/- Laws for the proof. -/
import Derived.Test.YtfpmnekaockodaaGreatDoorU13
set_option linter.all false
open Go.Proofs.Tryz
open Go.Proofs.Tryz renaming prog->A
open Go.Ending renaming returned->C
open Option renaming some->D
open Ieee.Toward renaming cut->I
open Bool renaming false_eq_true->J
open Go.Value renaming int->K,pointer->N,tuple->β
open Go.IntKind renaming i64->O
open Nat renaming shiftLeft_zero->Q,le_trans->S,lt_trichotomy->U,div_le_div_right->W,lt_or_ge->X,two_pow_add_eq_or_of_lt->Y,shiftLeft_eq->z,div_eq_of_lt->α
open Go renaming World->R,Calls->V
open And renaming intro->Z
namespace Go.Proofs.YtfpmnekaockodaaGreatDoor
open Go.RowKit Go.Conc
set_option maxRecDepth 4000
set_option maxHeartbeats 8000000
def DQ(x:Nat):Nat:=if x<4503599627370496 then x else 4503599627370496+x%4503599627370496
def exF(x:Nat):Nat:=if x<4503599627370496 then 0 else x/4503599627370496-1
def Ql:Ieee.double.signWeight=9223372036854775808:=rfl
def Lm:Ieee.double.binade=4503599627370496:=rfl
def Ln:Ieee.double.infRung=9218868437227405312:=rfl
def K6:Ieee.double.leastPlace= -1074:=rfl
def IC(x:Nat)(h:x<9218868437227405312):Ieee.double.read x=.number false (DQ x) (-1074+(exF x:Int)):=by
 have b:x/9223372036854775808%2=0:=by omega
 have d:x%9223372036854775808=x:=by omega
 simp only[Ieee.Format.read,Ql,Lm,Ln,K6,b,d,DQ,exF];by_cases a:x<4503599627370496
 ·simp[a]
 ·simp[a,h]
def rV(x:Nat)(h:9223372036854775808<=x)(b:x<18446744073709551616):
  (∃m i,Ieee.double.read x=.number true m i)\/Ieee.double.read x=.infinity true\/∃t,Ieee.double.read x=.nan true t:=by
 have a:x/9223372036854775808%2=1:=by omega
 simp only[Ieee.Format.read,Ql,Lm,Ln,K6,a];split
 ·exact .inl ⟨_,_,rfl⟩
 ·split
  ·exact .inl ⟨_,_,rfl⟩
  ·split
   ·exact .inr (.inl rfl)
   ·exact .inr (.inr ⟨_,rfl⟩)
def rU(x:Nat)(h:9218868437227405312<x)(d:x<9223372036854775808):∃t,Ieee.double.read x=.nan false t:=by
 have a:x/9223372036854775808%2=0:=by omega
 have b:x%9223372036854775808=x:=by omega
 simp only[Ieee.Format.read,Ql,Lm,Ln,K6,a,b];rw[if_neg (by omega),if_neg (by omega),if_neg (by omega)];exact⟨_,rfl⟩
def Rb(x:Nat):x=exF x*4503599627370496+DQ x/\DQ x<9007199254740992/\(0<exF x->4503599627370496<=DQ x):=by
 unfold DQ exF;by_cases h:x<4503599627370496
 ·rw[if_pos h,if_pos h];omega
 ·rw[if_neg h,if_neg h];omega
def PZ(n:Nat)(h:0<n):2<=2^n:=by
 obtain⟨m,rfl⟩:∃m,n=m+1:=⟨n-1,by omega⟩;have:=Nat.two_pow_pos m;rw[Nat.pow_succ];omega
def dk(a b:Nat):compare (a:Int) (b:Int)=compare a b:=by
 rcases U a b with h|h|h
 ·rw[Nat.compare_eq_lt.2 h,Int.compare_eq_lt.2 (by omega)]
 ·subst h;simp
 ·rw[Nat.compare_eq_gt.2 h,Int.compare_eq_gt.2 (by omega)]
def I9(x y:Nat)(o:x<9218868437227405312)(p:y<9218868437227405312):Ieee.double.order x y=D (compare x y):=by
 obtain⟨r,u,j⟩:=Rb x;obtain⟨s,v,k⟩:=Rb y;rw[Ieee.Format.order,IC x o,IC y p];simp only[Ieee.Datum.order,Ieee.signed,J,if_false,z,dk];congr 1;generalize exF x=a at*;generalize exF y=c at*;generalize DQ x=m at*;generalize DQ y=n at*;rcases U a c with h|h|h
 ·have b:(-1074+(a:Int)-min (-1074+(a:Int)) (-1074+(c:Int))).toNat=0:=by omega
  have d:(-1074+(c:Int)-min (-1074+(a:Int)) (-1074+(c:Int))).toNat=c-a:=by omega
  rw[b,d];have:=k (by omega);have i:=PZ (c-a) (by omega);have:4503599627370496*2<=n*2^(c-a):=Nat.mul_le_mul this i;have e:m*2^0<n*2^(c-a):=by omega
  have f:x<y:=by omega
  rw[Nat.compare_eq_lt.2 e,Nat.compare_eq_lt.2 f]
 ·subst h
  have b:(-1074+(a:Int)-min (-1074+(a:Int)) (-1074+(a:Int))).toNat=0:=by omega
  rw[b];rcases U m n with l|l|l
  ·rw[Nat.compare_eq_lt.2 (by omega),Nat.compare_eq_lt.2 (by omega)]
  ·rw[Nat.compare_eq_eq.2 (by omega),Nat.compare_eq_eq.2 (by omega)]
  ·rw[Nat.compare_eq_gt.2 (by omega),Nat.compare_eq_gt.2 (by omega)]
 ·have b:(-1074+(a:Int)-min (-1074+(a:Int)) (-1074+(c:Int))).toNat=a-c:=by omega
  have d:(-1074+(c:Int)-min (-1074+(a:Int)) (-1074+(c:Int))).toNat=0:=by omega
  rw[b,d];have:=j (by omega);have i:=PZ (a-c) (by omega);have:4503599627370496*2<=m*2^(a-c):=Nat.mul_le_mul this i;have e:n*2^0<m*2^(a-c):=by omega
  have f:y<x:=by omega
  rw[Nat.compare_eq_gt.2 e,Nat.compare_eq_gt.2 f]
def Kd(b:Nat):Bool:=decide (0<b/\b<=9218868437227405312)
def aI(b:Nat)(f:b<18446744073709551616):(Ieee.double.order b 0==D .gt)=Kd b:=by
 rcases X b 9218868437227405312 with h|h
 ·rw[I9 b 0 h (by decide)]
  by_cases d:b=0
  ·subst d;rfl
  ·rw[Nat.compare_eq_gt.2 (by omega)]
   exact(decide_eq_true (by omega:0<b/\b<=9218868437227405312)).symm
 ·rcases X b 9223372036854775808 with e|e
  ·by_cases j:b=9218868437227405312
   ·subst j;rfl
   ·obtain⟨t,ht⟩:=rU b (by omega) e
    rw[Ieee.Format.order,ht];exact(decide_eq_false (by omega:¬(0<b/\b<=9218868437227405312))).symm
  ·rw[Ieee.Format.order,IC 0 (by decide)]
   have l:Kd b=false:=decide_eq_false (by omega);rw[l];rcases rV b e f with⟨m,i,a⟩|a|⟨t,a⟩
   ·rw[a]
    simp only[Ieee.Datum.order,Ieee.signed,if_true,J,if_false,z,show DQ 0=0 from rfl,Nat.zero_mul];generalize m*2^_=k;rcases Nat.eq_zero_or_pos k with d|d
    ·subst d;rfl
    ·rw[Int.compare_eq_lt.2 (by simp;omega)];rfl
   ·rw[a];rfl
   ·rw[a];rfl
def aZ(b:Nat)(h:Kd b=true):(Ieee.double.order b 4652007308841189376==D .gt||Ieee.double.order b 4652007308841189376==D .eq)=decide (4652007308841189376<=b):=by
 have d:0<b/\b<=9218868437227405312:=of_decide_eq_true h;by_cases a:b=9218868437227405312
 ·subst a;rfl
 ·rw[I9 b _ (by omega) (by decide)]
  rcases U b 4652007308841189376 with l|l|l
  ·rw[Nat.compare_eq_lt.2 l,decide_eq_false (by omega)];rfl
  ·rw[Nat.compare_eq_eq.2 l,decide_eq_true (by omega)];rfl
  ·rw[Nat.compare_eq_gt.2 l,decide_eq_true (by omega)];rfl
def milN(b:Nat):Nat:=if b<4503599627370496 then 0 else(4503599627370496+b%4503599627370496)*1000/2^(1075-b/4503599627370496)
def lS(a b:Nat)(h:a<=b)(j:b<4652007308841189376):milN a<=milN b:=by
 unfold milN;by_cases d:a<4503599627370496
 ·rw[if_pos d];exact Nat.zero_le _
 ·rw[if_neg d,if_neg (by omega)]
  rcases X (a/4503599627370496) (b/4503599627370496)with l|l
  ·have i:b/4503599627370496<=1032:=by omega
   have e:1075-a/4503599627370496=(1075-b/4503599627370496)+(b/4503599627370496-a/4503599627370496):=by omega
   have f:=PZ (b/4503599627370496-a/4503599627370496) (by omega);rw[e,Nat.pow_add,Nat.mul_comm (2^(1075-b/4503599627370496)),<-Nat.div_div_eq_div_mul];refine W ?_;refine S (Nat.div_le_div_left f (by decide)) ?_;omega
  ·have e:a/4503599627370496=b/4503599627370496:=by have:=W (c:=4503599627370496) h;omega
   rw[e];refine W ?_;have:=Nat.div_add_mod a 4503599627370496;have:=Nat.div_add_mod b 4503599627370496;omega
def ZG(b:Nat)(a:b<4652007308841189376):milN b<=999999:=by
 refine S (lS b 4652007308841189375 (by omega) (by decide)) ?_;exact Nat.le_of_eq (by decide)
def milZ(b:Nat):Nat:=if Kd b then(if 4652007308841189376<=b then 1000000 else milN b)else 0
def ZH(b:Nat):milZ b<=1000000:=by
 unfold milZ;split
 ·split
  ·exact Nat.le_refl _
  ·exact S (ZG b (by omega)) (by decide)
 ·decide
def ZD(n k:Nat)(e:2^k<=n)(f:n<2^(k+1)):n.log2=k:=by
 have d:n≠0:=by have:=Nat.two_pow_pos k;omega
 have a:=(Nat.le_log2 d).2 e;have b:=(Nat.log2_lt d).2 f;omega
def oy(n:Nat):I .zero false n 0=n:=by
 simp[I]
def Y5(b:Nat)(l:0<b)(h:b<4503599627370496):∃y,floatBits .mul .f64 b 4841369599423283200=D y/\y<=238690780250636288:=by
 refine⟨Ieee.double.nearest false (b*4503599627370496) (-1074),?_,?_⟩
 ·show Ieee.double.mul b 4841369599423283200=_
  rw[Ieee.Format.mul,IC b (by omega),IC 4841369599423283200 (by decide)];have a:DQ b=b:=by rw[DQ,if_pos h]
  have d:exF b=0:=by rw[exF,if_pos h]
  rw[a,d,show DQ 4841369599423283200=4503599627370496 from rfl,show exF 4841369599423283200=1074 from rfl];rfl
 ·have e:b*4503599627370496≠0:=by omega
  have o:52<=(b*4503599627370496).log2:=(Nat.le_log2 e).2 (by show 2^52<=_;omega);have p:(b*4503599627370496).log2<104:=(Nat.log2_lt e).2 (by show _<2^104;omega);have k:b*4503599627370496<2^((b*4503599627370496).log2+1):=Nat.lt_log2_self;generalize b*4503599627370496=n at*;unfold Ieee.Format.nearest;rw[if_neg e];simp only[K6,Lm,Ln,show Ieee.double.fractionBits=52 from rfl];have j:1<<<min (n.log2-52) (n.log2+2)=2^(n.log2-52):=by rw[Nat.min_eq_left (by omega),z,Nat.one_mul]
  have f:n/2^(n.log2-52)<9007199254740992:=by
   refine Nat.div_lt_of_lt_mul (Nat.lt_of_lt_of_eq k ?_);rw[show(9007199254740992:Nat)=2^53 from rfl,<-Nat.pow_add];exact congrArg _ (by omega)
  have a:max (-1074+(n.log2:Int)-((52:Nat):Int)) (-1074)= -1074+(n.log2:Int)-52:=by omega
  rw[a];have d:(-1074-(-1074+(n.log2:Int)-52)).toNat=0:=by omega
  have i:(-1074+(n.log2:Int)-52 - -1074).toNat=n.log2-52:=by omega
  rw[d,i,Q];have m:I .even false n (n.log2-52)<=9007199254740992:=by
   simp only[I,j];refine S (Nat.add_le_add_left (Bool.toNat_le _) _) ?_;omega
  rw[Ieee.Format.word];simp only[J,if_false];refine S (Nat.min_le_left _ _) ?_;omega
def ql(m:Nat)(h:m<4503599627370496):floatBits .mul .f64 (4602678819172646912+m) 4845873199050653696=D (4841369599423283200+m):=by
 show Ieee.double.mul _ 4845873199050653696=_;rw[Ieee.Format.mul,IC (4602678819172646912+m) (by omega),IC 4845873199050653696 (by decide)];have b:DQ (4602678819172646912+m)=4503599627370496+m:=by rw[DQ,if_neg (by omega)];omega
 have d:exF (4602678819172646912+m)=1021:=by rw[exF,if_neg (by omega)];omega
 rw[b,d,show DQ 4845873199050653696=4503599627370496 from rfl,show exF 4845873199050653696=1075 from rfl];show D (Ieee.double.nearest false ((4503599627370496+m)*4503599627370496) (-52))=_;have a:((4503599627370496+m)*4503599627370496).log2=104:=ZD _ _ (by show 2^104<=_;omega) (by show _<2^105;omega);unfold Ieee.Format.nearest;rw[if_neg (by omega),a];have e:I .even false ((4503599627370496+m)*4503599627370496) 52=4503599627370496+m:=by
  have f:1<<<min 52 (104+2)=4503599627370496:=rfl;simp only[I,a,f];rw[Nat.mul_div_cancel _ (by decide),Nat.mul_mod_left];rfl
 simp only[K6,Lm,Ln,show Ieee.double.fractionBits=52 from rfl];rw[show max (-52+((104:Nat):Int)-((52:Nat):Int)) (-1074)=0 from rfl,show(-52-(0:Int)).toNat=0 from rfl,show((0:Int) - -52).toNat=52 from rfl,show((0:Int) - -1074).toNat=1074 from rfl,Q,e,Ieee.Format.word];simp only[J,if_false];congr 1;omega
def qk(m:Nat)(h:m<4503599627370496):floatToIntVal .f64 (4841369599423283200+m) .u64=D ((4503599627370496+m:Nat):Int):=by
 have d:DQ (4841369599423283200+m)=4503599627370496+m:=by rw[DQ,if_neg (by omega)];omega
 have e:exF (4841369599423283200+m)=1074:=by rw[exF,if_neg (by omega)];omega
 have f:FloatKind.f64.decode (4841369599423283200+m)=.number false (4503599627370496+m) 0:=by
  show Ieee.double.read _=_;rw[IC _ (by omega),d,e];rfl
 have ht:(Ieee.Datum.number false (4503599627370496+m) 0).toInt .zero=D ((4503599627370496+m:Nat):Int):=by
  show D (Ieee.signed false (I .zero false ((4503599627370496+m)<<<(0:Int).toNat) (-(0:Int)).toNat) 0)=_;rw[show(0:Int).toNat=0 from rfl,show(-(0:Int)).toNat=0 from rfl,Q,oy,Ieee.signed];simp only[J,if_false,Q]
 rw[floatToIntVal,f,ht];simp only;rw[if_pos];have a:IntKind.u64.min=0:=rfl;have b:IntKind.u64.max=18446744073709551615:=rfl;omega
def PJ(k x:Nat):x&&&(2^k-1)=x%2^k:=Nat.and_two_pow_sub_one_eq_mod x k
def lB(b:Nat)(h:b<9223372036854775808):bits .andNot .u64 (b:Int) 9223372036854775808=(b:Int):=by
 have:=u64_andNot_nat b 9223372036854775808 (by omega) (by decide);rw[show((9223372036854775808:Nat):Int)=9223372036854775808 from rfl]at this;rw[this,show 18446744073709551615-9223372036854775808=2^63-1 from rfl,PJ,Nat.mod_eq_of_lt (by omega)]
def pY(y:Nat)(h:y<9223372036854775808):bits .andNot .u64 (y:Int) 9218868437227405312=((y%4503599627370496:Nat):Int):=by
 have:=u64_andNot_nat y 9218868437227405312 (by omega) (by decide);rw[show((9218868437227405312:Nat):Int)=9218868437227405312 from rfl]at this;rw[this,show 18446744073709551615-9218868437227405312=2^63*1+(2^52-1) from rfl,Y (by decide),Nat.and_or_distrib_left,PJ];have:y&&&2^63*1=0:=by
  rw[Nat.mul_one];apply Nat.eq_of_testBit_eq;intro i;rw[Nat.testBit_and,Nat.zero_testBit,Nat.testBit_two_pow];by_cases a:63=i
  ·subst a
   rw[Nat.testBit_lt_two_pow (by omega:y<2^63)];rfl
  ·rw[decide_eq_false a,Bool.and_false]
 rw[this,Nat.zero_or]
def kz(m:Nat)(h:m<4503599627370496):bits .or .u64 (m:Int) 4602678819172646912=((4602678819172646912+m:Nat):Int):=by
 have:=u64_or_nat m 4602678819172646912 (by omega) (by decide);rw[show((4602678819172646912:Nat):Int)=4602678819172646912 from rfl]at this;rw[this,show(4602678819172646912:Nat)=2^52*1022 from rfl,Y h,Nat.or_comm]
def lA(n:Nat)(h:n<2048):bits .and .u64 (n:Int) 2047=(n:Int):=by
 have:=u64_and_nat n 2047 (by omega) (by decide);rw[show((2047:Nat):Int)=2047 from rfl]at this;rw[this,show(2047:Nat)=2^11-1 from rfl,PJ,Nat.mod_eq_of_lt (by omega)]
def TE(b:Nat)(w:R):(callFunc 228 #[.float .f64 b]).run A w=.ok (.value (K .u64 b)) w:=by
 rw[run_callFunc_extern func228 (by kernel_rfl) (by kernel_rfl) (by kernel_rfl) (e:=Extern.MathFloatBits.float64bits) (by kernel_rfl)];rfl
def TH(n:Nat)(w:R):(callFunc 229 #[K .u64 n]).run A w=.ok (.value (.float .f64 n)) w:=by
 rw[run_callFunc_extern func229 (by kernel_rfl) (by kernel_rfl) (by kernel_rfl) (e:=Extern.MathFloatBits.float64frombits) (by kernel_rfl)];rfl
def PM(b:Nat)(a:b<9223372036854775808)(w:R):V A 266 #[.float .f64 b] w fun e w'=>e=C (.float .f64 b)/\w'=w:=by
 have d:=TE b w;have f:=TH b w;have h:=lB b a;go_enter func266,ntmps266;go_wp2;go_ret;exact⟨rfl,rfl⟩
def lX(b:Nat)(a:b<9218868437227405312)(w:R):V A 225 #[.float .f64 b,K O 0] w fun e w'=>e=C (.bool false)/\w'=w:=by
 have d:(FloatKind.f64.format.order b 9218868437227405311==D .gt)=false:=by
  show(Ieee.double.order b 9218868437227405311==D .gt)=false;rw[I9 b _ a (by decide)];rcases X b 9218868437227405311 with l|l
  ·rw[Nat.compare_eq_lt.2 l];rfl
  ·rw[Nat.compare_eq_eq.2 (by omega)];rfl
 go_enter func225,ntmps225
 go_wp2_with (first
  |(go_at_call 266;refine(PM b (by omega) _).mono ?_;rintro e w1 ⟨rfl,rfl⟩)
  |fail)
 go_ret;exact⟨rfl,rfl⟩
def lZ(b:Nat)(a:b<9218868437227405312)(w:R):V A 226 #[.float .f64 b] w fun e w'=>e=C (.bool false)/\w'=w:=by
 have d:(FloatKind.f64.format.order b b !=D .eq)=false:=by
  show(Ieee.double.order b b !=D .eq)=false;rw[I9 b _ a a,Nat.compare_eq_eq.2 rfl];rfl
 go_enter func226,ntmps226;go_wp2;go_ret;exact⟨rfl,rfl⟩
def rt(b:Nat)(a:b<9218868437227405312)(h:4503599627370496<=b)(w:R):V A 227 #[.float .f64 b] w fun e w'=>e=C (β #[.float .f64 b,K O 0])/\w'=w:=by
 have d:(FloatKind.f64.format.order b 4503599627370496==D .lt)=false:=by
  show(Ieee.double.order b 4503599627370496==D .lt)=false;rw[I9 b _ a (by decide)];rcases X 4503599627370496 b with l|l
  ·rw[Nat.compare_eq_gt.2 l];rfl
  ·rw[Nat.compare_eq_eq.2 (by omega)];rfl
 go_enter func227,ntmps227
 go_wp2_with (first
  |(go_at_call 266;refine(PM b (by omega) _).mono ?_;rintro e w1 ⟨rfl,rfl⟩)
  |fail)
 go_ret2;exact⟨rfl,rfl⟩
def ru(b y:Nat)(h:b<4503599627370496)(a:floatBits .mul .f64 b 4841369599423283200=D y)(w:R):V A 227 #[.float .f64 b] w fun e w'=>e=C (β #[.float .f64 y,K O (-52)])/\w'=w:=by
 have d:(FloatKind.f64.format.order b 4503599627370496==D .lt)=true:=by
  show(Ieee.double.order b 4503599627370496==D .lt)=true;rw[I9 b _ (by omega) (by decide),Nat.compare_eq_lt.2 h];rfl
 have f:=run_float_arith (P:=A) w .mul 23 .f64 b 4841369599423283200 y a;go_enter func227,ntmps227
 go_wp2_with (first
  |(go_at_call 266;refine(PM b (by omega) _).mono ?_;rintro e w1 ⟨rfl,rfl⟩)
  |fail)
 go_ret2;exact⟨rfl,rfl⟩
def Vk(b y:Nat)(d:Int)(h:0<b)(a:b<9218868437227405312)(s:y<9218868437227405312)(r: -52<=d/\d<=0)
  (l:∀w,V A 227 #[.float .f64 b] w fun e w'=>e=C (β #[.float .f64 y,K O d])/\w'=w) (w:R):
  V A 191 #[.float .f64 b] w fun e w'=>e=C (β #[.float .f64 (4602678819172646912+y%4503599627370496),K O (d+((y/4503599627370496:Nat):Int)-1022)])/\w'=w:=by
 have m:(FloatKind.f64.format.order b 0==D .eq)=false:=by
  show(Ieee.double.order b 0==D .eq)=false;rw[I9 b _ a (by decide),Nat.compare_eq_gt.2 h];rfl
 have n:=TE y w;have i:=TH (4602678819172646912+y%4503599627370496) w;have j:=pY y (by omega);have f:=kz (y%4503599627370496) (by omega);have k:=lA (y/4503599627370496) (by omega);rw[show((4602678819172646912+y%4503599627370496:Nat):Int)=4602678819172646912+(y:Int)%4503599627370496 by omega]at i f;rw[show((y%4503599627370496:Nat):Int)=(y:Int)%4503599627370496 by omega]at j f;rw[show((y/4503599627370496:Nat):Int)=(y:Int)/4503599627370496 by omega]at k;have o:0<=(y:Int)/4503599627370496:=by omega
 have p:(y:Int)/4503599627370496<=2047:=by omega
 go_enter func191,ntmps191
 go_wp2_with (first
  |(go_at_call 225;refine(lX b a _).mono ?_;rintro e w1 ⟨rfl,rfl⟩)
  |(go_at_call 226;refine(lZ b a _).mono ?_;rintro e w1 ⟨rfl,rfl⟩)
  |(go_at_call 227;refine(l _).mono ?_;rintro e w1 ⟨rfl,rfl⟩)
  |fail)
 go_ret2;rw[show d+((y:Int)/4503599627370496-1023+1)=d+((y/4503599627370496:Nat):Int)-1022 by omega];exact⟨rfl,rfl⟩
def Vt(b f:Nat)(E:Int)(a:∀w,V A 191 #[.float .f64 b] w fun e w'=>e=C (β #[.float .f64 f,K O E])/\w'=w)(w:R):
  V A 166 #[.float .f64 b] w fun e w'=>e=C (β #[.float .f64 f,K O E])/\w'=w:=by
 go_enter func166,ntmps166
 go_wp2_with (first
  |(go_at_call 191;refine(a _).mono ?_;rintro e w1 ⟨rfl,rfl⟩)
  |fail)
 go_ret2;exact⟨rfl,rfl⟩
def Wa(b m:Nat)(E:Int)(a:m<4503599627370496)(j: -1200<=E/\E<=53)
  (f:∀w,V A 166 #[.float .f64 b] w fun e w'=>e=C (β #[.float .f64 (4602678819172646912+m),K O E])/\w'=w) (w:R):
  V A 139 #[.float .f64 b] w fun e w'=>e=C (K O (((4503599627370496+m)*1000/2^min (53-E).toNat 64:Nat):Int))/\w'=w:=by
 have h:=run_float_arith (P:=A) w .mul 23 .f64 _ 4845873199050653696 _ (ql m a);have i:=run_convert_float_int (P:=A) w 23 265 .f64 .u64 _ _ (by rw[underlying23];rfl) underlying265 (qk m a);go_enter func139,ntmps139
 go_wp2_with (first
  |(go_at_call 166;refine(f _).mono ?_;rintro e w1 ⟨rfl,rfl⟩)
  |fail)
 go_ret;have d:((4503599627370496+(m:Int))*1000/2^min (53-E).toNat 64)=(((4503599627370496+m)*1000/2^min (53-E).toNat 64:Nat):Int):=by
  generalize min (53-E).toNat 64=k;rw[Int.natCast_ediv,Int.natCast_mul,Int.natCast_add,Int.natCast_pow];rfl
 have l:(4503599627370496+m)*1000/2^min (53-E).toNat 64<=(4503599627370496+m)*1000:=Nat.div_le_self _ _;rw[d];generalize (4503599627370496+m)*1000/2^min (53-E).toNat 64=q at*;rw[show wrap64 (q:Int)=q by unfold wrap64;omega];exact⟨rfl,rfl⟩
def nc(b:Nat)(a:0<b)(i:b<4652007308841189376)(w:R):V A 139 #[.float .f64 b] w fun e w'=>e=C (K O (milN b:Nat))/\w'=w:=by
 by_cases h:b<4503599627370496
 ·obtain⟨y,f,k⟩:=Y5 b a h
  have d:y%4503599627370496<4503599627370496:=Nat.mod_lt _ (by decide);refine(Wa b (y%4503599627370496) (-52+((y/4503599627370496:Nat):Int)-1022) d (by omega) (Vt b _ _ (Vk b y (-52) a (by omega) (by omega) (by omega) (ru b y h f))) w).mono ?_;rintro e w' ⟨rfl,rfl⟩;rw[milN,if_pos h,show min (53-(-52+((y/4503599627370496:Nat):Int)-1022)).toNat 64=64 by omega,α (by omega)];exact⟨rfl,rfl⟩
 ·have d:b%4503599627370496<4503599627370496:=Nat.mod_lt _ (by decide)
  refine(Wa b (b%4503599627370496) (0+((b/4503599627370496:Nat):Int)-1022) d (by omega) (Vt b _ _ (Vk b b 0 a (by omega) (by omega) (by omega) (rt b (by omega) (by omega)))) w).mono ?_;rintro e w' ⟨rfl,rfl⟩;rw[milN,if_neg h];by_cases j:b/4503599627370496<=1011
  ·rw[show min (53-(0+((b/4503599627370496:Nat):Int)-1022)).toNat 64=64 by omega,α (by omega),α]
   ·exact⟨rfl,rfl⟩
   ·refine Nat.lt_of_lt_of_le (m:=2^64) (by omega) (Nat.pow_le_pow_right (by decide) (by omega))
  ·rw[show min (53-(0+((b/4503599627370496:Nat):Int)-1022)).toNat 64=1075-b/4503599627370496 by omega]
   exact⟨rfl,rfl⟩
def lT(b:Nat)(i:b<18446744073709551616)(w:R):V A 100 #[.float .f64 b] w fun e w'=>e=C (K O (milZ b:Nat))/\w'=w:=by
 have f:(FloatKind.f64.format.order b 0==D .gt)=Kd b:=aI b i;unfold milZ;cases a:Kd b
 ·rw[a]at f
  go_enter func100,ntmps100;go_wp2;go_ret;exact⟨rfl,rfl⟩
 ·have h:(FloatKind.f64.format.order b 4652007308841189376==D .gt||FloatKind.f64.format.order b 4652007308841189376==D .eq)=decide (4652007308841189376<=b):=aZ b a
  rw[a]at f;have hp:0<b:=(of_decide_eq_true a).1;by_cases d:4652007308841189376<=b
  ·rw[decide_eq_true d]at h
   rw[if_pos rfl,if_pos d];go_enter func100,ntmps100;go_wp2;go_ret;exact⟨rfl,rfl⟩
  ·rw[decide_eq_false d]at h
   rw[if_pos rfl,if_neg d];go_enter func100,ntmps100
   go_wp2_with (first
    |(go_at_call 139;refine(nc b hp (by omega) _).mono ?_;rintro e w1 ⟨rfl,rfl⟩)
    |fail)
   go_ret;exact⟨rfl,rfl⟩
variable {M q Lv:Int}{L:List ByteArray}{g c gb gq lo:Nat}{w w':R}
structure Au(w:R)(g gb gq c:Nat)(M q Lv:Int)(L:List ByteArray)(lo:Nat):Prop where
 blk:BkA 199 w g [K O M,K O q,.pointer (D ⟨gb,0,none⟩),.pointer (D ⟨gq,0,none⟩)]
 bt:BT w gb M (1000*Bu q 1 256) Lv
 qu:AO w gq c (capN q) L lo
def lkF(g gb gq c:Nat)(j:Nat):Prop:=j=g\/j=gb\/j=gq\/j=c
def BkA.neC{T:TypeId}{cs:List Value}{cap:Nat}{buf:Array Value}{a:Bool}{s r:Nat}{tm:Bool}(h:BkA T w g cs)(b:w.heap[c]? =D (.chan cap buf a s r tm)):g≠c:=fun e=>by
 unfold BkA at h;rw[e,b]at h;cases h
def BkA.neB{T b:TypeId}{g':Nat}{cs a:List Value}(h:BkA T w g cs)(d:BkA b w g' a)(e:T≠b):g≠g':=by
 unfold BkA at d;exact h.ne d e
def Au.lt(h:Au w g gb gq c M q Lv L lo):g<w.heap.size/\gb<w.heap.size/\gq<w.heap.size/\c<w.heap.size:=
 ⟨h.blk.lt,h.bt.blk.lt,h.qu.lt.1,h.qu.lt.2⟩
def Au.ne(h:Au w g gb gq c M q Lv L lo):(g≠gb/\g≠gq/\g≠c)/\(gb≠gq/\gb≠c)/\gq≠c:=by
 obtain⟨s,r,a⟩:=h.qu.chn;exact⟨⟨h.blk.neB h.bt.blk (by decide),h.blk.neB h.qu.blk (by decide),h.blk.neC a⟩,⟨h.bt.blk.neB h.qu.blk (by decide),h.bt.blk.neC a⟩,h.qu.ne⟩
def Au.tu{F:Nat->Prop}(h:Au w g gb gq c M q Lv L lo)(ht:Tu F w w')(a:¬F g)(b:¬F gb)(d:¬F gq)(e:¬F c):Au w' g gb gq c M q Lv L lo:=
 ⟨h.blk.tu ht a,h.bt.tu ht b,h.qu.tu ht d e⟩
def Au.below(h:Au w g gb gq c M q Lv L lo)(a:Below w.heap.size w w'):Au w' g gb gq c M q Lv L lo:=
 h.tu (F:=fun _=>False) (Tu.of_below a) id id id id
def Au.belowB{B:Nat}(h:Au w g gb gq c M q Lv L lo)(a:Below B w w')(b:g<B)(d:gb<B)(e:gq<B)(f:c<B):Au w' g gb gq c M q Lv L lo:=
 ⟨h.blk.belowB a b,⟨h.bt.blk.belowB a d,h.bt.mil,h.bt.top,h.bt.lev⟩,h.qu.belowB a e f⟩
def Au.lev{Lv':Int}(h:Au w g gb gq c M q Lv L lo)(a:BT w' gb M (1000*Bu q 1 256) Lv')(ht:Tu (fun j=>j=gb) w w'):Au w' g gb gq c M q Lv' L lo:=
 ⟨h.blk.tu ht h.ne.1.1,a,h.qu.tu ht (fun e=>h.ne.2.1.1 e.symm) (fun e=>h.ne.2.1.2 e.symm)⟩
def Au.que{a:Nat}{L':List ByteArray}(h:Au w g gb gq c M q Lv L lo)(b:AO w' gq c (capN q) L' a)(ht:Tu (quF gq c) w w'):Au w' g gb gq c M q Lv L' a:=
 ⟨h.blk.tu ht (fun e=>e.elim h.ne.1.2.1 h.ne.1.2.2),h.bt.tu ht (fun e=>e.elim h.ne.2.1.1 h.ne.2.1.2),b⟩
def Rg(ht:Tu (fun j=>j=gb) w w'):Tu (lkF g gb gq c) w w':=ht.wide fun j e=>.inr (.inl e)
def Ni(ht:Tu (quF gq c) w w'):Tu (lkF g gb gq c) w w':=ht.wide fun j e=>.inr (.inr e)
def PA{w1 w2:R}(h:Tu (lkF g gb gq c) w w1)(k:Tu (lkF g gb gq c) w1 w2):Tu (lkF g gb gq c) w w2:=h.trans k fun _ _ e=>e
def jM(g:Nat)(M q:Int)(u v:Value)(w:R)(h:BkA 199 w g [K O M,K O q,u,v])(f:0<=M/\M<=1000000):
  V A 102 #[.pointer (D ⟨g,0,none⟩)] w fun e w'=>e=C (β #[])/\∃gb,w.heap.size<=gb/\BkA 199 w' g [K O M,K O q,.pointer (D ⟨gb,0,none⟩),v]/\BT w' gb M (1000*Bu q 1 256) (1000*Bu q 1 256)/\Tu (fun j=>j=g) w w':=by
 have o:=h.at 0 rfl;have p:=h.at 1 rfl;have i:∀wx,Below w.heap.size w wx->V A 140 #[K O M,K O q] wx fun e w'=> ∃gb,e=C (.pointer (D ⟨gb,0,none⟩))/\Hid (w.heap.size<=gb/\BkA 199 w' g [K O M,K O q,u,v]/\BT w' gb M (1000*Bu q 1 256) (1000*Bu q 1 256)/\Below w.heap.size w w'):=by
  intro wx b;refine(sM M q wx).mono ?_;rw[bL f.1 f.2];rintro e w' ⟨gb,n,l,m,d⟩;exact⟨gb,n,Ab ⟨S b.size l,h.below (Ad b d),m,Ad b d⟩⟩
 have k:=Ab (i _ (Below.refl w.heap.size w).drew);clear i;have H:=Ab h;clear h;go_enter func102,ntmps102;go_wp2_with fail
 go_region_law (first
  |(go_simp;go_at_call 140;refine(Aa k).mono ?_;rintro e w1 ⟨gb,rfl,a⟩;have r:=(Aa a).2.1.frz 2;have s:=(Aa a).2.1.at 2 rfl))
 all_goals go_wp2
 all_goals go_end0
 all_goals refine⟨rfl,gb,(Aa a).1,(Aa a).2.1.set 2 _,(Aa a).2.2.1.tu (A8 _ _ _ _) (fun e=>?_),Tu.after (Aa a).2.2.2 (A8 _ _ _ _)⟩
 all_goals exact(Aa a).2.1.neB (Aa a).2.2.1.blk (by decide) e.symm
def li(b:Nat)(x:b<18446744073709551616)(q:Int)(w:R):
  V A 72 #[.float .f64 b,K O q] w fun e w'=> ∃g gb gq c,e=C (.pointer (D ⟨g,0,none⟩))/\(w.heap.size<=g/\w.heap.size<=gb/\w.heap.size<=gq/\w.heap.size<=c)/\Au w' g gb gq c (milZ b:Nat) q (1000*Bu q 1 256) [] 0/\Below w.heap.size w w':=by
 have v:0<=((milZ b:Nat):Int)/\((milZ b:Nat):Int)<=1000000:=by have:=ZH b;omega
 have s:=Ab (lT b x w);generalize ((milZ b:Nat):Int)=M at*;go_enter func72,ntmps72
 go_wp2_with (first
  |(go_at_call 100;refine(Aa s).mono ?_;rintro e w1 ⟨rfl,n⟩;obtain rfl:=n.symm;clear n)
  |(go_at_call 101;refine(mj q _).mono ?_;rintro e w1 ⟨gq,c,rfl,j,i,a,d⟩;have u:=Ab (Z a (Z d (Z j i)));clear j i a d)
  |(go_at_call 102;refine(jM _ M q (N none) (.pointer (D ⟨gq,0,none⟩)) _ (AI 199 w1 [K O M,K O q,N none,.pointer (D ⟨gq,0,none⟩)]) v).mono ?_;rintro e w3 ⟨rfl,gb,m,k,h,f⟩;have r:=Ab (Z m (Z k (Z h f)));clear m k h f)
  |fail)
 go_ret;obtain⟨a,d,j,i⟩:=Aa u;obtain⟨m,k,h,f⟩:=Aa r;have p:w.heap.size<=w1.heap.size:=d.size;have l:=As w1 (.cells #[K O M,K O q,N none,.pointer (D ⟨gq,0,none⟩)] 199);have o:=a.below l;refine⟨w1.heap.size,gb,gq,c,rfl,⟨p,?_,j,i⟩,⟨k,h,o.tu f (fun e=>?_) (fun e=>?_)⟩,GY (Ad d l) f p⟩
 ·have:=l.size;omega
 ·have:=a.lt.1;omega
 ·have:=a.lt.2;omega
end Go.Proofs.YtfpmnekaockodaaGreatDoor
