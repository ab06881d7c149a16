/-
  Laws that the proof stands on.
-/
import Derived.Test.YtmmikiikddokgaaGreatDoorU13
namespace Go.Proofs.YtmmikiikddokgaaGreatDoor
open Go.RowKit Go.Conc
set_option linter.unusedVariables false
set_option linter.unusedSimpArgs false
set_option maxRecDepth 4000
set_option maxHeartbeats 8000000
def QA(w:World)(c:Nat):Nat:=match w.heap[c]? with
 |some (.chan _ b _ _ _ _)=>b.size
 |_=>0
theorem AI.lenOf{w:World}{g c m lo:Nat}{L:List ByteArray}(h:AI w g c m L lo):QA w c=L.length:=by
 obtain⟨s,r,a⟩:=h.chn;unfold QA;rw[a];exact Kl L
variable {M T L:Int}
def Bw(x a b:Int):Int:=min (max x a) b
theorem MS(x:Int){a b:Int}(h:a<=b):a<=Bw x a b/\Bw x a b<=b:=by unfold Bw;omega
theorem Zn{x a b:Int}(c:a<=x)(d:x<=b):Bw x a b=x:=by unfold Bw;omega
structure BF(w:World)(g:Nat)(M T L:Int):Prop where
 blk:BkA 239 w g [.int .i64 M,.int .i64 T,.int .i64 L]
 mil:0<=M/\M<=1000000
 top:1000<=T/\T<=256000
 lev:0<=L/\L<=T
theorem BF.below{w w':World}{g:Nat}(h:BF w g M T L)(a:Below w.heap.size w w'):BF w' g M T L:=⟨h.blk.below a,h.mil,h.top,h.lev⟩
theorem BF.tu{F:Nat->Prop}{w w':World}{g:Nat}(h:BF w g M T L)(ht:Tu F w w')(a:¬F g):BF w' g M T L:=⟨h.blk.tu ht a,h.mil,h.top,h.lev⟩
def Gn(M T L n:Int):Int:=min (L+Bw n 0 1048576*M) T
theorem qV(n:Int)(a:0<=M)(c:0<=T)(b:0<=L):0<=Gn M T L n/\Gn M T L n<=T:=by
 have:=MS n (show(0:Int)<=1048576 by decide);have:=Int.mul_nonneg this.1 a;unfold Gn;omega
theorem ND(x a b:Int)(w:World):Calls Tryz.prog 141 #[.int .i64 x,.int .i64 a,.int .i64 b] w fun e w'=>e=.returned (.int .i64 (Bw x a b))/\w'=w:=by
 have d:=Jz x a;have c:=Im (max x a) b;unfold Bw;generalize max x a=m at*;generalize min m b=n at*;go_enter Tryz.func141,Tryz.ntmps141;go_wp2;go_ret;exact⟨rfl,rfl⟩
theorem kV(m k:Int)(w:World):
  Calls Tryz.prog 140 #[.int .i64 m,.int .i64 k] w fun e w'=>e=.returned (.pointer (some ⟨w.heap.size,0,none⟩))/\BF w' w.heap.size (Bw m 0 1000000) (1000*Bw k 1 256) (1000*Bw k 1 256)/\Below w.heap.size w w':=by
 have g:=MS k (show(1:Int)<=256 by decide);have f:=MS m (show(0:Int)<=1000000 by decide);have b:Hid True:=Ab trivial;have c:=ND k 1 256;have d:=ND m 0 1000000;generalize Bw k 1 256=x at*;generalize Bw m 0 1000000=y at*;go_enter Tryz.func140,Tryz.ntmps140
 go_wp2_with (first
  |(clear b;go_at_call 141;refine(c _).mono ?_;rintro e w1 ⟨rfl,a⟩;obtain rfl:=a.symm;clear a)
  |(go_at_call 141;refine(d _).mono ?_;rintro e w1 ⟨rfl,a⟩;obtain rfl:=a.symm;clear a)
  |fail)
 go_ret;exact⟨rfl,⟨AO 239 _ [.int .i64 y,.int .i64 (1000*x),.int .i64 (1000*x)],f,by omega,by omega⟩,Ax _ _⟩
theorem mA(g:Nat)(M T L:Int)(w:World)(h:BF w g M T L)(b:L<1000):Calls Tryz.prog 142 #[.pointer (some ⟨g,0,none⟩)] w fun e w'=>e=.returned (.bool false)/\w'=w:=by
 have a:=h.blk.at 2 rfl;go_enter Tryz.func142,Tryz.ntmps142;go_wp2;go_ret;exact⟨rfl,rfl⟩
theorem iZ(g:Nat)(M T L:Int)(w:World)(h:BF w g M T L)(d:1000<=L):Calls Tryz.prog 142 #[.pointer (some ⟨g,0,none⟩)] w fun e w'=>e=.returned (.bool true)/\BF w' g M T (L-1000)/\Tu (fun j=>j=g) w w':=by
 have a:=h.blk.at 2 rfl;have c:=h.blk.frz 2;have b:=h.lev;have ht:=h.top;have H:=Ab h;clear h;go_enter Tryz.func142,Tryz.ntmps142;go_wp2;go_ret;exact⟨rfl,⟨(Aa H).blk.set 2 _,(Aa H).mil,ht,by omega⟩,Be _ _ _ _⟩
theorem ph(m k:Int)(w:World):
  Calls Tryz.prog 140 #[.int .i64 m,.int .i64 k] w fun e w'=> ∃g,e=.returned (.pointer (some ⟨g,0,none⟩))/\w.heap.size<=g/\BF w' g (Bw m 0 1000000) (1000*Bw k 1 256) (1000*Bw k 1 256)/\Below w.heap.size w w':=
 (kV m k w).mono fun e w' ⟨a,b,c⟩=>⟨_,a,Nat.le_refl _,b,c⟩
theorem Zk(w:World)(g i:Nat)(u:Value):Tu (fun j=>j=g) w (w.setCell ⟨g,i,none⟩ u).drew:=Tu.of_gb (JI (BA _ _ _ _)) fun j _ e=>(Option.some.inj e).symm
theorem ia(g:Nat)(M T L n:Int)(w:World)(h:BF w g M T L):
  Calls Tryz.prog 105 #[.pointer (some ⟨g,0,none⟩),.int .i64 n] w fun e w'=>e=.returned (.tuple #[])/\BF w' g M T (Gn M T L n)/\Tu (fun j=>j=g) w w':=by
 have p:=h.blk.at 0 rfl;have q:=h.blk.at 1 rfl;have r:=h.blk.at 2 rfl;have s:=h.blk.frz 2;have i:=h.lev;have ht:=h.top;have b:=h.mil;have f:=ND n 0 1048576;have d:=MS n (show(0:Int)<=1048576 by decide);have k:=qV n b.1 (by omega:0<=T) i.1;have c:=Im (L+Bw n 0 1048576*M) T;rw[show min (L+Bw n 0 1048576*M) T=Gn M T L n from rfl]at c;generalize Gn M T L n=Z at*;generalize Bw n 0 1048576=N at*;have l:0<=N*M:=Int.mul_nonneg d.1 b.1;have m:N*M<=1048576*1000000:=Int.mul_le_mul d.2 b.2 b.1 (by decide);have a:IntKind.i64.wrap (N*M)=N*M:=by rw[IntKind.wrap_i64];omega
 have o:IntKind.i64.wrap (L+N*M)=L+N*M:=by rw[IntKind.wrap_i64];omega
 have H:=Ab h;clear h;go_enter Tryz.func105,Tryz.ntmps105;go_wp2_with fail
 go_region_law (first
  |(go_simp;go_at_call 141;refine(f _).mono ?_;rintro e w1 ⟨rfl,a⟩;obtain rfl:=a.symm;clear a))
 all_goals go_wp2
 all_goals go_end0
 all_goals exact⟨rfl,⟨(Aa H).blk.set 2 _,b,ht,k⟩,Zk _ _ _ _⟩
def DT(x:Nat):Nat:=if x<4503599627370496 then x else 4503599627370496+x%4503599627370496
def exF(x:Nat):Nat:=if x<4503599627370496 then 0 else x/4503599627370496-1
theorem P8:Ieee.double.signWeight=9223372036854775808:=rfl
theorem La:Ieee.double.binade=4503599627370496:=rfl
theorem Lb:Ieee.double.infRung=9218868437227405312:=rfl
theorem KX:Ieee.double.leastPlace= -1074:=rfl
theorem Ip(x:Nat)(h:x<9218868437227405312):Ieee.double.read x=.number false (DT x) (-1074+(exF x:Int)):=by
 have b:x/9223372036854775808%2=0:=by omega
 have c:x%9223372036854775808=x:=by omega
 simp only[Ieee.Format.read,P8,La,Lb,KX,b,c,DT,exF];by_cases a:x<4503599627370496
 ·simp[a]
 ·simp[a,h]
theorem qt(x:Nat)(h:9223372036854775808<=x)(b:x<18446744073709551616):
  (∃m i,Ieee.double.read x=.number true m i)\/Ieee.double.read x=.infinity true\/∃t,Ieee.double.read x=.nan true t:=by
 have a:x/9223372036854775808%2=1:=by omega
 simp only[Ieee.Format.read,P8,La,Lb,KX,a];split
 ·exact .inl ⟨_,_,rfl⟩
 ·split
  ·exact .inl ⟨_,_,rfl⟩
  ·split
   ·exact .inr (.inl rfl)
   ·exact .inr (.inr ⟨_,rfl⟩)
theorem qs(x:Nat)(h:9218868437227405312<x)(c:x<9223372036854775808):∃t,Ieee.double.read x=.nan false t:=by
 have a:x/9223372036854775808%2=0:=by omega
 have b:x%9223372036854775808=x:=by omega
 simp only[Ieee.Format.read,P8,La,Lb,KX,a,b];rw[if_neg (by omega),if_neg (by omega),if_neg (by omega)];exact⟨_,rfl⟩
theorem Q8(x:Nat):x=exF x*4503599627370496+DT x/\DT x<9007199254740992/\(0<exF x->4503599627370496<=DT x):=by
 unfold DT exF;by_cases h:x<4503599627370496
 ·rw[if_pos h,if_pos h];omega
 ·rw[if_neg h,if_neg h];omega
theorem PK(n:Nat)(h:0<n):2<=2^n:=by
 obtain⟨m,rfl⟩:∃m,n=m+1:=⟨n-1,by omega⟩;have:=Nat.two_pow_pos m;rw[Nat.pow_succ];omega
theorem bQ(a b:Nat):compare (a:Int) (b:Int)=compare a b:=by
 rcases Nat.lt_trichotomy a b with h|h|h
 ·rw[Nat.compare_eq_lt.2 h,Int.compare_eq_lt.2 (by omega)]
 ·subst h;simp
 ·rw[Nat.compare_eq_gt.2 h,Int.compare_eq_gt.2 (by omega)]
theorem I0(x y:Nat)(k:x<9218868437227405312)(o:y<9218868437227405312):Ieee.double.order x y=some (compare x y):=by
 obtain⟨p,r,i⟩:=Q8 x;obtain⟨q,s,j⟩:=Q8 y;rw[Ieee.Format.order,Ip x k,Ip y o];simp only[Ieee.Datum.order,Ieee.signed,Bool.false_eq_true,if_false,Nat.shiftLeft_eq,bQ];congr 1;generalize exF x=a at*;generalize exF y=c at*;generalize DT x=m at*;generalize DT y=n at*;rcases Nat.lt_trichotomy a c with h|h|h
 ·have b:(-1074+(a:Int)-min (-1074+(a:Int)) (-1074+(c:Int))).toNat=0:=by omega
  have d:(-1074+(c:Int)-min (-1074+(a:Int)) (-1074+(c:Int))).toNat=c-a:=by omega
  rw[b,d];have:=j (by omega);have g:=PK (c-a) (by omega);have:4503599627370496*2<=n*2^(c-a):=Nat.mul_le_mul this g;have e:m*2^0<n*2^(c-a):=by omega
  have f:x<y:=by omega
  rw[Nat.compare_eq_lt.2 e,Nat.compare_eq_lt.2 f]
 ·subst h
  have b:(-1074+(a:Int)-min (-1074+(a:Int)) (-1074+(a:Int))).toNat=0:=by omega
  rw[b];rcases Nat.lt_trichotomy m n with l|l|l
  ·rw[Nat.compare_eq_lt.2 (by omega),Nat.compare_eq_lt.2 (by omega)]
  ·rw[Nat.compare_eq_eq.2 (by omega),Nat.compare_eq_eq.2 (by omega)]
  ·rw[Nat.compare_eq_gt.2 (by omega),Nat.compare_eq_gt.2 (by omega)]
 ·have b:(-1074+(a:Int)-min (-1074+(a:Int)) (-1074+(c:Int))).toNat=a-c:=by omega
  have d:(-1074+(c:Int)-min (-1074+(a:Int)) (-1074+(c:Int))).toNat=0:=by omega
  rw[b,d];have:=i (by omega);have g:=PK (a-c) (by omega);have:4503599627370496*2<=m*2^(a-c):=Nat.mul_le_mul this g;have e:n*2^0<m*2^(a-c):=by omega
  have f:y<x:=by omega
  rw[Nat.compare_eq_gt.2 e,Nat.compare_eq_gt.2 f]
def JU(b:Nat):Bool:=decide (0<b/\b<=9218868437227405312)
theorem ZP(b:Nat)(e:b<18446744073709551616):(Ieee.double.order b 0==some .gt)=JU b:=by
 rcases Nat.lt_or_ge b 9218868437227405312 with h|h
 ·rw[I0 b 0 h (by decide)]
  by_cases c:b=0
  ·subst c;rfl
  ·rw[Nat.compare_eq_gt.2 (by omega)]
   exact(decide_eq_true (by omega:0<b/\b<=9218868437227405312)).symm
 ·rcases Nat.lt_or_ge b 9223372036854775808 with d|d
  ·by_cases f:b=9218868437227405312
   ·subst f;rfl
   ·obtain⟨t,ht⟩:=qs b (by omega) d
    rw[Ieee.Format.order,ht];exact(decide_eq_false (by omega:¬(0<b/\b<=9218868437227405312))).symm
  ·rw[Ieee.Format.order,Ip 0 (by decide)]
   have g:JU b=false:=decide_eq_false (by omega);rw[g];rcases qt b d e with⟨m,i,a⟩|a|⟨t,a⟩
   ·rw[a]
    simp only[Ieee.Datum.order,Ieee.signed,if_true,Bool.false_eq_true,if_false,Nat.shiftLeft_eq,show DT 0=0 from rfl,Nat.zero_mul];generalize m*2^_=k;rcases Nat.eq_zero_or_pos k with c|c
    ·subst c;rfl
    ·rw[Int.compare_eq_lt.2 (by simp;omega)];rfl
   ·rw[a];rfl
   ·rw[a];rfl
theorem bD(b:Nat)(h:JU b=true):(Ieee.double.order b 4652007308841189376==some .gt||Ieee.double.order b 4652007308841189376==some .eq)=decide (4652007308841189376<=b):=by
 have c:0<b/\b<=9218868437227405312:=of_decide_eq_true h;by_cases a:b=9218868437227405312
 ·subst a;rfl
 ·rw[I0 b _ (by omega) (by decide)]
  rcases Nat.lt_trichotomy b 4652007308841189376 with l|l|l
  ·rw[Nat.compare_eq_lt.2 l,decide_eq_false (by omega)];rfl
  ·rw[Nat.compare_eq_eq.2 l,decide_eq_true (by omega)];rfl
  ·rw[Nat.compare_eq_gt.2 l,decide_eq_true (by omega)];rfl
def milN(b:Nat):Nat:=if b<4503599627370496 then 0 else(4503599627370496+b%4503599627370496)*1000/2^(1075-b/4503599627370496)
theorem kX(a b:Nat)(h:a<=b)(i:b<4652007308841189376):milN a<=milN b:=by
 unfold milN;by_cases d:a<4503599627370496
 ·rw[if_pos d];exact Nat.zero_le _
 ·rw[if_neg d,if_neg (by omega)]
  rcases Nat.lt_or_ge (a/4503599627370496) (b/4503599627370496)with l|l
  ·have g:b/4503599627370496<=1032:=by omega
   have e:1075-a/4503599627370496=(1075-b/4503599627370496)+(b/4503599627370496-a/4503599627370496):=by omega
   have f:=PK (b/4503599627370496-a/4503599627370496) (by omega);rw[e,Nat.pow_add,Nat.mul_comm (2^(1075-b/4503599627370496)),<-Nat.div_div_eq_div_mul];refine Nat.div_le_div_right ?_;refine Nat.le_trans (Nat.div_le_div_left f (by decide)) ?_;omega
  ·have e:a/4503599627370496=b/4503599627370496:=by have:=Nat.div_le_div_right (c:=4503599627370496) h;omega
   rw[e];refine Nat.div_le_div_right ?_;have:=Nat.div_add_mod a 4503599627370496;have:=Nat.div_add_mod b 4503599627370496;omega
theorem XX(b:Nat)(a:b<4652007308841189376):milN b<=999999:=by
 refine Nat.le_trans (kX b 4652007308841189375 (by omega) (by decide)) ?_;exact Nat.le_of_eq (by decide)
def milZ(b:Nat):Nat:=if JU b then(if 4652007308841189376<=b then 1000000 else milN b)else 0
theorem XY(b:Nat):milZ b<=1000000:=by
 unfold milZ;split
 ·split
  ·exact Nat.le_refl _
  ·exact Nat.le_trans (XX b (by omega)) (by decide)
 ·decide
theorem XT(n k:Nat)(d:2^k<=n)(e:n<2^(k+1)):n.log2=k:=by
 have c:n≠0:=by have:=Nat.two_pow_pos k;omega
 have a:=(Nat.le_log2 c).2 d;have b:=(Nat.log2_lt c).2 e;omega
theorem oc(n:Nat):Ieee.Toward.cut .zero false n 0=n:=by
 simp[Ieee.Toward.cut]
theorem Zf(b:Nat)(j:0<b)(h:b<4503599627370496):∃y,floatBits .mul .f64 b 4841369599423283200=some y/\y<=238690780250636288:=by
 refine⟨Ieee.double.nearest false (b*4503599627370496) (-1074),?_,?_⟩
 ·show Ieee.double.mul b 4841369599423283200=_
  rw[Ieee.Format.mul,Ip b (by omega),Ip 4841369599423283200 (by decide)];have a:DT b=b:=by rw[DT,if_pos h]
  have c:exF b=0:=by rw[exF,if_pos h]
  rw[a,c,show DT 4841369599423283200=4503599627370496 from rfl,show exF 4841369599423283200=1074 from rfl];rfl
 ·have d:b*4503599627370496≠0:=by omega
  have l:52<=(b*4503599627370496).log2:=(Nat.le_log2 d).2 (by show 2^52<=_;omega);have m:(b*4503599627370496).log2<104:=(Nat.log2_lt d).2 (by show _<2^104;omega);have i:b*4503599627370496<2^((b*4503599627370496).log2+1):=Nat.lt_log2_self;generalize b*4503599627370496=n at*;unfold Ieee.Format.nearest;rw[if_neg d];simp only[KX,La,Lb,show Ieee.double.fractionBits=52 from rfl];have g:1<<<min (n.log2-52) (n.log2+2)=2^(n.log2-52):=by rw[Nat.min_eq_left (by omega),Nat.shiftLeft_eq,Nat.one_mul]
  have e:n/2^(n.log2-52)<9007199254740992:=by
   refine Nat.div_lt_of_lt_mul (Nat.lt_of_lt_of_eq i ?_);rw[show(9007199254740992:Nat)=2^53 from rfl,<-Nat.pow_add];exact congrArg _ (by omega)
  have a:max (-1074+(n.log2:Int)-((52:Nat):Int)) (-1074)= -1074+(n.log2:Int)-52:=by omega
  rw[a];have c:(-1074-(-1074+(n.log2:Int)-52)).toNat=0:=by omega
  have f:(-1074+(n.log2:Int)-52 - -1074).toNat=n.log2-52:=by omega
  rw[c,f,Nat.shiftLeft_zero];have k:Ieee.Toward.cut .even false n (n.log2-52)<=9007199254740992:=by
   simp only[Ieee.Toward.cut,g];refine Nat.le_trans (Nat.add_le_add_left (Bool.toNat_le _) _) ?_;omega
  rw[Ieee.Format.word];simp only[Bool.false_eq_true,if_false];refine Nat.le_trans (Nat.min_le_left _ _) ?_;omega
theorem oM(m:Nat)(h:m<4503599627370496):floatBits .mul .f64 (4602678819172646912+m) 4845873199050653696=some (4841369599423283200+m):=by
 show Ieee.double.mul _ 4845873199050653696=_;rw[Ieee.Format.mul,Ip (4602678819172646912+m) (by omega),Ip 4845873199050653696 (by decide)];have b:DT (4602678819172646912+m)=4503599627370496+m:=by rw[DT,if_neg (by omega)];omega
 have c:exF (4602678819172646912+m)=1021:=by rw[exF,if_neg (by omega)];omega
 rw[b,c,show DT 4845873199050653696=4503599627370496 from rfl,show exF 4845873199050653696=1075 from rfl];show some (Ieee.double.nearest false ((4503599627370496+m)*4503599627370496) (-52))=_;have a:((4503599627370496+m)*4503599627370496).log2=104:=XT _ _ (by show 2^104<=_;omega) (by show _<2^105;omega);unfold Ieee.Format.nearest;rw[if_neg (by omega),a];have d:Ieee.Toward.cut .even false ((4503599627370496+m)*4503599627370496) 52=4503599627370496+m:=by
  have e:1<<<min 52 (104+2)=4503599627370496:=rfl;simp only[Ieee.Toward.cut,a,e];rw[Nat.mul_div_cancel _ (by decide),Nat.mul_mod_left];rfl
 simp only[KX,La,Lb,show Ieee.double.fractionBits=52 from rfl];rw[show max (-52+((104:Nat):Int)-((52:Nat):Int)) (-1074)=0 from rfl,show(-52-(0:Int)).toNat=0 from rfl,show((0:Int) - -52).toNat=52 from rfl,show((0:Int) - -1074).toNat=1074 from rfl,Nat.shiftLeft_zero,d,Ieee.Format.word];simp only[Bool.false_eq_true,if_false];congr 1;omega
theorem oL(m:Nat)(h:m<4503599627370496):floatToIntVal .f64 (4841369599423283200+m) .u64=some ((4503599627370496+m:Nat):Int):=by
 have c:DT (4841369599423283200+m)=4503599627370496+m:=by rw[DT,if_neg (by omega)];omega
 have d:exF (4841369599423283200+m)=1074:=by rw[exF,if_neg (by omega)];omega
 have e:FloatKind.f64.decode (4841369599423283200+m)=.number false (4503599627370496+m) 0:=by
  show Ieee.double.read _=_;rw[Ip _ (by omega),c,d];rfl
 have ht:(Ieee.Datum.number false (4503599627370496+m) 0).toInt .zero=some ((4503599627370496+m:Nat):Int):=by
  show some (Ieee.signed false (Ieee.Toward.cut .zero false ((4503599627370496+m)<<<(0:Int).toNat) (-(0:Int)).toNat) 0)=_;rw[show(0:Int).toNat=0 from rfl,show(-(0:Int)).toNat=0 from rfl,Nat.shiftLeft_zero,oc,Ieee.signed];simp only[Bool.false_eq_true,if_false,Nat.shiftLeft_zero]
 rw[floatToIntVal,e,ht];simp only;rw[if_pos];have a:IntKind.u64.min=0:=rfl;have b:IntKind.u64.max=18446744073709551615:=rfl;omega
theorem Pn(k x:Nat):x&&&(2^k-1)=x%2^k:=Nat.and_two_pow_sub_one_eq_mod x k
theorem jE(b:Nat)(h:b<9223372036854775808):bits .andNot .u64 (b:Int) 9223372036854775808=(b:Int):=by
 have:=u64_andNot_nat b 9223372036854775808 (by omega) (by decide);rw[show((9223372036854775808:Nat):Int)=9223372036854775808 from rfl]at this;rw[this,show 18446744073709551615-9223372036854775808=2^63-1 from rfl,Pn,Nat.mod_eq_of_lt (by omega)]
theorem mT(y:Nat)(h:y<9223372036854775808):bits .andNot .u64 (y:Int) 9218868437227405312=((y%4503599627370496:Nat):Int):=by
 have:=u64_andNot_nat y 9218868437227405312 (by omega) (by decide);rw[show((9218868437227405312:Nat):Int)=9218868437227405312 from rfl]at this;rw[this,show 18446744073709551615-9218868437227405312=2^63*1+(2^52-1) from rfl,Nat.two_pow_add_eq_or_of_lt (by decide),Nat.and_or_distrib_left,Pn];have:y&&&2^63*1=0:=by
  rw[Nat.mul_one];apply Nat.eq_of_testBit_eq;intro i;rw[Nat.testBit_and,Nat.zero_testBit,Nat.testBit_two_pow];by_cases a:63=i
  ·subst a
   rw[Nat.testBit_lt_two_pow (by omega:y<2^63)];rfl
  ·rw[decide_eq_false a,Bool.and_false]
 rw[this,Nat.zero_or]
theorem jC(m:Nat)(h:m<4503599627370496):bits .or .u64 (m:Int) 4602678819172646912=((4602678819172646912+m:Nat):Int):=by
 have:=u64_or_nat m 4602678819172646912 (by omega) (by decide);rw[show((4602678819172646912:Nat):Int)=4602678819172646912 from rfl]at this;rw[this,show(4602678819172646912:Nat)=2^52*1022 from rfl,Nat.two_pow_add_eq_or_of_lt h,Nat.or_comm]
theorem jD(n:Nat)(h:n<2048):bits .and .u64 (n:Int) 2047=(n:Int):=by
 have:=u64_and_nat n 2047 (by omega) (by decide);rw[show((2047:Nat):Int)=2047 from rfl]at this;rw[this,show(2047:Nat)=2^11-1 from rfl,Pn,Nat.mod_eq_of_lt (by omega)]
theorem TN(b:Nat)(w:World):(callFunc 228 #[.float .f64 b]).run Tryz.prog w=.ok (.value (.int .u64 b)) w:=by
 rw[run_callFunc_extern Tryz.func228 (by kernel_rfl) (by kernel_rfl) (by kernel_rfl) (e:=Extern.MathFloatBits.float64bits) (by kernel_rfl)];rfl
theorem TQ(n:Nat)(w:World):(callFunc 229 #[.int .u64 n]).run Tryz.prog w=.ok (.value (.float .f64 n)) w:=by
 rw[run_callFunc_extern Tryz.func229 (by kernel_rfl) (by kernel_rfl) (by kernel_rfl) (e:=Extern.MathFloatBits.float64frombits) (by kernel_rfl)];rfl
theorem Pv(b:Nat)(a:b<9223372036854775808)(w:World):Calls Tryz.prog 266 #[.float .f64 b] w fun e w'=>e=.returned (.float .f64 b)/\w'=w:=by
 have c:=TN b w;have d:=TQ b w;have f:=jE b a;go_enter Tryz.func266,Tryz.ntmps266;go_wp2;go_ret;exact⟨rfl,rfl⟩
theorem jg(b:Nat)(a:b<9218868437227405312)(w:World):Calls Tryz.prog 225 #[.float .f64 b,.int .i64 0] w fun e w'=>e=.returned (.bool false)/\w'=w:=by
 have c:(FloatKind.f64.format.order b 9218868437227405311==some .gt)=false:=by
  show(Ieee.double.order b 9218868437227405311==some .gt)=false;rw[I0 b _ a (by decide)];rcases Nat.lt_or_ge b 9218868437227405311 with l|l
  ·rw[Nat.compare_eq_lt.2 l];rfl
  ·rw[Nat.compare_eq_eq.2 (by omega)];rfl
 go_enter Tryz.func225,Tryz.ntmps225
 go_wp2_with (first
  |(go_at_call 266;refine(Pv b (by omega) _).mono ?_;rintro e w1 ⟨rfl,rfl⟩)
  |fail)
 go_ret;exact⟨rfl,rfl⟩
theorem lB(b:Nat)(a:b<9218868437227405312)(w:World):Calls Tryz.prog 226 #[.float .f64 b] w fun e w'=>e=.returned (.bool false)/\w'=w:=by
 have c:(FloatKind.f64.format.order b b !=some .eq)=false:=by
  show(Ieee.double.order b b !=some .eq)=false;rw[I0 b _ a a,Nat.compare_eq_eq.2 rfl];rfl
 go_enter Tryz.func226,Tryz.ntmps226;go_wp2;go_ret;exact⟨rfl,rfl⟩
theorem pN(b:Nat)(a:b<9218868437227405312)(h:4503599627370496<=b)(w:World):Calls Tryz.prog 227 #[.float .f64 b] w fun e w'=>e=.returned (.tuple #[.float .f64 b,.int .i64 0])/\w'=w:=by
 have c:(FloatKind.f64.format.order b 4503599627370496==some .lt)=false:=by
  show(Ieee.double.order b 4503599627370496==some .lt)=false;rw[I0 b _ a (by decide)];rcases Nat.lt_or_ge 4503599627370496 b with l|l
  ·rw[Nat.compare_eq_gt.2 l];rfl
  ·rw[Nat.compare_eq_eq.2 (by omega)];rfl
 go_enter Tryz.func227,Tryz.ntmps227
 go_wp2_with (first
  |(go_at_call 266;refine(Pv b (by omega) _).mono ?_;rintro e w1 ⟨rfl,rfl⟩)
  |fail)
 go_ret2;exact⟨rfl,rfl⟩
theorem pO(b y:Nat)(h:b<4503599627370496)(a:floatBits .mul .f64 b 4841369599423283200=some y)(w:World):Calls Tryz.prog 227 #[.float .f64 b] w fun e w'=>e=.returned (.tuple #[.float .f64 y,.int .i64 (-52)])/\w'=w:=by
 have c:(FloatKind.f64.format.order b 4503599627370496==some .lt)=true:=by
  show(Ieee.double.order b 4503599627370496==some .lt)=true;rw[I0 b _ (by omega) (by decide),Nat.compare_eq_lt.2 h];rfl
 have d:=run_float_arith (P:=Tryz.prog) w .mul 23 .f64 b 4841369599423283200 y a;go_enter Tryz.func227,Tryz.ntmps227
 go_wp2_with (first
  |(go_at_call 266;refine(Pv b (by omega) _).mono ?_;rintro e w1 ⟨rfl,rfl⟩)
  |fail)
 go_ret2;exact⟨rfl,rfl⟩
theorem Vw(b y:Nat)(d:Int)(f:0<b)(a:b<9218868437227405312)(p:y<9218868437227405312)(o: -52<=d/\d<=0)
  (j:∀w,Calls Tryz.prog 227 #[.float .f64 b] w fun e w'=>e=.returned (.tuple #[.float .f64 y,.int .i64 d])/\w'=w) (w:World):
  Calls Tryz.prog 191 #[.float .f64 b] w fun e w'=>e=.returned (.tuple #[.float .f64 (4602678819172646912+y%4503599627370496),.int .i64 (d+((y/4503599627370496:Nat):Int)-1022)])/\w'=w:=by
 have k:(FloatKind.f64.format.order b 0==some .eq)=false:=by
  show(Ieee.double.order b 0==some .eq)=false;rw[I0 b _ a (by decide),Nat.compare_eq_gt.2 f];rfl
 have l:=TN y w;have g:=TQ (4602678819172646912+y%4503599627370496) w;have h:=mT y (by omega);have c:=jC (y%4503599627370496) (by omega);have i:=jD (y/4503599627370496) (by omega);rw[show((4602678819172646912+y%4503599627370496:Nat):Int)=4602678819172646912+(y:Int)%4503599627370496 by omega]at g c;rw[show((y%4503599627370496:Nat):Int)=(y:Int)%4503599627370496 by omega]at h c;rw[show((y/4503599627370496:Nat):Int)=(y:Int)/4503599627370496 by omega]at i;have m:0<=(y:Int)/4503599627370496:=by omega
 have n:(y:Int)/4503599627370496<=2047:=by omega
 go_enter Tryz.func191,Tryz.ntmps191
 go_wp2_with (first
  |(go_at_call 225;refine(jg b a _).mono ?_;rintro e w1 ⟨rfl,rfl⟩)
  |(go_at_call 226;refine(lB b a _).mono ?_;rintro e w1 ⟨rfl,rfl⟩)
  |(go_at_call 227;refine(j _).mono ?_;rintro e w1 ⟨rfl,rfl⟩)
  |fail)
 go_ret2;rw[show d+((y:Int)/4503599627370496-1023+1)=d+((y/4503599627370496:Nat):Int)-1022 by omega];exact⟨rfl,rfl⟩
theorem UD(b f:Nat)(E:Int)(a:∀w,Calls Tryz.prog 191 #[.float .f64 b] w fun e w'=>e=.returned (.tuple #[.float .f64 f,.int .i64 E])/\w'=w)(w:World):
  Calls Tryz.prog 166 #[.float .f64 b] w fun e w'=>e=.returned (.tuple #[.float .f64 f,.int .i64 E])/\w'=w:=by
 go_enter Tryz.func166,Tryz.ntmps166
 go_wp2_with (first
  |(go_at_call 191;refine(a _).mono ?_;rintro e w1 ⟨rfl,rfl⟩)
  |fail)
 go_ret2;exact⟨rfl,rfl⟩
theorem Wc(b m:Nat)(E:Int)(a:m<4503599627370496)(h: -1200<=E/\E<=53)
  (d:∀w,Calls Tryz.prog 166 #[.float .f64 b] w fun e w'=>e=.returned (.tuple #[.float .f64 (4602678819172646912+m),.int .i64 E])/\w'=w) (w:World):
  Calls Tryz.prog 139 #[.float .f64 b] w fun e w'=>e=.returned (.int .i64 (((4503599627370496+m)*1000/2^min (53-E).toNat 64:Nat):Int))/\w'=w:=by
 have f:=run_float_arith (P:=Tryz.prog) w .mul 23 .f64 _ 4845873199050653696 _ (oM m a);have g:=run_convert_float_int (P:=Tryz.prog) w 23 265 .f64 .u64 _ _ (by rw[Tryz.underlying23];rfl) Tryz.underlying265 (oL m a);go_enter Tryz.func139,Tryz.ntmps139
 go_wp2_with (first
  |(go_at_call 166;refine(d _).mono ?_;rintro e w1 ⟨rfl,rfl⟩)
  |fail)
 go_ret;have c:((4503599627370496+(m:Int))*1000/2^min (53-E).toNat 64)=(((4503599627370496+m)*1000/2^min (53-E).toNat 64:Nat):Int):=by
  generalize min (53-E).toNat 64=k;rw[Int.natCast_ediv,Int.natCast_mul,Int.natCast_add,Int.natCast_pow];rfl
 have i:(4503599627370496+m)*1000/2^min (53-E).toNat 64<=(4503599627370496+m)*1000:=Nat.div_le_self _ _;rw[c];generalize (4503599627370496+m)*1000/2^min (53-E).toNat 64=q at*;rw[show wrap64 (q:Int)=q by unfold wrap64;omega];exact⟨rfl,rfl⟩
theorem nF(b:Nat)(a:0<b)(f:b<4652007308841189376)(w:World):Calls Tryz.prog 139 #[.float .f64 b] w fun e w'=>e=.returned (.int .i64 (milN b:Nat))/\w'=w:=by
 by_cases h:b<4503599627370496
 ·obtain⟨y,d,i⟩:=Zf b a h
  have c:y%4503599627370496<4503599627370496:=Nat.mod_lt _ (by decide);refine(Wc b (y%4503599627370496) (-52+((y/4503599627370496:Nat):Int)-1022) c (by omega) (UD b _ _ (Vw b y (-52) a (by omega) (by omega) (by omega) (pO b y h d))) w).mono ?_;rintro e w' ⟨rfl,rfl⟩;rw[milN,if_pos h,show min (53-(-52+((y/4503599627370496:Nat):Int)-1022)).toNat 64=64 by omega,Nat.div_eq_of_lt (by omega)];exact⟨rfl,rfl⟩
 ·have c:b%4503599627370496<4503599627370496:=Nat.mod_lt _ (by decide)
  refine(Wc b (b%4503599627370496) (0+((b/4503599627370496:Nat):Int)-1022) c (by omega) (UD b _ _ (Vw b b 0 a (by omega) (by omega) (by omega) (pN b (by omega) (by omega)))) w).mono ?_;rintro e w' ⟨rfl,rfl⟩;rw[milN,if_neg h];by_cases g:b/4503599627370496<=1011
  ·rw[show min (53-(0+((b/4503599627370496:Nat):Int)-1022)).toNat 64=64 by omega,Nat.div_eq_of_lt (by omega),Nat.div_eq_of_lt]
   ·exact⟨rfl,rfl⟩
   ·refine Nat.lt_of_lt_of_le (m:=2^64) (by omega) (Nat.pow_le_pow_right (by decide) (by omega))
  ·rw[show min (53-(0+((b/4503599627370496:Nat):Int)-1022)).toNat 64=1075-b/4503599627370496 by omega]
   exact⟨rfl,rfl⟩
theorem kY(b:Nat)(g:b<18446744073709551616)(w:World):Calls Tryz.prog 100 #[.float .f64 b] w fun e w'=>e=.returned (.int .i64 (milZ b:Nat))/\w'=w:=by
 have d:(FloatKind.f64.format.order b 0==some .gt)=JU b:=ZP b g;unfold milZ;cases a:JU b
 ·rw[a]at d
  go_enter Tryz.func100,Tryz.ntmps100;go_wp2;go_ret;exact⟨rfl,rfl⟩
 ·have f:(FloatKind.f64.format.order b 4652007308841189376==some .gt||FloatKind.f64.format.order b 4652007308841189376==some .eq)=decide (4652007308841189376<=b):=bD b a
  rw[a]at d;have hp:0<b:=(of_decide_eq_true a).1;by_cases c:4652007308841189376<=b
  ·rw[decide_eq_true c]at f
   rw[if_pos rfl,if_pos c];go_enter Tryz.func100,Tryz.ntmps100;go_wp2;go_ret;exact⟨rfl,rfl⟩
  ·rw[decide_eq_false c]at f
   rw[if_pos rfl,if_neg c];go_enter Tryz.func100,Tryz.ntmps100
   go_wp2_with (first
    |(go_at_call 139;refine(nF b hp (by omega) _).mono ?_;rintro e w1 ⟨rfl,rfl⟩)
    |fail)
   go_ret;exact⟨rfl,rfl⟩
end Go.Proofs.YtmmikiikddokgaaGreatDoor
