/-
  Plain mathematics of math/bits.OnesCount64: the sum of bits in parallel is how many bits there are, for every number below 2^64. Of no program.
  Contracts of math/bits.OnesCount64 and TrailingZeros64, words.Count, words.First, words.Xor, words.Same, words.Set: for every row of at most 2^20 words.
  Contracts of words.First, words.Xor, words.Same: for every row of at most 2^20 words.
  Contracts of bucketlineref01.First, Same, Words, Size, Set and of words.Size, Set: for every row of at most 2^20 words, every int.
  Texts as lists of bytes; slices of bytes of the call's own ('OwnB'); '[]byte(s)', 'string(b)' and 'copy(b, s)' on them. No condition.
-/
import Derived.Test.YtlhhinlghhjghaaGreatDoorU0
import Derived.WalkKit
import Derived.Laws.Bits128
import Derived.OwnWalk
import Derived.RegionTactic
import Derived.Deep.RegionWith
import Derived.Laws.IdiomStrings
import Derived.Laws.CopyRow
import Derived.Laws.MakeOwn
namespace Go.Proofs.YtlhhinlghhjghaaGreatDoor
open Go.RowKit
set_option maxHeartbeats 8000000
def o1(x:Int):Int:=IntKind.u64.wrap (bits .and .u64 (x/2) 6148914691236517205+bits .and .u64 x 6148914691236517205)
def o2(x:Int):Int:=IntKind.u64.wrap (bits .and .u64 (x/4) 3689348814741910323+bits .and .u64 x 3689348814741910323)
def o3(x:Int):Int:=bits .and .u64 (IntKind.u64.wrap (x/16+x)) 1085102592571150095
def o4(x:Int):Int:=IntKind.u64.wrap (x+x/256)
def o5(x:Int):Int:=IntKind.u64.wrap (x+x/65536)
def o6(x:Int):Int:=IntKind.u64.wrap (x+x/4294967296)
def o7(x:Int):Int:=bits .and .i64 (wrap64 x) 127
theorem ZdQ(a b m n:Nat)(ha:a<256)(hm:m<256):(a+256*b)&&&(m+256*n)=(a&&&m)+256*(b&&&n):=by
 have hx:a&&&m<2^8:=Nat.lt_of_le_of_lt Nat.and_le_left ha
 apply Nat.eq_of_testBit_eq
 intro i
 rw[Nat.testBit_and,Nat.add_comm a,Nat.add_comm m,Nat.add_comm (a&&&m),show(256:Nat)=2^8 from rfl]
 rw[Nat.testBit_two_pow_mul_add b ha,Nat.testBit_two_pow_mul_add n hm,Nat.testBit_two_pow_mul_add (b&&&n) hx]
 split
 ·rw[Nat.testBit_and]
 ·rw[Nat.testBit_and]
def rep(m:Nat):Nat→Nat
 |0=>0
 |k+1=>m+256*rep m k
def y8(x:Nat):Nat:=(x/2&&&85)+(x&&&85)
def z8(x:Nat):Nat:=(x/4&&&51)+(x&&&51)
def yk(k x:Nat):Nat:=(x/2&&&rep 85 k)+(x&&&rep 85 k)
def zk(k x:Nat):Nat:=(x/4&&&rep 51 k)+(x&&&rep 51 k)
def gk(k x:Nat):Nat:=(x/16+x)&&&rep 15 k
theorem ZAA:∀(a:Fin 256) (c:Fin 2),(a.val/2+128*c.val)&&&85=a.val/2&&&85:=by decide+kernel
theorem ZAC:∀(a:Fin 256) (c:Fin 4),(a.val/4+64*c.val)&&&51=a.val/4&&&51:=by decide+kernel
theorem ZAL:∀a:Fin 256,y8 a.val<256:=by decide+kernel
theorem ZA9:∀a:Fin 256,z8 a.val<256∧z8 a.val%16≤6:=by decide+kernel
theorem ZAm:∀(a:Fin 256) (c:Fin 7),z8 (y8 a.val)/16+16*c.val+z8 (y8 a.val)<256∧(z8 (y8 a.val)/16+16*c.val+z8 (y8 a.val))&&&15=popF 8 a.val:=by decide+kernel
theorem Zw8(k lo hi:Nat)(h:lo<256):yk (k+1) (lo+256*hi)=y8 lo+256*yk k hi:=by
 unfold yk y8
 have e:(lo+256*hi)/2=(lo/2+128*(hi%2))+256*(hi/2):=by omega
 have d:=ZAA ⟨lo,h⟩ ⟨hi%2,by omega⟩
 simp only at d
 rw[e,show rep 85 (k+1)=85+256*rep 85 k from rfl,ZdQ _ _ _ _ (by omega) (by omega),ZdQ _ _ _ _ h (by omega),d]
 omega
theorem Zot(k lo hi:Nat)(h:lo<256):zk (k+1) (lo+256*hi)=z8 lo+256*zk k hi:=by
 unfold zk z8
 have e:(lo+256*hi)/4=(lo/4+64*(hi%4))+256*(hi/4):=by omega
 have d:=ZAC ⟨lo,h⟩ ⟨hi%4,by omega⟩
 simp only at d
 rw[e,show rep 51 (k+1)=51+256*rep 51 k from rfl,ZdQ _ _ _ _ (by omega) (by omega),ZdQ _ _ _ _ h (by omega),d]
 omega
theorem ZBn:∀k x,zk k x%16≤6
 |0,x=>by simp[zk,rep]
 |k+1,x=>by
  have e:x=x%256+256*(x/256):=by omega
  rw[e,Zot k _ _ (by omega)]
  have:=(ZA9 ⟨x%256,by omega⟩).2
  simp only at this
  omega
theorem ZwK(k lo hi:Nat)(h:lo<256):gk (k+1) (zk (k+1) (yk (k+1) (lo+256*hi)))=popF 8 lo+256*gk k (zk k (yk k hi)):=by
 rw[Zw8 k lo hi h,Zot k _ _ (ZAL ⟨lo,h⟩)]
 have hl:=ZBn k (yk k hi)
 generalize zk k (yk k hi)=t at*
 have d:=ZAm ⟨lo,h⟩ ⟨t%16,by omega⟩
 simp only at d
 have hz:=(ZA9 ⟨y8 lo,ZAL ⟨lo,h⟩⟩).1
 simp only at hz
 generalize z8 (y8 lo)=s at*
 unfold gk
 have e:(s+256*t)/16+(s+256*t)=(s/16+16*(t%16)+s)+256*(t/16+t):=by omega
 rw[e,show rep 15 (k+1)=15+256*rep 15 k from rfl,ZdQ _ _ _ _ d.1 (by omega),d.2]
theorem Zjs:∀f x,popF f x=popF f (x%2^f)
 |0,x=>rfl
 |f+1,x=>by
  simp only[popF]
  rw[Zjs f (x/2),Zjs f (x%2^(f+1)/2)]
  have e1:x%2^(f+1)%2=x%2:=Nat.mod_mod_of_dvd x ⟨2^f,by rw[Nat.pow_succ,Nat.mul_comm]⟩
  have e2:x%2^(f+1)/2=x/2%2^f:=by rw[Nat.pow_succ,Nat.mul_comm,Nat.mod_mul_right_div_self]
  rw[e1,e2,Nat.mod_mod]
theorem Zoy:∀a b x,popF (a+b) x=popF a x+popF b (x/2^a)
 |0,b,x=>by simp[popF]
 |a+1,b,x=>by
  rw[show a+1+b=(a+b)+1 by omega]
  simp only[popF]
  rw[Zoy a b (x/2),Nat.div_div_eq_div_mul,Nat.pow_succ,Nat.mul_comm 2]
  omega
theorem Zx9:∀k x,∃p:List Nat,p.length=k∧(∀q∈p,q≤8)∧popF (8*k) x=p.sum∧gk k (zk k (yk k x))=p.foldr (fun q s=>q+256*s) 0
 |0,x=>⟨[],rfl,by simp,rfl,by simp[gk,rep]⟩
 |k+1,x=>by
  obtain⟨p,h1,h2,h3,h4⟩:=Zx9 k (x/256)
  refine⟨popF 8 (x%256)::p,by simp[h1],?_,?_,?_⟩
  ·intro q hq
   rcases List.mem_cons.1 hq with rfl|hq
   ·exact Zmz 8 _
   ·exact h2 q hq
  ·rw[show 8*(k+1)=8+8*k by omega,Zoy,List.sum_cons,←h3,Zjs 8 x]
  ·have e:x=x%256+256*(x/256):=by omega
   conv=>lhs;rw[e]
   rw[ZwK k _ _ (by omega),h4]
   rfl
theorem ZBF:rep 85 8=6148914691236517205:=by decide+kernel
theorem ZBG:rep 51 8=3689348814741910323:=by decide+kernel
theorem ZBq:rep 15 8=1085102592571150095:=by decide+kernel
theorem ZBK(x:Nat)(h:x<18446744073709551616):o1 (x:Int)=(yk 8 x:Nat)∧yk 8 x≤12297829382473034410:=by
 unfold o1 yk
 rw[ZBF]
 have e:((x:Int)/2)=((x/2:Nat):Int):=by omega
 have a1:=Nat.and_le_right (n:=x/2) (m:=6148914691236517205)
 have a2:=Nat.and_le_right (n:=x) (m:=6148914691236517205)
 have b1:=u64_and_nat (x/2) 6148914691236517205 (by omega) (by omega)
 have b2:=u64_and_nat x 6148914691236517205 (by omega) (by omega)
 have c:((6148914691236517205:Nat):Int)=6148914691236517205:=rfl
 rw[c]at b1 b2
 rw[e,b1,b2,IntKind.wrap_u64]
 omega
theorem ZBu(x:Nat)(h:x<18446744073709551616):o2 (x:Int)=(zk 8 x:Nat)∧zk 8 x≤7378697629483820646:=by
 unfold o2 zk
 rw[ZBG]
 have e:((x:Int)/4)=((x/4:Nat):Int):=by omega
 have a1:=Nat.and_le_right (n:=x/4) (m:=3689348814741910323)
 have a2:=Nat.and_le_right (n:=x) (m:=3689348814741910323)
 have b1:=u64_and_nat (x/4) 3689348814741910323 (by omega) (by omega)
 have b2:=u64_and_nat x 3689348814741910323 (by omega) (by omega)
 have c:((3689348814741910323:Nat):Int)=3689348814741910323:=rfl
 rw[c]at b1 b2
 rw[e,b1,b2,IntKind.wrap_u64]
 omega
theorem ZBD(x:Nat)(h:x≤7378697629483820646):o3 (x:Int)=(gk 8 x:Nat):=by
 unfold o3 gk
 rw[ZBq]
 have e:IntKind.u64.wrap ((x:Int)/16+(x:Int))=((x/16+x:Nat):Int):=by rw[IntKind.wrap_u64];omega
 have b:=u64_and_nat (x/16+x) 1085102592571150095 (by omega) (by omega)
 have c:((1085102592571150095:Nat):Int)=1085102592571150095:=rfl
 rw[c]at b
 rw[e,b]
theorem ZBv(x:Nat)(h:x<9223372036854775808):o7 (x:Int)=((x%128:Nat):Int):=by
 unfold o7
 have e:wrap64 (x:Int)=(x:Int):=by unfold wrap64;omega
 rw[e,i64_and127]
 omega
theorem ZwM(P T:Nat)(h:P≤64):(P+256*T)%128=P:=by omega
theorem ZBy(A A1 p0:Nat)(hA:A=p0+256*A1)(q:p0≤8)(hb:A≤600000000000000000):o4 (A:Int)=((A+A1:Nat):Int):=by
 unfold o4;rw[IntKind.wrap_u64];omega
theorem ZBx(A A1 A2 A3 u u1:Nat)(hA:A=u+65536*A2)(hA1:A1=u1+65536*A3)(q:u≤2056)(q1:u1≤2056)(hb:A≤600000000000000000)(hb1:A1≤600000000000000000):o5 ((A+A1:Nat):Int)=((A+A1+A2+A3:Nat):Int):=by
 unfold o5;rw[IntKind.wrap_u64];omega
theorem ZBA(A A1 A2 A3 A4 A5 A6 A7 v v1 v2 v3:Nat)(hA:A=v+4294967296*A4)(hA1:A1=v1+4294967296*A5)(hA2:A2=v2+4294967296*A6)(hA3:A3=v3+4294967296*A7)
  (q:v+v1+v2+v3<4294967296) (hb:A≤600000000000000000) (hb1:A1≤600000000000000000) (hb2:A2≤600000000000000000) (hb3:A3≤600000000000000000):
  o6 ((A+A1+A2+A3:Nat):Int)=((A+A1+A2+A3+(A4+A5+A6+A7):Nat):Int):=by
 unfold o6;rw[IntKind.wrap_u64];omega
theorem ZuE(p0 p1 p2 p3 p4 p5 p6 p7:Nat)(q0:p0≤8)(q1:p1≤8)(q2:p2≤8)(q3:p3≤8)(q4:p4≤8)(q5:p5≤8)(q6:p6≤8)(q7:p7≤8):
  o7 (o6 (o5 (o4 ((p0+256*(p1+256*(p2+256*(p3+256*(p4+256*(p5+256*(p6+256*(p7+256*0))))))):Nat):Int))))=((p0+(p1+(p2+(p3+(p4+(p5+(p6+(p7+0))))))):Nat):Int):=by
 obtain⟨A7,h7⟩:∃A7,A7=p7+256*0:=⟨_,rfl⟩
 obtain⟨A6,h6⟩:∃A6,A6=p6+256*A7:=⟨_,rfl⟩
 obtain⟨A5,h5⟩:∃A5,A5=p5+256*A6:=⟨_,rfl⟩
 obtain⟨A4,h4⟩:∃A4,A4=p4+256*A5:=⟨_,rfl⟩
 obtain⟨A3,h3⟩:∃A3,A3=p3+256*A4:=⟨_,rfl⟩
 obtain⟨A2,h2⟩:∃A2,A2=p2+256*A3:=⟨_,rfl⟩
 obtain⟨A1,h1⟩:∃A1,A1=p1+256*A2:=⟨_,rfl⟩
 obtain⟨A,h0⟩:∃A,A=p0+256*A1:=⟨_,rfl⟩
 rw[←h7,←h6,←h5,←h4,←h3,←h2,←h1,←h0]
 have b7:A7≤8:=by omega
 have b6:A6≤2056:=by omega
 have b5:A5≤526344:=by omega
 have b4:A4≤134744072:=by omega
 have b3:A3≤34494482440:=by omega
 have b2:A2≤8830587504648:=by omega
 have b1:A1≤2260630401189896:=by omega
 have b0:A≤578721382704613384:=by omega
 rw[ZBy A A1 p0 h0 q0 (by omega)]
 have u0:A=(p0+256*p1)+65536*A2:=by omega
 have u1:A1=(p1+256*p2)+65536*A3:=by omega
 have u2:A2=(p2+256*p3)+65536*A4:=by omega
 have u3:A3=(p3+256*p4)+65536*A5:=by omega
 have u4:A4=(p4+256*p5)+65536*A6:=by omega
 have u5:A5=(p5+256*p6)+65536*A7:=by omega
 rw[ZBx A A1 A2 A3 _ _ u0 u1 (by omega) (by omega) (by omega) (by omega)]
 have v0:A=((p0+256*p1)+65536*(p2+256*p3))+4294967296*A4:=by rw[u0,u2];omega
 have v1:A1=((p1+256*p2)+65536*(p3+256*p4))+4294967296*A5:=by rw[u1,u3];omega
 have v2:A2=((p2+256*p3)+65536*(p4+256*p5))+4294967296*A6:=by rw[u2,u4];omega
 have v3:A3=((p3+256*p4)+65536*(p5+256*p6))+4294967296*A7:=by rw[u3,u5];omega
 rw[ZBA A A1 A2 A3 A4 A5 A6 A7 _ _ _ _ v0 v1 v2 v3 (by omega) (by omega) (by omega) (by omega) (by omega)]
 clear u0 u1 u2 u3 u4 u5 v0 v1 v2 v3
 rw[ZBv _ (by omega)]
 have e:A+A1+A2+A3+(A4+A5+A6+A7)=(p0+(p1+(p2+(p3+(p4+(p5+(p6+(p7+0))))))))+256*(A1+A2+A3+A4+A5+A6+A7):=by omega
 rw[e]
 have hq:p0+(p1+(p2+(p3+(p4+(p5+(p6+(p7+0)))))))≤64:=by omega
 rw[ZwM _ _ hq]
 clear e hq
 omega
theorem Zza(x:Nat)(h:x<18446744073709551616):o7 (o6 (o5 (o4 (o3 (o2 (o1 (x:Int)))))))=(pop x:Nat):=by
 obtain⟨e1,b1⟩:=ZBK x h
 obtain⟨e2,b2⟩:=ZBu (yk 8 x) (by omega)
 have e3:=ZBD (zk 8 (yk 8 x)) b2
 rw[e1,e2,e3]
 obtain⟨p,hl,hp,hs,hg⟩:=Zx9 8 x
 rw[hg]
 unfold pop
 rw[show(64:Nat)=8*8 from rfl,hs]
 match p,hl with
 |[p0,p1,p2,p3,p4,p5,p6,p7],_=>
  have q0:=hp p0 (by simp)
  have q1:=hp p1 (by simp)
  have q2:=hp p2 (by simp)
  have q3:=hp p3 (by simp)
  have q4:=hp p4 (by simp)
  have q5:=hp p5 (by simp)
  have q6:=hp p6 (by simp)
  have q7:=hp p7 (by simp)
  clear hp hs hg e1 e2 e3 b1 b2 h
  simp only[List.foldr_cons,List.foldr_nil,List.sum_cons,List.sum_nil]
  exact ZuE p0 p1 p2 p3 p4 p5 p6 p7 q0 q1 q2 q3 q4 q5 q6 q7
end Go.Proofs.YtlhhinlghhjghaaGreatDoor
namespace Go.Proofs.YtlhhinlghhjghaaGreatDoor
open Go.RowKit
set_option linter.unusedVariables false
set_option linter.unusedSimpArgs false
set_option maxRecDepth 4000
set_option maxHeartbeats 8000000
variable {xs ys:List Nat}{B g cap k:Nat}{v:Value}{w wr:World}
theorem ZxH(x:Nat)(hx:x<18446744073709551616)(w:World):
  Calls Tryz.prog 205 #[.int .u64 (x:Int)] w fun e w'=>e=.returned (.int .i64 ((pop x:Nat):Int))∧w'=w:=by
 have H:=hide (Zza x hx)
 clear hx
 go_enter Tryz.func205,Tryz.ntmps205
 go_wp2
 go_ret
 exact⟨ZaE (unhide H),rfl⟩
def Tab(w:World):Prop:=∀i,i<64→w.cell? ⟨3,i,none⟩=some (.int .u8 ((Lib.deBruijn64tab.getD i 0:Nat):Int))
theorem Tab.below{w':World}(h:Tab w)(hb:Below w.heap.size w w'):Tab w':=fun i hi=>(hb.cell (World.block_lt_of_cell? w _ (h i hi))).trans (h i hi)
theorem ZAD(x:Nat)(h0:x≠0)(hx:x<18446744073709551616):
  ∃q:Nat,q<64∧Lib.deBruijn64tab.getD q 0=Lib.ctz 64 x∧IntKind.u64.wrap (bits .and .u64 (x:Int) (IntKind.u64.wrap (-(x:Int)))*285870213051353865)/288230376151711744=(q:Int):=by
 obtain⟨h1,h2⟩:=Lib.lowest_bit 64 x h0 (by omega)
 obtain⟨h3,h4⟩:=Lib.deBruijn64_at (Lib.ctz 64 x) h2
 refine⟨_,h3,h4,?_⟩
 have e:IntKind.u64.wrap (-(x:Int))=((2^64-x:Nat):Int):=by rw[IntKind.wrap_u64];omega
 rw[e,u64_and_nat x (2^64-x) hx (by omega),h1,IntKind.wrap_u64]
 rw[show((2^Lib.ctz 64 x:Nat):Int)*285870213051353865=((2^Lib.ctz 64 x*285870213051353865:Nat):Int) from by rw[Int.natCast_mul];rfl]
 generalize 2^Lib.ctz 64 x*285870213051353865=z
 omega
theorem ZBj(x:Nat)(h0:x≠0)(hx:x<18446744073709551616)(w:World)(ht:Tab w):
  Calls Tryz.prog 303 #[.int .u64 (x:Int)] w fun e w'=>e=.returned (.int .i64 ((Lib.ctz 64 x:Nat):Int))∧w'=w:=by
 have hne:((x:Int)==0)=false:=by simp;omega
 obtain⟨q,hq,hd,hz⟩:=ZAD x h0 hx
 have hcell:=ht q hq
 rw[hd]at hcell
 have hlt:Lib.ctz 64 x<64:=(Lib.lowest_bit 64 x h0 (by omega)).2
 generalize Lib.ctz 64 x=t at*
 clear ht hd h0
 go_enter Tryz.func303,Tryz.ntmps303
 go_wp2
 go_ret
 exact⟨rfl,rfl⟩
theorem Zbt(a:Option Addr)(n c:Nat)(xs:List Nat)(w:World)(h:RowAt w a n xs)(hn:n≤1048576):
  Calls Tryz.prog 181 #[.slice a n c] w fun e w'=>e=.returned (.int .i64 ((cnt xs:Nat):Int))∧w'=w:=by
 go_enter Tryz.func181,Tryz.ntmps181
 go_wp2
 go_loop [3,8] (fun t i=> ∃k:Nat,k≤n∧i=.int .i64 k∧t=.int .i64 ((cnt (xs.take k):Nat):Int)) (fun _ i=>n-(intOf i).toNat)
 case atStart=>exact⟨0,Nat.zero_le _,rfl,rfl⟩
 case round=>
  obtain⟨k,hk,rfl,rfl⟩:=hrel
  by_cases hlt:k<n
  ·obtain⟨b,off,rfl,hc⟩:=h.at hlt
   have hcell:=hc k hlt
   have hx:=h.2.1.get k
   have hs:=Zvs xs k (by rw[h.1];exact hlt)
   have hb:=Zkw (xs.take k)
   have hlen:(xs.take k).length≤k:=List.length_take_le _ _
   have hp:=ZxR (xs.getD k 0)
   have HS:=hide hs
   generalize xs.getD k 0=x at*
   generalize cnt (xs.take k)=s at*
   clear hs hc h
   go_wp2_with (go_at_call 205;refine(ZxH x hx _).mono ?_;rintro e w' ⟨rfl,rfl⟩)
   go_round
   case rel=>exact⟨k+1,by omega,by go_num,by rw[unhide HS];go_num⟩
   case measure=>simp[intOf];omega
  ·go_wp2
   go_ret
   exact⟨ZaE (by rw[List.take_of_length_le (by rw[h.1];omega)]),rfl⟩
theorem Zqy(xs:List Nat)(k:Nat)(h:∀j,j<k→xs.getD j 0=0)(h0:xs.getD k 0=0):∀j,j<k+1→xs.getD j 0=0:=by
 intro j hj
 by_cases e:j=k
 ·rw[e];exact h0
 ·exact h j (by omega)
theorem ZpC(xs:List Nat)(h:∀j,j<xs.length→xs.getD j 0=0):firstI xs= -1:=
 ZgT xs ((ZbW xs).2 fun i=>by
  by_cases hi:i<xs.length
  ·exact h i hi
  ·exact ZaS (by omega))
theorem Zc0(a:Option Addr)(n c:Nat)(xs:List Nat)(w:World)(ht:Tab w)(h:RowAt w a n xs)(hn:n≤1048576):
  Calls Tryz.prog 267 #[.slice a n c] w fun e w'=>e=.returned (.int .i64 (firstI xs))∧w'=w:=by
 go_enter Tryz.func267,Tryz.ntmps267
 go_wp2
 go_loop [7] (fun i=> ∃k:Nat,k≤n∧i=.int .i64 k∧Hid (∀j,j<k→xs.getD j 0=0)) (fun i=>n-(intOf i).toNat)
 case atStart=>exact⟨0,Nat.zero_le _,rfl,hide (fun j hj=>by omega)⟩
 case round=>
  obtain⟨k,hk,rfl,HZ⟩:=hrel
  by_cases hlt:k<n
  ·obtain⟨b,off,rfl,hc⟩:=h.at hlt
   have hcell:=hc k hlt
   have hx:=h.2.1.get k
   by_cases h0:xs.getD k 0=0
   ·rw[h0]at hcell
    have HS:=hide (Zqy xs k (unhide HZ) h0)
    clear hc h h0 hx ht
    go_wp2
    go_round
    case rel=>exact⟨k+1,by omega,by go_num,HS⟩
    case measure=>simp[intOf];omega
   ·have HF:=hide (Zfj xs k (by rw[h.1];exact hlt) (unhide HZ) h0)
    have hct:=(Lib.lowest_bit 64 (xs.getD k 0) h0 (by omega)).2
    have hne:(((xs.getD k 0:Nat):Int) !=0)=true:=by rw[bne_iff_ne];omega
    generalize xs.getD k 0=x at*
    clear hc h
    go_wp2_with (go_at_call 303;refine(ZBj x h0 hx _ ht).mono ?_;rintro e w' ⟨rfl,rfl⟩)
    go_ret
    exact⟨ZaE (unhide HF).symm,rfl⟩
  ·have HF:=hide (ZpC xs (fun j hj=>unhide HZ j (by have:=h.1;omega)))
   go_wp2
   go_ret
   exact⟨ZaE (unhide HF).symm,rfl⟩
theorem ZhH(hx:smalls xs)(hy:smalls ys)(hk:k<xs.length)(hB:B≤g)
  (ho:Own wr B (.slice (some ⟨g,0,none⟩) xs.length cap) (Zc3 xs ys k)) (hb:Below B w wr):
  Own (wr.setCell ⟨g,k,none⟩ (.int .u64 ((xs.getD k 0^^^ys.getD k 0:Nat):Int))) B (.slice (some ⟨g,0,none⟩) xs.length cap) (Zc3 xs ys (k+1))∧
  Below B w (wr.setCell ⟨g,k,none⟩ (.int .u64 ((xs.getD k 0^^^ys.getD k 0:Nat):Int))):=by
 have hl:=Zac xs ys k
 rw[←hl]at ho
 have h1:=ho.stored k (xs.getD k 0^^^ys.getD k 0) (Nat.xor_lt_two_pow (n:=64) (by have:=hx.get k;omega) (by have:=hy.get k;omega))
 rw[Zid xs ys k hk,hl]at h1
 exact⟨h1,hb.setCell (by exact hB) _⟩
theorem ZeC(a:Option Addr)(n c:Nat)(xs:List Nat)(a':Option Addr)(m c':Nat)(ys:List Nat)(w:World)(h:RowAt w a n xs)(h':RowAt w a' m ys)(hn:n≤1048576)(hm:m≤1048576):
  Calls Tryz.prog 299 #[.slice a n c,.slice a' m c'] w fun e w'=> ∃v,e=.returned v∧Own w' w.heap.size v (xorL xs ys)∧Below w.heap.size w w':=by
 obtain rfl:n=xs.length:=h.1.symm
 obtain rfl:m=ys.length:=h'.1.symm
 by_cases hsw:xs.length<ys.length
 ·have hge:((xs.length:Int)<(ys.length:Int)):=by omega
  go_enter Tryz.func299,Tryz.ntmps299
  go_wp2_with (go_at_call 236;refine(ZbE a' ys.length c' ys _ h' (by omega)).mono ?_;rintro e w1 ⟨v,rfl,ho,hb⟩)
  go_loopw [19] (fun i wr=> ∃k:Nat,k≤xs.length∧i=.int .i64 k∧Hid (Own wr w.heap.size v (Zc3 ys xs k))∧Hid (Below w.heap.size w wr)) (fun i _=>xs.length-(intOf i).toNat)
  case atStart=>exact⟨0,Nat.zero_le _,rfl,hide (by rw[ZcT];exact ho),hide hb⟩
  case round=>
   obtain⟨k,hk,rfl,HO,HB⟩:=hrel
   clear ho hb
   by_cases hlt:k<xs.length
   ·obtain⟨b',off',rfl,hc'⟩:=(h.below (unhide HB)).at hlt
    have hkn:k<ys.length:=by omega
    obtain⟨g,cap,rfl,hBg,hgs,hcg,hfg⟩:=(unhide HO).at (by rw[Zac];omega)
    have hcell':=hc' k hlt
    have hcell:=hcg k (by rw[Zac];omega)
    have hfz:=hfg k
    rw[Zbl ys xs k k (by omega),if_neg (by omega)]at hcell
    have hxo:=u64_xor_nat (ys.getD k 0) (xs.getD k 0) (h'.2.1.get k) (h.2.1.get k)
    rw[Zac]at HO
    have R:=hide (ZhH h'.2.1 h.2.1 (by omega) hBg (unhide HO) (unhide HB))
    rw[Zac]
    generalize ys.getD k 0=x at*
    generalize xs.getD k 0=y at*
    clear hc' hcg hfg h h' HO
    go_wp2
    go_roundw
    case rel=>exact⟨k+1,by omega,by go_num,hide (unhide R).1,hide (unhide R).2⟩
    case measure=>simp[intOf];omega
   ·have hke:k=xs.length:=by omega
    subst hke
    rw[ZdS ys xs (by omega)]at HO
    clear h h'
    go_wp2
    go_ret
    exact⟨_,rfl,by rw[ZdN];exact unhide HO,unhide HB⟩
 ·have hge:¬((xs.length:Int)<(ys.length:Int)):=by omega
  go_enter Tryz.func299,Tryz.ntmps299
  go_wp2_with (go_at_call 236;refine(ZbE a xs.length c xs _ h (by omega)).mono ?_;rintro e w1 ⟨v,rfl,ho,hb⟩)
  go_loopw [19] (fun i wr=> ∃k:Nat,k≤ys.length∧i=.int .i64 k∧Hid (Own wr w.heap.size v (Zc3 xs ys k))∧Hid (Below w.heap.size w wr)) (fun i _=>ys.length-(intOf i).toNat)
  case atStart=>exact⟨0,Nat.zero_le _,rfl,hide (by rw[ZcT];exact ho),hide hb⟩
  case round=>
   obtain⟨k,hk,rfl,HO,HB⟩:=hrel
   clear ho hb
   by_cases hlt:k<ys.length
   ·obtain⟨b',off',rfl,hc'⟩:=(h'.below (unhide HB)).at hlt
    have hkn:k<xs.length:=by omega
    obtain⟨g,cap,rfl,hBg,hgs,hcg,hfg⟩:=(unhide HO).at (by rw[Zac];omega)
    have hcell':=hc' k hlt
    have hcell:=hcg k (by rw[Zac];omega)
    have hfz:=hfg k
    rw[Zbl xs ys k k (by omega),if_neg (by omega)]at hcell
    have hxo:=u64_xor_nat (xs.getD k 0) (ys.getD k 0) (h.2.1.get k) (h'.2.1.get k)
    rw[Zac]at HO
    have R:=hide (ZhH h.2.1 h'.2.1 (by omega) hBg (unhide HO) (unhide HB))
    rw[Zac]
    generalize xs.getD k 0=x at*
    generalize ys.getD k 0=y at*
    clear hc' hcg hfg h h' HO
    go_wp2
    go_roundw
    case rel=>exact⟨k+1,by omega,by go_num,hide (unhide R).1,hide (unhide R).2⟩
    case measure=>simp[intOf];omega
   ·have hke:k=ys.length:=by omega
    subst hke
    rw[ZdS xs ys (by omega)]at HO
    clear h h'
    go_wp2
    go_ret
    exact⟨_,rfl,unhide HO,unhide HB⟩
theorem Zd8(hx:smalls xs)(hy:smalls ys):smalls (xorL xs ys):=by
 intro z hz
 unfold xorL at hz
 obtain⟨i,_,rfl⟩:=List.mem_map.1 hz
 have h1:=hx.get i
 have h2:=hy.get i
 exact Nat.xor_lt_two_pow (n:=64) (by omega) (by omega)
theorem Zwt(a:Option Addr)(n c:Nat)(xs:List Nat)(a':Option Addr)(m c':Nat)(ys:List Nat)(w:World)(ht:Tab w)(h:RowAt w a n xs)(h':RowAt w a' m ys)(hn:n≤1048576)(hm:m≤1048576):
  Calls Tryz.prog 265 #[.slice a n c,.slice a' m c'] w fun e w'=>e=.returned (.bool (decide (firstI (xorL xs ys)<0)))∧Below w.heap.size w w':=by
 go_enter Tryz.func265,Tryz.ntmps265
 go_wp2_with fail
 refine(ZeC a n c xs a' m c' ys _ h h' hn hm).mono ?_
 rintro e w1 ⟨v,rfl,ho,hb⟩
 obtain⟨a1,c1,rfl,hr⟩:=ho.row
 have hl:(xorL xs ys).length≤1048576:=by rw[Zae,h.1,h'.1];omega
 have ht1:=ht.below hb
 go_wp2_with fail
 refine(Zc0 a1 _ c1 _ _ ht1 hr hl).mono ?_
 rintro e w2 ⟨rfl,rfl⟩
 go_wp2
 go_ret
 exact⟨rfl,hb⟩
def sizeOfK(k:Int):Nat:=if k<1∨128<k then 0 else((k+63)/64).toNat
theorem Zcd(k:Int)(w:World):
  Calls Tryz.prog 177 #[.int .i64 k] w fun e w'=>e=.returned (.int .i64 ((sizeOfK k:Nat):Int))∧w'=w:=by
 by_cases h1:k<1
 ·have e:sizeOfK k=0:=by unfold sizeOfK;rw[if_pos (.inl h1)]
  rw[e]
  go_enter Tryz.func177,Tryz.ntmps177
  go_wp2
  go_ret
  exact⟨rfl,rfl⟩
 ·by_cases h2:128<k
  ·have e:sizeOfK k=0:=by unfold sizeOfK;rw[if_pos (.inr h2)]
   rw[e]
   go_enter Tryz.func177,Tryz.ntmps177
   go_wp2
   go_ret
   exact⟨rfl,rfl⟩
  ·have e:((sizeOfK k:Nat):Int)=(k+64-1)/64:=by unfold sizeOfK;rw[if_neg (by omega)];omega
   have HE:=hide e
   clear e
   go_enter Tryz.func177,Tryz.ntmps177
   go_wp2
   go_ret
   exact⟨ZaE (unhide HE).symm,rfl⟩
def tx(s:ByteArray):List Nat:=s.data.toList.map fun b=>b.toNat
def st(xs:List Nat):ByteArray:=⟨(xs.map UInt8.ofNat).toArray⟩
def bytes(xs:List Nat):Prop:=∀x∈xs,x<256
theorem Zaa(s:ByteArray):(tx s).length=s.size:=by cases s;simp[tx,ByteArray.size]
theorem Zal(s:ByteArray):bytes (tx s):=by
 intro x hx
 obtain⟨b,_,rfl⟩:=List.mem_map.1 hx
 exact b.toNat_lt
theorem Zll(s:ByteArray):st (tx s)=s:=by
 cases s with
 |mk d=>
  unfold st tx
  congr 1
  rw[List.map_map]
  have e:((fun x=>UInt8.ofNat x)∘fun b:UInt8=>b.toNat)=id:=by funext b;simp
  rw[e];simp
theorem Zdl(h:bytes xs):tx (st xs)=xs:=by
 unfold tx st
 simp only[List.map_map]
 conv=>rhs;rw[←List.map_id xs]
 apply List.map_congr_left
 intro x hx
 have:=h x hx
 simp[Nat.mod_eq_of_lt this]
theorem ZhO{a b:ByteArray}(h:tx a=tx b):a=b:=by rw[←Zll a,←Zll b,h]
theorem ZaU(h:bytes xs)(k:Nat):bytes (xs.take k):=fun x hx=>h x (List.mem_of_mem_take hx)
theorem Zbr(h:bytes xs)(k:Nat):bytes (xs.drop k):=fun x hx=>h x (List.mem_of_mem_drop hx)
theorem bytes.get(h:bytes xs)(i:Nat):xs.getD i 0<256:=by
 rw[List.getD_eq_getElem?_getD]
 cases hx:xs[i]? with
 |none=>simp
 |some x=>exact h x (List.mem_of_getElem? hx)
theorem ZnO(s:ByteArray)(k:Nat)(h:k<s.size):s[k].toNat=(tx s).getD k 0:=by
 cases s with
 |mk d=>
  have hd:k<d.size:=h
  simp only[tx,List.getD_eq_getElem?_getD,List.getElem?_map,Array.getElem?_toList,Array.getElem?_eq_getElem hd]
  rfl
theorem bytes.set(h:bytes xs)(i x:Nat)(hx:x<256):bytes (xs.set i x):=by
 intro y hy
 rcases List.mem_or_eq_of_mem_set hy with h1|rfl
 ·exact h y h1
 ·exact hx
theorem Zt2{x y:Nat}(hx:x<256)(hy:y<256):x^^^y<256:=Nat.xor_lt_two_pow (n:=8) (by omega) (by omega)
theorem ZfS(hx:bytes xs)(hy:bytes ys):bytes (xorL xs ys):=by
 intro z hz
 unfold xorL at hz
 obtain⟨i,_,rfl⟩:=List.mem_map.1 hz
 exact Zt2 (hx.get i) (hy.get i)
theorem ZcW:bytes []:=fun _ h=>by cases h
def xorS(a b:ByteArray):ByteArray:=st (xorL (tx a) (tx b))
theorem Zjc(a b:ByteArray):tx (xorS a b)=xorL (tx a) (tx b):=Zdl (ZfS (Zal a) (Zal b))
theorem Zkg(a b:ByteArray):(xorS a b).size=max a.size b.size:=by rw[←Zaa,Zjc,Zae,Zaa,Zaa]
theorem ZgE(a:List Nat):xorL a []=a:=by
 apply Za1
 ·rw[Zae];simp
 ·intro i hi;rw[Zau];simp
theorem Zjm(a:List Nat):xorL [] a=a:=by rw[ZdN,ZgE]
theorem Zo1(a b c:List Nat):xorL (xorL a b) c=xorL a (xorL b c):=by
 apply Za1
 ·simp only[Zae];omega
 ·intro i hi;simp only[Zau];exact Nat.xor_assoc _ _ _
theorem Zgs(a b:ByteArray):(a.toList==b.toList)=decide (a=b):=by
 rw[ByteArray.toList_eq,ByteArray.toList_eq,Bool.eq_iff_iff]
 simp only[beq_iff_eq,decide_eq_true_eq,Array.toList_inj]
 constructor
 ·intro h;cases a;cases b;simp_all
 ·intro h;rw[h]
def OwnB(w:World)(B:Nat)(v:Value)(xs:List Nat):Prop:=
 bytes xs∧((v=.slice none 0 0∧xs=[])∨∃g cap,v=.slice (some ⟨g,0,none⟩) xs.length cap∧B≤g∧g<w.heap.size∧
  (∀i,i<xs.length→w.cell? ⟨g,i,none⟩=some (.int .u8 ((xs.getD i 0:Nat):Int)))∧∀i,i<xs.length→w.frozen? ⟨g,i,none⟩=false)
theorem OwnB.nil(w:World)(B:Nat):OwnB w B (.slice none 0 0) []:=⟨ZcW,.inl ⟨rfl,rfl⟩⟩
theorem OwnB.slice(h:OwnB w B v xs):∃a c,v=.slice a xs.length c:=by
 rcases h.2 with⟨rfl,rfl⟩|⟨g,cap,rfl,_⟩
 ·exact⟨_,_,rfl⟩
 ·exact⟨_,_,rfl⟩
theorem OwnB.at(h:OwnB w B v xs)(hn:0<xs.length):
  ∃g cap,v=.slice (some ⟨g,0,none⟩) xs.length cap∧B≤g∧g<w.heap.size∧(∀i,i<xs.length→w.cell? ⟨g,i,none⟩=some (.int .u8 ((xs.getD i 0:Nat):Int)))∧∀i,i<xs.length→w.frozen? ⟨g,i,none⟩=false:=by
 rcases h.2 with⟨_,rfl⟩|h
 ·simp at hn
 ·exact h
theorem OwnB.mono{B':Nat}(h:OwnB w B v xs)(hB:B'≤B):OwnB w B' v xs:=by
 refine⟨h.1,?_⟩
 rcases h.2 with h0|⟨g,cap,h1,hb,r⟩
 ·exact .inl h0
 ·exact .inr ⟨g,cap,h1,Nat.le_trans hB hb,r⟩
theorem OwnB.below{w':World}(h:OwnB w B v xs)(hb:Below w.heap.size w w'):OwnB w' B v xs:=by
 refine⟨h.1,?_⟩
 rcases h.2 with h0|⟨g,cap,h1,hg,hgg,hc,hf⟩
 ·exact .inl h0
 ·exact .inr ⟨g,cap,h1,hg,Nat.lt_of_lt_of_le hgg hb.size,fun i hi=>((ZAk hb).1 g i hgg).trans (hc i hi),fun i hi=>((ZAk hb).2 g i hgg).trans (hf i hi)⟩
theorem OwnB.stored(h:OwnB w B (.slice (some ⟨g,0,none⟩) xs.length cap) xs)(i x:Nat)(hx:x<256):
  OwnB (w.setCell ⟨g,i,none⟩ (.int .u8 (x:Int))) B (.slice (some ⟨g,0,none⟩) xs.length cap) (xs.set i x):=by
 refine⟨h.1.set i x hx,.inr ?_⟩
 rcases h.2 with⟨h1,_⟩|⟨g',cap',h1,hg,hgg,hc,hf⟩
 ·cases h1
 ·simp only[Value.slice.injEq,Option.some.injEq,Addr.mk.injEq,and_true,true_and]at h1
  obtain⟨rfl,rfl⟩:=h1
  refine⟨g,cap,by rw[List.length_set],hg,by simpa using hgg,fun j hj=>?_,fun j hj=>by rw[World.frozen?_setCell];exact hf j (by simpa using hj)⟩
  rw[List.length_set]at hj
  rw[ZaP]
  by_cases e:j=i
  ·subst e
   rw[if_pos ⟨rfl,hj⟩]
   exact World.cell?_setCell_same _ _ _ (hc j hj)
  ·rw[if_neg (fun h=>e h.1)]
   have hne:(⟨g,i,none⟩:Addr)≠⟨g,j,none⟩:=fun h=>e (by injection h with h1 h2;exact h2.symm)
   exact(World.cell?_setCell_other (h:=hne) ..).trans (hc j hj)
theorem OwnB.drew(h:OwnB w B v xs):OwnB w.drew B v xs:=by
 refine⟨h.1,?_⟩
 rcases h.2 with h0|⟨g,cap,h1,hg,hgg,hc,hf⟩
 ·exact .inl h0
 ·exact .inr ⟨g,cap,h1,hg,hgg,hc,hf⟩
theorem ZnP{z:Nat}(hx:bytes xs)(hy:bytes ys)(hk:k<xs.length)(hB:B≤g)
  (ho:OwnB wr B (.slice (some ⟨g,0,none⟩) xs.length cap) (Zc3 xs ys k)) (hb:Below B w wr) (hz:z=xs.getD k 0^^^ys.getD k 0):
  OwnB (wr.setCell ⟨g,k,none⟩ (.int .u8 (z:Int))) B (.slice (some ⟨g,0,none⟩) xs.length cap) (Zc3 xs ys (k+1))∧Below B w (wr.setCell ⟨g,k,none⟩ (.int .u8 (z:Int))):=by
 have hl:=Zac xs ys k
 subst hz
 rw[←hl]at ho
 have h1:=ho.stored k (xs.getD k 0^^^ys.getD k 0) (Zt2 (hx.get k) (hy.get k))
 rw[Zid xs ys k hk,hl]at h1
 exact⟨h1,hb.setCell (by exact hB) _⟩
theorem Zuq{z:Nat}(hx:bytes xs)(hy:bytes ys)(hk:k<xs.length)(hB:B≤g)
  (ho:OwnB wr B (.slice (some ⟨g,0,none⟩) xs.length cap) (Zc3 xs ys k)) (hb:Below B w wr) (hz:z=xs.getD k 0^^^ys.getD k 0):
  OwnB (wr.setCell ⟨g,k,none⟩ (.int .u8 (z:Int))).drew B (.slice (some ⟨g,0,none⟩) xs.length cap) (Zc3 xs ys (k+1))∧Below B w (wr.setCell ⟨g,k,none⟩ (.int .u8 (z:Int))).drew:=by
 obtain⟨h1,h2⟩:=ZnP hx hy hk hB ho hb hz
 exact⟨h1.drew,h2.drew⟩
theorem OwnB.text(h:OwnB w B v xs):(convert 260 9 v).run Tryz.prog w=.ok (.string (st xs)) w:=by
 rcases h.2 with⟨rfl,rfl⟩|⟨g,cap,rfl,hg,hgg,hc,hf⟩
 ·rw[run_convert_bytes_string w 260 9 5 none 0 0 Tryz.underlying260 Tryz.underlying5 Tryz.underlying9]
  rfl
 ·have:=run_convert_bytes_back (P:=Tryz.prog) w 260 9 5 ⟨g,0,none⟩ cap (xs.map UInt8.ofNat) Tryz.underlying260 Tryz.underlying5 Tryz.underlying9 (fun j hj=>by
   have hj':j<xs.length:=by simpa using hj
   have e:(⟨g,0,none⟩:Addr).add j=⟨g,j,none⟩:=by unfold Addr.add;split<;>simp_all
   rw[e,hc j hj']
   have hb:=h.1.get j
   simp only[List.getElem_map]
   rw[List.getD_eq_getElem?_getD,List.getElem?_eq_getElem hj']at hb⊢
   simp only[Option.getD_some]at hb⊢
   rw[UInt8.toNat_ofNat_of_lt' hb])
  rw[List.length_map]at this
  exact this
theorem ZmK:(Tryz.prog.info? 5).map (fun i=>(i.zero,i.size,i.bytes))=some (some (.int .u8 0),1,1):=by kernel_rfl
theorem Zdk{P:Program}(w:World)(dT sT ty elem:TypeId)(g n cap:Nat)(s:ByteArray)(cur:Array Value)(t:TypeId)(hu:P.underlying dT=some (.slice elem))(hs:(P.info? elem).map (·.size)=some 1)
  (hg:w.heap[g]? =some (.cells cur t (0,0))) (hc:cur.size=s.size) (hn:n=s.size):
  (Builtin.copy_ #[dT,sT] ty #[.slice (some ⟨g,0,none⟩) n cap,.string s]).run P w=.ok (goInt s.size) (w.setRow g (s.data.map fun b=>Value.int .u8 (b.toNat:Int))):=by
 subst hn
 have hlen:(s.data.toList.map fun b=>Value.int .u8 (b.toNat:Int)).length=s.size:=by rw[List.length_map];rfl
 have hst:=run_storeCells_at P g 0 t (s.data.toList.map fun b=>Value.int .u8 (b.toNat:Int)) 0 cur w hg (by rw[hlen,hc];omega)
  (fun v hv=>by obtain⟨b,_,rfl⟩:=List.mem_map.1 hv;rfl)
 have hd:(List.take (0+0) cur.toList++(s.data.toList.map fun b=>Value.int .u8 (b.toNat:Int))++List.drop (0+0+(s.data.toList.map fun b=>Value.int .u8 (b.toNat:Int)).length) cur.toList).toArray=s.data.map fun b=>Value.int .u8 (b.toNat:Int):=by
  rw[List.drop_eq_nil_of_le (by rw[hlen,Array.length_toList,hc];omega)]
  apply Array.ext'
  simp
 rw[hd]at hst
 have hmin:Nat.min s.size s.size=s.size:=Nat.min_self _
 have hex:List.take s.size (s.data.toList.map fun b=>Value.int .u8 (b.toNat:Int))=s.data.toList.map fun b=>Value.int .u8 (b.toNat:Int):=List.take_of_length_le (by rw[hlen];omega)
 cases hq:P.info? elem with
 |none=>simp[hq]at hs
 |some i=>
  simp[Builtin.copy_,run_underlying hu,Builtin.lenOf,Builtin.firstCells,sizeOf,typeInfo,hq,hmin,hex,hst]
theorem Zzq{a b:ByteArray}(h:a=b):Ending.returned (.string a)=.returned (.string b):=by rw[h]
theorem Zj9(a b:ByteArray):tx (a++b)=tx a++tx b:=by
 unfold tx
 rw[ByteArray.data_append,Array.toList_append,List.map_append]
theorem Zb1(xs:List Nat):(st xs).size=xs.length:=by simp[st,ByteArray.size]
theorem ZcJ(s:ByteArray)(a b:Nat):tx (s.extract a b)=((tx s).drop a).take (b-a):=by
 unfold tx
 rw[ByteArray.data_extract,Array.toList_extract,List.extract_eq_take_drop,List.map_take,List.map_drop]
theorem Zex(x y:Nat)(ts:Array TypeId)(t:TypeId)(w:World):(Builtin.min_ ts t #[.int .i64 (x:Int),.int .i64 (y:Int)]).run Tryz.prog w=.ok (.int .i64 ((min x y:Nat):Int)) w:=by
 rw[run_min_int2]
 congr 2
 split<;>omega
end Go.Proofs.YtlhhinlghhjghaaGreatDoor
