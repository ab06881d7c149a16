/-
  Plain mathematics of the sum of bytes: the step on 32 bits, linear and one to one; the sum of a list of bytes; what other bytes do to it. Of no program. No condition but that numbers are below 2^32 where it is said.
  Contracts of crc.shift, crc.Sum, bucketlineref05.Sum: for every text of at most 2^20 bytes.
  Contracts of crc.tail, crc.Seal, bucketlineref05.Seal: for every text of at most 2^20 bytes.
  Contracts of crc.Seal, bucketlineref05.Seal, crc.Open, bucketlineref05.Open: for every text of at most 2^20 bytes.
  Plain mathematics of frames as bytes: what is encoded is decoded, and the other way round. No condition.
-/
import Derived.Lib.TrailingZeros
import Derived.Test.YtlhhinlghhjghaaGreatDoorU2
import Derived.Laws.ShiftsVarLaws
import Derived.Test.YtlhhinlghhjghaaGreatDoorU12
import Derived.Lib.UnsafeStr
import Derived.Laws.Concat
import Derived.Lib.QuietBelow
import Derived.Test.YtlhhinlghhjghaaGreatDoorU17
namespace Go.Proofs.YtlhhinlghhjghaaGreatDoor
set_option maxHeartbeats 8000000
variable {c:Nat}
def step1(c:Nat):Nat:=if c%2=1 then(c/2)^^^3988292384 else c/2
def stepN:Nat→Nat→Nat
 |0,c=>c
 |k+1,c=>step1 (stepN k c)
def ZzN(c b:Nat):Nat:=stepN 8 (c^^^b)
def crcF(c:Nat)(xs:List Nat):Nat:=xs.foldl ZzN c
def sumN(xs:List Nat):Nat:=crcF 4294967295 xs^^^4294967295
def be4(c:Nat):List Nat:=[c/16777216%256,c/65536%256,c/256%256,c%256]
theorem Zu1(h:c<4294967296):step1 c<4294967296:=by
 unfold step1
 split
 ·exact Nat.xor_lt_two_pow (n:=32) (by omega) (by decide)
 ·omega
theorem Zne(h:c<4294967296)(k:Nat):stepN k c<4294967296:=by
 induction k with
 |zero=>exact h
 |succ k ih=>exact Zu1 ih
theorem Zi5{a b:Nat}(ha:a<4294967296)(hb:b<4294967296):a^^^b<4294967296:=Nat.xor_lt_two_pow (n:=32) ha hb
theorem Zu5{b:Nat}(h:c<4294967296)(hb:b<256):ZzN c b<4294967296:=Zne (Zi5 h (by omega)) 8
theorem Zt4{xs:List Nat}(h:c<4294967296)(hx:∀x∈xs,x<256):crcF c xs<4294967296:=by
 induction xs generalizing c with
 |nil=>exact h
 |cons x xs ih=>exact ih (Zu5 h (hx x (by simp))) (fun y hy=>hx y (by simp[hy]))
theorem ZqX{xs:List Nat}(hx:∀x∈xs,x<256):sumN xs<4294967296:=Zi5 (Zt4 (by decide) hx) (by decide)
theorem ZlL(c:Nat)(xs ys:List Nat):crcF c (xs++ys)=crcF (crcF c xs) ys:=List.foldl_append ..
end Go.Proofs.YtlhhinlghhjghaaGreatDoor
namespace Go.Proofs.YtlhhinlghhjghaaGreatDoor
open Go.RowKit
set_option linter.unusedVariables false
set_option linter.unusedSimpArgs false
set_option maxRecDepth 4000
set_option maxHeartbeats 8000000
theorem Zw0(x:Nat)(hx:x<4294967296):bits .and .u32 (x:Int) 1=((x%2:Nat):Int):=by
 have h:=u32_and_nat x 1 hx (by decide)
 rw[Nat.and_one_is_mod]at h
 exact h
theorem ZvF(x:Nat)(hx:x<4294967296)(h:x%2=1):bits .xor .u32 ((x:Int)/2) 3988292384=((step1 x:Nat):Int):=by
 have e:=u32_xor_nat (x/2) 3988292384 (by omega) (by decide)
 unfold step1
 rw[if_pos h,←e]
 rfl
theorem Zsd(x:Nat)(h:x%2=0):(x:Int)/2=((step1 x:Nat):Int):=by
 unfold step1
 rw[if_neg (by omega)]
 rfl
theorem Zrt(c:Nat)(w:World)(hc:c<4294967296):
  Calls Tryz.prog 183 #[.int .u32 (c:Int)] w fun e w'=>e=.returned (.int .u32 ((stepN 8 c:Nat):Int))∧w'=w:=by
 go_enter Tryz.func183,Tryz.ntmps183
 go_wp2
 go_loop [0,4] (fun t i=> ∃k x:Nat,k≤8∧i=.int .i64 k∧t=.int .u32 (x:Int)∧Hid (x=stepN k c)) (fun _ i=>8-(intOf i).toNat)
 case atStart=>exact⟨0,c,by decide,rfl,rfl,hide rfl⟩
 case round=>
  obtain⟨k,x,hk,rfl,rfl,HX⟩:=hrel
  have hx:x<4294967296:=by rw[unhide HX];exact Zne hc k
  by_cases hlt:k<8
  ·have hlt':(k:Int)<8:=by omega
   have hlow:=Zw0 x hx
   rcases Nat.mod_two_eq_zero_or_one x with h2|h2
   ·rw[h2]at hlow
    have HS:=hide (Zsd x h2)
    clear h2
    go_wp2
    go_round
    case rel=>exact⟨k+1,step1 x,by omega,by go_num,by rw[unhide HS],hide (by rw[unhide HX];rfl)⟩
    case measure=>simp[intOf];omega
   ·rw[h2]at hlow
    have hs:=ZvF x hx h2
    clear h2
    go_wp2
    go_round
    case rel=>exact⟨k+1,step1 x,by omega,by go_num,rfl,hide (by rw[unhide HX];rfl)⟩
    case measure=>simp[intOf];omega
  ·have hke:k=8:=by omega
   have HF:Hid (stepN 8 c=x):=hide (by rw[unhide HX,hke])
   go_wp2
   go_ret
   exact⟨ZaE (by rw[unhide HF]),rfl⟩
theorem ZqZ(c:Nat)(xs:List Nat)(k:Nat)(h:k<xs.length):crcF c (xs.take (k+1))=ZzN (crcF c (xs.take k)) (xs.getD k 0):=by
 rw[List.take_add_one,ZlL,List.getElem?_eq_getElem h,List.getD_eq_getElem?_getD,List.getElem?_eq_getElem h]
 rfl
theorem ZxF(x:Nat)(hx:x<4294967296):bits .xor .u32 IntKind.u32.max (x:Int)=((x^^^4294967295:Nat):Int):=by
 have:=u32_xor_nat 4294967295 x (by decide) hx
 rw[Nat.xor_comm]at this
 exact this
def sumS(s:ByteArray):Nat:=sumN (tx s)
theorem ZzR(s:ByteArray):sumS s<4294967296:=ZqX (Zal s)
theorem Zm8(s:ByteArray)(w:World)(hn:s.size≤1048576):
  Calls Tryz.prog 131 #[.string s] w fun e w'=>e=.returned (.int .u32 ((sumS s:Nat):Int))∧w'=w:=by
 go_enter Tryz.func131,Tryz.ntmps131
 go_wp2
 go_loop [3,7] (fun t i=> ∃k x:Nat,k≤s.size∧i=.int .i64 k∧t=.int .u32 (x:Int)∧Hid (x=crcF 4294967295 ((tx s).take k))) (fun _ i=>s.size-(intOf i).toNat)
 case atStart=>exact⟨0,4294967295,Nat.zero_le _,rfl,rfl,hide rfl⟩
 case round=>
  obtain⟨k,x,hk,rfl,rfl,HX⟩:=hrel
  have hx:x<4294967296:=by rw[unhide HX];exact Zt4 (by decide) (fun y hy=>Zal s y (List.mem_of_mem_take hy))
  by_cases hlt:k<s.size
  ·have hlt':(k:Int)<(s.size:Int):=by omega
   have hb:s[k].toNat<256:=s[k].toNat_lt
   have hxo:=u32_xor_nat x s[k].toNat hx (by omega)
   have HN:=hide (show stepN 8 (x^^^s[k].toNat)=crcF 4294967295 ((tx s).take (k+1)) from by
    rw[ZqZ _ _ _ (by rw[Zaa];exact hlt),←unhide HX,←ZnO s k hlt];rfl)
   have hsx:=Zrt (x^^^s[k].toNat) w (Zi5 hx (by omega))
   go_wp2_with (go_at_call 183;refine hsx.mono ?_;rintro e w' ⟨rfl,hw⟩;obtain rfl:=hw.symm)
   go_round
   case rel=>exact⟨k+1,_,by omega,by go_num,rfl,HN⟩
   case measure=>simp[intOf];omega
  ·have hke:k=(tx s).length:=by rw[Zaa];omega
   have HF:Hid (sumS s=x^^^4294967295):=hide (by unfold sumS sumN;rw[unhide HX,hke,List.take_length])
   clear hke
   go_wp2
   go_ret
   exact⟨ZaE (by rw[unhide HF];exact ZxF x hx),rfl⟩
def beTo(c k:Nat):List Nat:=[if 0<k then c/16777216%256 else 0,if 1<k then c/65536%256 else 0,if 2<k then c/256%256 else 0,if 3<k then c%256 else 0]
theorem ZAg(c k:Nat):bytes (beTo c k):=by
 intro x hx
 simp only[beTo,List.mem_cons,List.mem_nil_iff,or_false]at hx
 rcases hx with rfl|rfl|rfl|rfl<;>split<;>omega
theorem ZrA(c d:Nat):(((c/d%256:Nat):Nat):Int)=(c:Int)/(d:Int)%256:=by simp
theorem Zyn(c:Nat):((c/16777216:Nat):Int)=(c:Int)/16777216:=by simp
theorem Zze(w:World)(t:TypeId):OwnB (w.alloc (.cells #[.int .u8 0,.int .u8 0,.int .u8 0,.int .u8 0] t)) w.heap.size (.slice (some ⟨w.heap.size,0,none⟩) 4 4) [0,0,0,0]:=by
 refine⟨fun x hx=>?_,.inr ⟨w.heap.size,4,rfl,Nat.le_refl _,by simp,fun i hi=>?_,fun i hi=>?_⟩⟩
 ·simp only[List.mem_cons,List.mem_nil_iff,or_false,or_self]at hx
  omega
 ·match i,hi with
  |0,_=>simp
  |1,_=>simp
  |2,_=>simp
  |3,_=>simp
 ·match i,hi with
  |0,_=>simp
  |1,_=>simp
  |2,_=>simp
  |3,_=>simp
theorem Zfo{w wr:World}{B g:Nat}{xs:List Nat}(h4:xs.length=4)(ho:OwnB wr B (.slice (some ⟨g,0,none⟩) 4 4) xs)(hb:Below B w wr)(hB:B≤g)(i x:Nat)(hx:x<256):
  OwnB (wr.setCell ⟨g,i,none⟩ (.int .u8 (x:Int))) B (.slice (some ⟨g,0,none⟩) 4 4) (xs.set i x)∧Below B w (wr.setCell ⟨g,i,none⟩ (.int .u8 (x:Int))):=by
 rw[←h4]at ho⊢
 exact⟨ho.stored i x hx,hb.setCell (by exact hB) _⟩
theorem Zko(s:ByteArray)(w:World)(hn:s.size≤1048576):
  Calls Tryz.prog 124 #[.string s] w fun e w'=>e=.returned (.string (st (be4 (sumS s))))∧Below w.heap.size w w':=by
 have hc:=ZzR s
 have HS:=hide (Zm8 s w hn)
 obtain⟨c,hcs⟩:∃c,sumS s=c:=⟨_,rfl⟩
 rw[hcs]at hc HS
 rw[hcs]
 clear hcs
 go_enter Tryz.func124,Tryz.ntmps124
 go_wp2_with (go_at_call 131;refine(unhide HS).mono ?_;rintro e w' ⟨rfl,hw⟩;obtain rfl:=hw.symm)
 go_loopw [8] (fun i wr=> ∃k:Nat,k≤4∧i=.int .i64 k∧Hid (OwnB wr w.heap.size (.slice (some ⟨w.heap.size,0,none⟩) 4 4) (beTo c k))∧Hid (Below w.heap.size w wr)) (fun i _=>4-(intOf i).toNat)
 case atStart=>exact⟨0,by decide,rfl,hide (Zze _ _),hide ((Below.refl _ _).alloc (Nat.le_refl _) _)⟩
 case round=>
  obtain⟨k,hk,rfl,HO,HB⟩:=hrel
  by_cases hlt:k<4
  ·obtain⟨g,cap,hv,hBg,hgs,hcg,hfg⟩:=(unhide HO).at (by simp[beTo])
   simp only[Value.slice.injEq,Option.some.injEq,Addr.mk.injEq,and_true]at hv
   obtain⟨rfl, -⟩:=hv
   have hcell:=hcg k (by simpa [beTo]using hlt)
   have hfz:=hfg k (by simpa [beTo]using hlt)
   clear hcg hfg
   match k,hlt with
   |0,_=>
    have R:=hide (Zfo rfl (unhide HO) (unhide HB) (Nat.le_refl _) 0 (c/16777216) (by omega))
    rw[Zyn,show(beTo c 0).set 0 (c/16777216)=beTo c 1 from by unfold beTo;rw[show c/16777216=c/16777216%256 by omega];simp]at R
    clear HO HB
    go_wp2
    go_roundw
    case rel=>exact⟨1,by omega,rfl,hide (unhide R).1,hide (unhide R).2⟩
    case measure=>simp[intOf]
   |1,_=>
    have R:=hide (Zfo rfl (unhide HO) (unhide HB) (Nat.le_refl _) 1 (c/65536%256) (by omega))
    rw[ZrA]at R
    clear HO HB
    go_wp2
    go_roundw
    case rel=>exact⟨2,by omega,rfl,hide (unhide R).1,hide (unhide R).2⟩
    case measure=>simp[intOf]
   |2,_=>
    have R:=hide (Zfo rfl (unhide HO) (unhide HB) (Nat.le_refl _) 2 (c/256%256) (by omega))
    rw[ZrA]at R
    clear HO HB
    go_wp2
    go_roundw
    case rel=>exact⟨3,by omega,rfl,hide (unhide R).1,hide (unhide R).2⟩
    case measure=>simp[intOf]
   |3,_=>
    have R:=hide (Zfo rfl (unhide HO) (unhide HB) (Nat.le_refl _) 3 (c%256) (by omega))
    clear HO HB
    go_wp2
    go_roundw
    case rel=>exact⟨4,by omega,rfl,hide (unhide R).1,hide (unhide R).2⟩
    case measure=>simp[intOf]
  ·obtain rfl:k=4:=by omega
   have hct:=(unhide HO).text
   rw[show beTo c 4=be4 c from rfl]at hct
   clear HO
   go_wp2
   go_ret
   exact⟨rfl,unhide HB⟩
end Go.Proofs.YtlhhinlghhjghaaGreatDoor
namespace Go.Proofs.YtlhhinlghhjghaaGreatDoor
open Go.RowKit Go.Sort
set_option linter.unusedVariables false
set_option linter.unusedSimpArgs false
set_option maxRecDepth 4000
set_option maxHeartbeats 8000000
variable {s:ByteArray}
theorem ZAi{W:World}{f:FuncId}{args:Array Value}{v:Value}(h:∀w',Below W.heap.size W w'→Calls Tryz.prog f args w' fun e w''=>e=.returned v∧Below w'.heap.size w' w'')(d:Nat)(os:Array Obj):
  Calls Tryz.prog f args (grow (redrawn W d) os) fun e w''=>e=.returned v∧∃p:Regrown,w''=grow (redrawn W p.d) p.os:=
 Calls.regrown_of (h _ (below_regrown W d os))
def Zgn(s:ByteArray):ByteArray:=st (be4 (sumS s))
def Zee(s:ByteArray):ByteArray:=s++Zgn s
def Zb6(s:ByteArray):ByteArray:=s.extract 0 (s.size-4)
def ZeF(s:ByteArray):ByteArray:=s.extract (s.size-4) s.size
theorem ZiR(s:ByteArray):(Zgn s).size=4:=by unfold Zgn;rw[Zb1];rfl
theorem ZcQ(s:ByteArray):(Zee s).size=s.size+4:=by unfold Zee;rw[ByteArray.size_append,ZiR]
theorem ZpD(s:ByteArray)(h:4≤s.size):(Zb6 s).size=s.size-4:=by unfold Zb6;rw[ByteArray.size_extract];omega
theorem Zj2(s:ByteArray)(h:4≤s.size):s=Zb6 s++ZeF s:=by
 unfold Zb6 ZeF
 rw[ByteArray.extract_append_extract]
 have e1:min 0 (s.size-4)=0:=by omega
 have e2:max (s.size-4) s.size=s.size:=by omega
 rw[e1,e2]
 exact(ByteArray.extract_zero_size).symm
theorem ZgZ(s:ByteArray):Zb6 (Zee s)=s:=by
 unfold Zb6
 rw[ZcQ,Nat.add_sub_cancel]
 unfold Zee
 rw[ByteArray.extract_append_size_left]
 exact ByteArray.extract_zero_size
theorem ZrS(s:ByteArray):ZeF (Zee s)=Zgn s:=by
 have h:=Zj2 (Zee s) (by rw[ZcQ];omega)
 rw[ZgZ]at h
 unfold Zee at h
 exact(ByteArray.append_right_inj _).1 h|>.symm
def openE(s:ByteArray):Nat:=if s.size<4 then 2 else if ZeF s=Zgn (Zb6 s)then 0 else 4
def openT(s:ByteArray):ByteArray:=if openE s=0 then Zb6 s else⟨#[]⟩
theorem Zt5(s:ByteArray):openE (Zee s)=0∧openT (Zee s)=s:=by
 have h:openE (Zee s)=0:=by
  unfold openE
  rw[if_neg (by rw[ZcQ];omega),if_pos (by rw[ZrS,ZgZ])]
 exact⟨h,by unfold openT;rw[if_pos h,ZgZ]⟩
theorem ZqK(s:ByteArray)(h:openE s=0):Zee (openT s)=s:=by
 unfold openT
 rw[if_pos h]
 unfold openE at h
 by_cases h4:s.size<4
 ·rw[if_pos h4]at h;omega
 ·rw[if_neg h4]at h
  by_cases hl:ZeF s=Zgn (Zb6 s)
  ·unfold Zee
   rw[←hl]
   exact(Zj2 s (by omega)).symm
  ·rw[if_neg hl]at h;omega
theorem Zq8(s:ByteArray)(w:World)(hn:s.size≤1048576):
  Calls Tryz.prog 142 #[.string s] w fun e w'=>e=.returned (.string (Zee s))∧Below w.heap.size w w':=by
 have ht:=ZiR s
 have HT:=hide (show∀w',Calls Tryz.prog 124 #[.string s] w' fun e w''=>e=.returned (.string (Zgn s))∧Below w'.heap.size w' w'' from fun w'=>Zko s w' hn)
 have hsum:¬(9223372036854775807<s.size+(Zgn s).size):=by omega
 unfold Zee
 generalize Zgn s=t at*
 go_enter Tryz.func142,Tryz.ntmps142
 go_wp2_with fail
 refine(unhide HT _).mono ?_
 rintro e w1 ⟨rfl,hb⟩
 have HB:=hide hb
 clear hb
 go_wp2
 go_ret
 exact⟨rfl,unhide HB⟩
theorem Zh5(h:s.size<4):openE s=2∧openT s=⟨#[]⟩:=by
 have e:openE s=2:=by unfold openE;rw[if_pos h]
 exact⟨e,by unfold openT;rw[if_neg (by omega)]⟩
theorem ZwF(h:¬s.size<4)(hl:ZeF s=Zgn (Zb6 s)):openE s=0∧openT s=Zb6 s:=by
 have e:openE s=0:=by unfold openE;rw[if_neg h,if_pos hl]
 exact⟨e,by unfold openT;rw[if_pos e]⟩
theorem ZzB(h:¬s.size<4)(hl:¬ZeF s=Zgn (Zb6 s)):openE s=4∧openT s=⟨#[]⟩:=by
 have e:openE s=4:=by unfold openE;rw[if_neg h,if_neg hl]
 exact⟨e,by unfold openT;rw[if_neg (by omega)]⟩
theorem Zjy{a b:ByteArray}{i j:Int}(h:a=b)(h':i=j):Ending.returned (.tuple #[.string a,.int .i64 i])=.returned (.tuple #[.string b,.int .i64 j]):=by rw[h,h']
theorem Zlh(s:ByteArray)(w:World)(hn:s.size≤1048576):
  Calls Tryz.prog 64 #[.string s] w fun e w'=>e=.returned (.tuple #[.string (openT s),.int .i64 ((openE s:Nat):Int)])∧Below w.heap.size w w':=by
 by_cases h4:s.size<4
 ·have h4':(s.size:Int)<4:=by omega
  have HE:=hide (Zh5 h4)
  clear h4
  go_enter Tryz.func64,Tryz.ntmps64
  go_wp2
  go_ret2
  exact⟨Zjy (unhide HE).2.symm (by rw[(unhide HE).1];rfl),Below.refl _ _⟩
 ·have h4':decide ((s.size:Int)<4)=false:=by rw[decide_eq_false_iff_not];omega
  have hh:=ZpD s (by omega)
  have hti:((s.size:Int)-4).toNat=s.size-4:=by omega
  have hle0:(0:Int)≤(s.size:Int)-4:=by omega
  have hle1:(s.size:Int)-4≤(s.size:Int):=by omega
  have hhd:s.extract 0 (s.size-4)=Zb6 s:=rfl
  have hlt:s.extract (s.size-4) s.size=ZeF s:=rfl
  have cT:=ZAi (W:=w) (fun w' _=>Zko (Zb6 s) w' (by omega))
  have cC:∀w',Calls Tryz.prog 89 #[.string (Zb6 s)] w' fun e w''=>e=.returned (.string (Zb6 s))∧Below w'.heap.size w' w'':=fun w'=>Zbp (Zb6 s) w' (by omega)
  have HC:=hide cC
  clear cC
  by_cases hl:ZeF s=Zgn (Zb6 s)
  ·have HE:=hide (ZwF h4 hl)
   have hq:((ZeF s).toList==(st (be4 (sumS (Zb6 s)))).toList)=true:=by
    rw[Zgs,decide_eq_true (show ZeF s=st (be4 (sumS (Zb6 s))) from hl)]
   clear h4 hl
   generalize Zb6 s=h at*
   generalize ZeF s=l at*
   generalize st (be4 (sumS h))=t at*
   go_enter Tryz.func64,Tryz.ntmps64
   go_wp2_with fail
   refine wp_region_quiet_below (by kernel_rfl) (by kernel_rfl) ?_
   repeat (with_reducible refine wpQuiet_step (fun K hK=>?_);go_simp;first|(with_reducible refine hK _ ?_;clear hK K)|(apply Exists.intro;apply And.intro;(intro _;go_at_call 124;exact cT _ _);with_reducible refine hK _ ?_;clear hK K))
   refine wpQuiet_nil ?_
   intro _ hw'
   obtain⟨⟨dq,osq⟩,hw''⟩:=hw'
   subst hw''
   have HB1:=hide (below_regrown w dq osq)
   generalize grow (redrawn w dq) osq=w1 at*
   clear cT
   go_wp2_with fail
   refine(unhide HC _).mono ?_
   rintro e w2 ⟨rfl,hb2⟩
   have HB2:=hide (below0 (unhide HB1) hb2)
   clear hb2 HB1
   go_wp2
   go_ret2
   exact⟨Zjy (unhide HE).2.symm (by rw[(unhide HE).1];rfl),unhide HB2⟩
  ·have HE:=hide (ZzB h4 hl)
   have hq:((ZeF s).toList==(st (be4 (sumS (Zb6 s)))).toList)=false:=by
    rw[Zgs,decide_eq_false (show¬ZeF s=st (be4 (sumS (Zb6 s))) from hl)]
   clear h4 hl
   generalize Zb6 s=h at*
   generalize ZeF s=l at*
   generalize st (be4 (sumS h))=t at*
   go_enter Tryz.func64,Tryz.ntmps64
   go_wp2_with fail
   refine wp_region_quiet_below (by kernel_rfl) (by kernel_rfl) ?_
   repeat (with_reducible refine wpQuiet_step (fun K hK=>?_);go_simp;first|(with_reducible refine hK _ ?_;clear hK K)|(apply Exists.intro;apply And.intro;(intro _;go_at_call 124;exact cT _ _);with_reducible refine hK _ ?_;clear hK K))
   refine wpQuiet_nil ?_
   intro _ hw'
   obtain⟨⟨dq,osq⟩,hw''⟩:=hw'
   subst hw''
   have HB1:=hide (below_regrown w dq osq)
   generalize grow (redrawn w dq) osq=w1 at*
   clear cT
   go_wp2
   go_ret2
   exact⟨Zjy (unhide HE).2.symm (by rw[(unhide HE).1];rfl),unhide HB1⟩
end Go.Proofs.YtlhhinlghhjghaaGreatDoor
namespace Go.Proofs.YtlhhinlghhjghaaGreatDoor
open Go.RowKit
set_option linter.unusedVariables false
set_option linter.unusedSimpArgs false
set_option maxRecDepth 4000
set_option maxHeartbeats 8000000
variable {s t T:ByteArray}{kd fr ic o l k z h:Int}{xs:List Nat}{en:Nat}
def hdK(t:ByteArray):Nat:=(tx t).getD 0 0
def hdF(t:ByteArray):Nat:=(tx t).getD 1 0
def hdI(t:ByteArray):Nat:=num (((tx t).drop 2).take 4)
def Zfb(t:ByteArray):ByteArray:=t.extract 6 t.size
def badP(t:ByteArray):Prop:=8≤hdF t∨(hdK t≠1∧hdK t≠2)∨(hdK t=1∧6<t.size)
def FZ(kd fr ic o l k z h:Int)(xs:List Nat)(t:ByteArray):Prop:=(kd=0∧fr=0∧ic=0)∧Zgm o l k z h xs t
def Zsa(T:ByteArray)(kd fr ic:Int):Prop:=kd=hdK T∧fr=hdF T∧ic=hdI T
def Zlr(T:ByteArray)(kd fr ic o l k z h:Int)(xs:List Nat)(t:ByteArray)(en:Nat):Prop:=
 (T.size<6→en=2∧FZ kd fr ic o l k z h xs t)∧(¬T.size<6→badP T→en=3∧FZ kd fr ic o l k z h xs t)∧
 (¬T.size<6→¬badP T→hdK T=1→en=0∧Zsa T kd fr ic∧Zgm o l k z h xs t)∧
 (¬T.size<6→¬badP T→hdK T≠1→DecP (Zfb T) o l k z h xs t en∧(en≠0→kd=0∧fr=0∧ic=0)∧(en=0→Zsa T kd fr ic))
def ZfL(s:ByteArray)(kd fr ic o l k z h:Int)(xs:List Nat)(t:ByteArray)(en:Nat):Prop:=
 (openE s≠0→en=openE s∧FZ kd fr ic o l k z h xs t)∧(openE s=0→Zlr (openT s) kd fr ic o l k z h xs t en)
theorem Zzg(h0:openE s≠0)(he:en=openE s)(hz:FZ kd fr ic o l k z h xs t):ZfL s kd fr ic o l k z h xs t en:=
 ⟨fun _=>⟨he,hz⟩,fun h=>absurd h h0⟩
theorem Zvl(h6:T.size<6)(he:en=2)(hz:FZ kd fr ic o l k z h xs t):Zlr T kd fr ic o l k z h xs t en:=
 ⟨fun _=>⟨he,hz⟩,fun h=>absurd h6 h,fun h=>absurd h6 h,fun h=>absurd h6 h⟩
theorem Zti(h6:¬T.size<6)(hb:badP T)(he:en=3)(hz:FZ kd fr ic o l k z h xs t):Zlr T kd fr ic o l k z h xs t en:=
 ⟨fun h=>absurd h h6,fun _ _=>⟨he,hz⟩,fun _ h=>absurd hb h,fun _ h=>absurd hb h⟩
theorem Zv4(h6:¬T.size<6)(hb:¬badP T)(h1:hdK T=1)(he:en=0)(hh:Zsa T kd fr ic)(hz:Zgm o l k z h xs t):Zlr T kd fr ic o l k z h xs t en:=
 ⟨fun h=>absurd h h6,fun _ h=>absurd h hb,fun _ _ _=>⟨he,hh,hz⟩,fun _ _ h=>absurd h1 h⟩
theorem Zq6(h6:¬T.size<6)(hb:¬badP T)(h1:hdK T≠1)(hd:DecP (Zfb T) o l k z h xs t en)(he:en≠0→kd=0∧fr=0∧ic=0)(hh:en=0→Zsa T kd fr ic):Zlr T kd fr ic o l k z h xs t en:=
 ⟨fun h=>absurd h h6,fun _ h=>absurd h hb,fun _ _ h=>absurd h h1,fun _ _ _=>⟨hd,he,hh⟩⟩
def Zyy(o l k z h:Int)(xs:List Nat)(s:ByteArray):Prop:=Zwo o l k z h xs s 0 0 0 0 0 [] ⟨#[]⟩
def FitP(kd o l k z h:Int)(xs:List Nat)(s:ByteArray):Prop:=(kd=1∧Zyy o l k z h xs s)∨(kd=2∧ZaX o l k z h xs s.size)
def ZvB(kd fr ic o l k z h:Int)(xs:List Nat)(s:ByteArray):Prop:=(0≤fr∧fr≤7)∧(0≤ic∧ic≤4294967295)∧FitP kd o l k z h xs s
def Zgl(kd o l k z h:Int)(xs:List Nat)(s:ByteArray):ByteArray:=if kd=2 then st (encL o l k z h xs (tx s))else⟨#[]⟩
def ZdE(kd fr ic:Int)(b:List Nat):List Nat:=Zbc kd 1++Zbc fr 1++Zbc ic 4++b
def ZhE(kd fr ic o l k z h:Int)(xs:List Nat)(s:ByteArray):ByteArray:=Zee (st (ZdE kd fr ic (tx (Zgl kd o l k z h xs s))))
theorem Zhf(kd fr ic:Int)(b:List Nat)(hb:bytes b):bytes (ZdE kd fr ic b):=
 Zay (Zay (Zay (Za9 _ _) (Za9 _ _)) (Za9 _ _)) hb
theorem Zg7(kd fr ic:Int)(b:List Nat):(ZdE kd fr ic b).length=6+b.length:=by
 unfold ZdE
 simp only[List.length_append,Zgh,Zeg,Zan]
theorem Zzx(h0:FitP kd o l k z h xs s):kd=1∨kd=2:=by
 rcases h0 with h|h
 ·exact .inl h.1
 ·exact .inr h.1
theorem Zgw(o l k z h:Int)(xs:List Nat)(s:ByteArray):Zgl 1 o l k z h xs s=⟨#[]⟩:=if_neg (by decide)
theorem Zgx(o l k z h:Int)(xs:List Nat)(s:ByteArray):Zgl 2 o l k z h xs s=st (encL o l k z h xs (tx s)):=if_pos rfl
theorem ZAM{b:List Nat}{K F I:Nat}(hb:bytes b)(hk:kd=(K:Int))(hf:fr=(F:Int))(hi:ic=(I:Int))(h1:K<256)(h2:F<256)(h3:I<4294967296):
  (st (ZdE kd fr ic b)).size=6+b.length∧hdK (st (ZdE kd fr ic b))=K∧hdF (st (ZdE kd fr ic b))=F∧hdI (st (ZdE kd fr ic b))=I∧Zfb (st (ZdE kd fr ic b))=st b:=by
 have hsz:(st (ZdE kd fr ic b)).size=6+b.length:=by rw[Zb1,Zg7]
 have ht:=Zdl (Zhf kd fr ic b hb)
 have e:ZdE kd fr ic b=K::F::(be 4 I++b):=by
  unfold ZdE
  rw[Zeg,Zeg,Zgh,Zb9 hk (by omega),Zb9 hf (by omega),Zb9 hi (by omega),be1,be1,Nat.mod_eq_of_lt h1,Nat.mod_eq_of_lt h2]
  simp
 have hl4:=Zan 4 I
 refine⟨hsz,?_,?_,?_,?_⟩
 ·unfold hdK;rw[ht,e];rfl
 ·unfold hdF;rw[ht,e];rfl
 ·unfold hdI
  rw[ht,e,List.drop_succ_cons,List.drop_succ_cons,List.drop_zero,List.take_left' hl4,Zlx]
  exact Nat.mod_eq_of_lt (by omega)
 ·apply ZhO
  unfold Zfb
  rw[ZcJ,ht,hsz,Zdl hb,e,List.drop_succ_cons,List.drop_succ_cons]
  rw[List.drop_left' hl4]
  exact List.take_of_length_le (by omega)
theorem Zxk(xs:List Nat):cnt (xorL xs xs)=0:=Zhu _ (ZhX _)
theorem ZkX(hz:Zgm o l k z h xs t):Zyy o l k z h xs t:=by
 obtain⟨p1,p2,p3,p4,p5,p6,p7⟩:=hz
 rw[p1,p2,p3,p4,p5,p6,p7]
 exact⟨⟨⟨rfl,rfl,rfl,rfl,rfl⟩,rfl⟩,Zxk []⟩
theorem ZBC(h6:6≤T.size):Zbc (hdK T) 1++Zbc (hdF T) 1++Zbc (hdI T) 4=(tx T).take 6:=by
 have hb:=Zal T
 have hl:=Zaa T
 have hbyte:∀i,(tx T).getD i 0<256:=fun i=>hb.get i
 have mi:m64 (hdI T:Int)=hdI T:=Zb9 rfl (Nat.lt_trans (Zcp (ZaU (Zbr hb 2) 4) (k:=4) (by rw[List.length_take];omega)) (by decide))
 have mk:m64 (hdK T:Int)=hdK T:=Zb9 rfl (Nat.lt_trans (hbyte 0) (by decide))
 have mf:m64 (hdF T:Int)=hdF T:=Zb9 rfl (Nat.lt_trans (hbyte 1) (by decide))
 have b1:∀i,i<T.size→be 1 ((tx T).getD i 0)=((tx T).drop i).take 1:=fun i hi=>by
  rw[be1,Nat.mod_eq_of_lt (hbyte i)]
  have:i<(tx T).length:=by omega
  rw[List.drop_eq_getElem_cons this,List.take_succ_cons,List.take_zero,List.getD_eq_getElem?_getD,List.getElem?_eq_getElem this]
  rfl
 have w4:be 4 (hdI T)=((tx T).drop 2).take 4:=ZeS (ZaU (Zbr hb 2) 4) (by rw[List.length_take,List.length_drop];omega)
 rw[Zgh,Zeg,Zeg,mi,mk,mf,w4,show be 1 (hdK T)=((tx T).drop 0).take 1 from b1 0 (by omega),show be 1 (hdF T)=((tx T).drop 1).take 1 from b1 1 (by omega)]
 rw[List.drop_zero,←List.take_add,←List.take_add]
theorem ZvD(hd:ZfL s kd fr ic o l k z h xs t 0):
  ZvB kd fr ic o l k z h xs t∧ZhE kd fr ic o l k z h xs t=s:=by
 have ho:openE s=0:=by
  by_cases h0:openE s=0
  ·exact h0
  ·have:=(hd.1 h0).1
   omega
 have hseal:=ZqK s ho
 obtain⟨a1,a2,a3,a4⟩:=hd.2 ho
 unfold ZhE
 generalize openT s=T at*
 have c2:¬T.size<6:=fun h=>by have:=(a1 h).1;omega
 have c3:¬badP T:=fun h=>by have:=(a2 c2 h).1;omega
 have hf7:¬8≤hdF T:=fun h=>c3 (.inl h)
 have hi:hdI T<4294967296:=Nat.lt_of_lt_of_le (Zcp (ZaU (Zbr (Zal T) 2) 4) (k:=4) (by rw[List.length_take];omega)) (by decide)
 have h6:=ZBC (T:=T) (by omega)
 have hl:=Zaa T
 suffices hh:Zsa T kd fr ic∧FitP kd o l k z h xs t∧tx (Zgl kd o l k z h xs t)=(tx T).drop 6 by
  obtain⟨⟨e1,e2,e3⟩,hfit,hb⟩:=hh
  refine⟨⟨by omega,by omega,hfit⟩,?_⟩
  unfold ZdE
  rw[hb,e1,e2,e3,h6,List.take_append_drop,Zll]
  exact hseal
 by_cases c4:hdK T=1
 ·obtain⟨_,x1,x2⟩:=a3 c2 c3 c4
  have h66:¬6<T.size:=fun h=>c3 (.inr (.inr ⟨c4,h⟩))
  have hk:kd=1:=by rw[x1.1,c4];rfl
  refine⟨x1,.inl ⟨hk,ZkX x2⟩,?_⟩
  rw[hk,Zgw,List.drop_eq_nil_of_le (by omega)]
  rfl
 ·have c5:hdK T=2:=by
   by_cases h:hdK T=2
   ·exact h
   ·exact absurd (.inr (.inl ⟨c4,h⟩)) c3
  obtain⟨x1,_,x3⟩:=a4 c2 c3 c4
  have hh:=x3 rfl
  have hk:kd=2:=by rw[hh.1,c5];rfl
  obtain⟨_,ns,hg,y1,y2,y3,y4,y5,y6,y7⟩|⟨hbad,_⟩:=x1.err
  ·obtain⟨z1,z2⟩:=Zyx ns hg
   refine⟨hh,.inr ⟨hk,?_⟩,?_⟩
   ·unfold ZfA at hg
    rw[y1,y2,y3,y4,y5,y6,y7,z1]
    exact hg
   ·rw[hk,Zgx,y1,y2,y3,y4,y5,y6,y7,z2]
    unfold Zfb
    rw[ZcJ,List.take_of_length_le (by rw[List.length_drop];omega)]
  ·omega
end Go.Proofs.YtlhhinlghhjghaaGreatDoor
