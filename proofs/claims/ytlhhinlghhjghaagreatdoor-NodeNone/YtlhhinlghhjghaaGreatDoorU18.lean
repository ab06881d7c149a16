/-
  Plain mathematics of the sum of bytes: the step on 32 bits, linear and one to one; the sum of a list of bytes; what other bytes do to it. Of no program. No condition but that numbers are below 2^32 where it is said.
  Contracts of crc.shift, crc.Sum, bucketlineref05.Sum: for every text of at most 2^20 bytes.
  Contracts of crc.tail, crc.Seal, bucketlineref05.Seal: for every text of at most 2^20 bytes.
  Contracts of crc.Seal, bucketlineref05.Seal, crc.Open, bucketlineref05.Open: for every text of at most 2^20 bytes.
  Plain mathematics of frames as bytes: what is encoded is decoded, and the other way round. No condition.
-/
import Derived.Lib.TrailingZeros
import Derived.Test.YtlhhinlghhjghaaGreatDoorU2
import Derived.Laws.ShiftsVarLaws
import Derived.Test.YtlhhinlghhjghaaGreatDoorU11
import Derived.Lib.UnsafeStr
import Derived.Laws.Concat
import Derived.Lib.QuietBelow
import Derived.Test.YtlhhinlghhjghaaGreatDoorU17
namespace Go.Proofs.YtlhhinlghhjghaaGreatDoor
set_option maxHeartbeats 8000000
variable {c:Nat}
def step1(c:Nat):Nat:=if c%2=1 then(c/2)^^^3988292384 else c/2
def stepN:Nat→Nat→Nat
 |0,c=>c
 |k+1,c=>step1 (stepN k c)
def ZxW(c b:Nat):Nat:=stepN 8 (c^^^b)
def crcF(c:Nat)(xs:List Nat):Nat:=xs.foldl ZxW c
def sumN(xs:List Nat):Nat:=crcF 4294967295 xs^^^4294967295
def be4(c:Nat):List Nat:=[c/16777216%256,c/65536%256,c/256%256,c%256]
theorem Zw9(h:c<4294967296):step1 c<4294967296:=by
 unfold step1
 split
 ·exact Nat.xor_lt_two_pow (n:=32) (by omega) (by decide)
 ·omega
theorem ZnP(h:c<4294967296)(k:Nat):stepN k c<4294967296:=by
 induction k with
 |zero=>exact h
 |succ k ih=>exact Zw9 ih
theorem ZiN{a b:Nat}(ha:a<4294967296)(hb:b<4294967296):a^^^b<4294967296:=Nat.xor_lt_two_pow (n:=32) ha hb
theorem Zw5{b:Nat}(h:c<4294967296)(hb:b<256):ZxW c b<4294967296:=ZnP (ZiN h (by omega)) 8
theorem ZsW{xs:List Nat}(h:c<4294967296)(hx:∀x∈xs,x<256):crcF c xs<4294967296:=by
 induction xs generalizing c with
 |nil=>exact h
 |cons x xs ih=>exact ih (Zw5 h (hx x (by simp))) (fun y hy=>hx y (by simp[hy]))
theorem ZqH{xs:List Nat}(hx:∀x∈xs,x<256):sumN xs<4294967296:=ZiN (ZsW (by decide) hx) (by decide)
theorem Zmn(c:Nat)(xs ys:List Nat):crcF c (xs++ys)=crcF (crcF c xs) ys:=List.foldl_append ..
end Go.Proofs.YtlhhinlghhjghaaGreatDoor
namespace Go.Proofs.YtlhhinlghhjghaaGreatDoor
open Go.RowKit
set_option linter.unusedVariables false
set_option linter.unusedSimpArgs false
set_option maxRecDepth 4000
set_option maxHeartbeats 8000000
theorem ZuM(x:Nat)(hx:x<4294967296):bits .and .u32 (x:Int) 1=((x%2:Nat):Int):=by
 have h:=u32_and_nat x 1 hx (by decide)
 rw[Nat.and_one_is_mod]at h
 exact h
theorem ZwO(x:Nat)(hx:x<4294967296)(h:x%2=1):bits .xor .u32 ((x:Int)/2) 3988292384=((step1 x:Nat):Int):=by
 have e:=u32_xor_nat (x/2) 3988292384 (by omega) (by decide)
 unfold step1
 rw[if_pos h,←e]
 rfl
theorem ZtP(x:Nat)(h:x%2=0):(x:Int)/2=((step1 x:Nat):Int):=by
 unfold step1
 rw[if_neg (by omega)]
 rfl
theorem Zqx(c:Nat)(w:World)(hc:c<4294967296):
  Calls Tryz.prog 183 #[.int .u32 (c:Int)] w fun e w'=>e=.returned (.int .u32 ((stepN 8 c:Nat):Int))∧w'=w:=by
 go_enter Tryz.func183,Tryz.ntmps183
 go_wp2
 go_loop [0,4] (fun t i=> ∃k x:Nat,k≤8∧i=.int .i64 k∧t=.int .u32 (x:Int)∧Hid (x=stepN k c)) (fun _ i=>8-(intOf i).toNat)
 case atStart=>exact⟨0,c,by decide,rfl,rfl,hide rfl⟩
 case round=>
  obtain⟨k,x,hk,rfl,rfl,HX⟩:=hrel
  have hx:x<4294967296:=by rw[unhide HX];exact ZnP hc k
  by_cases hlt:k<8
  ·have hlt':(k:Int)<8:=by omega
   have hlow:=ZuM x hx
   rcases Nat.mod_two_eq_zero_or_one x with h2|h2
   ·rw[h2]at hlow
    have HS:=hide (ZtP x h2)
    clear h2
    go_wp2
    go_round
    case rel=>exact⟨k+1,step1 x,by omega,by go_num,by rw[unhide HS],hide (by rw[unhide HX];rfl)⟩
    case measure=>simp[intOf];omega
   ·rw[h2]at hlow
    have hs:=ZwO x hx h2
    clear h2
    go_wp2
    go_round
    case rel=>exact⟨k+1,step1 x,by omega,by go_num,rfl,hide (by rw[unhide HX];rfl)⟩
    case measure=>simp[intOf];omega
  ·have hke:k=8:=by omega
   have HF:Hid (stepN 8 c=x):=hide (by rw[unhide HX,hke])
   go_wp2
   go_ret
   exact⟨ZaF (by rw[unhide HF]),rfl⟩
theorem Zt7(c:Nat)(xs:List Nat)(k:Nat)(h:k<xs.length):crcF c (xs.take (k+1))=ZxW (crcF c (xs.take k)) (xs.getD k 0):=by
 rw[List.take_add_one,Zmn,List.getElem?_eq_getElem h,List.getD_eq_getElem?_getD,List.getElem?_eq_getElem h]
 rfl
theorem ZwY(x:Nat)(hx:x<4294967296):bits .xor .u32 IntKind.u32.max (x:Int)=((x^^^4294967295:Nat):Int):=by
 have:=u32_xor_nat 4294967295 x (by decide) hx
 rw[Nat.xor_comm]at this
 exact this
def sumS(s:ByteArray):Nat:=sumN (tx s)
theorem Zy5(s:ByteArray):sumS s<4294967296:=ZqH (Zal s)
theorem ZmF(s:ByteArray)(w:World)(hn:s.size≤1048576):
  Calls Tryz.prog 131 #[.string s] w fun e w'=>e=.returned (.int .u32 ((sumS s:Nat):Int))∧w'=w:=by
 go_enter Tryz.func131,Tryz.ntmps131
 go_wp2
 go_loop [3,7] (fun t i=> ∃k x:Nat,k≤s.size∧i=.int .i64 k∧t=.int .u32 (x:Int)∧Hid (x=crcF 4294967295 ((tx s).take k))) (fun _ i=>s.size-(intOf i).toNat)
 case atStart=>exact⟨0,4294967295,Nat.zero_le _,rfl,rfl,hide rfl⟩
 case round=>
  obtain⟨k,x,hk,rfl,rfl,HX⟩:=hrel
  have hx:x<4294967296:=by rw[unhide HX];exact ZsW (by decide) (fun y hy=>Zal s y (List.mem_of_mem_take hy))
  by_cases hlt:k<s.size
  ·have hlt':(k:Int)<(s.size:Int):=by omega
   have hb:s[k].toNat<256:=s[k].toNat_lt
   have hxo:=u32_xor_nat x s[k].toNat hx (by omega)
   have HN:=hide (show stepN 8 (x^^^s[k].toNat)=crcF 4294967295 ((tx s).take (k+1)) from by
    rw[Zt7 _ _ _ (by rw[Zaa];exact hlt),←unhide HX,←ZmQ s k hlt];rfl)
   have hsx:=Zqx (x^^^s[k].toNat) w (ZiN hx (by omega))
   go_wp2_with (go_at_call 183;refine hsx.mono ?_;rintro e w' ⟨rfl,hw⟩;obtain rfl:=hw.symm)
   go_round
   case rel=>exact⟨k+1,_,by omega,by go_num,rfl,HN⟩
   case measure=>simp[intOf];omega
  ·have hke:k=(tx s).length:=by rw[Zaa];omega
   have HF:Hid (sumS s=x^^^4294967295):=hide (by unfold sumS sumN;rw[unhide HX,hke,List.take_length])
   clear hke
   go_wp2
   go_ret
   exact⟨ZaF (by rw[unhide HF];exact ZwY x hx),rfl⟩
def beTo(c k:Nat):List Nat:=[if 0<k then c/16777216%256 else 0,if 1<k then c/65536%256 else 0,if 2<k then c/256%256 else 0,if 3<k then c%256 else 0]
theorem Zzz(c k:Nat):bytes (beTo c k):=by
 intro x hx
 simp only[beTo,List.mem_cons,List.mem_nil_iff,or_false]at hx
 rcases hx with rfl|rfl|rfl|rfl<;>split<;>omega
theorem Zs1(c d:Nat):(((c/d%256:Nat):Nat):Int)=(c:Int)/(d:Int)%256:=by simp
theorem Zyq(c:Nat):((c/16777216:Nat):Int)=(c:Int)/16777216:=by simp
theorem Zzr(w:World)(t:TypeId):OwnB (w.alloc (.cells #[.int .u8 0,.int .u8 0,.int .u8 0,.int .u8 0] t)) w.heap.size (.slice (some ⟨w.heap.size,0,none⟩) 4 4) [0,0,0,0]:=by
 refine⟨fun x hx=>?_,.inr ⟨w.heap.size,4,rfl,Nat.le_refl _,by simp,fun i hi=>?_,fun i hi=>?_⟩⟩
 ·simp only[List.mem_cons,List.mem_nil_iff,or_false,or_self]at hx
  omega
 ·match i,hi with
  |0,_=>simp
  |1,_=>simp
  |2,_=>simp
  |3,_=>simp
 ·match i,hi with
  |0,_=>simp
  |1,_=>simp
  |2,_=>simp
  |3,_=>simp
theorem ZeU{w wr:World}{B g:Nat}{xs:List Nat}(h4:xs.length=4)(ho:OwnB wr B (.slice (some ⟨g,0,none⟩) 4 4) xs)(hb:Below B w wr)(hB:B≤g)(i x:Nat)(hx:x<256):
  OwnB (wr.setCell ⟨g,i,none⟩ (.int .u8 (x:Int))) B (.slice (some ⟨g,0,none⟩) 4 4) (xs.set i x)∧Below B w (wr.setCell ⟨g,i,none⟩ (.int .u8 (x:Int))):=by
 rw[←h4]at ho⊢
 exact⟨ho.stored i x hx,hb.setCell (by exact hB) _⟩
theorem ZkL(s:ByteArray)(w:World)(hn:s.size≤1048576):
  Calls Tryz.prog 124 #[.string s] w fun e w'=>e=.returned (.string (st (be4 (sumS s))))∧Below w.heap.size w w':=by
 have hc:=Zy5 s
 have HS:=hide (ZmF s w hn)
 obtain⟨c,hcs⟩:∃c,sumS s=c:=⟨_,rfl⟩
 rw[hcs]at hc HS
 rw[hcs]
 clear hcs
 go_enter Tryz.func124,Tryz.ntmps124
 go_wp2_with (go_at_call 131;refine(unhide HS).mono ?_;rintro e w' ⟨rfl,hw⟩;obtain rfl:=hw.symm)
 go_loopw [8] (fun i wr=> ∃k:Nat,k≤4∧i=.int .i64 k∧Hid (OwnB wr w.heap.size (.slice (some ⟨w.heap.size,0,none⟩) 4 4) (beTo c k))∧Hid (Below w.heap.size w wr)) (fun i _=>4-(intOf i).toNat)
 case atStart=>exact⟨0,by decide,rfl,hide (Zzr _ _),hide ((Below.refl _ _).alloc (Nat.le_refl _) _)⟩
 case round=>
  obtain⟨k,hk,rfl,HO,HB⟩:=hrel
  by_cases hlt:k<4
  ·obtain⟨g,cap,hv,hBg,hgs,hcg,hfg⟩:=(unhide HO).at (by simp[beTo])
   simp only[Value.slice.injEq,Option.some.injEq,Addr.mk.injEq,and_true]at hv
   obtain⟨rfl, -⟩:=hv
   have hcell:=hcg k (by simpa [beTo]using hlt)
   have hfz:=hfg k (by simpa [beTo]using hlt)
   clear hcg hfg
   match k,hlt with
   |0,_=>
    have R:=hide (ZeU rfl (unhide HO) (unhide HB) (Nat.le_refl _) 0 (c/16777216) (by omega))
    rw[Zyq,show(beTo c 0).set 0 (c/16777216)=beTo c 1 from by unfold beTo;rw[show c/16777216=c/16777216%256 by omega];simp]at R
    clear HO HB
    go_wp2
    go_roundw
    case rel=>exact⟨1,by omega,rfl,hide (unhide R).1,hide (unhide R).2⟩
    case measure=>simp[intOf]
   |1,_=>
    have R:=hide (ZeU rfl (unhide HO) (unhide HB) (Nat.le_refl _) 1 (c/65536%256) (by omega))
    rw[Zs1]at R
    clear HO HB
    go_wp2
    go_roundw
    case rel=>exact⟨2,by omega,rfl,hide (unhide R).1,hide (unhide R).2⟩
    case measure=>simp[intOf]
   |2,_=>
    have R:=hide (ZeU rfl (unhide HO) (unhide HB) (Nat.le_refl _) 2 (c/256%256) (by omega))
    rw[Zs1]at R
    clear HO HB
    go_wp2
    go_roundw
    case rel=>exact⟨3,by omega,rfl,hide (unhide R).1,hide (unhide R).2⟩
    case measure=>simp[intOf]
   |3,_=>
    have R:=hide (ZeU rfl (unhide HO) (unhide HB) (Nat.le_refl _) 3 (c%256) (by omega))
    clear HO HB
    go_wp2
    go_roundw
    case rel=>exact⟨4,by omega,rfl,hide (unhide R).1,hide (unhide R).2⟩
    case measure=>simp[intOf]
  ·obtain rfl:k=4:=by omega
   have hct:=(unhide HO).text
   rw[show beTo c 4=be4 c from rfl]at hct
   clear HO
   go_wp2
   go_ret
   exact⟨rfl,unhide HB⟩
end Go.Proofs.YtlhhinlghhjghaaGreatDoor
namespace Go.Proofs.YtlhhinlghhjghaaGreatDoor
open Go.RowKit Go.Sort
set_option linter.unusedVariables false
set_option linter.unusedSimpArgs false
set_option maxRecDepth 4000
set_option maxHeartbeats 8000000
variable {s:ByteArray}
theorem ZzP{W:World}{f:FuncId}{args:Array Value}{v:Value}(h:∀w',Below W.heap.size W w'→Calls Tryz.prog f args w' fun e w''=>e=.returned v∧Below w'.heap.size w' w'')(d:Nat)(os:Array Obj):
  Calls Tryz.prog f args (grow (redrawn W d) os) fun e w''=>e=.returned v∧∃p:Regrown,w''=grow (redrawn W p.d) p.os:=
 Calls.regrown_of (h _ (below_regrown W d os))
def Zgi(s:ByteArray):ByteArray:=st (be4 (sumS s))
def Zee(s:ByteArray):ByteArray:=s++Zgi s
def Zb6(s:ByteArray):ByteArray:=s.extract 0 (s.size-4)
def Zen(s:ByteArray):ByteArray:=s.extract (s.size-4) s.size
theorem ZiH(s:ByteArray):(Zgi s).size=4:=by unfold Zgi;rw[ZbY];rfl
theorem ZcP(s:ByteArray):(Zee s).size=s.size+4:=by unfold Zee;rw[ByteArray.size_append,ZiH]
theorem ZoJ(s:ByteArray)(h:4≤s.size):(Zb6 s).size=s.size-4:=by unfold Zb6;rw[ByteArray.size_extract];omega
theorem ZjI(s:ByteArray)(h:4≤s.size):s=Zb6 s++Zen s:=by
 unfold Zb6 Zen
 rw[ByteArray.extract_append_extract]
 have e1:min 0 (s.size-4)=0:=by omega
 have e2:max (s.size-4) s.size=s.size:=by omega
 rw[e1,e2]
 exact(ByteArray.extract_zero_size).symm
theorem Zhw(s:ByteArray):Zb6 (Zee s)=s:=by
 unfold Zb6
 rw[ZcP,Nat.add_sub_cancel]
 unfold Zee
 rw[ByteArray.extract_append_size_left]
 exact ByteArray.extract_zero_size
theorem ZtR(s:ByteArray):Zen (Zee s)=Zgi s:=by
 have h:=ZjI (Zee s) (by rw[ZcP];omega)
 rw[Zhw]at h
 unfold Zee at h
 exact(ByteArray.append_right_inj _).1 h|>.symm
def openE(s:ByteArray):Nat:=if s.size<4 then 2 else if Zen s=Zgi (Zb6 s)then 0 else 4
def openT(s:ByteArray):ByteArray:=if openE s=0 then Zb6 s else⟨#[]⟩
theorem ZtW(s:ByteArray):openE (Zee s)=0∧openT (Zee s)=s:=by
 have h:openE (Zee s)=0:=by
  unfold openE
  rw[if_neg (by rw[ZcP];omega),if_pos (by rw[ZtR,Zhw])]
 exact⟨h,by unfold openT;rw[if_pos h,Zhw]⟩
theorem ZsJ(s:ByteArray)(h:openE s=0):Zee (openT s)=s:=by
 unfold openT
 rw[if_pos h]
 unfold openE at h
 by_cases h4:s.size<4
 ·rw[if_pos h4]at h;omega
 ·rw[if_neg h4]at h
  by_cases hl:Zen s=Zgi (Zb6 s)
  ·unfold Zee
   rw[←hl]
   exact(ZjI s (by omega)).symm
  ·rw[if_neg hl]at h;omega
theorem Zsh(s:ByteArray)(w:World)(hn:s.size≤1048576):
  Calls Tryz.prog 142 #[.string s] w fun e w'=>e=.returned (.string (Zee s))∧Below w.heap.size w w':=by
 have ht:=ZiH s
 have HT:=hide (show∀w',Calls Tryz.prog 124 #[.string s] w' fun e w''=>e=.returned (.string (Zgi s))∧Below w'.heap.size w' w'' from fun w'=>ZkL s w' hn)
 have hsum:¬(9223372036854775807<s.size+(Zgi s).size):=by omega
 unfold Zee
 generalize Zgi s=t at*
 go_enter Tryz.func142,Tryz.ntmps142
 go_wp2_with fail
 refine(unhide HT _).mono ?_
 rintro e w1 ⟨rfl,hb⟩
 have HB:=hide hb
 clear hb
 go_wp2
 go_ret
 exact⟨rfl,unhide HB⟩
theorem Zia(h:s.size<4):openE s=2∧openT s=⟨#[]⟩:=by
 have e:openE s=2:=by unfold openE;rw[if_pos h]
 exact⟨e,by unfold openT;rw[if_neg (by omega)]⟩
theorem Zu1(h:¬s.size<4)(hl:Zen s=Zgi (Zb6 s)):openE s=0∧openT s=Zb6 s:=by
 have e:openE s=0:=by unfold openE;rw[if_neg h,if_pos hl]
 exact⟨e,by unfold openT;rw[if_pos e]⟩
theorem Zx0(h:¬s.size<4)(hl:¬Zen s=Zgi (Zb6 s)):openE s=4∧openT s=⟨#[]⟩:=by
 have e:openE s=4:=by unfold openE;rw[if_neg h,if_neg hl]
 exact⟨e,by unfold openT;rw[if_neg (by omega)]⟩
theorem ZjD{a b:ByteArray}{i j:Int}(h:a=b)(h':i=j):Ending.returned (.tuple #[.string a,.int .i64 i])=.returned (.tuple #[.string b,.int .i64 j]):=by rw[h,h']
theorem Zk6(s:ByteArray)(w:World)(hn:s.size≤1048576):
  Calls Tryz.prog 64 #[.string s] w fun e w'=>e=.returned (.tuple #[.string (openT s),.int .i64 ((openE s:Nat):Int)])∧Below w.heap.size w w':=by
 by_cases h4:s.size<4
 ·have h4':(s.size:Int)<4:=by omega
  have HE:=hide (Zia h4)
  clear h4
  go_enter Tryz.func64,Tryz.ntmps64
  go_wp2
  go_ret2
  exact⟨ZjD (unhide HE).2.symm (by rw[(unhide HE).1];rfl),Below.refl _ _⟩
 ·have h4':decide ((s.size:Int)<4)=false:=by rw[decide_eq_false_iff_not];omega
  have hh:=ZoJ s (by omega)
  have hti:((s.size:Int)-4).toNat=s.size-4:=by omega
  have hle0:(0:Int)≤(s.size:Int)-4:=by omega
  have hle1:(s.size:Int)-4≤(s.size:Int):=by omega
  have hhd:s.extract 0 (s.size-4)=Zb6 s:=rfl
  have hlt:s.extract (s.size-4) s.size=Zen s:=rfl
  have cT:=ZzP (W:=w) (fun w' _=>ZkL (Zb6 s) w' (by omega))
  have cC:∀w',Calls Tryz.prog 89 #[.string (Zb6 s)] w' fun e w''=>e=.returned (.string (Zb6 s))∧Below w'.heap.size w' w'':=fun w'=>Zbp (Zb6 s) w' (by omega)
  have HC:=hide cC
  clear cC
  by_cases hl:Zen s=Zgi (Zb6 s)
  ·have HE:=hide (Zu1 h4 hl)
   have hq:((Zen s).toList==(st (be4 (sumS (Zb6 s)))).toList)=true:=by
    rw[Zgq,decide_eq_true (show Zen s=st (be4 (sumS (Zb6 s))) from hl)]
   clear h4 hl
   generalize Zb6 s=h at*
   generalize Zen s=l at*
   generalize st (be4 (sumS h))=t at*
   go_enter Tryz.func64,Tryz.ntmps64
   go_wp2_with fail
   refine wp_region_quiet_below (by kernel_rfl) (by kernel_rfl) ?_
   repeat (with_reducible refine wpQuiet_step (fun K hK=>?_);go_simp;first|(with_reducible refine hK _ ?_;clear hK K)|(apply Exists.intro;apply And.intro;(intro _;go_at_call 124;exact cT _ _);with_reducible refine hK _ ?_;clear hK K))
   refine wpQuiet_nil ?_
   intro _ hw'
   obtain⟨⟨dq,osq⟩,hw''⟩:=hw'
   subst hw''
   have HB1:=hide (below_regrown w dq osq)
   generalize grow (redrawn w dq) osq=w1 at*
   clear cT
   go_wp2_with fail
   refine(unhide HC _).mono ?_
   rintro e w2 ⟨rfl,hb2⟩
   have HB2:=hide (below0 (unhide HB1) hb2)
   clear hb2 HB1
   go_wp2
   go_ret2
   exact⟨ZjD (unhide HE).2.symm (by rw[(unhide HE).1];rfl),unhide HB2⟩
  ·have HE:=hide (Zx0 h4 hl)
   have hq:((Zen s).toList==(st (be4 (sumS (Zb6 s)))).toList)=false:=by
    rw[Zgq,decide_eq_false (show¬Zen s=st (be4 (sumS (Zb6 s))) from hl)]
   clear h4 hl
   generalize Zb6 s=h at*
   generalize Zen s=l at*
   generalize st (be4 (sumS h))=t at*
   go_enter Tryz.func64,Tryz.ntmps64
   go_wp2_with fail
   refine wp_region_quiet_below (by kernel_rfl) (by kernel_rfl) ?_
   repeat (with_reducible refine wpQuiet_step (fun K hK=>?_);go_simp;first|(with_reducible refine hK _ ?_;clear hK K)|(apply Exists.intro;apply And.intro;(intro _;go_at_call 124;exact cT _ _);with_reducible refine hK _ ?_;clear hK K))
   refine wpQuiet_nil ?_
   intro _ hw'
   obtain⟨⟨dq,osq⟩,hw''⟩:=hw'
   subst hw''
   have HB1:=hide (below_regrown w dq osq)
   generalize grow (redrawn w dq) osq=w1 at*
   clear cT
   go_wp2
   go_ret2
   exact⟨ZjD (unhide HE).2.symm (by rw[(unhide HE).1];rfl),unhide HB1⟩
end Go.Proofs.YtlhhinlghhjghaaGreatDoor
namespace Go.Proofs.YtlhhinlghhjghaaGreatDoor
open Go.RowKit
set_option linter.unusedVariables false
set_option linter.unusedSimpArgs false
set_option maxRecDepth 4000
set_option maxHeartbeats 8000000
variable {s t T:ByteArray}{kd fr ic o l k z h:Int}{xs:List Nat}{en:Nat}
def hdK(t:ByteArray):Nat:=(tx t).getD 0 0
def hdF(t:ByteArray):Nat:=(tx t).getD 1 0
def hdI(t:ByteArray):Nat:=num (((tx t).drop 2).take 4)
def Zfa(t:ByteArray):ByteArray:=t.extract 6 t.size
def badP(t:ByteArray):Prop:=8≤hdF t∨(hdK t≠1∧hdK t≠2)∨(hdK t=1∧6<t.size)
def FZ(kd fr ic o l k z h:Int)(xs:List Nat)(t:ByteArray):Prop:=(kd=0∧fr=0∧ic=0)∧Zgk o l k z h xs t
def Zr1(T:ByteArray)(kd fr ic:Int):Prop:=kd=hdK T∧fr=hdF T∧ic=hdI T
def ZjX(T:ByteArray)(kd fr ic o l k z h:Int)(xs:List Nat)(t:ByteArray)(en:Nat):Prop:=
 (T.size<6→en=2∧FZ kd fr ic o l k z h xs t)∧(¬T.size<6→badP T→en=3∧FZ kd fr ic o l k z h xs t)∧
 (¬T.size<6→¬badP T→hdK T=1→en=0∧Zr1 T kd fr ic∧Zgk o l k z h xs t)∧
 (¬T.size<6→¬badP T→hdK T≠1→DecP (Zfa T) o l k z h xs t en∧(en≠0→kd=0∧fr=0∧ic=0)∧(en=0→Zr1 T kd fr ic))
def Zfq(s:ByteArray)(kd fr ic o l k z h:Int)(xs:List Nat)(t:ByteArray)(en:Nat):Prop:=
 (openE s≠0→en=openE s∧FZ kd fr ic o l k z h xs t)∧(openE s=0→ZjX (openT s) kd fr ic o l k z h xs t en)
theorem Zyh(h0:openE s≠0)(he:en=openE s)(hz:FZ kd fr ic o l k z h xs t):Zfq s kd fr ic o l k z h xs t en:=
 ⟨fun _=>⟨he,hz⟩,fun h=>absurd h h0⟩
theorem ZvL(h6:T.size<6)(he:en=2)(hz:FZ kd fr ic o l k z h xs t):ZjX T kd fr ic o l k z h xs t en:=
 ⟨fun _=>⟨he,hz⟩,fun h=>absurd h6 h,fun h=>absurd h6 h,fun h=>absurd h6 h⟩
theorem Zra(h6:¬T.size<6)(hb:badP T)(he:en=3)(hz:FZ kd fr ic o l k z h xs t):ZjX T kd fr ic o l k z h xs t en:=
 ⟨fun h=>absurd h h6,fun _ _=>⟨he,hz⟩,fun _ h=>absurd hb h,fun _ h=>absurd hb h⟩
theorem ZwQ(h6:¬T.size<6)(hb:¬badP T)(h1:hdK T=1)(he:en=0)(hh:Zr1 T kd fr ic)(hz:Zgk o l k z h xs t):ZjX T kd fr ic o l k z h xs t en:=
 ⟨fun h=>absurd h h6,fun _ h=>absurd h hb,fun _ _ _=>⟨he,hh,hz⟩,fun _ _ h=>absurd h1 h⟩
theorem Zt6(h6:¬T.size<6)(hb:¬badP T)(h1:hdK T≠1)(hd:DecP (Zfa T) o l k z h xs t en)(he:en≠0→kd=0∧fr=0∧ic=0)(hh:en=0→Zr1 T kd fr ic):ZjX T kd fr ic o l k z h xs t en:=
 ⟨fun h=>absurd h h6,fun _ h=>absurd h hb,fun _ _ h=>absurd h h1,fun _ _ _=>⟨hd,he,hh⟩⟩
def ZyU(o l k z h:Int)(xs:List Nat)(s:ByteArray):Prop:=Zvh o l k z h xs s 0 0 0 0 0 [] ⟨#[]⟩
def FitP(kd o l k z h:Int)(xs:List Nat)(s:ByteArray):Prop:=(kd=1∧ZyU o l k z h xs s)∨(kd=2∧ZaY o l k z h xs s.size)
def ZuT(kd fr ic o l k z h:Int)(xs:List Nat)(s:ByteArray):Prop:=(0≤fr∧fr≤7)∧(0≤ic∧ic≤4294967295)∧FitP kd o l k z h xs s
def Zgf(kd o l k z h:Int)(xs:List Nat)(s:ByteArray):ByteArray:=if kd=2 then st (encL o l k z h xs (tx s))else⟨#[]⟩
def ZdP(kd fr ic:Int)(b:List Nat):List Nat:=Zbc kd 1++Zbc fr 1++Zbc ic 4++b
def Zg6(kd fr ic o l k z h:Int)(xs:List Nat)(s:ByteArray):ByteArray:=Zee (st (ZdP kd fr ic (tx (Zgf kd o l k z h xs s))))
theorem ZhJ(kd fr ic:Int)(b:List Nat)(hb:bytes b):bytes (ZdP kd fr ic b):=
 Zay (Zay (Zay (Za9 _ _) (Za9 _ _)) (Za9 _ _)) hb
theorem Zhb(kd fr ic:Int)(b:List Nat):(ZdP kd fr ic b).length=6+b.length:=by
 unfold ZdP
 simp only[List.length_append,Zgh,Zeh,Zan]
theorem ZyY(h0:FitP kd o l k z h xs s):kd=1∨kd=2:=by
 rcases h0 with h|h
 ·exact .inl h.1
 ·exact .inr h.1
theorem Zgx(o l k z h:Int)(xs:List Nat)(s:ByteArray):Zgf 1 o l k z h xs s=⟨#[]⟩:=if_neg (by decide)
theorem Zgn(o l k z h:Int)(xs:List Nat)(s:ByteArray):Zgf 2 o l k z h xs s=st (encL o l k z h xs (tx s)):=if_pos rfl
theorem ZzR{b:List Nat}{K F I:Nat}(hb:bytes b)(hk:kd=(K:Int))(hf:fr=(F:Int))(hi:ic=(I:Int))(h1:K<256)(h2:F<256)(h3:I<4294967296):
  (st (ZdP kd fr ic b)).size=6+b.length∧hdK (st (ZdP kd fr ic b))=K∧hdF (st (ZdP kd fr ic b))=F∧hdI (st (ZdP kd fr ic b))=I∧Zfa (st (ZdP kd fr ic b))=st b:=by
 have hsz:(st (ZdP kd fr ic b)).size=6+b.length:=by rw[ZbY,Zhb]
 have ht:=Zdn (ZhJ kd fr ic b hb)
 have e:ZdP kd fr ic b=K::F::(be 4 I++b):=by
  unfold ZdP
  rw[Zeh,Zeh,Zgh,Zca hk (by omega),Zca hf (by omega),Zca hi (by omega),be1,be1,Nat.mod_eq_of_lt h1,Nat.mod_eq_of_lt h2]
  simp
 have hl4:=Zan 4 I
 refine⟨hsz,?_,?_,?_,?_⟩
 ·unfold hdK;rw[ht,e];rfl
 ·unfold hdF;rw[ht,e];rfl
 ·unfold hdI
  rw[ht,e,List.drop_succ_cons,List.drop_succ_cons,List.drop_zero,List.take_left' hl4,Zk2]
  exact Nat.mod_eq_of_lt (by omega)
 ·apply ZhC
  unfold Zfa
  rw[ZcK,ht,hsz,Zdn hb,e,List.drop_succ_cons,List.drop_succ_cons]
  rw[List.drop_left' hl4]
  exact List.take_of_length_le (by omega)
theorem Zvf(xs:List Nat):cnt (xorL xs xs)=0:=ZgJ _ (ZhO _)
theorem Zli(hz:Zgk o l k z h xs t):ZyU o l k z h xs t:=by
 obtain⟨p1,p2,p3,p4,p5,p6,p7⟩:=hz
 rw[p1,p2,p3,p4,p5,p6,p7]
 exact⟨⟨⟨rfl,rfl,rfl,rfl,rfl⟩,rfl⟩,Zvf []⟩
theorem ZAJ(h6:6≤T.size):Zbc (hdK T) 1++Zbc (hdF T) 1++Zbc (hdI T) 4=(tx T).take 6:=by
 have hb:=Zal T
 have hl:=Zaa T
 have hbyte:∀i,(tx T).getD i 0<256:=fun i=>hb.get i
 have mi:m64 (hdI T:Int)=hdI T:=Zca rfl (Nat.lt_trans (Zcr (ZaT (Zbn hb 2) 4) (k:=4) (by rw[List.length_take];omega)) (by decide))
 have mk:m64 (hdK T:Int)=hdK T:=Zca rfl (Nat.lt_trans (hbyte 0) (by decide))
 have mf:m64 (hdF T:Int)=hdF T:=Zca rfl (Nat.lt_trans (hbyte 1) (by decide))
 have b1:∀i,i<T.size→be 1 ((tx T).getD i 0)=((tx T).drop i).take 1:=fun i hi=>by
  rw[be1,Nat.mod_eq_of_lt (hbyte i)]
  have:i<(tx T).length:=by omega
  rw[List.drop_eq_getElem_cons this,List.take_succ_cons,List.take_zero,List.getD_eq_getElem?_getD,List.getElem?_eq_getElem this]
  rfl
 have w4:be 4 (hdI T)=((tx T).drop 2).take 4:=ZeZ (ZaT (Zbn hb 2) 4) (by rw[List.length_take,List.length_drop];omega)
 rw[Zgh,Zeh,Zeh,mi,mk,mf,w4,show be 1 (hdK T)=((tx T).drop 0).take 1 from b1 0 (by omega),show be 1 (hdF T)=((tx T).drop 1).take 1 from b1 1 (by omega)]
 rw[List.drop_zero,←List.take_add,←List.take_add]
theorem ZuL(hd:Zfq s kd fr ic o l k z h xs t 0):
  ZuT kd fr ic o l k z h xs t∧Zg6 kd fr ic o l k z h xs t=s:=by
 have ho:openE s=0:=by
  by_cases h0:openE s=0
  ·exact h0
  ·have:=(hd.1 h0).1
   omega
 have hseal:=ZsJ s ho
 obtain⟨a1,a2,a3,a4⟩:=hd.2 ho
 unfold Zg6
 generalize openT s=T at*
 have c2:¬T.size<6:=fun h=>by have:=(a1 h).1;omega
 have c3:¬badP T:=fun h=>by have:=(a2 c2 h).1;omega
 have hf7:¬8≤hdF T:=fun h=>c3 (.inl h)
 have hi:hdI T<4294967296:=Nat.lt_of_lt_of_le (Zcr (ZaT (Zbn (Zal T) 2) 4) (k:=4) (by rw[List.length_take];omega)) (by decide)
 have h6:=ZAJ (T:=T) (by omega)
 have hl:=Zaa T
 suffices hh:Zr1 T kd fr ic∧FitP kd o l k z h xs t∧tx (Zgf kd o l k z h xs t)=(tx T).drop 6 by
  obtain⟨⟨e1,e2,e3⟩,hfit,hb⟩:=hh
  refine⟨⟨by omega,by omega,hfit⟩,?_⟩
  unfold ZdP
  rw[hb,e1,e2,e3,h6,List.take_append_drop,Zkj]
  exact hseal
 by_cases c4:hdK T=1
 ·obtain⟨_,x1,x2⟩:=a3 c2 c3 c4
  have h66:¬6<T.size:=fun h=>c3 (.inr (.inr ⟨c4,h⟩))
  have hk:kd=1:=by rw[x1.1,c4];rfl
  refine⟨x1,.inl ⟨hk,Zli x2⟩,?_⟩
  rw[hk,Zgx,List.drop_eq_nil_of_le (by omega)]
  rfl
 ·have c5:hdK T=2:=by
   by_cases h:hdK T=2
   ·exact h
   ·exact absurd (.inr (.inl ⟨c4,h⟩)) c3
  obtain⟨x1,_,x3⟩:=a4 c2 c3 c4
  have hh:=x3 rfl
  have hk:kd=2:=by rw[hh.1,c5];rfl
  obtain⟨_,ns,hg,y1,y2,y3,y4,y5,y6,y7⟩|⟨hbad,_⟩:=x1.err
  ·obtain⟨z1,z2⟩:=Zzb ns hg
   refine⟨hh,.inr ⟨hk,?_⟩,?_⟩
   ·unfold ZfD at hg
    rw[y1,y2,y3,y4,y5,y6,y7,z1]
    exact hg
   ·rw[hk,Zgn,y1,y2,y3,y4,y5,y6,y7,z2]
    unfold Zfa
    rw[ZcK,List.take_of_length_le (by rw[List.length_drop];omega)]
  ·omega
end Go.Proofs.YtlhhinlghhjghaaGreatDoor
