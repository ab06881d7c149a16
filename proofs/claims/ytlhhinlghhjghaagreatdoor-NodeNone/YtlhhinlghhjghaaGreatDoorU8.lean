/-
  What the rows' frames share: the table of math/bits as the rows list it; what slices of texts and of rows that came in hold. No condition.
  What the rows' frames of the store share: its numbers, and a row alone, that came in by value. No condition.
  Blocks of a text, on plain lists: how many ('kc'), what each holds ('blk'), all of them ('blocksL'), joined. No condition.
  Configs as data ('CFV': nodes, the object, numbers), slices of nodes in memory ('NdsAt'), which of them may be ('CfgP', 'ChkR'). No condition.
  Contracts of bucketlinelaw10.few, soliton.Sum, bucketlineref10.Sum, soliton.Pick, bucketlineref10.Pick: for shares whose sum is at most 2^62.
  The table of soliton ('PTab'). Contracts of math/bits.Len64 and Len (below 256), soliton.base, more, Table, bucketlineref10.Table: in every world that holds the table.
-/
import Derived.Test.YtlhhinlghhjghaaGreatDoorU4
import Derived.Test.YtlhhinlghhjghaaGreatDoorU2
import Derived.Test.YtlhhinlghhjghaaGreatDoorU1
import Derived.Test.YtlhhinlghhjghaaGreatDoorU7
import Derived.ProofKit
import Derived.OpenShut
import Derived.ShutString
import Derived.ChangeOld
import Derived.ChangeMaps5
import Derived.SliceStrings
import Derived.Deep.SlicePairs
import Derived.Deep.DeepHandedRow
import Derived.Lib.LaidTab
import Derived.Below
import Derived.Test.YtlhhinlghhjghaaGreatDoorU5
import Derived.Lib.BitFns
namespace Go.Proofs.YtlhhinlghhjghaaGreatDoor
open Go.ChangeShapes Go.WideShapes Go.ChangeAt Go.RowKit
set_option linter.unusedVariables false
set_option linter.unusedSimpArgs false
set_option maxRecDepth 4000
set_option maxHeartbeats 8000000
variable {W:World}
theorem own:ownKnob Tryz.prog.godebug=none:=by kernel_rfl
theorem ZyQ:laidOutB Tryz.prog=true:=by kernel_rfl
theorem gTab : Tryz.prog.globalNamed "math/bits.deBruijn64tab" = some 3 := by kernel_rfl
theorem ZwN:(Tryz.prog.globals[3]?).map (·.type)=some 408:=by kernel_rfl
theorem Zxs:Tryz.prog.cellsOf 408=64:=by kernel_rfl
theorem ZA1:Tryz.prog.cellsOf 5=1:=by kernel_rfl
theorem Zvh {W : World} (h : laidMetH Tryz.prog Rows.nodeCrashRow.laid W) : Lib.TabIs Tryz.prog W "math/bits.deBruijn64tab" .u8 (Lib.deBruijn64tab.map fun (x : Nat) => (x : Int)) :=
 Lib.tabIs_of_head (rest:=_) gTab ZwN Tryz.underlying408 Tryz.underlying5 ZA1 Zxs h
theorem ZAG(h:laidMetH Tryz.prog Rows.nodeCrashRow.laid W):Tab W:=by
 intro i hi
 have hl:(Lib.deBruijn64tab.map fun(x:Nat)=>(x:Int)).length=64:=by decide
 have:=(Zvh h).cell gTab i (by omega)
 rw[this]
 have hd:Lib.deBruijn64tab.length=64:=by decide
 have e:i<Lib.deBruijn64tab.length:=by omega
 simp[List.getD_eq_getElem?_getD,List.getElem?_eq_getElem e]
theorem Ze9(b off i:Nat):(⟨b,off,none⟩:Addr).add i=⟨b,off+i,none⟩:=by
 unfold Addr.add
 split
 ·rename_i h;simp_all
 ·rfl
theorem Zmr{n:Nat}(h:n≤maxLen):n≤9223372036854775807:=by simpa [maxLen]using h
theorem ZvY{H:Type}{enc:TypeId×Value→H}{fuel:Nat}{v:Value}{x:DataW H×List MemPlace}
  (h:DataW.trod enc Tryz.prog W 0 (fun _=>true) true fuel 9 [v]=some x):∃s,v=.string s∧s.size≤9223372036854775807:=by
 cases fuel with
 |zero=>simp[DataW.trod]at h
 |succ fuel=>
  cases v<;>simp[DataW.trod,Tryz.underlying9]at h
  exact⟨_,rfl,Zmr h.1⟩
theorem ZcI{H:Type}{enc:TypeId×Value→H}{fuel:Nat}{v:Value}{x:DataW H×List MemPlace}
  (h:DataW.trod enc Tryz.prog W 0 (fun _=>true) true fuel 3 [v]=some x):∃a,v=.int .i64 a:=by
 cases fuel with
 |zero=>simp[DataW.trod]at h
 |succ fuel=>
  cases v<;>simp[DataW.trod,Tryz.underlying3]at h
  obtain⟨⟨rfl,_⟩,_⟩:=h
  exact⟨_,rfl⟩
theorem Zb5{α:Type}{l:List α}{i:Nat}(h:i<l.length):∃y,l[i]? =some y:=⟨_,List.getElem?_eq_getElem h⟩
end Go.Proofs.YtlhhinlghhjghaaGreatDoor
namespace Go.Proofs.YtlhhinlghhjghaaGreatDoor
open Go.RowKit
set_option linter.unusedVariables false
set_option linter.unusedSimpArgs false
set_option maxRecDepth 4000
set_option maxHeartbeats 8000000
variable {xs:List Nat}{n z:Nat}{w:World}
def kc(n z:Nat):Nat:=if 0<n%z∨n/z=0 then n/z+1 else n/z
theorem Zx6(n z:Nat):1≤kc n z:=by
 unfold kc
 generalize n/z=q
 generalize n%z=r
 split<;>rename_i h<;>omega
theorem Zfi(n z:Nat)(hz:0<z):n≤kc n z*z:=by
 have h1:=Nat.div_add_mod n z
 have h2:=Nat.mod_lt n hz
 rw[Nat.mul_comm]at h1
 unfold kc
 split
 ·rw[Nat.add_mul];omega
 ·rename_i h
  have:n%z=0:=by omega
  omega
theorem Znk(n z k:Nat)(hz:0<z)(hk:1≤k)(h:n≤k*z):kc n z≤k:=by
 have h1:=Nat.div_add_mod n z
 have h2:=Nat.mod_lt n hz
 rw[Nat.mul_comm]at h1
 unfold kc
 split
 ·rename_i hc
  rcases hc with hc|hc
  ·rcases Nat.lt_or_ge (n/z) k with h'|h'
   ·omega
   ·have:=Nat.mul_le_mul_right z h'
    omega
  ·omega
 ·rename_i hc
  rcases Nat.lt_or_ge k (n/z)with h'|h'
  ·have:=Nat.mul_le_mul_right z (Nat.succ_le_of_lt h')
   rw[Nat.succ_mul]at this
   omega
  ·exact h'
theorem Zvd(n z k:Nat)(hz:0<z)(hk:1≤k):k<kc n z↔k*z<n:=by
 constructor
 ·intro h
  rcases Nat.lt_or_ge (k*z) n with h'|h'
  ·exact h'
  ·have:=Znk n z k hz hk h'
   omega
 ·intro h
  have h1:=Zfi n z hz
  rcases Nat.lt_or_ge k (kc n z)with h'|h'
  ·exact h'
  ·have:=Nat.mul_le_mul_right z h'
   omega
def planE(n z:Int):Int:=if n<0∨z<1∨64<z then 1 else if 128<kc n.toNat z.toNat then 2 else 0
def planK(n z:Int):Int:=if planE n z=0 then(kc n.toNat z.toNat:Int)else 0
theorem Znz{n z:Int}(h:n<0∨z<1∨64<z):planE n z=1∧planK n z=0:=by
 have e:planE n z=1:=if_pos h
 exact⟨e,by unfold planK;rw[e];rfl⟩
theorem Ztu(h1:1≤z)(h2:z≤64)(h:128<kc n z):planE (n:Int) (z:Int)=2∧planK (n:Int) (z:Int)=0:=by
 have e:planE (n:Int) (z:Int)=2:=by
  unfold planE
  rw[if_neg (by omega),if_pos (by simpa using h)]
 exact⟨e,by unfold planK;rw[e];rfl⟩
theorem ZmJ(h1:1≤z)(h2:z≤64)(h:kc n z≤128):planE (n:Int) (z:Int)=0∧planK (n:Int) (z:Int)=(kc n z:Int):=by
 have e:planE (n:Int) (z:Int)=0:=by
  unfold planE
  rw[if_neg (by omega),if_neg (by simp;omega)]
 exact⟨e,by unfold planK;rw[e];simp⟩
def pad(z:Nat)(t:List Nat):List Nat:=t++List.replicate (z-t.length) 0
def blk(xs:List Nat)(z i:Nat):List Nat:=pad z ((xs.drop (i*z)).take z)
def Zap(xs:List Nat)(z k:Nat):List ByteArray:=(List.range k).map fun i=>st (blk xs z i)
theorem Zqt(z:Nat)(t:List Nat)(h:t.length≤z):(pad z t).length=z:=by
 unfold pad
 rw[List.length_append,List.length_replicate]
 omega
theorem Ziv(xs:List Nat)(z i:Nat):(blk xs z i).length=z:=Zqt _ _ (List.length_take_le _ _)
theorem Za8(xs:List Nat)(z k:Nat):(Zap xs z k).length=k:=by simp[Zap]
theorem Zdv(xs:List Nat)(z k:Nat):Zap xs z (k+1)=Zap xs z k++[st (blk xs z k)]:=by
 simp[Zap,List.range_succ]
theorem ZsO{t:List Nat}(h:bytes t):bytes (pad z t):=by
 intro x hx
 rcases List.mem_append.1 hx with hx|hx
 ·exact h x hx
 ·rw[(List.mem_replicate.1 hx).2];decide
theorem Zj3(h:bytes xs)(z i:Nat):bytes (blk xs z i):=ZsO (ZaU (Zbr h _) _)
def joinL(ss:List ByteArray):List Nat:=ss.flatMap tx
theorem ZfK(ss:List ByteArray)(s:ByteArray):joinL (ss++[s])=joinL ss++tx s:=by simp[joinL]
theorem ZiQ(ss:List ByteArray)(k:Nat)(h:k<ss.length):joinL (ss.take (k+1))=joinL (ss.take k)++tx (ss.getD k ByteArray.empty):=by
 rw[List.take_succ_eq_append_getElem h,ZfK]
 simp[List.getD_eq_getElem?_getD,List.getElem?_eq_getElem h]
theorem Zge(hx:bytes xs)(z:Nat):∀k,k*z≤xs.length→joinL (Zap xs z k)=xs.take (k*z)
 |0,_=>by simp[Zap,joinL]
 |k+1,h=>by
  rw[Nat.add_mul,Nat.one_mul]at h
  rw[Zdv,ZfK,Zge hx z k (by omega),Zdl (Zj3 hx z k),Nat.add_mul,Nat.one_mul,List.take_add]
  congr 1
  unfold blk pad
  rw[List.length_take,List.length_drop]
  rw[show z-min z (xs.length-k*z)=0 by omega]
  simp
theorem Zrp(hx:bytes xs)(z k:Nat)(hk:1≤k)(h:xs.length≤k*z)(hl:k=1∨(k-1)*z<xs.length):(joinL (Zap xs z k)).take xs.length=xs:=by
 obtain⟨j,rfl⟩:∃j,k=j+1:=⟨k-1,by omega⟩
 have hj:j*z≤xs.length:=by
  rcases hl with hl|hl
  ·obtain rfl:j=0:=by omega
   omega
  ·simp at hl;omega
 rw[Zdv,ZfK,Zge hx z j hj,Zdl (Zj3 hx z j)]
 rw[Nat.add_mul,Nat.one_mul]at h
 have e:(xs.drop (j*z)).take z=xs.drop (j*z):=List.take_of_length_le (by rw[List.length_drop];omega)
 unfold blk pad
 rw[e,←List.append_assoc,List.take_append_drop,List.take_append_of_le_length (Nat.le_refl _),List.take_length]
theorem Zh7(xs:List Nat)(z k i:Nat)(h:i<k):(Zap xs z k).getD i ByteArray.empty=st (blk xs z i):=by
 unfold Zap
 rw[List.getD_eq_getElem?_getD,List.getElem?_map,List.getElem?_range h]
 rfl
structure NDV where
 kd:Int
 a:Option Addr
 n:Nat
 c:Nat
 tos:List Int
def NDV.dflt:NDV:=⟨0,none,0,0,[]⟩
structure CFV where
 a:Option Addr
 n:Nat
 c:Nat
 ds:List NDV
 obj:ByteArray
 size:Int
 spread:Int
 buffer:Int
 queue:Int
 cache:Int
 rate:Nat
 timeout:Int
 target:Int
def CFV.val(f:CFV):Value:=.agg #[.slice f.a f.n f.c,.string f.obj,.int .i64 f.size,.int .i64 f.spread,.int .i64 f.buffer,.int .i64 f.queue,.int .i64 f.cache,.float .f64 f.rate,.int .i64 f.timeout,.int .i64 f.target]
def NdsAt(w:World)(a:Option Addr)(n:Nat)(ds:List NDV):Prop:=
 ds.length=n∧(∀i,i<n→IntzAt w (ds.getD i .dflt).a (ds.getD i .dflt).n (ds.getD i .dflt).tos)∧(n=0∨∃b off,a=some ⟨b,off,none⟩∧∀i,i<n→w.cell? ⟨b,off+i*2,none⟩=some (.int .i64 (ds.getD i .dflt).kd)∧w.cell? ⟨b,off+i*2+1,none⟩=some (.slice (ds.getD i .dflt).a (ds.getD i .dflt).n (ds.getD i .dflt).c))
theorem NdsAt.at{a:Option Addr}{ds:List NDV}(h:NdsAt w a n ds){i:Nat}(hi:i<n):∃b off,a=some ⟨b,off,none⟩∧∀i,i<n→w.cell? ⟨b,off+i*2,none⟩=some (.int .i64 (ds.getD i .dflt).kd)∧w.cell? ⟨b,off+i*2+1,none⟩=some (.slice (ds.getD i .dflt).a (ds.getD i .dflt).n (ds.getD i .dflt).c):=by
 rcases h.2.2 with h0|h0
 ·omega
 ·exact h0
theorem NdsAt.below{w':World}{a:Option Addr}{ds:List NDV}(h:NdsAt w a n ds)(hb:Below w.heap.size w w'):NdsAt w' a n ds:=by
 refine⟨h.1,fun i hi=>(h.2.1 i hi).below hb,?_⟩
 rcases h.2.2 with h0|⟨b,off,rfl,hc⟩
 ·exact .inl h0
 ·exact .inr ⟨b,off,rfl,fun i hi=>⟨(hb.cell (p:=⟨b,off+i*2,none⟩) (World.block_lt_of_cell? w _ (hc i hi).1)).trans (hc i hi).1,(hb.cell (p:=⟨b,off+i*2+1,none⟩) (World.block_lt_of_cell? w _ (hc i hi).2)).trans (hc i hi).2⟩⟩
theorem Zvf(a:Option Addr)(n c:Nat)(xs:List Int)(w:World)(h:IntzAt w a n xs)(hn:n≤1048576)(hs:sumZ xs≤4611686018427387904):
  Calls Tryz.prog 245 #[.slice a n c] w fun e w'=>e=.returned (.int .i64 ((sumZ xs:Nat):Int))∧w'=w:=by
 obtain rfl:n=xs.length:=h.1.symm
 obtain⟨S,hS⟩:∃S,sumZ xs=S:=⟨_,rfl⟩
 have HE:=hide (show sumZ (xs.take xs.length)=S by rw[List.take_length];exact hS)
 have HL:=hide (fun k=>Nat.le_trans (Zdp xs k) (Nat.le_of_eq hS))
 have HT:=hide (fun k hk=>ZhN xs k hk)
 rw[hS]at hs⊢
 clear hS
 go_enter Tryz.func245,Tryz.ntmps245
 go_wp2
 go_loop [3,8] (fun t i=> ∃k q:Nat,k≤xs.length∧i=.int .i64 k∧t=.int .i64 (q:Int)∧Hid (q=sumZ (xs.take k))) (fun _ i=>xs.length-(intOf i).toNat)
 case atStart=>exact⟨0,0,Nat.zero_le _,rfl,rfl,hide rfl⟩
 case round=>
  obtain⟨k,q,hk,rfl,rfl,HQ⟩:=hrel
  by_cases hlt:k<xs.length
  ·obtain⟨b,off,rfl,hc⟩:=h.at hlt
   have hcell:=hc k hlt
   have ht:=unhide HT k hlt
   have hle:=unhide HL (k+1)
   rw[←unhide HQ]at ht
   rw[ht]at hle
   have HQ1:=hide ht
   clear hc h HT HL HE HQ ht
   generalize xs.getD k 0=x at*
   have hm:=Zni x
   generalize x.toNat=z at*
   go_wp2
   go_round
   case rel=>exact⟨k+1,q+z,by omega,by go_num,by go_num,hide (unhide HQ1).symm⟩
   case measure=>simp[intOf];omega
  ·obtain rfl:k=xs.length:=by omega
   have HR:=hide ((unhide HQ).trans (unhide HE))
   clear h HT HL HE HQ
   go_wp2
   go_ret
   exact⟨ZaE (by rw[unhide HR]),rfl⟩
theorem ZzI(l:List Int)(k:Nat)(hk:k<l.length):(l.getD k 0).toNat≤sumZ l:=by
 have h1:=ZhN l k hk
 have h2:=Zdp l (k+1)
 omega
theorem ZtG(a:Option Addr)(n c:Nat)(xs:List Int)(draw:Nat)(w:World)(h:IntzAt w a n xs)(hn:n≤1048576)(hs:sumZ xs≤4611686018427387904)(hd:draw<18446744073709551616):
  Calls Tryz.prog 219 #[.slice a n c,.int .u64 (draw:Int)] w fun e w'=>e=.returned (.int .i64 ((pickD xs draw:Nat):Int))∧w'=w:=by
 have HS:=hide (Zvf a n c xs w h hn hs)
 obtain rfl:n=xs.length:=h.1.symm
 obtain⟨S,hS⟩:∃S,sumZ xs=S:=⟨_,rfl⟩
 obtain⟨R,hR⟩:∃R,pickD xs draw=R:=⟨_,rfl⟩
 have H0:=hide (fun(h0:S=0)=>hR.symm.trans (Zpw (hS.trans h0) draw))
 have H1:=hide (fun(h1:S≠0)=>hR.symm.trans (Zh1 (by rw[hS];exact h1) draw))
 have HV:=hide (fun k hk=>Nat.le_trans (ZzI xs k hk) (Nat.le_of_eq hS))
 rw[hS]at hs HS H1
 rw[hR]
 clear hS hR
 by_cases hz:S=0
 ·subst hz
  have HR:=hide (unhide H0 rfl)
  clear H0 H1 h
  go_enter Tryz.func219,Tryz.ntmps219
  go_wp2_with (go_at_call 245;refine(unhide HS).mono ?_;rintro e w1 ⟨rfl,hw⟩;obtain rfl:=hw.symm)
  go_ret
  exact⟨ZaE (by rw[unhide HR];rfl),rfl⟩
 ·have HR:=hide (unhide H1 hz)
  have hml:draw%S<S:=Nat.mod_lt _ (by omega)
  have hmz:(draw:Int)%(S:Int)=((draw%S:Nat):Int):=by simp
  have hze:((S:Int)==0)=false:=by simp;omega
  clear H0 H1
  generalize draw%S=x0 at*
  go_enter Tryz.func219,Tryz.ntmps219
  go_wp2_with (go_at_call 245;refine(unhide HS).mono ?_;rintro e w1 ⟨rfl,hw⟩;obtain rfl:=hw.symm)
  go_loop [6,20] (fun t i=> ∃k x:Nat,k≤xs.length∧i=.int .i64 k∧t=.int .u64 (x:Int)∧x≤x0∧Hid (R=Zfn (xs.drop k) k x)) (fun _ i=>xs.length-(intOf i).toNat)
  case atStart=>exact⟨0,x0,Nat.zero_le _,rfl,by first|rfl|rw[hmz],Nat.le_refl _,hide (unhide HR)⟩
  case round=>
   obtain⟨k,x,hk,rfl,rfl,hx,HQ⟩:=hrel
   by_cases hlt:k<xs.length
   ·obtain⟨b,off,rfl,hc⟩:=h.at hlt
    have hcell:=hc k hlt
    have HY:=hide (fun hh=>(unhide HQ).trans (ZuG xs k x hlt hh))
    have HN:=hide (fun hh=>(unhide HQ).trans (Zxe xs k x hlt hh))
    clear hc h HQ HR HS
    have hsz:=unhide HV k hlt
    clear HV
    generalize xs.getD k 0=y at*
    have hm:=Zni y
    generalize y.toNat=z at*
    by_cases hxz:x<z
    ·have HR:=hide (unhide HY hxz)
     clear HY HN
     go_wp2
     go_ret
     exact⟨ZaE (by rw[unhide HR];go_num),rfl⟩
    ·have HR:=hide (unhide HN hxz)
     clear HY HN
     go_wp2
     go_round
     case rel=>exact⟨k+1,x-z,by omega,by go_num,by go_num,by omega,HR⟩
     case measure=>simp[intOf];omega
   ·obtain rfl:k=xs.length:=by omega
    have HR:=hide ((unhide HQ).trans (Ztx xs _ _))
    clear h HQ HS
    go_wp2
    go_ret
    exact⟨ZaE (by rw[unhide HR];rfl),rfl⟩
def PTab(w:World):Prop:=∀i,i<127→w.cell? ⟨1,i,none⟩=some (.int .u32 ((1048576/((i+2)*(i+1)):Nat):Int))
theorem PTab.below{w':World}(h:PTab w)(hb:Below w.heap.size w w'):PTab w':=fun i hi=>(hb.cell (World.block_lt_of_cell? w _ (h i hi))).trans (h i hi)
theorem ZrW(x:Nat)(hx:x<256):Lib.bitLen x=bitLen x:=by
 have h:∀j:Fin 256,Lib.bitLen j.val=bitLen j.val:=by decide+kernel
 exact h ⟨x,hx⟩
theorem ZuV(x:Nat)(hx:x<256):Lib.len8 (x:Int)=((bitLen x:Nat):Int):=by
 rw[Lib.len8_of (x:Int) (by omega) (by omega),Int.toNat_natCast,ZrW x hx]
set_option maxRecDepth 100000 in
theorem ZoH(x:Nat)(hx:x<256)(w:World):
  Calls Tryz.prog 313 #[.int .u64 (x:Int)] w fun e w'=>e=.returned (.int .i64 ((bitLen x:Nat):Int))∧w'=w:=by
 have H:=ZuV x hx
 have hI:=fun W=>Lib.run_index_len8tab (P:=Tryz.prog) W 9 .u8 (x:Int) Tryz.underlying9 (by omega) (by omega)
 rw[H]at hI
 clear H
 have hb:((bitLen x:Nat):Int)≤8:=by have:=bitLen_le8 x hx;omega
 have hx':(x:Int)≤255:=by omega
 generalize bitLen x=z at*
 clear hx
 go_enter Tryz.func313,Tryz.ntmps313
 generalize hT:ByteArray.mk (List.toArray _)=T at*
 have hT':T=Lib.len8tab:=hT.symm.trans (by kernel_rfl)
 clear hT
 rw[←hT']at hI
 clear hT'
 generalize hQ:bodyPost _ _ _=Q at*
 have HQ:=hide hQ
 clear hQ
 iterate 20 go_step
 refine wp_cond_split rfl (fun h=>?_) (fun h=>?_)
 ·exact absurd (of_decide_eq_true h) (by omega)
 clear h
 iterate 15 go_step
 refine wp_cond_split rfl (fun h=>?_) (fun h=>?_)
 ·exact absurd (of_decide_eq_true h) (by omega)
 clear h
 iterate 15 go_step
 refine wp_cond_split rfl (fun h=>?_) (fun h=>?_)
 ·exact absurd (of_decide_eq_true h) (by omega)
 clear h
 go_wp2
 rw[←unhide HQ]
 go_ret
 exact⟨rfl,rfl⟩
theorem ZvC(x:Nat)(hx:x<256)(w:World):
  Calls Tryz.prog 292 #[.int .u64 (x:Int)] w fun e w'=>e=.returned (.int .i64 ((bitLen x:Nat):Int))∧w'=w:=by
 have H:=hide (ZoH x hx w)
 generalize bitLen x=z at*
 go_enter Tryz.func292,Tryz.ntmps292
 go_wp2_with (go_at_call 313;refine(unhide H).mono ?_;rintro e w1 ⟨rfl,hw⟩;obtain rfl:=hw.symm)
 go_ret
 exact⟨rfl,rfl⟩
theorem ZwA(k d:Nat)(hk:1≤k)(hk2:k≤128)(hd:1≤d)(hd2:d≤128)(w:World)(ht:PTab w):
  Calls Tryz.prog 246 #[.int .i64 (k:Int),.int .i64 (d:Int)] w fun e w'=>e=.returned (.int .i64 ((baseN k d:Nat):Int))∧w'=w:=by
 by_cases h1:d=1
 ·subst h1
  have hq:(1048576:Int)/(k:Int)=((1048576/k:Nat):Int):=by simp
  have hle:=Nat.div_le_self 1048576 k
  rw[Zt8]
  have hkp:(1:Int)≤(k:Int):=by omega
  generalize 1048576/k=q at*
  clear ht
  go_enter Tryz.func246,Tryz.ntmps246
  go_wp2
  go_ret
  exact⟨ZaE (by first|rfl|rw[hq]),rfl⟩
 ·rw[Zqd h1]
  obtain⟨i,rfl⟩:∃i,d=i+2:=⟨d-2,by omega⟩
  have hcell:=ht i (by omega)
  rw[show(i+2)*(i+2-1)=(i+2)*(i+1) from rfl]
  have hle:=Nat.div_le_self 1048576 ((i+2)*(i+1))
  have hii:((i+2:Nat):Int)-2=(i:Int):=by omega
  generalize 1048576/((i+2)*(i+1))=q at*
  clear ht
  go_enter Tryz.func246,Tryz.ntmps246
  go_wp2
  go_ret
  exact⟨rfl,rfl⟩
theorem ZvO(k s d:Nat)(hk:1≤k)(hk2:k≤128)(hd:1≤d)(hd2:d≤128)(hs:s≤128)(w:World):
  Calls Tryz.prog 247 #[.int .i64 (k:Int),.int .i64 (s:Int),.int .i64 (d:Int)] w fun e w'=>e=.returned (.int .i64 ((moreN k s d:Nat):Int))∧w'=w:=by
 by_cases h0:s=0
 ·subst h0
  rw[ZpG]
  go_enter Tryz.func247,Tryz.ntmps247
  go_wp2
  go_ret
  exact⟨rfl,rfl⟩
 ·have hs0:(1:Int)≤(s:Int):=by omega
  have hkp:(1:Int)≤(k:Int):=by omega
  have hdp:(1:Int)≤(d:Int):=by omega
  have hm:(k:Int)/(s:Int)=((k/s:Nat):Int):=by simp
  have hml:=Nat.div_le_self k s
  by_cases h1:d<k/s
  ·rw[Zqf h0 h1]
   have hkd:k*d≤128*128:=Nat.mul_le_mul hk2 hd2
   have hkd1:1*1≤k*d:=Nat.mul_le_mul hk hd
   have hmi:(k:Int)*(d:Int)=((k*d:Nat):Int):=by simp
   have hq:(1048576*s:Int)/((k*d:Nat):Int)=((1048576*s/(k*d):Nat):Int):=by simp
   have hle:=Nat.div_le_self (1048576*s) (k*d)
   have hki:(1:Int)≤((k*d:Nat):Int):=by omega
   generalize 1048576*s/(k*d)=q at*
   generalize k*d=m at*
   generalize k/s=m' at*
   go_enter Tryz.func247,Tryz.ntmps247
   go_wp2
   go_ret
   exact⟨ZaE (by first|rfl|rw[hq]),rfl⟩
  ·by_cases h2:d=k/s
   ·rw[Zo5 h0 h2]
    have HL:=hide (ZvC s (by omega) w)
    have hb8:=bitLen_le8 s (by omega)
    have hp2:1048576*s*bitLen s≤1048576*128*8:=Nat.mul_le_mul (Nat.mul_le_mul_left _ hs) hb8
    have hmi:(1048576*(s:Int))*((bitLen s:Nat):Int)=((1048576*s*bitLen s:Nat):Int):=by simp
    have hq:((1048576*s*bitLen s:Nat):Int)/(k:Int)=((1048576*s*bitLen s/k:Nat):Int):=by simp
    have hle:=Nat.div_le_self (1048576*s*bitLen s) k
    have hdm:(d:Int)=((k/s:Nat):Int):=by omega
    generalize 1048576*s*bitLen s/k=q at*
    generalize 1048576*s*bitLen s=p at*
    generalize bitLen s=z at*
    generalize k/s=m' at*
    subst h2
    clear h1 hdm
    go_enter Tryz.func247,Tryz.ntmps247
    go_wp2_with (go_at_call 292;refine(unhide HL).mono ?_;rintro e w1 ⟨rfl,hw⟩;obtain rfl:=hw.symm)
    go_ret
    exact⟨ZaE (by first|rfl|rw[hq]),rfl⟩
   ·rw[ZpP h0 (by omega)]
    generalize k/s=m' at*
    have h3:m'<d:=by omega
    clear h1 h2
    go_enter Tryz.func247,Tryz.ntmps247
    go_wp2
    go_ret
    exact⟨rfl,rfl⟩
theorem ZtA(k s d:Nat):max 1 (baseN k d+moreN k s d)=Ze8 k s d:=rfl
theorem Zuf(k s:Nat)(hk:1≤k)(hk2:k≤128)(hs:s≤k)(w:World)(ht:PTab w):
  Calls Tryz.prog 220 #[.int .i64 (k:Int),.int .i64 (s:Int)] w fun e w'=> ∃v,e=.returned v∧OwnZ w' w.heap.size v (tableL k s)∧Below w.heap.size w w':=by
 have hmk:=ZeU k (by omega)
 have HM:=hide (Zfh w k (by omega) (Za3 (tableL k s) 0) (by rw[ZdV,Zbo]))
 have HBM:Hid (Below w.heap.size w (w.alloc (.cells (madeCells #[.int .i64 0] k) 3))):=hide ((Below.refl _ _).alloc (Nat.le_refl _) _)
 have e1:decide ((k:Int)<1)=false:=by rw[decide_eq_false_iff_not];omega
 have e2:decide (128<(k:Int))=false:=by rw[decide_eq_false_iff_not];omega
 have e3:decide ((s:Int)<0)=false:=by rw[decide_eq_false_iff_not];omega
 have e4:decide (k<s)=false:=by rw[decide_eq_false_iff_not];omega
 have hs1:s≤128:=by omega
 have HK:=hide hk
 clear hk hs
 go_enter Tryz.func220,Tryz.ntmps220
 go_wp2
 go_loopw [27] (fun i wr=> ∃j:Nat,j≤k∧i=.int .i64 j∧Hid (OwnZ wr w.heap.size (.slice (some ⟨w.heap.size,0,none⟩) k k) (Za3 (tableL k s) j))∧Hid (Below w.heap.size w wr)) (fun i _=>k-(intOf i).toNat)
 case atStart=>exact⟨0,Nat.zero_le _,rfl,HM,HBM⟩
 case round=>
  obtain⟨j,hj,rfl,HI,HB⟩:=hrel
  have hB:=unhide HB
  by_cases hlt:j<k
  ·have hI:=unhide HI
   have hfl:(Za3 (tableL k s) j).length=k:=by rw[ZbQ _ _ (by rw[Zbo];exact hj),Zbo]
   obtain⟨g,cap,e1,_,_,hcg,hfg⟩:=hI.at (by omega)
   simp only[Value.slice.injEq,Option.some.injEq,Addr.mk.injEq,and_true]at e1
   obtain⟨rfl, -, -⟩:=e1
   have hcell2:=hcg j (by omega)
   have hfz:=hfg j
   have hjj:((j+1:Nat):Int)=(j:Int)+1:=by omega
   have hA:=ZwA k (j+1) (unhide HK) hk2 (by omega) (by omega) wr (ht.below hB)
   have hC:=ZvO k s (j+1) (unhide HK) hk2 (by omega) (by omega) (by omega) wr
   rw[hjj]at hA hC
   have HA:=hide hA
   have HC:=hide hC
   have hb1:=Znc k (j+1)
   have hb2:=Znj k s (j+1) (by omega)
   have hmx:=Zu2 (baseN k (j+1)+moreN k s (j+1))
   have hs2:=hI.stored j ((Ze8 k s (j+1):Nat):Int)
   rw[←ZfI k s j hlt,ZdP _ _ (by rw[Zbo];exact hlt),ZfI k s j hlt]at hs2
   have HS:=hide hs2
   have HB2:=hide (hB.setCell (p:=⟨w.heap.size,j,none⟩) (by exact Nat.le_refl _) (.int .i64 ((Ze8 k s (j+1):Nat):Int)))
   rw[ZtA]at hmx
   clear hA hC hjj
   clear hI hfl hcg hfg hs2 hB HB HI HM HBM ht
   generalize Ze8 k s (j+1)=q at*
   generalize baseN k (j+1)=x at*
   generalize moreN k s (j+1)=y at*
   have hxy:((x+y:Nat):Int)=(x:Int)+(y:Int):=by omega
   rw[hxy]at hmx
   clear hxy
   go_wp2_with (first|(go_at_call 246;refine(unhide HA).mono ?_;rintro e w1 ⟨rfl,hw⟩;obtain rfl:=hw.symm)|(go_at_call 247;refine(unhide HC).mono ?_;rintro e w1 ⟨rfl,hw⟩;obtain rfl:=hw.symm))
   go_roundw
   case rel=>exact⟨j+1,by omega,by go_num,HS,HB2⟩
   case measure=>simp[intOf];omega
  ·obtain rfl:j=k:=by omega
   rw[show Za3 (tableL j s) j=tableL j s by
    have:=ZeB (tableL j s)
    rwa[Zbo]at this]at HI
   clear HM HBM
   go_wp2
   go_ret
   exact⟨_,rfl,unhide HI,unhide HB⟩
end Go.Proofs.YtlhhinlghhjghaaGreatDoor
