/-
  Contracts of internal/stringslite.Clone and strings.Clone: for every text of at most 2^20 bytes.
  strings.Builder in this program: the shelf's contracts of Grow (of a new builder), WriteByte and String, laid at this program's own numbers. Conditions: a builder in a block of its own; at most 2^47 bytes.
-/
import Derived.Test.YtakoaadimhpclaaGreatDoorU11
import Derived.Lib.UnsafeStr
import Derived.Laws.Concat
import Derived.Shelf.Strings.Builder2
import Derived.Shelf.Strings.Repeat
namespace Go.Proofs.YtakoaadimhpclaaGreatDoor
open Go.RowKit
set_option linter.unusedVariables false
set_option linter.unusedSimpArgs false
set_option maxRecDepth 4000

theorem size_eq0 {s : ByteArray} (h : s.size = 0) : s = ⟨#[]⟩ := by
  apply tx_inj
  have h1 : (tx s).length = 0 := by rw [tx_length]; exact h
  rw [List.eq_nil_of_length_eq_zero h1]
  rfl

set_option maxHeartbeats 1000000 in
theorem lclone_any (s : ByteArray) (w : World) (hn : s.size ≤ 1048576) :
    Calls Tryz.prog 99 #[.string s] w fun e w' => e = .returned (.string s) ∧ Below w.heap.size w w' := by
  by_cases h0 : s.size = 0
  · obtain rfl := size_eq0 h0
    go_enter Tryz.func99, Tryz.ntmps99
    go_wp2
    go_ret
    exact ⟨rfl, Below.refl _ _⟩
  · have h0' : ¬ ((s.size : Int) = 0) := by omega
    obtain ⟨i0, hi0, hz0, hz1, hz2⟩ := info_parts info_u8
    have hco : Tryz.prog.cellsOf 5 = 1 := by simp [Program.cellsOf, hi0, hz1]
    have hrun := fun W => run_make (P := Tryz.prog) W 98 5 i0 (.int .u8 0) Tryz.underlying98 hi0 hz0 .i64 .i64 (s.size : Int) (s.size : Int) (by omega) (by omega) (by rw [hz2]; omega) (by omega)
    simp only [Int.toNat_natCast] at hrun
    have hcs : (madeCells (Value.int .u8 0).cells (s.size * i0.size)).size = s.size := by rw [size_madeCells, hz1, Nat.mul_one]
    generalize madeCells (Value.int .u8 0).cells (s.size * i0.size) = cur at *
    have hgw : (w.alloc (.cells cur 5)).heap[w.heap.size]? = some (.cells cur 5 (0, 0)) := by
      show (w.heap.push _)[w.heap.size]? = _
      simp
    have hbw : Below w.heap.size w (w.alloc (.cells cur 5)) := (Below.refl _ _).alloc (Nat.le_refl _) _
    have hcp := run_copy_text_of (P := Tryz.prog) (w.alloc (.cells cur 5)) 98 9 3 5 w.heap.size s.size s.size s cur 5 Tryz.underlying98 (by rw [hi0]; simp [hz1]) hgw hcs rfl
    have hgY := setRow_heap (w.alloc (.cells cur 5)) w.heap.size cur (s.data.map fun b => Value.int .u8 (b.toNat : Int)) 5 (0, 0) hgw
    have hY : (s.data.map fun b => Value.int .u8 (b.toNat : Int)).size = s.size := by rw [Array.size_map]; rfl
    have hl : s.data.toList.length = s.size := Array.length_toList
    have hb2 : Below w.heap.size w ((w.alloc (.cells cur 5)).setRow w.heap.size (s.data.map fun b => Value.int .u8 (b.toNat : Int))) := hbw.trans ⟨rfl, rfl, rfl, by simp, fun k hk => setRow_other _ _ k _ (by omega)⟩
    have hcl : ∀ (j : Nat) (x : UInt8), s.data.toList[j]? = some x → ((w.alloc (.cells cur 5)).setRow w.heap.size (s.data.map fun b => Value.int .u8 (b.toNat : Int))).cell? ((⟨w.heap.size, 0, none⟩ : Addr).add j) = some (.int .u8 x.toNat) := by
      intro j x hx
      have e : (⟨w.heap.size, 0, none⟩ : Addr).add j = ⟨w.heap.size, j, none⟩ := by unfold Addr.add; split <;> simp_all
      rw [e, cell_setRow_same _ _ j _ _ _ _ hgw]
      rw [Array.getElem?_toList] at hx
      simp [hx]
    have hUS := Lib.run_unsafeString_row (P := Tryz.prog) ((w.alloc (.cells cur 5)).setRow w.heap.size (s.data.map fun b => Value.int .u8 (b.toNat : Int))) 161 3 9 5 Tryz.underlying161 hco w.heap.size s.size (by unfold World.shape?; rw [hgY]; exact congrArg (fun n => some (5, n)) hY) s.data.toList
      (fun e => h0 (by rw [← hl, e]; rfl)) (by rw [hl]; omega) (by rw [hl]; omega) hcl
    rw [hl] at hUS
    have e2 : (⟨s.data.toList.toArray⟩ : ByteArray) = s := by cases s; simp
    rw [e2] at hUS
    generalize (w.alloc (.cells cur 5)).setRow w.heap.size (s.data.map fun b => Value.int .u8 (b.toNat : Int)) = w1 at *
    have HB := hide (Lib.below_freeze hb2 (p := ⟨w.heap.size, 0, none⟩) (Nat.le_refl _) s.size)
    clear hcl hb2 hY hgY hbw hgw hcs hl e2 hco
    go_enter Tryz.func99, Tryz.ntmps99
    go_wp2
    go_ret
    exact ⟨rfl, unhide HB⟩

theorem sclone_any (s : ByteArray) (w : World) (hn : s.size ≤ 1048576) :
    Calls Tryz.prog 88 #[.string s] w fun e w' => e = .returned (.string s) ∧ Below w.heap.size w w' := by
  go_enter Tryz.func88, Tryz.ntmps88
  go_wp2_with fail
  refine (lclone_any s w hn).mono ?_
  rintro e w1 ⟨rfl, hb⟩
  have HB := hide hb
  clear hb
  go_wp2
  go_ret
  exact ⟨rfl, unhide HB⟩
end Go.Proofs.YtakoaadimhpclaaGreatDoor
namespace Go.Proofs.YtakoaadimhpclaaGreatDoor
open Go.RowKit Go.Shelf
set_option linter.unusedVariables false
set_option linter.unusedSimpArgs false
set_option maxRecDepth 4000

def bren : Ren := ⟨fun | 165 => 101 | 166 => 102 | 170 => 103 | 105 => 89 | 99 => 100 | 206 => 107 | 212 => 72 | 263 => 90 | 264 => 91 | 167 => 0 | 169 => 104 | 240 => 108 | 241 => 109 | 276 => 110 | 277 => 111 | n => n, fun | 0 => 0 | 3 => 3 | 4 => 4 | 5 => 5 | 9 => 9 | 20 => 20 | 37 => 98 | 70 => 148 | 72 => 150 | 75 => 153 | 80 => 156 | 46 => 101 | 51 => 114 | 53 => 53 | 76 => 154 | 109 => 122 | 146 => 137 | 148 => 139 | 127 => 161 | 164 => 162 | n => n, fun | n => n⟩
theorem blays105 : Lays.n105 Tryz.prog bren := {
  mixed := by kernel_rfl
  f99 := Tryz.func100.trans (congrArg some (by kernel_rfl))
  f105 := Tryz.func89.trans (congrArg some (by kernel_rfl))
  f165 := Tryz.func101.trans (congrArg some (by kernel_rfl))
  f166 := Tryz.func102.trans (congrArg some (by kernel_rfl))
  f169 := Tryz.func104.trans (congrArg some (by kernel_rfl))
  f170 := Tryz.func103.trans (congrArg some (by kernel_rfl))
  f206 := Tryz.func107.trans (congrArg some (by kernel_rfl))
  f212 := Tryz.func72.trans (congrArg some (by kernel_rfl))
  f240 := Tryz.func108.trans (congrArg some (by kernel_rfl))
  f241 := Tryz.func109.trans (congrArg some (by kernel_rfl))
  f263 := Tryz.func90.trans (congrArg some (by kernel_rfl))
  f264 := Tryz.func91.trans (congrArg some (by kernel_rfl))
  f276 := Tryz.func110.trans (congrArg some (by kernel_rfl))
  f277 := Tryz.func111.trans (congrArg some (by kernel_rfl))
  t0 := Tryz.underlying0
  a0 := Tryz.isAgg0
  z0 := Tryz.sizeOf0
  v0 := Tryz.zeroValue0
  t3 := Tryz.underlying3
  a3 := Tryz.isAgg3
  z3 := Tryz.sizeOf3
  v3 := Tryz.zeroValue3
  t4 := Tryz.underlying4
  a4 := Tryz.isAgg4
  z4 := Tryz.sizeOf4
  v4 := Tryz.zeroValue4
  t5 := Tryz.underlying5
  a5 := Tryz.isAgg5
  z5 := Tryz.sizeOf5
  v5 := Tryz.zeroValue5
  t9 := Tryz.underlying9
  a9 := Tryz.isAgg9
  z9 := Tryz.sizeOf9
  v9 := Tryz.zeroValue9
  t20 := Tryz.underlying20
  a20 := Tryz.isAgg20
  z20 := Tryz.sizeOf20
  v20 := Tryz.zeroValue20
  t37 := Tryz.underlying98
  a37 := Tryz.isAgg98
  z37 := Tryz.sizeOf98
  v37 := Tryz.zeroValue98
  t46 := Tryz.underlying101
  a46 := Tryz.isAgg101
  z46 := Tryz.sizeOf101
  v46 := Tryz.zeroValue101
  t51 := Tryz.underlying114
  a51 := Tryz.isAgg114
  z51 := Tryz.sizeOf114
  v51 := Tryz.zeroValue114
  t53 := Tryz.underlying53
  a53 := Tryz.isAgg53
  z53 := Tryz.sizeOf53
  v53 := Tryz.zeroValue53
  t70 := Tryz.underlying148
  a70 := Tryz.isAgg148
  z70 := Tryz.sizeOf148
  v70 := Tryz.zeroValue148
  t72 := Tryz.underlying150
  a72 := Tryz.isAgg150
  z72 := Tryz.sizeOf150
  v72 := Tryz.zeroValue150
  t75 := Tryz.underlying153
  a75 := Tryz.isAgg153
  z75 := Tryz.sizeOf153
  v75 := Tryz.zeroValue153
  t76 := Tryz.underlying154
  a76 := Tryz.isAgg154
  z76 := Tryz.sizeOf154
  v76 := Tryz.zeroValue154
  t109 := Tryz.underlying122
  a109 := Tryz.isAgg122
  z109 := Tryz.sizeOf122
  v109 := Tryz.zeroValue122
  t127 := Tryz.underlying161
  a127 := Tryz.isAgg161
  z127 := Tryz.sizeOf161
  v127 := Tryz.zeroValue161
  t146 := Tryz.underlying137
  a146 := Tryz.isAgg137
  z146 := Tryz.sizeOf137
  v146 := Tryz.zeroValue137
  t148 := Tryz.underlying139
  a148 := Tryz.isAgg139
  z148 := Tryz.sizeOf139
  v148 := Tryz.zeroValue139
  t164 := Tryz.underlying162
  a164 := Tryz.isAgg162
  z164 := Tryz.sizeOf162
  v164 := Tryz.zeroValue162 }
theorem bextra : Builder.Extra Tryz.prog bren := {
  sizeBuilder := by kernel_rfl
  liesBuilder := by kernel_rfl
  t5 := Tryz.underlying5
  a5 := Tryz.isAgg5
  z5 := Tryz.sizeOf5
  v5 := Tryz.zeroValue5
  infoByte := by kernel_rfl
  cellsByte := by kernel_rfl
  sizeByte := by kernel_rfl
  neB5 := by decide }

theorem repeatL_zeros (c : Nat) : (⟨(Lib.repeatL [0] c).toArray⟩ : ByteArray) = st (List.replicate c 0) := by
  have h := Lib.repeatL_replicate 0 1 c
  rw [Nat.mul_one] at h
  rw [show ([0] : List UInt8) = List.replicate 1 0 from rfl, h]
  unfold st
  rw [List.map_replicate]
  rfl
theorem repeat_zeros (c : Nat) (w : World) (hc : c ≤ 1048576) :
    Calls Tryz.prog 89 #[.string ⟨#[0]⟩, .int .i64 c] w fun e w' => e = .returned (.string (st (List.replicate c 0))) ∧ Below w.heap.size w w' :=
  (Any.strings_Repeat blays105 bextra ⟨#[0]⟩ c w (by omega) (by show 1 * c ≤ _; omega)).mono fun e w' k => by
    rw [← repeatL_zeros]
    exact k
end Go.Proofs.YtakoaadimhpclaaGreatDoor
