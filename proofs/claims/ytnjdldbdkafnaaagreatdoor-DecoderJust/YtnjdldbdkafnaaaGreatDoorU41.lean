/-
  Numbers and their bytes, the highest first, on plain lists. No condition.
  strings.Builder in this program: the shelf's contracts of Grow (of a new builder), WriteByte and String, laid at this program's own numbers. Conditions: a builder in a block of its own; at most 2^47 bytes.
  Contracts of split.lacking, split.Join, bucketlineref09.Join: for up to 2^20 texts, in sum of at most 2^30 bytes.
-/
import Derived.Test.YtnjdldbdkafnaaaGreatDoorU3
import Derived.Shelf.Strings.Builder2
import Derived.Test.YtnjdldbdkafnaaaGreatDoorU37
import Derived.Test.YtnjdldbdkafnaaaGreatDoorU5
import Derived.Deep.QuietTactic
import Derived.BigQuiet
import Derived.Test.YtnjdldbdkafnaaaGreatDoorU34
import Derived.WalkMore
import Derived.ScopeJumps
import Derived.Laws.AppendOwn
namespace Go.Proofs.YtnjdldbdkafnaaaGreatDoor
open Go.RowKit
set_option linter.unusedVariables false
set_option linter.unusedSimpArgs false
set_option maxRecDepth 4000

theorem bytes_append {xs ys : List Nat} (hx : bytes xs) (hy : bytes ys) : bytes (xs ++ ys) := by
  intro x h
  rcases List.mem_append.1 h with h | h
  · exact hx x h
  · exact hy x h

end Go.Proofs.YtnjdldbdkafnaaaGreatDoor
namespace Go.Proofs.YtnjdldbdkafnaaaGreatDoor
open Go.RowKit Go.Shelf
set_option linter.unusedVariables false
set_option linter.unusedSimpArgs false
set_option maxRecDepth 4000

def bren : Ren := ⟨fun | 165 => 87 | 166 => 88 | 170 => 89 | 105 => 0 | 99 => 0 | 206 => 0 | 212 => 0 | 263 => 0 | 264 => 0 | 167 => 0 | 169 => 90 | 240 => 103 | 241 => 104 | 276 => 122 | 277 => 123 | n => n, fun | 0 => 0 | 3 => 3 | 4 => 4 | 5 => 5 | 9 => 9 | 20 => 20 | 37 => 74 | 70 => 117 | 72 => 119 | 75 => 122 | 80 => 43 | 46 => 89 | 51 => 165 | 53 => 53 | 76 => 123 | 109 => 0 | 146 => 0 | 148 => 0 | 127 => 104 | 164 => 147 | n => n, fun | n => n⟩
theorem blays165 : Lays.n165 Tryz.prog bren := {
  mixed := by kernel_rfl
  f165 := Tryz.func87.trans (congrArg some (by kernel_rfl))
  f240 := Tryz.func103.trans (congrArg some (by kernel_rfl))
  f241 := Tryz.func104.trans (congrArg some (by kernel_rfl))
  f276 := Tryz.func122.trans (congrArg some (by kernel_rfl))
  f277 := Tryz.func123.trans (congrArg some (by kernel_rfl))
  t0 := Tryz.underlying0
  a0 := Tryz.isAgg0
  z0 := Tryz.sizeOf0
  v0 := Tryz.zeroValue0
  t3 := Tryz.underlying3
  a3 := Tryz.isAgg3
  z3 := Tryz.sizeOf3
  v3 := Tryz.zeroValue3
  t4 := Tryz.underlying4
  a4 := Tryz.isAgg4
  z4 := Tryz.sizeOf4
  v4 := Tryz.zeroValue4
  t9 := Tryz.underlying9
  a9 := Tryz.isAgg9
  z9 := Tryz.sizeOf9
  v9 := Tryz.zeroValue9
  t20 := Tryz.underlying20
  a20 := Tryz.isAgg20
  z20 := Tryz.sizeOf20
  v20 := Tryz.zeroValue20
  t37 := Tryz.underlying74
  a37 := Tryz.isAgg74
  z37 := Tryz.sizeOf74
  v37 := Tryz.zeroValue74
  t70 := Tryz.underlying117
  a70 := Tryz.isAgg117
  z70 := Tryz.sizeOf117
  v70 := Tryz.zeroValue117
  t72 := Tryz.underlying119
  a72 := Tryz.isAgg119
  z72 := Tryz.sizeOf119
  v72 := Tryz.zeroValue119
  t164 := Tryz.underlying147
  a164 := Tryz.isAgg147
  z164 := Tryz.sizeOf147
  v164 := Tryz.zeroValue147 }
theorem blays169 : Lays.n169 Tryz.prog bren := {
  mixed := by kernel_rfl
  f169 := Tryz.func90.trans (congrArg some (by kernel_rfl))
  t0 := Tryz.underlying0
  a0 := Tryz.isAgg0
  z0 := Tryz.sizeOf0
  v0 := Tryz.zeroValue0
  t3 := Tryz.underlying3
  a3 := Tryz.isAgg3
  z3 := Tryz.sizeOf3
  v3 := Tryz.zeroValue3
  t9 := Tryz.underlying9
  a9 := Tryz.isAgg9
  z9 := Tryz.sizeOf9
  v9 := Tryz.zeroValue9
  t37 := Tryz.underlying74
  a37 := Tryz.isAgg74
  z37 := Tryz.sizeOf74
  v37 := Tryz.zeroValue74
  t70 := Tryz.underlying117
  a70 := Tryz.isAgg117
  z70 := Tryz.sizeOf117
  v70 := Tryz.zeroValue117
  t72 := Tryz.underlying119
  a72 := Tryz.isAgg119
  z72 := Tryz.sizeOf119
  v72 := Tryz.zeroValue119
  t127 := Tryz.underlying104
  a127 := Tryz.isAgg104
  z127 := Tryz.sizeOf104
  v127 := Tryz.zeroValue104 }
theorem blays166 : Lays.n166 Tryz.prog bren := {
  mixed := by kernel_rfl
  f166 := Tryz.func88.trans (congrArg some (by kernel_rfl))
  f240 := Tryz.func103.trans (congrArg some (by kernel_rfl))
  f276 := Tryz.func122.trans (congrArg some (by kernel_rfl))
  t0 := Tryz.underlying0
  a0 := Tryz.isAgg0
  z0 := Tryz.sizeOf0
  v0 := Tryz.zeroValue0
  t3 := Tryz.underlying3
  a3 := Tryz.isAgg3
  z3 := Tryz.sizeOf3
  v3 := Tryz.zeroValue3
  t4 := Tryz.underlying4
  a4 := Tryz.isAgg4
  z4 := Tryz.sizeOf4
  v4 := Tryz.zeroValue4
  t9 := Tryz.underlying9
  a9 := Tryz.isAgg9
  z9 := Tryz.sizeOf9
  v9 := Tryz.zeroValue9
  t20 := Tryz.underlying20
  a20 := Tryz.isAgg20
  z20 := Tryz.sizeOf20
  v20 := Tryz.zeroValue20
  t37 := Tryz.underlying74
  a37 := Tryz.isAgg74
  z37 := Tryz.sizeOf74
  v37 := Tryz.zeroValue74
  t70 := Tryz.underlying117
  a70 := Tryz.isAgg117
  z70 := Tryz.sizeOf117
  v70 := Tryz.zeroValue117
  t72 := Tryz.underlying119
  a72 := Tryz.isAgg119
  z72 := Tryz.sizeOf119
  v72 := Tryz.zeroValue119
  t75 := Tryz.underlying122
  a75 := Tryz.isAgg122
  z75 := Tryz.sizeOf122
  v75 := Tryz.zeroValue122
  t164 := Tryz.underlying147
  a164 := Tryz.isAgg147
  z164 := Tryz.sizeOf147
  v164 := Tryz.zeroValue147 }
theorem blays170 : Lays.n170 Tryz.prog bren := {
  mixed := by kernel_rfl
  f170 := Tryz.func89.trans (congrArg some (by kernel_rfl))
  t0 := Tryz.underlying0
  a0 := Tryz.isAgg0
  z0 := Tryz.sizeOf0
  v0 := Tryz.zeroValue0
  t3 := Tryz.underlying3
  a3 := Tryz.isAgg3
  z3 := Tryz.sizeOf3
  v3 := Tryz.zeroValue3
  t37 := Tryz.underlying74
  a37 := Tryz.isAgg74
  z37 := Tryz.sizeOf74
  v37 := Tryz.zeroValue74
  t70 := Tryz.underlying117
  a70 := Tryz.isAgg117
  z70 := Tryz.sizeOf117
  v70 := Tryz.zeroValue117
  t72 := Tryz.underlying119
  a72 := Tryz.isAgg119
  z72 := Tryz.sizeOf119
  v72 := Tryz.zeroValue119 }
theorem bextra : Builder.Extra Tryz.prog bren := {
  sizeBuilder := by kernel_rfl
  liesBuilder := by kernel_rfl
  t5 := Tryz.underlying5
  a5 := Tryz.isAgg5
  z5 := Tryz.sizeOf5
  v5 := Tryz.zeroValue5
  infoByte := by kernel_rfl
  cellsByte := by kernel_rfl
  sizeByte := by kernel_rfl
  neB5 := by decide }

/-- The cells of bytes. -/
def cellsB (xs : List Nat) : List Value := xs.map fun (x : Nat) => Value.int .u8 (x : Int)
theorem cellsB_length (xs : List Nat) : (cellsB xs).length = xs.length := by simp [cellsB]
theorem cellsB_bytes {xs : List Nat} (h : bytes xs) : Lib.byteCells (xs.map UInt8.ofNat) = cellsB xs := by
  unfold Lib.byteCells cellsB
  rw [List.map_map]
  apply List.map_congr_left
  intro x hx
  have := h x hx
  simp [Nat.mod_eq_of_lt this]
/-- A builder of one's own, in block b: its bytes are xs. -/
def Bld (w : World) (B b : Nat) (xs : List Nat) : Prop := bytes xs ∧ Lib.IsBuilder 119 5 B b (cellsB xs) w
theorem bgrow_new (B b n : Nat) (w : World) (hB : B ≤ b) (hbk : w.heap[b]? = some (.cells #[.pointer none, .slice none 0 0] 119 (0, 0))) (hBw : B ≤ w.heap.size) (hn : n ≤ 1073741824) :
    Calls Tryz.prog 87 #[.pointer (some ⟨b, 0, none⟩), .int .i64 n] w fun e w' => e = .returned (.tuple #[]) ∧ Bld w' B b [] ∧ Below B w w' :=
  (Any.Builder_Grow_fresh blays165 bextra B b n w hB hbk hBw (by omega)).mono fun e w' h => ⟨h.1, ⟨bytes_nil, .inr h.2.1⟩, h.2.2⟩
theorem bstr_any (B b : Nat) (xs : List Nat) (w : World) (h : Bld w B b xs) (hBw : B ≤ w.heap.size) :
    Calls Tryz.prog 90 #[.pointer (some ⟨b, 0, none⟩)] w fun e w' => e = .returned (.string (st xs)) ∧ Below B w w' :=
  (Any.Builder_String_any blays169 bextra B b (xs.map UInt8.ofNat) w (by rw [cellsB_bytes h.1]; exact h.2) hBw)
theorem strCells_tx (s : ByteArray) : Lib.strCells s = cellsB (tx s) := by
  unfold Lib.strCells cellsB tx
  rw [List.map_map]
  rfl
theorem cellsB_append (xs ys : List Nat) : cellsB xs ++ cellsB ys = cellsB (xs ++ ys) := by simp [cellsB]
theorem bwstr_any (B b : Nat) (xs : List Nat) (s : ByteArray) (w : World) (h : Bld w B b xs) (hl : xs.length + s.size ≤ 1073741824) (hBw : B ≤ w.heap.size) :
    Calls Tryz.prog 88 #[.pointer (some ⟨b, 0, none⟩), .string s] w fun e w' => e = .returned (.tuple #[.int .i64 s.size, .nilIface]) ∧ Bld w' B b (xs ++ tx s) ∧ Below B w w' :=
  (Any.Builder_WriteString blays166 bextra B b (cellsB xs) s w h.2 (by rw [cellsB_length]; omega) hBw).mono fun e w' k =>
    ⟨k.1, ⟨bytes_append h.1 (tx_bytes s), .inr (by have := k.2.1; rw [strCells_tx, cellsB_append] at this; exact this)⟩, k.2.2⟩
theorem blen_any (B b : Nat) (xs : List Nat) (w : World) (h : Bld w B b xs) :
    Calls Tryz.prog 89 #[.pointer (some ⟨b, 0, none⟩)] w fun e w' => e = .returned (.int .i64 xs.length) ∧ w' = w :=
  (Any.Builder_Len blays170 B b (cellsB xs) w h.2).mono fun e w' k => by rw [cellsB_length] at k; exact k
end Go.Proofs.YtnjdldbdkafnaaaGreatDoor
namespace Go.Proofs.YtnjdldbdkafnaaaGreatDoor
open Go.RowKit
set_option linter.unusedVariables false
set_option linter.unusedSimpArgs false
set_option maxRecDepth 4000

theorem heap_new (w : World) (o : Obj) : (w.alloc o).heap[w.heap.size]? = some o := by
  show (w.heap.push o)[w.heap.size]? = _
  simp
set_option maxHeartbeats 400000 in
theorem lacking_any (a : Option Addr) (l c : Nat) (ss : List ByteArray) (n : Nat) (w : World) (h : TextsAt w a l ss) (hl : l ≤ 1048576) (hn : n ≤ 9223372036854775807) :
    Calls Tryz.prog 86 #[.slice a l c, .int .i64 (n : Int)] w fun e w' => e = .returned (.int .i64 ((n - (joinL ss).length : Nat) : Int)) ∧ w' = w := by
  obtain rfl := h.1
  go_enter Tryz.func86, Tryz.ntmps86
  go_wp2
  go_loop [1, 9] (fun v i => ∃ k r : Nat, k ≤ ss.length ∧ i = .int .i64 k ∧ v = .int .i64 (r : Int) ∧ r ≤ n ∧ Hid (r = n - (joinL (ss.take k)).length)) (fun _ i => ss.length - (intOf i).toNat)
  case atStart => exact ⟨0, n, Nat.zero_le _, rfl, rfl, Nat.le_refl _, hide (by simp [joinL])⟩
  case round =>
    obtain ⟨k, r, hk, rfl, rfl, hr, HR⟩ := hrel
    by_cases hlt : k < ss.length
    · obtain ⟨b, off, rfl, hc⟩ := h.at hlt
      have hcell := hc k hlt
      have hj := joinL_take ss k hlt
      have hjl := congrArg List.length hj
      rw [List.length_append, tx_length] at hjl
      have HJ := hide hjl
      generalize ss.getD k ByteArray.empty = t at *
      have M := min_run t.size r
      obtain ⟨q, hq⟩ : ∃ q, min t.size r = q := ⟨_, rfl⟩
      rw [hq] at M
      have esub : (r : Int) - (q : Int) = ((r - q : Nat) : Int) := by omega
      have hqr : q ≤ r := by omega
      have hlt' : (k : Int) < (ss.length : Int) := by omega
      have HR2 := hide (show r - q = n - (joinL (ss.take (k + 1))).length by have := unhide HR; have := unhide HJ; omega)
      clear hc hj hjl hq h
      go_wp2
      go_round
      case rel => exact ⟨k + 1, r - q, by omega, by go_num, by first | rfl | rw [esub], by omega, HR2⟩
      case measure => simp [intOf]; omega
    · obtain rfl : k = ss.length := by omega
      rw [List.take_length] at HR
      clear h
      go_wp2
      go_ret
      exact ⟨ret_int (by rw [unhide HR]), rfl⟩

set_option maxHeartbeats 2000000 in
theorem join_yes (a : Option Addr) (l c : Nat) (ss : List ByteArray) (n : Nat) (w : World) (h : TextsAt w a l ss) (hl : l ≤ 1048576) (hn : n ≤ 1073741824) (hj : n ≤ (joinL ss).length) :
    Calls Tryz.prog 67 #[.slice a l c, .int .i64 (n : Int)] w fun e w' => e = .returned (.tuple #[.string (st ((joinL ss).take n)), .int .i64 0]) ∧ Below w.heap.size w w' := by
  obtain rfl := h.1
  have hlk := lacking_any a ss.length c ss n w h hl (by omega)
  rw [show n - (joinL ss).length = 0 by omega] at hlk
  have HL := hide hlk
  have HG := hide (bgrow_new w.heap.size w.heap.size n (w.alloc (.cells #[.pointer none, .slice none 0 0] 119)) (Nat.le_refl _) (heap_new w _) (by simp) hn)
  have hb0 : Below w.heap.size w (w.alloc (.cells #[.pointer none, .slice none 0 0] 119)) := (Below.refl _ _).alloc (Nat.le_refl _) _
  have hnn : (0 : Int) ≤ (n : Int) := by omega
  clear hlk
  go_enter Tryz.func67, Tryz.ntmps67
  go_wp2_with (first | (go_at_call 86; refine (unhide HL).mono ?_; rintro e w1 ⟨rfl, hw⟩; obtain rfl := hw.symm) | (go_at_call 87; refine (unhide HG).mono ?_; rintro e w1 ⟨rfl, hB1, hb1⟩))
  have HB0 := hide hB1
  have HBB := hide (hb0.trans hb1)
  clear hb0 hb1 hB1 HG HL
  go_loopw [21] (fun i wr => ∃ k : Nat, k ≤ ss.length ∧ i = .int .i64 k ∧ Hid (Bld wr w.heap.size w.heap.size ((joinL (ss.take k)).take n)) ∧ Hid (Below w.heap.size w wr)) (fun i _ => ss.length - (intOf i).toNat)
  case atStart => exact ⟨0, Nat.zero_le _, rfl, hide (by simpa [joinL] using unhide HB0), HBB⟩
  case round =>
    obtain ⟨k, hk, rfl, HO, HB⟩ := hrel
    clear HB0 HBB
    by_cases hlt : k < ss.length
    · obtain ⟨b, off, rfl, hc⟩ := (h.below (unhide HB)).at hlt
      have hcell := hc k hlt
      have HT := hide (joinL_take ss k hlt)
      generalize ss.getD k ByteArray.empty = t at *
      obtain ⟨P, hP⟩ : ∃ P, joinL (ss.take k) = P := ⟨_, rfl⟩
      rw [hP] at HO HT
      have hPl : (P.take n).length ≤ n := List.length_take_le _ _
      obtain ⟨q, hq⟩ : ∃ q, (P.take n).length = q := ⟨_, rfl⟩
      have HLn := hide (blen_any w.heap.size w.heap.size (P.take n) _ (unhide HO))
      rw [hq] at HLn hPl
      have esub : (n : Int) - (q : Int) = ((n - q : Nat) : Int) := by omega
      have M := min_run t.size (n - q)
      obtain ⟨r, hr⟩ : ∃ r, min t.size (n - q) = r := ⟨_, rfl⟩
      rw [hr] at M
      have hrt : r ≤ t.size := by omega
      have hx1 : (t.extract 0 r).size = r := by rw [ByteArray.size_extract]; omega
      have HW := hide (bwstr_any w.heap.size w.heap.size (P.take n) (t.extract 0 r) _ (unhide HO) (by rw [hq, hx1]; omega) (unhide HB).size)
      have HE := hide (show P.take n ++ tx (t.extract 0 r) = (joinL (ss.take (k + 1))).take n by
        rw [unhide HT, List.take_append, tx_cut, List.drop_zero, Nat.sub_zero]
        congr 1
        rw [List.length_take] at hq
        by_cases hc : n ≤ P.length
        · rw [show r = 0 by omega, show n - P.length = 0 by omega]
        · by_cases hc2 : t.size ≤ n - P.length
          · rw [List.take_of_length_le (by rw [tx_length]; omega), List.take_of_length_le (by rw [tx_length]; omega)]
          · rw [show r = n - P.length by omega])
      have hlt' : (k : Int) < (ss.length : Int) := by omega
      clear hc hP hq hr hx1 HT
      go_wp2_with (first | (go_at_call 89; refine (unhide HLn).mono ?_; rintro e w1 ⟨rfl, hw⟩; obtain rfl := hw.symm) | (go_at_call 88; refine (unhide HW).mono ?_; rintro e w2 ⟨rfl, hB2, hb2⟩))
      rw [unhide HE] at hB2
      have HB2 := hide hB2
      have HBB2 := hide ((unhide HB).trans hb2)
      clear hB2 hb2 HO HB
      go_wp2
      go_roundw
      case rel => exact ⟨k + 1, by omega, by go_num, HB2, HBB2⟩
      case measure => simp [intOf]; omega
    · obtain rfl : k = ss.length := by omega
      rw [List.take_length] at HO
      have HS := hide (bstr_any w.heap.size w.heap.size _ _ (unhide HO) (unhide HB).size)
      clear h HO
      go_wp2_with (go_at_call 90; refine (unhide HS).mono ?_; rintro e w1 ⟨rfl, hb1⟩)
      go_ret2
      exact ⟨rfl, (unhide HB).trans hb1⟩

end Go.Proofs.YtnjdldbdkafnaaaGreatDoor
