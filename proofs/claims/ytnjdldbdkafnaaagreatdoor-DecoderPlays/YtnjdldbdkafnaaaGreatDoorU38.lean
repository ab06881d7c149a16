/-
  Numbers and their bytes, the highest first, on plain lists. No condition.
  strings.Builder in this program: the shelf's contracts of Grow (of a new builder), WriteByte and String, laid at this program's own numbers. Conditions: a builder in a block of its own; at most 2^47 bytes.
  Contracts of split.lacking, split.Join, bucketlineref09.Join: for up to 2^20 texts, in sum of at most 2^30 bytes.
  Contracts of Decoder.admit for every packet, of the deferred closure of Decoder.Put, of Decoder.joined.
-/
import Derived.Test.YtnjdldbdkafnaaaGreatDoorU2
import Derived.Shelf.Strings.Builder2
import Derived.Test.YtnjdldbdkafnaaaGreatDoorU34
import Derived.Test.YtnjdldbdkafnaaaGreatDoorU4
import Derived.Deep.QuietTactic
import Derived.BigQuiet
import Derived.Test.YtnjdldbdkafnaaaGreatDoorU32
import Derived.WalkMore
import Derived.ScopeJumps
import Derived.Laws.AppendOwn
import Derived.Test.YtnjdldbdkafnaaaGreatDoorOE
import Derived.Defers
import Derived.Recover
namespace Go.Proofs.YtnjdldbdkafnaaaGreatDoor
open Go.RowKit
set_option linter.unusedVariables false
set_option linter.unusedSimpArgs false
set_option maxRecDepth 4000

theorem bytes_append {xs ys : List Nat} (hx : bytes xs) (hy : bytes ys) : bytes (xs ++ ys) := by
  intro x h
  rcases List.mem_append.1 h with h | h
  · exact hx x h
  · exact hy x h

end Go.Proofs.YtnjdldbdkafnaaaGreatDoor
namespace Go.Proofs.YtnjdldbdkafnaaaGreatDoor
open Go.RowKit Go.Shelf
set_option linter.unusedVariables false
set_option linter.unusedSimpArgs false
set_option maxRecDepth 4000

def bren : Ren := ⟨fun | 165 => 87 | 166 => 88 | 170 => 89 | 105 => 0 | 99 => 0 | 206 => 0 | 212 => 0 | 263 => 0 | 264 => 0 | 167 => 0 | 169 => 90 | 240 => 103 | 241 => 104 | 276 => 122 | 277 => 123 | n => n, fun | 0 => 0 | 3 => 3 | 4 => 4 | 5 => 5 | 9 => 9 | 20 => 20 | 37 => 74 | 70 => 117 | 72 => 119 | 75 => 122 | 80 => 43 | 46 => 89 | 51 => 165 | 53 => 53 | 76 => 123 | 109 => 0 | 146 => 0 | 148 => 0 | 127 => 104 | 164 => 147 | n => n, fun | n => n⟩
theorem blays165 : Lays.n165 Tryz.prog bren := {
  mixed := by kernel_rfl
  f165 := Tryz.func87.trans (congrArg some (by kernel_rfl))
  f240 := Tryz.func103.trans (congrArg some (by kernel_rfl))
  f241 := Tryz.func104.trans (congrArg some (by kernel_rfl))
  f276 := Tryz.func122.trans (congrArg some (by kernel_rfl))
  f277 := Tryz.func123.trans (congrArg some (by kernel_rfl))
  t0 := Tryz.underlying0
  a0 := Tryz.isAgg0
  z0 := Tryz.sizeOf0
  v0 := Tryz.zeroValue0
  t3 := Tryz.underlying3
  a3 := Tryz.isAgg3
  z3 := Tryz.sizeOf3
  v3 := Tryz.zeroValue3
  t4 := Tryz.underlying4
  a4 := Tryz.isAgg4
  z4 := Tryz.sizeOf4
  v4 := Tryz.zeroValue4
  t9 := Tryz.underlying9
  a9 := Tryz.isAgg9
  z9 := Tryz.sizeOf9
  v9 := Tryz.zeroValue9
  t20 := Tryz.underlying20
  a20 := Tryz.isAgg20
  z20 := Tryz.sizeOf20
  v20 := Tryz.zeroValue20
  t37 := Tryz.underlying74
  a37 := Tryz.isAgg74
  z37 := Tryz.sizeOf74
  v37 := Tryz.zeroValue74
  t70 := Tryz.underlying117
  a70 := Tryz.isAgg117
  z70 := Tryz.sizeOf117
  v70 := Tryz.zeroValue117
  t72 := Tryz.underlying119
  a72 := Tryz.isAgg119
  z72 := Tryz.sizeOf119
  v72 := Tryz.zeroValue119
  t164 := Tryz.underlying147
  a164 := Tryz.isAgg147
  z164 := Tryz.sizeOf147
  v164 := Tryz.zeroValue147 }
theorem blays169 : Lays.n169 Tryz.prog bren := {
  mixed := by kernel_rfl
  f169 := Tryz.func90.trans (congrArg some (by kernel_rfl))
  t0 := Tryz.underlying0
  a0 := Tryz.isAgg0
  z0 := Tryz.sizeOf0
  v0 := Tryz.zeroValue0
  t3 := Tryz.underlying3
  a3 := Tryz.isAgg3
  z3 := Tryz.sizeOf3
  v3 := Tryz.zeroValue3
  t9 := Tryz.underlying9
  a9 := Tryz.isAgg9
  z9 := Tryz.sizeOf9
  v9 := Tryz.zeroValue9
  t37 := Tryz.underlying74
  a37 := Tryz.isAgg74
  z37 := Tryz.sizeOf74
  v37 := Tryz.zeroValue74
  t70 := Tryz.underlying117
  a70 := Tryz.isAgg117
  z70 := Tryz.sizeOf117
  v70 := Tryz.zeroValue117
  t72 := Tryz.underlying119
  a72 := Tryz.isAgg119
  z72 := Tryz.sizeOf119
  v72 := Tryz.zeroValue119
  t127 := Tryz.underlying104
  a127 := Tryz.isAgg104
  z127 := Tryz.sizeOf104
  v127 := Tryz.zeroValue104 }
theorem blays166 : Lays.n166 Tryz.prog bren := {
  mixed := by kernel_rfl
  f166 := Tryz.func88.trans (congrArg some (by kernel_rfl))
  f240 := Tryz.func103.trans (congrArg some (by kernel_rfl))
  f276 := Tryz.func122.trans (congrArg some (by kernel_rfl))
  t0 := Tryz.underlying0
  a0 := Tryz.isAgg0
  z0 := Tryz.sizeOf0
  v0 := Tryz.zeroValue0
  t3 := Tryz.underlying3
  a3 := Tryz.isAgg3
  z3 := Tryz.sizeOf3
  v3 := Tryz.zeroValue3
  t4 := Tryz.underlying4
  a4 := Tryz.isAgg4
  z4 := Tryz.sizeOf4
  v4 := Tryz.zeroValue4
  t9 := Tryz.underlying9
  a9 := Tryz.isAgg9
  z9 := Tryz.sizeOf9
  v9 := Tryz.zeroValue9
  t20 := Tryz.underlying20
  a20 := Tryz.isAgg20
  z20 := Tryz.sizeOf20
  v20 := Tryz.zeroValue20
  t37 := Tryz.underlying74
  a37 := Tryz.isAgg74
  z37 := Tryz.sizeOf74
  v37 := Tryz.zeroValue74
  t70 := Tryz.underlying117
  a70 := Tryz.isAgg117
  z70 := Tryz.sizeOf117
  v70 := Tryz.zeroValue117
  t72 := Tryz.underlying119
  a72 := Tryz.isAgg119
  z72 := Tryz.sizeOf119
  v72 := Tryz.zeroValue119
  t75 := Tryz.underlying122
  a75 := Tryz.isAgg122
  z75 := Tryz.sizeOf122
  v75 := Tryz.zeroValue122
  t164 := Tryz.underlying147
  a164 := Tryz.isAgg147
  z164 := Tryz.sizeOf147
  v164 := Tryz.zeroValue147 }
theorem blays170 : Lays.n170 Tryz.prog bren := {
  mixed := by kernel_rfl
  f170 := Tryz.func89.trans (congrArg some (by kernel_rfl))
  t0 := Tryz.underlying0
  a0 := Tryz.isAgg0
  z0 := Tryz.sizeOf0
  v0 := Tryz.zeroValue0
  t3 := Tryz.underlying3
  a3 := Tryz.isAgg3
  z3 := Tryz.sizeOf3
  v3 := Tryz.zeroValue3
  t37 := Tryz.underlying74
  a37 := Tryz.isAgg74
  z37 := Tryz.sizeOf74
  v37 := Tryz.zeroValue74
  t70 := Tryz.underlying117
  a70 := Tryz.isAgg117
  z70 := Tryz.sizeOf117
  v70 := Tryz.zeroValue117
  t72 := Tryz.underlying119
  a72 := Tryz.isAgg119
  z72 := Tryz.sizeOf119
  v72 := Tryz.zeroValue119 }
theorem bextra : Builder.Extra Tryz.prog bren := {
  sizeBuilder := by kernel_rfl
  liesBuilder := by kernel_rfl
  t5 := Tryz.underlying5
  a5 := Tryz.isAgg5
  z5 := Tryz.sizeOf5
  v5 := Tryz.zeroValue5
  infoByte := by kernel_rfl
  cellsByte := by kernel_rfl
  sizeByte := by kernel_rfl
  neB5 := by decide }

/-- The cells of bytes. -/
def cellsB (xs : List Nat) : List Value := xs.map fun (x : Nat) => Value.int .u8 (x : Int)
theorem cellsB_length (xs : List Nat) : (cellsB xs).length = xs.length := by simp [cellsB]
theorem cellsB_bytes {xs : List Nat} (h : bytes xs) : Lib.byteCells (xs.map UInt8.ofNat) = cellsB xs := by
  unfold Lib.byteCells cellsB
  rw [List.map_map]
  apply List.map_congr_left
  intro x hx
  have := h x hx
  simp [Nat.mod_eq_of_lt this]
/-- A builder of one's own, in block b: its bytes are xs. -/
def Bld (w : World) (B b : Nat) (xs : List Nat) : Prop := bytes xs ∧ Lib.IsBuilder 119 5 B b (cellsB xs) w
theorem bgrow_new (B b n : Nat) (w : World) (hB : B ≤ b) (hbk : w.heap[b]? = some (.cells #[.pointer none, .slice none 0 0] 119 (0, 0))) (hBw : B ≤ w.heap.size) (hn : n ≤ 1073741824) :
    Calls Tryz.prog 87 #[.pointer (some ⟨b, 0, none⟩), .int .i64 n] w fun e w' => e = .returned (.tuple #[]) ∧ Bld w' B b [] ∧ Below B w w' :=
  (Any.Builder_Grow_fresh blays165 bextra B b n w hB hbk hBw (by omega)).mono fun e w' h => ⟨h.1, ⟨bytes_nil, .inr h.2.1⟩, h.2.2⟩
theorem bstr_any (B b : Nat) (xs : List Nat) (w : World) (h : Bld w B b xs) (hBw : B ≤ w.heap.size) :
    Calls Tryz.prog 90 #[.pointer (some ⟨b, 0, none⟩)] w fun e w' => e = .returned (.string (st xs)) ∧ Below B w w' :=
  (Any.Builder_String_any blays169 bextra B b (xs.map UInt8.ofNat) w (by rw [cellsB_bytes h.1]; exact h.2) hBw)
theorem strCells_tx (s : ByteArray) : Lib.strCells s = cellsB (tx s) := by
  unfold Lib.strCells cellsB tx
  rw [List.map_map]
  rfl
theorem cellsB_append (xs ys : List Nat) : cellsB xs ++ cellsB ys = cellsB (xs ++ ys) := by simp [cellsB]
theorem bwstr_any (B b : Nat) (xs : List Nat) (s : ByteArray) (w : World) (h : Bld w B b xs) (hl : xs.length + s.size ≤ 1073741824) (hBw : B ≤ w.heap.size) :
    Calls Tryz.prog 88 #[.pointer (some ⟨b, 0, none⟩), .string s] w fun e w' => e = .returned (.tuple #[.int .i64 s.size, .nilIface]) ∧ Bld w' B b (xs ++ tx s) ∧ Below B w w' :=
  (Any.Builder_WriteString blays166 bextra B b (cellsB xs) s w h.2 (by rw [cellsB_length]; omega) hBw).mono fun e w' k =>
    ⟨k.1, ⟨bytes_append h.1 (tx_bytes s), .inr (by have := k.2.1; rw [strCells_tx, cellsB_append] at this; exact this)⟩, k.2.2⟩
theorem blen_any (B b : Nat) (xs : List Nat) (w : World) (h : Bld w B b xs) :
    Calls Tryz.prog 89 #[.pointer (some ⟨b, 0, none⟩)] w fun e w' => e = .returned (.int .i64 xs.length) ∧ w' = w :=
  (Any.Builder_Len blays170 B b (cellsB xs) w h.2).mono fun e w' k => by rw [cellsB_length] at k; exact k
end Go.Proofs.YtnjdldbdkafnaaaGreatDoor
namespace Go.Proofs.YtnjdldbdkafnaaaGreatDoor
open Go.RowKit
set_option linter.unusedVariables false
set_option linter.unusedSimpArgs false
set_option maxRecDepth 4000

theorem heap_new (w : World) (o : Obj) : (w.alloc o).heap[w.heap.size]? = some o := by
  show (w.heap.push o)[w.heap.size]? = _
  simp
set_option maxHeartbeats 400000 in
theorem lacking_any (a : Option Addr) (l c : Nat) (ss : List ByteArray) (n : Nat) (w : World) (h : TextsAt w a l ss) (hl : l ≤ 1048576) (hn : n ≤ 9223372036854775807) :
    Calls Tryz.prog 86 #[.slice a l c, .int .i64 (n : Int)] w fun e w' => e = .returned (.int .i64 ((n - (joinL ss).length : Nat) : Int)) ∧ w' = w := by
  obtain rfl := h.1
  go_enter Tryz.func86, Tryz.ntmps86
  go_wp2
  go_loop [1, 9] (fun v i => ∃ k r : Nat, k ≤ ss.length ∧ i = .int .i64 k ∧ v = .int .i64 (r : Int) ∧ r ≤ n ∧ Hid (r = n - (joinL (ss.take k)).length)) (fun _ i => ss.length - (intOf i).toNat)
  case atStart => exact ⟨0, n, Nat.zero_le _, rfl, rfl, Nat.le_refl _, hide (by simp [joinL])⟩
  case round =>
    obtain ⟨k, r, hk, rfl, rfl, hr, HR⟩ := hrel
    by_cases hlt : k < ss.length
    · obtain ⟨b, off, rfl, hc⟩ := h.at hlt
      have hcell := hc k hlt
      have hj := joinL_take ss k hlt
      have hjl := congrArg List.length hj
      rw [List.length_append, tx_length] at hjl
      have HJ := hide hjl
      generalize ss.getD k ByteArray.empty = t at *
      have M := min_run t.size r
      obtain ⟨q, hq⟩ : ∃ q, min t.size r = q := ⟨_, rfl⟩
      rw [hq] at M
      have esub : (r : Int) - (q : Int) = ((r - q : Nat) : Int) := by omega
      have hqr : q ≤ r := by omega
      have hlt' : (k : Int) < (ss.length : Int) := by omega
      have HR2 := hide (show r - q = n - (joinL (ss.take (k + 1))).length by have := unhide HR; have := unhide HJ; omega)
      clear hc hj hjl hq h
      go_wp2
      go_round
      case rel => exact ⟨k + 1, r - q, by omega, by go_num, by first | rfl | rw [esub], by omega, HR2⟩
      case measure => simp [intOf]; omega
    · obtain rfl : k = ss.length := by omega
      rw [List.take_length] at HR
      clear h
      go_wp2
      go_ret
      exact ⟨ret_int (by rw [unhide HR]), rfl⟩

set_option maxHeartbeats 2000000 in
theorem join_yes (a : Option Addr) (l c : Nat) (ss : List ByteArray) (n : Nat) (w : World) (h : TextsAt w a l ss) (hl : l ≤ 1048576) (hn : n ≤ 1073741824) (hj : n ≤ (joinL ss).length) :
    Calls Tryz.prog 67 #[.slice a l c, .int .i64 (n : Int)] w fun e w' => e = .returned (.tuple #[.string (st ((joinL ss).take n)), .int .i64 0]) ∧ Below w.heap.size w w' := by
  obtain rfl := h.1
  have hlk := lacking_any a ss.length c ss n w h hl (by omega)
  rw [show n - (joinL ss).length = 0 by omega] at hlk
  have HL := hide hlk
  have HG := hide (bgrow_new w.heap.size w.heap.size n (w.alloc (.cells #[.pointer none, .slice none 0 0] 119)) (Nat.le_refl _) (heap_new w _) (by simp) hn)
  have hb0 : Below w.heap.size w (w.alloc (.cells #[.pointer none, .slice none 0 0] 119)) := (Below.refl _ _).alloc (Nat.le_refl _) _
  have hnn : (0 : Int) ≤ (n : Int) := by omega
  clear hlk
  go_enter Tryz.func67, Tryz.ntmps67
  go_wp2_with (first | (go_at_call 86; refine (unhide HL).mono ?_; rintro e w1 ⟨rfl, hw⟩; obtain rfl := hw.symm) | (go_at_call 87; refine (unhide HG).mono ?_; rintro e w1 ⟨rfl, hB1, hb1⟩))
  have HB0 := hide hB1
  have HBB := hide (hb0.trans hb1)
  clear hb0 hb1 hB1 HG HL
  go_loopw [21] (fun i wr => ∃ k : Nat, k ≤ ss.length ∧ i = .int .i64 k ∧ Hid (Bld wr w.heap.size w.heap.size ((joinL (ss.take k)).take n)) ∧ Hid (Below w.heap.size w wr)) (fun i _ => ss.length - (intOf i).toNat)
  case atStart => exact ⟨0, Nat.zero_le _, rfl, hide (by simpa [joinL] using unhide HB0), HBB⟩
  case round =>
    obtain ⟨k, hk, rfl, HO, HB⟩ := hrel
    clear HB0 HBB
    by_cases hlt : k < ss.length
    · obtain ⟨b, off, rfl, hc⟩ := (h.below (unhide HB)).at hlt
      have hcell := hc k hlt
      have HT := hide (joinL_take ss k hlt)
      generalize ss.getD k ByteArray.empty = t at *
      obtain ⟨P, hP⟩ : ∃ P, joinL (ss.take k) = P := ⟨_, rfl⟩
      rw [hP] at HO HT
      have hPl : (P.take n).length ≤ n := List.length_take_le _ _
      obtain ⟨q, hq⟩ : ∃ q, (P.take n).length = q := ⟨_, rfl⟩
      have HLn := hide (blen_any w.heap.size w.heap.size (P.take n) _ (unhide HO))
      rw [hq] at HLn hPl
      have esub : (n : Int) - (q : Int) = ((n - q : Nat) : Int) := by omega
      have M := min_run t.size (n - q)
      obtain ⟨r, hr⟩ : ∃ r, min t.size (n - q) = r := ⟨_, rfl⟩
      rw [hr] at M
      have hrt : r ≤ t.size := by omega
      have hx1 : (t.extract 0 r).size = r := by rw [ByteArray.size_extract]; omega
      have HW := hide (bwstr_any w.heap.size w.heap.size (P.take n) (t.extract 0 r) _ (unhide HO) (by rw [hq, hx1]; omega) (unhide HB).size)
      have HE := hide (show P.take n ++ tx (t.extract 0 r) = (joinL (ss.take (k + 1))).take n by
        rw [unhide HT, List.take_append, tx_cut, List.drop_zero, Nat.sub_zero]
        congr 1
        rw [List.length_take] at hq
        by_cases hc : n ≤ P.length
        · rw [show r = 0 by omega, show n - P.length = 0 by omega]
        · by_cases hc2 : t.size ≤ n - P.length
          · rw [List.take_of_length_le (by rw [tx_length]; omega), List.take_of_length_le (by rw [tx_length]; omega)]
          · rw [show r = n - P.length by omega])
      have hlt' : (k : Int) < (ss.length : Int) := by omega
      clear hc hP hq hr hx1 HT
      go_wp2_with (first | (go_at_call 89; refine (unhide HLn).mono ?_; rintro e w1 ⟨rfl, hw⟩; obtain rfl := hw.symm) | (go_at_call 88; refine (unhide HW).mono ?_; rintro e w2 ⟨rfl, hB2, hb2⟩))
      rw [unhide HE] at hB2
      have HB2 := hide hB2
      have HBB2 := hide ((unhide HB).trans hb2)
      clear hB2 hb2 HO HB
      go_wp2
      go_roundw
      case rel => exact ⟨k + 1, by omega, by go_num, HB2, HBB2⟩
      case measure => simp [intOf]; omega
    · obtain rfl : k = ss.length := by omega
      rw [List.take_length] at HO
      have HS := hide (bstr_any w.heap.size w.heap.size _ _ (unhide HO) (unhide HB).size)
      clear h HO
      go_wp2_with (go_at_call 90; refine (unhide HS).mono ?_; rintro e w1 ⟨rfl, hb1⟩)
      go_ret2
      exact ⟨rfl, (unhide HB).trans hb1⟩

theorem rjoin_part (ss : List ByteArray) (n : Nat) (t : ByteArray) (h : t = st (joinL ss)) (hn : n ≤ (joinL ss).length) : t.extract 0 n = st ((joinL ss).take n) := by
  apply tx_inj
  rw [tx_cut, h, tx_st (joinL_bytes ss), tx_st (bytes_take (joinL_bytes ss) n)]
  simp

set_option maxHeartbeats 1000000 in
theorem rjoin_any (a : Option Addr) (l c : Nat) (ss : List ByteArray) (n : Int) (w : World) (h : TextsAt w a l ss) (hl : l ≤ 1048576) (hj : (joinL ss).length ≤ 1073741824) :
    Calls Tryz.prog 25 #[.slice a l c, .int .i64 n] w fun e w' => e = .returned (if n < 0 ∨ ((joinL ss).length : Int) < n then .tuple #[.string ⟨#[]⟩, .int .i64 1] else .tuple #[.string (st ((joinL ss).take n.toNat)), .int .i64 0]) ∧ w' = w := by
  obtain rfl := h.1
  obtain ⟨R, hR⟩ : ∃ R, (if n < 0 ∨ ((joinL ss).length : Int) < n then Value.tuple #[.string ⟨#[]⟩, .int .i64 1] else .tuple #[.string (st ((joinL ss).take n.toNat)), .int .i64 0]) = R := ⟨_, rfl⟩
  have HR := hide hR
  rw [hR]
  clear hR
  go_enter Tryz.func25, Tryz.ntmps25
  go_wp2
  go_loop [6, 7] (fun v i => ∃ (k : Nat) (t : ByteArray), k ≤ ss.length ∧ i = .int .i64 k ∧ v = .string t ∧ Hid (t = st (joinL (ss.take k)))) (fun _ i => ss.length - (intOf i).toNat)
  case atStart => exact ⟨0, _, Nat.zero_le _, rfl, rfl, hide (by simp [joinL]; rfl)⟩
  case round =>
    obtain ⟨k, t, hk, rfl, rfl, HT⟩ := hrel
    by_cases hlt : k < ss.length
    · obtain ⟨b, off, rfl, hc⟩ := h.at hlt
      have hcell := hc k hlt
      have HJ := hide (joinL_take ss k hlt)
      have hle := joinL_le ss (k + 1)
      rw [unhide HJ, List.length_append, tx_length] at hle
      generalize ss.getD k ByteArray.empty = u at *
      have hts : t.size = (joinL (ss.take k)).length := by rw [unhide HT, st_len]
      have hadd : (9223372036854775807 < t.size + u.size) = False := by simp; omega
      have HT2 := hide (show t ++ u = st (joinL (ss.take (k + 1))) by
        apply tx_inj
        rw [tx_append, unhide HT, unhide HJ, tx_st (joinL_bytes _), tx_st (fun x hx => by
          rcases List.mem_append.1 hx with hx | hx
          · exact joinL_bytes _ x hx
          · exact tx_bytes u x hx)])
      have hlt' : (k : Int) < (ss.length : Int) := by omega
      clear hc h hts hle
      go_wp2
      go_round
      case rel => exact ⟨k + 1, _, by omega, by go_num, rfl, HT2⟩
      case measure => simp [intOf]; omega
    · obtain rfl : k = ss.length := by omega
      rw [List.take_length] at HT
      have hts : t.size = (joinL ss).length := by rw [unhide HT, st_len]
      clear h
      by_cases hb : n < 0 ∨ ((joinL ss).length : Int) < n
      · have HR2 := hide (unhide HR)
        rw [if_pos hb] at HR2
        by_cases h0 : n < 0
        · clear hb HR
          go_wp2
          go_ret2
          exact ⟨congrArg _ (unhide HR2), rfl⟩
        · have hb2 : (t.size : Int) < n := by omega
          clear hb HR hts
          go_wp2
          go_ret2
          exact ⟨congrArg _ (unhide HR2), rfl⟩
      · have HR2 := hide (unhide HR)
        rw [if_neg hb] at HR2
        obtain ⟨N, rfl⟩ : ∃ N : Nat, n = (N : Int) := ⟨n.toNat, by omega⟩
        have hle : N ≤ (joinL ss).length := by omega
        rw [Int.toNat_natCast] at HR2
        rw [← rjoin_part ss N t (unhide HT) hle] at HR2
        have h0 : (0 : Int) ≤ (N : Int) := by omega
        have h1 : (N : Int) ≤ (t.size : Int) := by omega
        clear hb HR hts hle
        go_wp2
        go_ret2
        exact ⟨congrArg _ (unhide HR2), rfl⟩
end Go.Proofs.YtnjdldbdkafnaaaGreatDoor
namespace Go.Proofs.YtnjdldbdkafnaaaGreatDoor
open Go.RowKit Go.Sort
set_option linter.unusedVariables false
set_option linter.unusedSimpArgs false
set_option maxRecDepth 4000

set_option maxHeartbeats 2000000 in
theorem admit_new (g B : Nat) (M : Int) (p : PKV) (w : World) (h : DcAt w g B M zDS g (.slice none 0 0) []) (hr : RowAt w p.r.a p.r.n p.r.xs) (hp : okB p = true) :
    Calls Tryz.prog 27 #[.pointer (some ⟨g, 0, none⟩), .agg #[.int .i64 p.o, .int .i64 p.l, .int .i64 p.k, .int .i64 p.z, .int .i64 p.h, .slice p.r.a p.r.n p.r.c, .string p.r.s]] w fun e w' =>
      e = .returned (.tuple #[]) ∧ ∃ gs, DcAt w' g B M (begS zDS p) gs (.slice none 0 0) [] ∧ Tu (fun j => j = g) w w' ∧ w.heap.size ≤ gs := by
  have hb0 := alloc_low w (.cells #[.int .i64 p.o, .int .i64 p.l, .int .i64 p.k, .int .i64 p.z, .int .i64 p.h, .slice p.r.a p.r.n p.r.c, .string p.r.s] 31)
  have hx := bkA_new 31 w [.int .i64 p.o, .int .i64 p.l, .int .i64 p.k, .int .i64 p.z, .int .i64 p.h, .slice p.r.a p.r.n p.r.c, .string p.r.s]
  have HC := hide (check_any p.o p.l p.k p.z p.h p.r.a p.r.n p.r.c p.r.xs p.r.s _ (hr.below hb0) 0 (ck_yes hp))
  have hgw := h.lt
  have hgne : w.heap.size ≠ g := by omega
  have HD := hide (h.below hb0)
  have hE : w.alloc (.cells [.int .i64 p.o, .int .i64 p.l, .int .i64 p.k, .int .i64 p.z, .int .i64 p.h, .slice p.r.a p.r.n p.r.c, .string p.r.s].toArray 31) = w.alloc (.cells #[.int .i64 p.o, .int .i64 p.l, .int .i64 p.k, .int .i64 p.z, .int .i64 p.h, .slice p.r.a p.r.n p.r.c, .string p.r.s] 31) := rfl
  rw [hE] at hx
  clear hE h hr
  generalize hW : w.alloc (.cells #[.int .i64 p.o, .int .i64 p.l, .int .i64 p.k, .int .i64 p.z, .int .i64 p.h, .slice p.r.a p.r.n p.r.c, .string p.r.s] 31) = W at *
  have HX := hide hx
  have HB0 := hide hb0
  have q0 := hx.at 0 rfl
  have q1 := hx.at 1 rfl
  have q2 := hx.at 2 rfl
  have q3 := hx.at 3 rfl
  have q4 := hx.at 4 rfl
  have q5 := hx.at 5 rfl
  have q6 := hx.at 6 rfl
  clear hx hb0
  go_enter Tryz.func27, Tryz.ntmps27
  go_wp2_with fail
  refine (unhide HC).mono ?_
  rintro e w1 ⟨rfl, hb1⟩
  have hd1 := (unhide HD).below hb1
  have hx1 := (unhide HX).below hb1
  have HB1 := hide (below0 (unhide HB0) hb1)
  have d5 : w1.cell? ⟨g, 5, none⟩ = some (.pointer none) := hd1.blk.at 5 rfl
  have HBG := hide (dbegin_any g B M p w1 hd1 hp)
  have HX1 := hide hx1
  clear hb1 HC HB0 HX HD q0 q1 q2 q3 q4 q5 q6 hd1
  have q0 := hx1.at 0 rfl
  have q1 := hx1.at 1 rfl
  have q2 := hx1.at 2 rfl
  have q3 := hx1.at 3 rfl
  have q4 := hx1.at 4 rfl
  have q5 := hx1.at 5 rfl
  have q6 := hx1.at 6 rfl
  clear hx1
  have hgq : Tryz.prog.eqGuardType Tryz.prog.depth 55 = false := by kernel_rfl
  go_wp2_with (first | (go_at_call 45; refine (must_yes _ _).mono ?_; rintro e w2 ⟨rfl, hw⟩; obtain rfl := hw.symm; clear hw) | (go_at_call 47; refine (unhide HBG).mono ?_; rintro e w3 ⟨rfl, gs, hd3, ht3, hl3⟩))
  have hx3 := (unhide HX1).tu ht3 hgne
  have hk3 : BkA 58 w3 g [.int .i64 M, .int .i64 p.o, .int .i64 p.l, .int .i64 p.k, .int .i64 p.z, .pointer (some ⟨gs, 0, none⟩), .bool false, .string ⟨#[]⟩] := hd3.blk
  have HQ := hide (fun wx (hb : Below w3.heap.size w3 wx) => show _ ∧ _ from ⟨hk3.below hb, hx3.below hb⟩)
  have HT3 := hide (Tu.after (unhide HB1) ht3)
  have HD3 := hide hd3
  have HL3 := hide (Nat.le_trans (unhide HB1).size hl3)
  clear q0 q1 q2 q3 q4 q5 q6 d5 HBG HX1 HB1 ht3 hd3 hl3
  have q0 := hx3.at 0 rfl
  have q1 := hx3.at 1 rfl
  have q2 := hx3.at 2 rfl
  have q3 := hx3.at 3 rfl
  have q4 := hx3.at 4 rfl
  have q5 := hx3.at 5 rfl
  have q6 := hx3.at 6 rfl
  have d1 := hk3.at 1 rfl
  have d2 := hk3.at 2 rfl
  have d3 := hk3.at 3 rfl
  have d4 := hk3.at 4 rfl
  clear hx3 hk3
  have heq : ∀ W, (binOp .eql 55 (.agg #[.int .i64 p.o, .int .i64 p.l, .int .i64 p.k, .int .i64 p.z]) (.agg #[.int .i64 p.o, .int .i64 p.l, .int .i64 p.k, .int .i64 p.z])).run Tryz.prog W = .ok (.bool true) W := fun W => by
    rw [eq_obj]; simp
  go_region_held3 (fun w' => w'.cell? ⟨w.heap.size, 0, none⟩ = some (.int .i64 p.o) ∧ w'.cell? ⟨w.heap.size, 1, none⟩ = some (.int .i64 p.l) ∧ w'.cell? ⟨w.heap.size, 2, none⟩ = some (.int .i64 p.k) ∧ w'.cell? ⟨w.heap.size, 3, none⟩ = some (.int .i64 p.z) ∧ w'.cell? ⟨w.heap.size, 4, none⟩ = some (.int .i64 p.h) ∧ w'.cell? ⟨w.heap.size, 5, none⟩ = some (.slice p.r.a p.r.n p.r.c) ∧ w'.cell? ⟨w.heap.size, 6, none⟩ = some (.string p.r.s) ∧ w'.cell? ⟨g, 1, none⟩ = some (.int .i64 p.o) ∧ w'.cell? ⟨g, 2, none⟩ = some (.int .i64 p.l) ∧ w'.cell? ⟨g, 3, none⟩ = some (.int .i64 p.k) ∧ w'.cell? ⟨g, 4, none⟩ = some (.int .i64 p.z)) (go_keep) (first
    | (go_at_call 48; refine (obj_any p.o p.l p.k p.z p.h (.slice p.r.a p.r.n p.r.c) (.string p.r.s) _).mono ?_; rintro e w4 ⟨rfl, hb4⟩; have D4 := hide (show Below w3.heap.size w3 w4 from below0 (Below.refl _ _).drew hb4); obtain ⟨y1, y2⟩ := unhide HQ w4 (unhide D4); have r0 := y2.at 0 rfl; have r1 := y2.at 1 rfl; have r2 := y2.at 2 rfl; have r3 := y2.at 3 rfl; have r4 := y2.at 4 rfl; have r5 := y2.at 5 rfl; have r6 := y2.at 6 rfl; have e1 := y1.at 1 rfl; have e2 := y1.at 2 rfl; have e3 := y1.at 3 rfl; have e4 := y1.at 4 rfl; clear hb4 y1 y2)
    | (go_at_call 45; refine (must_yes _ _).mono ?_; rintro e w5 ⟨rfl, hw⟩; obtain rfl := hw.symm; clear hw)
    | fail)
  all_goals (try go_wp2)
  all_goals go_end0
  all_goals exact ⟨rfl, gs, (unhide HD3).below (unhide D4), (unhide HT3).then (unhide D4), unhide HL3⟩

theorem adm_split {s : DS} {p : PKV} (h : s.bg = true) : admB s p = (okB p && alikeB s p) := by
  unfold admB
  rw [h]; rfl
/-- A packet that may not be put: it is given up for, and nothing is written. -/
theorem admit_no (g B : Nat) (M : Int) (s : DS) (gs : Nat) (v : Value) (rs : List RV) (p : PKV) (w : World) (h : DcAt w g B M s gs v rs) (hr : RowAt w p.r.a p.r.n p.r.xs) (hp : admB s p = false) :
    Calls Tryz.prog 27 #[.pointer (some ⟨g, 0, none⟩), .agg #[.int .i64 p.o, .int .i64 p.l, .int .i64 p.k, .int .i64 p.z, .int .i64 p.h, .slice p.r.a p.r.n p.r.c, .string p.r.s]] w fun e w' => PanP e ∧ Below w.heap.size w w' := by
  cases ho : okB p
  · exact admit_bad g p w hr ho
  · cases hg : s.bg
    · unfold admB at hp
      rw [ho, hg] at hp
      cases hp
    · rw [adm_split hg, ho, Bool.true_and] at hp
      exact (admit_beg g B M s gs v rs p w h hg hr ho).mono fun e w' ⟨h1, h2⟩ => ⟨h1.2 hp, h2⟩
/-- A packet that may be put. -/
theorem admit_ok (g B : Nat) (M : Int) (s : DS) (gs : Nat) (v : Value) (rs : List RV) (p : PKV) (w : World) (h : DcAt w g B M s gs v rs) (hr : RowAt w p.r.a p.r.n p.r.xs) (hp : admB s p = true) :
    Calls Tryz.prog 27 #[.pointer (some ⟨g, 0, none⟩), .agg #[.int .i64 p.o, .int .i64 p.l, .int .i64 p.k, .int .i64 p.z, .int .i64 p.h, .slice p.r.a p.r.n p.r.c, .string p.r.s]] w fun e w' => e = .returned (.tuple #[]) ∧ ∃ gs' v' rs', DcAt w' g B M (begS s p) gs' v' rs' ∧ Tu (dcF g gs v) w w' ∧ Mv w gs v gs' v' := by
  have ho := (adm_fit hp).1
  cases hg : s.bg
  · obtain ⟨rfl, rfl, rfl⟩ := h.fresh hg
    obtain rfl : rs = [] := List.map_eq_nil_iff.1 h.co
    refine (admit_new gs B M p w h hr ho).mono ?_
    rintro e w' ⟨rfl, gs', h1, h2, h3⟩
    exact ⟨rfl, gs', _, _, h1, ⟨h2.os, h2.tape, h2.output, h2.size, fun k hk hn => h2.block k hk fun e => hn (.inl e)⟩, .inr h3, .inl rfl⟩
  · rw [adm_split hg, ho, Bool.true_and] at hp
    refine (admit_beg g B M s gs v rs p w h hg hr ho).mono ?_
    rintro e w' ⟨h1, h2⟩
    have e1 : begS s p = s := by unfold begS; rw [if_pos hg]
    rw [e1]
    exact ⟨h1.1 hp, gs, v, rs, h.below h2, Tu.of_below h2, Mv.refl _ _ _⟩

theorem catch_panicking (q : Addr) (x : Int) (u : TypeId) (pv : Value) (older : List PanicEntry) (w : World) (hc : w.cell? q = some (.int .i64 x)) (hz : w.frozen? q = false) :
    CallsD Tryz.prog 26 #[.pointer (some q)] (.panicking ({ v := .iface u pv, recovered := false } :: older)) w fun e u' w' =>
      e = .returned (.tuple #[]) ∧ u' = .panicking ({ v := .iface u pv, recovered := true } :: older) ∧ w' = w.setCell q (.int .i64 1) := by
  refine callsD_of_wpS Tryz.func26 rfl fun c₀ cs hu => ?_
  apply wpS_seq
  apply wpS_region
  simp [wpOpsS, go_sem, recoverD, hu, Tryz.ntmps26, Exit.thenS]
  refine wpS_cond (t := true) (by simp [Act.eval, Array.replicate]) ?_
  simp only [if_true]
  apply wpS_region
  simp [wpOpsS, go_sem, hc, hz, bodyPostS, results, Tryz.results26]
theorem catch_idle (q : Addr) (w : World) :
    CallsD Tryz.prog 26 #[.pointer (some q)] .returning w fun e u' w' => e = .returned (.tuple #[]) ∧ u' = .returning ∧ w' = w := by
  refine callsD_of_wpS Tryz.func26 rfl fun c₀ cs hu => ?_
  apply wpS_seq
  apply wpS_region
  simp [wpOpsS, go_sem, recoverD, hu, Tryz.ntmps26, Exit.thenS]
  refine wpS_cond (t := false) (by simp [Act.eval, Array.replicate]) ?_
  simp only [Bool.false_eq_true, if_false]
  refine wpS_of_wp (wp_skip ?_)
  cases c₀
  simp_all [bodyPostS, results, Tryz.results26]

/-- Decode of rows of full rank: all blocks, each of the rows' size. -/
theorem decode_full (K m : Nat) (a : Option Addr) (n c : Nat) (us : List RV) (w : World) (ht : Tab w) (hA : RowsAt w a n us) (hS : shortR us) (hn : n ≤ 300) (hK : 1 ≤ K ∧ K ≤ 128) (hm : m ≤ 64) (hv : ∀ x ∈ us.map core, fitB (K : Int) (m : Int) x = true) (hk : rankC (us.map core) = K) :
    Calls Tryz.prog 65 #[.int .i64 (K : Int), .slice a n c] w fun e w' => ∃ a1 m1 c1 ss, e = .returned (.tuple #[.slice a1 m1 c1, .bool true]) ∧ TextsAt w' a1 m1 ss ∧ m1 ≤ 1048576 ∧ (joinL ss).length = K * m ∧ (∀ l : Int, ObjP (K : Int) l (us.map core) (st ((joinL ss).take l.toNat))) ∧ Below w.heap.size w w' := by
  have hg := good_of hA hS
  have hl := len_of hA hS
  have hn2 : us.length ≤ 300 := by rw [hA.1]; exact hn
  obtain ⟨kn, bs, hP⟩ := peel_is (k := (K : Int)) hg
  have hvv : ∀ r ∈ us, validB (K : Int) r.xs = true ∧ r.s.size = m := fun r hr => by
    have := hv (core r) (List.mem_map.2 ⟨r, hr, rfl⟩)
    unfold fitB at this
    rw [Bool.and_eq_true, Bool.and_eq_true] at this
    have h2 := decide_eq_true_iff.1 this.2
    exact ⟨this.1.1, by have : (r.s.size : Int) = (m : Int) := h2; omega⟩
  have hz : 0 < sizeOfK (K : Int) := by
    unfold sizeOfK
    rw [if_neg (by omega)]
    omega
  obtain ⟨h1, h2, h3⟩ := full_told hP hg hl hn2 hz (fun r hr => (hvv r hr).1) (fun r hr => (hvv r hr).2) hk
  refine (decode_any (K : Int) a n c us kn bs hP w ht hA hS hn).mono ?_
  rintro e w' ⟨a1, m1, c1, rfl, ho, hb⟩
  rw [h1]
  obtain ⟨e1, e2⟩ := ho.at'
  rw [← e1] at e2
  exact ⟨a1, m1, c1, _, rfl, e2, by omega, by rw [joinL_same h3, h2], fun l => ⟨us, kn, bs, rfl, hP, rfl⟩, hb⟩

set_option maxHeartbeats 4000000 in
theorem joined_any (g gs B : Nat) (M : Int) (s : DS) (m : Nat) (v : Value) (rs : List RV) (ov : Bool) (w : World) (ht : ∀ wx, Below w.heap.size w wx → Tab wx) (hb : BkA 58 w g (decC M s (some ⟨gs, 0, none⟩))) (hs : StAt w gs B s.k s.z m v rs ov) (hI : DInv s) (hf : ∀ x ∈ rs.map core, fitB s.k s.z x = true) (hk : (rankC (rs.map core) : Int) = s.k) :
    Calls Tryz.prog 50 #[.pointer (some ⟨g, 0, none⟩)] w fun e w' => ∃ ob, e = .returned (.string ob) ∧ ObjP s.k s.l (rs.map core) ob ∧ Below w.heap.size w w' := by
  obtain ⟨⟨⟨k1, k2⟩, z1, z2⟩, l1, l2⟩ := hI.sh
  have hlz := hI.lz
  obtain ⟨K, hK⟩ : ∃ K : Nat, s.k = (K : Int) := ⟨s.k.toNat, by omega⟩
  obtain ⟨Z, hZ⟩ : ∃ Z : Nat, s.z = (Z : Int) := ⟨s.z.toNat, by omega⟩
  obtain ⟨N, hN⟩ : ∃ N : Nat, s.l = (N : Int) := ⟨s.l.toNat, by omega⟩
  rw [hK, hZ] at hf
  rw [hK] at hk
  have HOBJ := hide (show ∀ ob, ObjP (K : Int) (N : Int) (rs.map core) ob → ObjP s.k s.l (rs.map core) ob from fun ob h => by rw [hK, hN]; exact h)
  have hle : N ≤ K * Z := by rw [hK, hZ, hN] at l2; exact_mod_cast l2
  have hN2 : N ≤ 8192 := by omega
  have hsi := hs.rows.rows
  have hsr := hs.short
  have hll := hs.le
  have hlm := hs.most
  have HR := hide (fun wx (hb : Below w.heap.size w wx) => rows_any gs B s.k s.z m v rs ov wx (hs.below hb))
  have HD := hide (fun (a : Option Addr) (n c : Nat) (us : List RV) wx (hb : Below w.heap.size w wx) (hA : RowsAt wx a n us) (hS : shortR us) (he : us.map core = rs.map core) (hn : n ≤ 300) => decode_full K Z a n c us wx (ht wx hb) hA hS hn (by omega) (by omega) (by rw [he]; exact hf) (by rw [he]; omega))
  have HQ := hide (fun wx (hb' : Below w.heap.size w wx) => hb.below hb')
  have HSI := hide hsi
  have HSR := hide hsr
  have d2 := hb.at 2 rfl
  have d3 := hb.at 3 rfl
  have d5 := hb.at 5 rfl
  rw [hK] at d3
  rw [hN] at d2
  have HK := hide hK
  have HN := hide hN
  clear ht hb hs hI hf hk hK hZ hN l1 l2 k1 k2 z1 z2 hlz hsi hsr
  have hlen : rs.length ≤ 256 := Nat.le_trans hll hlm
  clear hll hlm
  go_enter Tryz.func50, Tryz.ntmps50
  go_wp2_with fail
  go_region_held3 (fun w' => w'.cell? ⟨g, 2, none⟩ = some (.int .i64 (N : Int)) ∧ w'.cell? ⟨g, 3, none⟩ = some (.int .i64 (K : Int)) ∧ w'.cell? ⟨g, 5, none⟩ = some (.pointer (some ⟨gs, 0, none⟩))) (go_keep) (first
    | (go_at_call 66; refine (unhide HR _ (Below.refl _ _).drew).mono ?_; rintro e w1 ⟨b1, c1, us, rfl, ho1, hr1, he1, hb1⟩; have D1 := hide (show Below w.heap.size w w1 from below0 (Below.refl _ _).drew hb1); have hat := OutP.at ho1 hr1 he1 (unhide HSI) (unhide HSR); have HDC := hide (unhide HD (some ⟨b1, 0, none⟩) rs.length c1 us w1 (unhide D1) hat.1 hat.2.2.1 he1 (by omega)); have HE1 := hide he1; have y1 := unhide HQ w1 (unhide D1); have e2 := y1.at 2 rfl; have e3 := y1.at 3 rfl; have e5 := y1.at 5 rfl; rw [unhide HK] at e3; rw [unhide HN] at e2; clear ho1 hr1 he1 hb1 hat y1)
    | (go_at_call 65; refine (unhide HDC).mono ?_; rintro e w2 ⟨a2, m2, c2, ss, rfl, ht2, hm2, hj2, ho2, hb2⟩; have D2 := hide (show Below w.heap.size w w2 from below0 (unhide D1) hb2); have HJ2 := hide (join_yes a2 m2 c2 ss N w2 ht2 hm2 (by omega) (by rw [hj2]; exact hle)); have HO2 := hide (show ObjP (K : Int) (N : Int) (rs.map core) (st ((joinL ss).take N)) from by have := ho2 (N : Int); rw [unhide HE1, Int.toNat_natCast] at this; exact this); have y2 := unhide HQ w2 (unhide D2); have e2 := y2.at 2 rfl; have e3 := y2.at 3 rfl; have e5 := y2.at 5 rfl; rw [unhide HK] at e3; rw [unhide HN] at e2; clear ht2 hm2 hj2 ho2 hb2 y2)
    | fail)
  generalize st ((joinL ss).take N) = ob at *
  go_wp2_with (first
    | (go_at_call 45; refine (must_yes _ _).mono ?_; rintro e w5 ⟨rfl, hw⟩; obtain rfl := hw.symm; clear hw)
    | (go_at_call 67; refine (unhide HJ2).mono ?_; rintro e w3 ⟨rfl, hb3⟩; have D3 := hide (below0 (unhide D2) hb3); clear hb3))
  go_ret
  exact ⟨ob, rfl, unhide HOBJ ob (unhide HO2), unhide D3⟩
end Go.Proofs.YtnjdldbdkafnaaaGreatDoor
