/-
  Contract of bucketlinelaw01.awake: in every world that holds the table of math/bits it tells true.
-/
import Derived.Test.YtjpkbkihnkaidaaDoorUA
namespace Go.Proofs.YtjpkbkihnkaidaaDoor
open Go.RowKit
set_option linter.unusedVariables false

theorem row_new1 (w : World) (x : Nat) (hx : x < 18446744073709551616) : RowAt (w.alloc (.cells #[.int .u64 (x : Int)] 36)) (some ⟨w.heap.size, 0, none⟩) 1 [x] := by
  refine ⟨rfl, fun y hy => by rw [List.mem_singleton.1 hy]; exact hx, .inr ⟨w.heap.size, 0, rfl, fun i hi => ?_⟩⟩
  obtain rfl : i = 0 := by omega
  simp
theorem row_new2 (w : World) (x y : Nat) (hx : x < 18446744073709551616) (hy : y < 18446744073709551616) : RowAt (w.alloc (.cells #[.int .u64 (x : Int), .int .u64 (y : Int)] 36)) (some ⟨w.heap.size, 0, none⟩) 2 [x, y] := by
  refine ⟨rfl, fun z hz => ?_, .inr ⟨w.heap.size, 0, rfl, fun i hi => ?_⟩⟩
  · rcases List.mem_cons.1 hz with rfl | hz
    · exact hx
    · rw [List.mem_singleton.1 hz]; exact hy
  · match i, hi with
    | 0, _ => simp
    | 1, _ => simp
theorem row_alloc {w : World} {a : Option Addr} {n : Nat} {xs : List Nat} (h : RowAt w a n xs) (o : Obj) : RowAt (w.alloc o) a n xs := h.below ((Below.refl _ _).alloc (Nat.le_refl _) _)
theorem below1 {w wk w' : World} {o : Obj} (hB : Below w.heap.size w wk) (hb : Below (wk.alloc o).heap.size (wk.alloc o) w') : Below w.heap.size w w' :=
  (hB.alloc hB.size o).trans (hb.mono (by have := hB.size; simp; omega))
theorem below2 {w wk w' : World} {o o' : Obj} (hB : Below w.heap.size w wk) (hb : Below ((wk.alloc o).alloc o').heap.size ((wk.alloc o).alloc o') w') : Below w.heap.size w w' :=
  below1 (hB.alloc hB.size o) hb
theorem below0 {w wk w' : World} (hB : Below w.heap.size w wk) (hb : Below wk.heap.size wk w') : Below w.heap.size w w' := hB.trans (hb.mono hB.size)
theorem alloc_size (w : World) (o : Obj) : (w.alloc o).heap.size = w.heap.size + 1 := by simp
theorem validP_yes : ValidP 3 [7] := by
  refine ⟨by decide, by decide, fun i hi => ?_⟩
  by_cases h : 64 ≤ i
  · exact getB_out _ _ (by simpa using h)
  · have : ∀ j : Fin 64, 3 ≤ j.val → getB [7] j.val = false := by decide
    exact this ⟨i, by omega⟩ hi
theorem validP_no : ¬ ValidP 2 [7] := fun h => by
  have := h.2.2 2 (by decide)
  revert this
  decide

set_option maxHeartbeats 2000000 in
theorem awake_any (w : World) (ht : Tab w) :
    Calls Tryd.prog 16 #[] w fun e w' => e = .returned (.bool true) ∧ Below w.heap.size w w' := by
  have hs := size_any 65
  rw [show sizeOfK 65 = 2 from by decide] at hs
  have HS := hide hs
  clear hs
  go_enter Tryd.func16, Tryd.ntmps16
  go_wp2_with fail
  refine (unhide HS _).mono ?_
  rintro e w' ⟨rfl, hw⟩
  obtain rfl := hw.symm
  go_wp2_with fail
  have hr1 := row_alloc (row_new1 w 3 (by decide)) (.cells #[.int .u64 ((1 : Nat) : Int)] 36)
  have hr2 := row_new1 (w.alloc (.cells #[.int .u64 ((3 : Nat) : Int)] 36)) 1 (by decide)
  rw [alloc_size] at hr2
  refine (xor_any _ _ _ _ _ _ _ _ _ hr1 hr2 (by omega) (by omega)).mono ?_
  rintro e w1 ⟨v, rfl, ho, hb⟩
  rw [show xorL [3] [1] = [2] from by decide] at ho
  have hB1 := below2 (Below.refl _ w) hb
  obtain ⟨a1, c1, rfl, hr⟩ := ho.row
  clear hr1 hr2 hb ho
  go_wp2_with fail
  have hr1 := row_alloc hr (.cells #[.int .u64 ((2 : Nat) : Int)] 36)
  have hr2 := row_new1 w1 2 (by decide)
  refine (rwords_any _ _ _ _ _ _ _ _ _ hr1 hr2 (by simp) (by omega) rfl).mono ?_
  rintro e w2 ⟨rfl, hb⟩
  have hB2 := below1 hB1 hb
  clear hr hr1 hr2 hb hB1
  go_wp2_with fail
  have hr1 := row_new1 w2 12 (by decide)
  have ht2 := ht.below (hB2.alloc hB2.size (.cells #[.int .u64 ((12 : Nat) : Int)] 36))
  have hc := first_any _ _ 1 _ _ ht2 hr1 (by omega)
  rw [show firstI [12] = 2 from by decide] at hc
  refine hc.mono ?_
  rintro e w3 ⟨rfl, hw⟩
  have hB3 : Below w.heap.size w w3 := by rw [hw]; exact hB2.alloc hB2.size _
  clear hw hr1 ht2 hc hB2
  go_wp2_with fail
  have hc := count_any _ _ 2 _ _ (row_new2 w3 7 1 (by decide) (by decide)) (by omega)
  rw [show cnt [7, 1] = 4 from by decide] at hc
  refine hc.mono ?_
  rintro e w4 ⟨rfl, hw⟩
  have hB4 : Below w.heap.size w w4 := by rw [hw]; exact hB3.alloc hB3.size _
  clear hw hc hB3
  go_wp2_with fail
  refine (valid_any _ _ 1 _ 3 _ (row_new1 w4 7 (by decide))).mono ?_
  rintro e w5 ⟨⟨b5, rfl, hb5⟩, hb⟩
  obtain rfl : b5 = true := hb5.2 validP_yes
  have hB5 := below1 hB4 hb
  clear hb hb5 hB4
  go_wp2_with fail
  refine (valid_any _ _ 1 _ 2 _ (row_new1 w5 7 (by decide))).mono ?_
  rintro e w6 ⟨⟨b6, rfl, hb6⟩, hb⟩
  obtain rfl : b6 = false := by
    cases b6
    · rfl
    · exact absurd (hb6.1 rfl) validP_no
  have hB6 := below1 hB5 hb
  clear hb hb6 hB5
  go_wp2_with fail
  have hc := get_in _ _ 1 _ 2 _ (row_new1 w6 4 (by decide)) (by omega) (by omega) (by omega) (by omega)
  rw [show getB [4] (2 : Int).toNat = true from by decide] at hc
  refine hc.mono ?_
  rintro e w7 ⟨rfl, d, hw⟩
  have hB7 : Below w.heap.size w w7 := by rw [hw]; exact below_drewN (hB6.alloc hB6.size _) d
  clear hw hc hB6
  go_wp2_with fail
  have hr1 := row_alloc (row_new2 w7 1 0 (by decide) (by decide)) (.cells #[.int .u64 ((1 : Nat) : Int)] 36)
  have hr2 := row_new1 (w7.alloc (.cells #[.int .u64 ((1 : Nat) : Int), .int .u64 ((0 : Nat) : Int)] 36)) 1 (by decide)
  rw [alloc_size] at hr2
  have ht8 := ht.below ((hB7.alloc hB7.size (.cells #[.int .u64 ((1 : Nat) : Int), .int .u64 ((0 : Nat) : Int)] 36)).alloc (by have := hB7.size; simp; omega) (.cells #[.int .u64 ((1 : Nat) : Int)] 36))
  have hc := same_any _ _ 2 _ _ _ 1 _ _ ht8 hr1 hr2 (by omega) (by omega)
  rw [show decide (firstI (xorL [1, 0] [1]) < 0) = true from by decide] at hc
  refine hc.mono ?_
  rintro e w8 ⟨rfl, hb⟩
  have hB8 := below2 hB7 hb
  clear hr1 hr2 hb hB7 ht8 hc
  go_wp2_with fail
  refine (unit_any 65 64 w8 (by omega)).mono ?_
  rintro e w9 ⟨v, rfl, ho, hb⟩
  have hB9 := below0 hB8 hb
  rw [show unitL 65 64 = [0, 1] from by decide] at ho
  obtain ⟨a9, c9, rfl, hr⟩ := ho.row
  clear ho hb hB8
  go_wp2_with fail
  have hr1 := row_alloc hr (.cells #[.int .u64 ((0 : Nat) : Int), .int .u64 ((1 : Nat) : Int)] 36)
  have hr2 := row_new2 w9 0 1 (by decide) (by decide)
  refine (rwords_any _ _ _ _ _ _ _ _ _ hr1 hr2 (by simp) (by omega) rfl).mono ?_
  rintro e w10 ⟨rfl, hb⟩
  have HB := hide (below1 hB9 hb)
  clear hr hr1 hr2 hb hB9
  go_wp2
  go_ret
  exact ⟨rfl, unhide HB⟩
end Go.Proofs.YtjpkbkihnkaidaaDoor
