/-
  The walks of the laws WordsSizes, WordsBits, WordsXors, WordsTwice: for every input, in every world that holds the table of math/bits, each tells true and writes nothing that was there.
-/
import Derived.Test.YtjpkbkihnkaidaaDoorAW
namespace Go.Proofs.YtjpkbkihnkaidaaDoor
open Go.RowKit
set_option linter.unusedVariables false

/-- Bit i of a row, for every int. -/
def getI (xs : List Nat) (i : Int) : Bool := if i < 0 then false else getB xs i.toNat
theorem getI_out {xs : List Nat} {i : Int} (h : ¬ (0 ≤ i ∧ i / 64 < (xs.length : Int))) : getI xs i = false := by
  unfold getI
  split
  · rfl
  · exact getB_out xs _ (by omega)
theorem getI_in {xs : List Nat} {i : Int} (h : 0 ≤ i) : getI xs i = getB xs i.toNat := by
  unfold getI
  rw [if_neg (by omega)]
theorem get_any (a : Option Addr) (n c : Nat) (xs : List Nat) (i : Int) (w : World) (h : RowAt w a n xs) (hn : n ≤ 1048576) (hi : i ≤ 9223372036854775807) :
    Calls Tryd.prog 17 #[.slice a n c, .int .i64 i] w fun e w' => e = .returned (.bool (getI xs i)) ∧ ∃ d, w' = w.drewN d := by
  by_cases hin : 0 ≤ i ∧ i / 64 < (xs.length : Int)
  · rw [getI_in hin.1]
    exact get_in a n c xs i w h hin.1 hi (by rw [← h.1]; exact hin.2) (by omega)
  · rw [getI_out hin]
    exact get_out a n c i w hi (by rw [← h.1]; omega)
theorem rget_any (a : Option Addr) (n c : Nat) (xs : List Nat) (i : Int) (w : World) (h : RowAt w a n xs) (hn : n ≤ 1048576) (hi : i ≤ 9223372036854775807) :
    Calls Tryd.prog 18 #[.slice a n c, .int .i64 i] w fun e w' => e = .returned (.bool (getI xs i)) ∧ w' = w := by
  by_cases hin : 0 ≤ i ∧ i / 64 < (xs.length : Int)
  · rw [getI_in hin.1]
    exact rget_in a n c xs i w h hin.1 hi (by rw [← h.1]; exact hin.2) (by omega)
  · rw [getI_out hin]
    exact rget_out a n c i w hi (by rw [← h.1]; omega)
theorem setI_length (xs : List Nat) (i : Int) (on : Bool) : (setI xs i on).length = xs.length := by
  unfold setI
  split
  · rfl
  · exact setB_length _ _ _
theorem unitL_length (k i : Int) : (unitL k i).length ≤ 2 := by
  unfold unitL
  split
  · simp
  · rw [setI_length, List.length_replicate]; exact sizeOfK_le k
theorem beq_int (q : Int) : (q == q) = true := by simp
theorem RetB.same {b b' : Bool} {P : Prop} (h : b = true ↔ P) (h' : b' = true ↔ P) : b' = b := by
  cases b <;> cases b' <;> simp_all

set_option maxHeartbeats 2000000 in
theorem sizes_walk (k i : Int) (a : Option Addr) (n c : Nat) (xs : List Nat) (w : World) (ht : Tab w) (h : RowAt w a n xs) (hi : i ≤ 9223372036854775807) :
    Calls Tryd.prog 3 #[.int .i64 k, .int .i64 i, .slice a n c] w fun e w' => e = .returned (.bool true) ∧ Below w.heap.size w w' := by
  have hq := beq_int ((sizeOfK k : Nat) : Int)
  go_enter Tryd.func3, Tryd.ntmps3
  go_wp2_with fail
  refine (size_any k _).mono ?_
  rintro e w' ⟨rfl, hw⟩
  obtain rfl := hw.symm
  go_wp2_with fail
  refine (rsize_any k _).mono ?_
  rintro e w' ⟨rfl, hw⟩
  obtain rfl := hw.symm
  go_wp2_with fail
  refine (valid_any a n c xs k _ h).mono ?_
  rintro e w1 ⟨⟨b1, rfl, hb1⟩, hB1⟩
  go_wp2_with fail
  refine (rvalid_any a n c xs k _ (h.below hB1)).mono ?_
  rintro e w' ⟨⟨b2, rfl, hb2⟩, hw⟩
  obtain rfl := hw.symm
  obtain rfl := RetB.same hb1 hb2
  clear hb1 hb2
  have hbb : (b2 == b2) = true := by simp
  go_wp2_with fail
  refine (unit_any k i _ hi).mono ?_
  rintro e w2 ⟨v, rfl, ho, hb⟩
  have hB2 := below0 hB1 hb
  clear hb hB1
  obtain ⟨a1, c1, rfl, hr⟩ := ho.row
  go_wp2_with fail
  refine (runit_any k i _ hi).mono ?_
  rintro e w3 ⟨v, rfl, ho', hb⟩
  have hr1 := hr.below hb
  have hB3 := below0 hB2 hb
  obtain ⟨a2, c2, rfl, hr2⟩ := ho'.row
  have hul := unitL_length k i
  clear hb hB2 ho ho' hr
  go_wp2_with fail
  refine (rwords_any _ _ _ _ _ _ _ _ _ hr1 hr2 (by omega) (by omega) rfl).mono ?_
  rintro e w4 ⟨rfl, hb⟩
  have hB4 := below0 hB3 hb
  clear hb hB3 hr1 hr2
  go_wp2_with fail
  refine (awake_any _ (ht.below hB4)).mono ?_
  rintro e w5 ⟨rfl, hb⟩
  have HB := hide (below0 hB4 hb)
  clear hb hB4
  go_wp2
  go_ret
  exact ⟨rfl, unhide HB⟩

set_option maxHeartbeats 2000000 in
theorem bits_walk (a : Option Addr) (n c : Nat) (xs : List Nat) (i : Int) (on : Bool) (w : World) (ht : Tab w) (h : RowAt w a n xs) (hi : i ≤ 9223372036854775807) :
    Calls Tryd.prog 4 #[.slice a n c, .int .i64 i, .bool on] w fun e w' => e = .returned (.bool true) ∧ Below w.heap.size w w' := by
  by_cases hn : 1000 < n
  · have hd : decide ((1000 : Int) < (n : Int)) = true := by simp; omega
    clear h
    go_enter Tryd.func4, Tryd.ntmps4
    go_wp2
    go_ret
    exact ⟨rfl, Below.refl _ _⟩
  · have hd : decide ((1000 : Int) < (n : Int)) = false := by simp; omega
    have hn2 : n ≤ 1048576 := by omega
    go_enter Tryd.func4, Tryd.ntmps4
    go_wp2_with fail
    refine (get_any a n c xs i _ h hn2 hi).mono ?_
    rintro e w1 ⟨rfl, d, hw⟩
    have hB1 : Below w.heap.size w w1 := by rw [hw]; exact below_drewN (Below.refl _ _) d
    clear hw
    go_wp2_with fail
    refine (rget_any a n c xs i _ (h.below hB1) hn2 hi).mono ?_
    rintro e w' ⟨rfl, hw⟩
    obtain rfl := hw.symm
    have hbb : (getI xs i == getI xs i) = true := by simp
    go_wp2_with fail
    refine (set_any a n c xs i on _ (h.below hB1) hn2 hi).mono ?_
    rintro e w2 ⟨v, rfl, ho, hb⟩
    have hB2 := below0 hB1 hb
    clear hb hB1
    obtain ⟨a1, c1, rfl, hr⟩ := ho.row
    go_wp2_with fail
    refine (rset_any a n c xs i on _ (h.below hB2) hn2 hi).mono ?_
    rintro e w3 ⟨v, rfl, ho', hb⟩
    have hr1 := hr.below hb
    have hB3 := below0 hB2 hb
    obtain ⟨a2, c2, rfl, hr2⟩ := ho'.row
    have hul := setI_length xs i on
    have hxl := h.1
    clear hb hB2 ho ho' hr
    have hsl : (setI xs i on).length ≤ 1048576 := by omega
    clear hul hxl
    go_wp2_with fail
    refine (rwords_any _ _ _ _ _ _ _ _ _ hr1 hr2 hsl hsl rfl).mono ?_
    rintro e w4 ⟨rfl, hb⟩
    have hB4 := below0 hB3 hb
    clear hb hB3 hr1 hr2
    go_wp2_with fail
    refine (awake_any _ (ht.below hB4)).mono ?_
    rintro e w5 ⟨rfl, hb⟩
    have HB := hide (below0 hB4 hb)
    clear hb hB4 h
    go_wp2
    go_ret
    exact ⟨rfl, unhide HB⟩
end Go.Proofs.YtjpkbkihnkaidaaDoor
