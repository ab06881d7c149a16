/-
  Contracts of echelon.Add and of bucketlineref03.Reduce, Same, bucketlinelaw03.Few: for rows of at most 2^20 words.
-/
import Derived.Test.YtbfkhioljpgjjaaDoorEC
import Derived.Laws.MakeOwn
import Derived.Lib.QuietBelow
namespace Go.Proofs.YtbfkhioljpgjjaaDoor
open Go.RowKit
set_option linter.unusedVariables false
set_option maxRecDepth 4000

/-- The rows that were copied so far. -/
def filled (rs : List (List Nat)) (k : Nat) : List (List Nat) := rs.take k ++ List.replicate (rs.length - k) []
theorem filled_zero (rs : List (List Nat)) : filled rs 0 = List.replicate rs.length [] := by simp [filled]
theorem filled_all (rs : List (List Nat)) : filled rs rs.length = rs := by simp [filled]
theorem filled_length (rs : List (List Nat)) (k : Nat) (hk : k ≤ rs.length) : (filled rs k).length = rs.length := by simp [filled]; omega
theorem filled_succ (rs : List (List Nat)) (k : Nat) (hk : k < rs.length) : (filled rs k).set k (rs.getD k []) = filled rs (k + 1) := by
  unfold filled
  have hl : (rs.take k).length = k := by simp; omega
  rw [List.set_append_right _ _ (by omega), hl, Nat.sub_self, List.take_succ_eq_append_getElem hk, List.append_assoc, show rs.length - k = (rs.length - (k + 1)) + 1 by omega, List.replicate_succ, List.set_cons_zero]
  simp [List.getD_eq_getElem?_getD, List.getElem?_eq_getElem hk]
theorem made_own (w : World) (n : Nat) (hn : n ≤ 1048576) (rs : List (List Nat)) (hrs : rs = List.replicate n []) :
    OwnV (w.alloc (.cells (madeCells #[.slice none 0 0] n) 34)) w.heap.size (.slice (some ⟨w.heap.size, 0, none⟩) n n) (List.replicate n (.slice none 0 0)) rs := by
  subst hrs
  refine ⟨⟨by simp, .inr ⟨w.heap.size, n, madeCells #[.slice none 0 0] n, by simp, Nat.le_refl _, heap_alloc_new w _, by simp, by unfold maxLen; omega, by simp [size_madeCells], ?_⟩⟩, fun i u hu => ?_, ?_⟩
  · rw [toList_madeCells_one, List.take_of_length_le (by simp)]
  · rw [List.getElem?_replicate] at hu
    split at hu
    · rename_i hi
      obtain rfl := Option.some.inj hu
      rw [List.getD_eq_getElem?_getD, List.getElem?_replicate, if_pos hi]
      exact Own.nil _ _
    · cases hu
  · refine List.pairwise_replicate.2 (.inr (.inl rfl))
set_option maxHeartbeats 2000000 in
theorem rreduce_any (a : Option Addr) (n c : Nat) (rs : List (List Nat)) (a' : Option Addr) (m c' : Nat) (xs : List Nat) (w : World) (h : VecsAt w a n rs) (hf : Fit 1048576 rs) (h' : RowAt w a' m xs) (hn : n ≤ 1048576) (hm : m ≤ 1048576) :
    Calls Tryd.prog 52 #[.slice a n c, .slice a' m c'] w fun e w' => ∃ v, e = .returned v ∧ Own w' w.heap.size v (reduceL rs xs) ∧ Below w.heap.size w w' := by
  obtain rfl : m = xs.length := h'.1.symm
  have hxs := h'.2.1
  go_enter Tryd.func52, Tryd.ntmps52
  go_wp2_with (first | (at_builtin; refine wpList_append_nil rfl _ _ rfl a' xs.length c' xs rfl rfl h' hm ?_; intro v w1 ho hb; obtain ⟨a1, c1, rfl, _⟩ := ho.row))
  go_loopw [5, 6] (fun r i wr => ∃ k : Nat, k ≤ n ∧ i = .int .i64 k ∧ ∃ a1 c1, r = .slice a1 (reduceL (rs.take k) xs).length c1 ∧ Hid (Own wr w.heap.size (.slice a1 (reduceL (rs.take k) xs).length c1) (reduceL (rs.take k) xs)) ∧ Hid (Below w.heap.size w wr)) (fun _ i _ => n - (intOf i).toNat)
  case atStart => exact ⟨0, Nat.zero_le _, rfl, a1, c1, rfl, hide ho, hide hb⟩
  case round =>
    obtain ⟨k, hk, rfl, a2, c2, rfl, HO, HB⟩ := hrel
    clear ho hb
    by_cases hlt : k < n
    · have hB := unhide HB
      obtain ⟨b, off, rfl, hc⟩ := (h.below hB).at hlt
      obtain ⟨ai, ci, hcell, hrow⟩ := hc k hlt
      have hlk := (hf.getD k).2
      have hrs := reduce_small (hf.take k) hxs hm
      have HE := hide (reduce_take (v := xs) (show k < rs.length by rw [h.1]; exact hlt))
      have hfl := firstI_le hrow.2.1
      have HF := hide (rfirst_any ai (rs.getD k []).length ci (rs.getD k []) wr hrow hlk)
      obtain ⟨_, _, e2, hr2⟩ := (unhide HO).row
      simp only [Value.slice.injEq, true_and] at e2
      obtain ⟨rfl, rfl⟩ := e2
      have hG := rget_any a2 _ c2 (reduceL (rs.take k) xs) (firstI (rs.getD k [])) wr hr2 hrs.2 (by omega)
      have HX := hide (rxor_any a2 _ c2 (reduceL (rs.take k) xs) ai _ ci (rs.getD k []) wr hr2 hrow hrs.2 hlk)
      have HS : Hid (stepL (reduceL (rs.take k) xs) (rs.getD k []) = if getI (reduceL (rs.take k) xs) (firstI (rs.getD k [])) = true then xorL (reduceL (rs.take k) xs) (rs.getD k []) else reduceL (rs.take k) xs) := rfl
      have HNEG := hide (getI_neg (reduceL (rs.take k) xs) (firstI (rs.getD k [])))
      clear hc hrow hr2 h h'
      generalize rs.getD k [] = y at *
      generalize reduceL (rs.take k) xs = r at *
      by_cases hpos : 0 ≤ firstI y
      · have hdp : decide (0 ≤ firstI y) = true := by simpa using hpos
        by_cases hget : getI r (firstI y) = true
        · have hst := unhide HS
          rw [if_pos hget] at hst
          rw [hget] at hG
          have HG := hide hG
          clear hG hget HS HNEG
          generalize firstI y = f at *
          go_wp2_with fail
          refine (unhide HF).mono ?_
          rintro e w' ⟨rfl, hw⟩
          obtain rfl := hw.symm
          go_wp2_with fail
          refine (unhide HG).mono ?_
          rintro e w' ⟨rfl, hw⟩
          obtain rfl := hw.symm
          go_wp2_with fail
          refine (unhide HX).mono ?_
          rintro e w3 ⟨v, rfl, ho3, hb3⟩
          obtain ⟨a3, c3, rfl, _⟩ := ho3.row
          rw [← hst, ← unhide HE]
          rw [← hst, ← unhide HE] at ho3
          have HO3 := hide (ho3.mono hB.size)
          have HB3 := hide (below0 hB hb3)
          clear ho3 hb3 HX HG HF hst HO HB hB
          go_wp2
          go_roundw
          case rel => exact ⟨k + 1, by omega, by go_num, a3, c3, rfl, HO3, HB3⟩
          case measure => simp [intOf]; omega
        · have hst := unhide HS
          rw [if_neg hget] at hst
          rw [show getI r (firstI y) = false by simpa using hget] at hG
          have HG := hide hG
          clear hG hget HS HNEG HX
          generalize firstI y = f at *
          go_wp2_with fail
          refine (unhide HF).mono ?_
          rintro e w' ⟨rfl, hw⟩
          obtain rfl := hw.symm
          go_wp2_with fail
          refine (unhide HG).mono ?_
          rintro e w' ⟨rfl, hw⟩
          obtain rfl := hw.symm
          rw [← hst, ← unhide HE]
          rw [← hst, ← unhide HE] at HO
          clear HG HF hst hB
          go_wp2
          go_roundw
          case rel => exact ⟨k + 1, by omega, by go_num, a2, c2, rfl, HO, HB⟩
          case measure => simp [intOf]; omega
      · have hdp : decide (0 ≤ firstI y) = false := by simpa using hpos
        have hst := unhide HS
        rw [unhide HNEG (by omega), if_neg (by decide)] at hst
        clear hG HS HNEG HX hpos
        generalize firstI y = f at *
        go_wp2_with fail
        refine (unhide HF).mono ?_
        rintro e w' ⟨rfl, hw⟩
        obtain rfl := hw.symm
        rw [← hst, ← unhide HE]
        rw [← hst, ← unhide HE] at HO
        clear HF hst hB
        go_wp2
        go_roundw
        case rel => exact ⟨k + 1, by omega, by go_num, a2, c2, rfl, HO, HB⟩
        case measure => simp [intOf]; omega
    · have hke : reduceL (rs.take k) xs = reduceL rs xs := reduce_all (by rw [h.1]; omega)
      rw [hke] at HO
      rw [hke]
      clear h hke h'
      go_wp2
      go_ret
      exact ⟨_, rfl, unhide HO, unhide HB⟩
end Go.Proofs.YtbfkhioljpgjjaaDoor
