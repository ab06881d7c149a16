/-
  Contracts of span.cut, pick, chosen: for at most 100001 rows of at most 4000 words.
-/
import Derived.Test.YtobelbmcbgfdhaaDoorKB
namespace Go.Proofs.YtobelbmcbgfdhaaDoor
open Go.RowKit Go.Sort
set_option linter.unusedVariables false

theorem made_words (w : World) (n : Nat) (hn : n ≤ 1000000000) :
    Own (w.alloc (.cells (madeCells #[.int .u64 0] n) 37)) w.heap.size (.slice (some ⟨w.heap.size, 0, none⟩) n n) (zeros n) := by
  refine ⟨zeros_small n, ⟨by simp [cellsU, zeros], .inr ⟨w.heap.size, n, madeCells #[.int .u64 0] n, by simp [zeros], Nat.le_refl _, heap_alloc_new w _, by simp [zeros], by unfold maxLen; omega, by simp [size_madeCells], ?_⟩⟩⟩
  rw [toList_madeCells_one, List.take_of_length_le (by simp [zeros])]
  simp [cellsU, zeros]
theorem uslice_cut (P n c p s : Nat) (hp : s = 0 → p = 0) (hc : p + s ≤ c) (w : World) :
    (Instr.sliceAt 23 (.slice (some ⟨P, 0, none⟩) n c) (some (.int .i64 (p : Int))) (some (.int .i64 ((p + s : Nat) : Int))) (some (.int .i64 ((p + s : Nat) : Int)))).run Tryd.prog w = .ok (.slice (some ⟨P, p, none⟩) s s) w := by
  have hz : ∀ w : World, (sizeOf 37).run Tryd.prog w = .ok 1 w := fun w => by kernel_rfl
  rw [run_sliceAt_slice _ _ _ _ _ _ elem_u64s, run_slice_lhm _ _ _ _ _ elem_u64s _ _ _ _ _ _ (by omega) (by omega) (by omega) (by omega), elem_u64s', hz]
  simp only [Result.andThen, sliced, Int.toNat_natCast, Nat.mul_one, Nat.add_sub_cancel_left]
  by_cases h0 : s = 0
  · have := hp h0
    subst h0
    subst this
    simp
  · have e : ¬ p + s = p := by omega
    rw [if_neg e]
    have ha : (⟨P, 0, none⟩ : Addr).add p = ⟨P, p, none⟩ := by
      unfold Addr.add
      split
      · rename_i h; simp_all
      · simp
    simp [ha]
def cutCells (P s N k : Nat) : List Value := (List.range N).map fun i => if i < k then .slice (some ⟨P, i * s, none⟩) s s else .slice none 0 0
theorem cutCells_zero (P s N : Nat) : cutCells P s N 0 = List.replicate N (.slice none 0 0) := by
  apply List.ext_getElem
  · simp [cutCells]
  · intro i h1 h2; simp [cutCells]
theorem cutCells_get (P s N k i : Nat) (hi : i < N) : (cutCells P s N k)[i]? = some (if i < k then .slice (some ⟨P, i * s, none⟩) s s else .slice none 0 0) := by
  simp [cutCells, hi]
theorem cutCells_set (P s N k : Nat) (hk : k < N) : (cutCells P s N k).set k (.slice (some ⟨P, k * s, none⟩) s s) = cutCells P s N (k + 1) := by
  apply List.ext_getElem
  · simp [cutCells]
  · intro i h1 h2
    rw [List.getElem_set]
    by_cases e : k = i
    · subst e; simp [cutCells]
    · rw [if_neg e]
      simp only [cutCells, List.getElem_map, List.getElem_range]
      by_cases h3 : i < k
      · rw [if_pos h3, if_pos (by omega)]
      · rw [if_neg h3, if_neg (by omega)]

set_option maxHeartbeats 1000000 in
theorem cut_any (N s : Nat) (w : World) (hN : N ≤ 100001) (hs : s ≤ 4000) :
    Calls Tryd.prog 27 #[.int .i64 (N : Int), .int .i64 (s : Int)] w fun e w' => e = .returned (.slice (some ⟨w.heap.size + 1, 0, none⟩) N N) ∧ CutAt w' w.heap.size w.heap.size (w.heap.size + 1) s N (List.replicate N (zeros s)) ∧ Below w.heap.size w w' := by
  have hM : N * s ≤ 400004000 := Nat.le_trans (Nat.mul_le_mul hN hs) (by decide)
  obtain ⟨M, hMe⟩ : ∃ M, N * s = M := ⟨_, rfl⟩
  have hmul : wrap64 ((N : Int) * (s : Int)) = (M : Int) := by
    have h1 : ((N : Int) * (s : Int)) = ((N * s : Nat) : Int) := by simp
    rw [h1, hMe]
    unfold wrap64
    omega
  obtain ⟨i0, hi0, hz0, hzs, hzb⟩ := info_parts info_u64
  have hmk : ∀ wx : World, (Instr.makeSlice 23 (.int .i64 (M : Int)) (.int .i64 (M : Int))).run Tryd.prog wx = .ok (.slice (some ⟨wx.heap.size, 0, none⟩) M M) (wx.alloc (.cells (madeCells #[.int .u64 0] M) 37)) := fun wx => by
    have := run_make (P := Tryd.prog) wx 23 37 i0 (.int .u64 0) Tryd.underlying23 hi0 hz0 .i64 .i64 (M : Int) (M : Int) (by omega) (Int.le_refl _) (by rw [hzb]; omega) (by omega)
    rw [hzs] at this
    simpa [Value.cells] using this
  obtain ⟨i1, hi1, hy0, hys, hyb⟩ := info_parts info_u64s
  have hmk2 : ∀ wx : World, (Instr.makeSlice 22 (.int .i64 (N : Int)) (.int .i64 (N : Int))).run Tryd.prog wx = .ok (.slice (some ⟨wx.heap.size, 0, none⟩) N N) (wx.alloc (.cells (madeCells #[.slice none 0 0] N) 23)) := fun wx => by
    have := run_make (P := Tryd.prog) wx 22 23 i1 (.slice none 0 0) Tryd.underlying22 hi1 hy0 .i64 .i64 (N : Int) (N : Int) (by omega) (Int.le_refl _) (by rw [hyb]; omega) (by omega)
    rw [hys] at this
    simpa [Value.cells] using this
  clear hi0 hz0 hzs hzb hi1 hy0 hys hyb
  have hb1 : Below w.heap.size w (w.alloc (.cells (madeCells #[.int .u64 0] M) 37)) := (Below.refl _ _).alloc (Nat.le_refl _) _
  have hP := made_words w M (by omega)
  have hsz := alloc_size w (.cells (madeCells #[.int .u64 0] M) 37)
  have hR := made_own (w.alloc (.cells (madeCells #[.int .u64 0] M) 37)) N (by omega) _ rfl
  have hb2 : Below (w.alloc (.cells (madeCells #[.int .u64 0] M) 37)).heap.size (w.alloc (.cells (madeCells #[.int .u64 0] M) 37)) ((w.alloc (.cells (madeCells #[.int .u64 0] M) 37)).alloc (.cells (madeCells #[.slice none 0 0] N) 23)) := (Below.refl _ _).alloc (Nat.le_refl _) _
  have HP := hide (hP.below hb2)
  have hRt := hR.top
  rw [hsz, List.length_replicate, ← cutCells_zero w.heap.size s N] at hRt
  have HR := hide hRt
  have HB := hide (below0 hb1 hb2)
  clear hb1 hb2 hP hR hRt
  have HX : Hid (M = N * s) := hMe.symm
  clear hMe hM
  go_enter Tryd.func27, Tryd.ntmps27
  go_wp2
  go_loopw [17] (fun i wr => ∃ k : Nat, k ≤ N ∧ i = .int .i64 k ∧ Hid (Own wr w.heap.size (.slice (some ⟨w.heap.size, 0, none⟩) M M) (zeros M) ∧ wr.ownsRow (w.heap.size + 1) 23 1 (.slice (some ⟨w.heap.size + 1, 0, none⟩) N N) N (cutCells w.heap.size s N k) ∧ Below w.heap.size w wr)) (fun i _ => N - (intOf i).toNat)
  case atStart => exact ⟨0, Nat.zero_le _, rfl, hide ⟨unhide HP, unhide HR, unhide HB⟩⟩
  case round =>
    obtain ⟨k, hk, rfl, HS⟩ := hrel
    obtain ⟨hP, hR, hB⟩ := unhide HS
    by_cases hlt : k < N
    · obtain ⟨p, hp⟩ : ∃ p, k * s = p := ⟨_, rfl⟩
      obtain ⟨q, hq⟩ : ∃ q, p + s = q := ⟨_, rfl⟩
      have hle : k * s + s ≤ N * s := by
        have := Nat.mul_le_mul_right s hlt
        rw [Nat.succ_mul] at this
        exact this
      have hM2 : N * s ≤ 400004000 := Nat.le_trans (Nat.mul_le_mul hN hs) (by decide)
      have hm1 : wrap64 ((k : Int) * (s : Int)) = (p : Int) := by
        have h1 : ((k : Int) * (s : Int)) = ((k * s : Nat) : Int) := by simp
        rw [h1, hp]
        unfold wrap64
        omega
      have hm2 : wrap64 (((k : Int) + 1) * (s : Int)) = (q : Int) := by
        have h1 : (((k : Int) + 1) * (s : Int)) = ((k * s + s : Nat) : Int) := by rw [Int.add_mul, Int.one_mul]; simp
        rw [h1, hp, hq]
        unfold wrap64
        omega
      have hsl := uslice_cut w.heap.size M M p s (fun e => by rw [← hp, e, Nat.mul_zero]) (by have h := unhide HX; rw [h, ← hp]; exact hle)
      rw [hq] at hsl
      have hcell : wr.cell? ⟨w.heap.size + 1, k, none⟩ = some (.slice none 0 0) := by
        rw [hR.cellAt k (by omega), cutCells_get _ _ _ _ _ hlt, if_neg (by omega)]
      have hfz := hR.frozenAt k
      have hs2 := (hR.stored k (.slice (some ⟨w.heap.size, p, none⟩) s s)).1
      rw [← hp, cutCells_set _ _ _ _ hlt, hp] at hs2
      have hP2 := hP.kept (gb_setCell wr (w.heap.size + 1) k (.slice (some ⟨w.heap.size, p, none⟩) s s)) (.inr (by show (some w.heap.size : Option Nat) ≠ some (w.heap.size + 1); simp))
      have HN := hide (And.intro hP2 (And.intro hs2 (hB.setCell (p := ⟨w.heap.size + 1, k, none⟩) (Nat.le_succ _) (.slice (some ⟨w.heap.size, p, none⟩) s s))))
      clear hP hR hB hP2 hs2 HS HP HR HB hle hM2 hp hq HX
      generalize w.heap.size + 1 = R at *
      go_wp2
      go_roundw
      case rel => exact ⟨k + 1, by omega, by go_num, HN⟩
      case measure => simp [intOf]; omega
    · obtain rfl : k = N := by omega
      clear HP HR HB
      go_wp2
      go_ret
      refine ⟨rfl, ⟨zeros M, ⟨?_, by simp, fun i hi => ?_⟩, ?_, fun i hi => ?_, by omega⟩, hB⟩
      · rw [zeros_len]; exact unhide HX
      · have hg : (List.replicate k (zeros s)).getD i [] = zeros s := by rw [List.getD_eq_getElem?_getD, List.getElem?_replicate, if_pos hi]; rfl
        rw [hg]
        refine ⟨zeros_len s, fun j hj => ?_⟩
        have h1 := flat_lt hi hj
        have h2 := unhide HX
        unfold zeros
        rw [List.getD_eq_getElem?_getD, List.getD_eq_getElem?_getD, List.getElem?_replicate, List.getElem?_replicate, if_pos (by omega), if_pos hj]
      · rw [zeros_len]; exact hP
      · rw [hR.cellAt i (by omega), cutCells_get _ _ _ _ _ hi, if_pos hi]
end Go.Proofs.YtobelbmcbgfdhaaDoor
