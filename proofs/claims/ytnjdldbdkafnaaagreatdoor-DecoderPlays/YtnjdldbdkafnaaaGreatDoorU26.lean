/-
  Contracts of span.cut, pick, chosen: for at most 100001 rows of at most 4000 words.
  Contracts of span.pick, chosen: for rows of at most 4000 words.
-/
import Derived.Test.YtnjdldbdkafnaaaGreatDoorU25
namespace Go.Proofs.YtnjdldbdkafnaaaGreatDoor
open Go.RowKit Go.Sort
set_option linter.unusedVariables false
set_option linter.unusedSimpArgs false
set_option maxRecDepth 4000

theorem made_words (w : World) (n : Nat) (hn : n ≤ 1000000000) :
    Own (w.alloc (.cells (madeCells #[.int .u64 0] n) 53)) w.heap.size (.slice (some ⟨w.heap.size, 0, none⟩) n n) (zeros n) := by
  refine ⟨zeros_small n, ⟨by simp [cellsU, zeros], .inr ⟨w.heap.size, n, madeCells #[.int .u64 0] n, by simp [zeros], Nat.le_refl _, heap_alloc_new w _, by simp [zeros], by unfold maxLen; omega, by simp [size_madeCells], ?_⟩⟩⟩
  rw [toList_madeCells_one, List.take_of_length_le (by simp [zeros])]
  simp [cellsU, zeros]
theorem uslice_cut (P n c p s : Nat) (hp : s = 0 → p = 0) (hc : p + s ≤ c) (w : World) :
    (Instr.sliceAt 27 (.slice (some ⟨P, 0, none⟩) n c) (some (.int .i64 (p : Int))) (some (.int .i64 ((p + s : Nat) : Int))) (some (.int .i64 ((p + s : Nat) : Int)))).run Tryz.prog w = .ok (.slice (some ⟨P, p, none⟩) s s) w := by
  have hz : ∀ w : World, (sizeOf 53).run Tryz.prog w = .ok 1 w := fun w => by kernel_rfl
  rw [run_sliceAt_slice _ _ _ _ _ _ elem_u64s, run_slice_lhm _ _ _ _ _ elem_u64s _ _ _ _ _ _ (by omega) (by omega) (by omega) (by omega), elem_u64s', hz]
  simp only [Result.andThen, sliced, Int.toNat_natCast, Nat.mul_one, Nat.add_sub_cancel_left]
  by_cases h0 : s = 0
  · have := hp h0
    subst h0
    subst this
    simp
  · have e : ¬ p + s = p := by omega
    rw [if_neg e]
    have ha : (⟨P, 0, none⟩ : Addr).add p = ⟨P, p, none⟩ := by
      unfold Addr.add
      split
      · rename_i h; simp_all
      · simp
    simp [ha]
def cutCells (P s N k : Nat) : List Value := (List.range N).map fun i => if i < k then .slice (some ⟨P, i * s, none⟩) s s else .slice none 0 0
theorem cutCells_zero (P s N : Nat) : cutCells P s N 0 = List.replicate N (.slice none 0 0) := by
  apply List.ext_getElem
  · simp [cutCells]
  · intro i h1 h2; simp [cutCells]
theorem cutCells_get (P s N k i : Nat) (hi : i < N) : (cutCells P s N k)[i]? = some (if i < k then .slice (some ⟨P, i * s, none⟩) s s else .slice none 0 0) := by
  simp [cutCells, hi]
theorem cutCells_set (P s N k : Nat) (hk : k < N) : (cutCells P s N k).set k (.slice (some ⟨P, k * s, none⟩) s s) = cutCells P s N (k + 1) := by
  apply List.ext_getElem
  · simp [cutCells]
  · intro i h1 h2
    rw [List.getElem_set]
    by_cases e : k = i
    · subst e; simp [cutCells]
    · rw [if_neg e]
      simp only [cutCells, List.getElem_map, List.getElem_range]
      by_cases h3 : i < k
      · rw [if_pos h3, if_pos (by omega)]
      · rw [if_neg h3, if_neg (by omega)]

set_option maxHeartbeats 1000000 in
theorem cut_any (N s : Nat) (w : World) (hN : N ≤ 100001) (hs : s ≤ 4000) :
    Calls Tryz.prog 116 #[.int .i64 (N : Int), .int .i64 (s : Int)] w fun e w' => e = .returned (.slice (some ⟨w.heap.size + 1, 0, none⟩) N N) ∧ CutAt w' w.heap.size w.heap.size (w.heap.size + 1) s N (List.replicate N (zeros s)) ∧ Below w.heap.size w w' := by
  have hM : N * s ≤ 400004000 := Nat.le_trans (Nat.mul_le_mul hN hs) (by decide)
  obtain ⟨M, hMe⟩ : ∃ M, N * s = M := ⟨_, rfl⟩
  have hmul : wrap64 ((N : Int) * (s : Int)) = (M : Int) := by
    have h1 : ((N : Int) * (s : Int)) = ((N * s : Nat) : Int) := by simp
    rw [h1, hMe]
    unfold wrap64
    omega
  obtain ⟨i0, hi0, hz0, hzs, hzb⟩ := info_parts info_u64
  have hmk : ∀ wx : World, (Instr.makeSlice 27 (.int .i64 (M : Int)) (.int .i64 (M : Int))).run Tryz.prog wx = .ok (.slice (some ⟨wx.heap.size, 0, none⟩) M M) (wx.alloc (.cells (madeCells #[.int .u64 0] M) 53)) := fun wx => by
    have := run_make (P := Tryz.prog) wx 27 53 i0 (.int .u64 0) Tryz.underlying27 hi0 hz0 .i64 .i64 (M : Int) (M : Int) (by omega) (Int.le_refl _) (by rw [hzb]; omega) (by omega)
    rw [hzs] at this
    simpa [Value.cells] using this
  obtain ⟨i1, hi1, hy0, hys, hyb⟩ := info_parts info_u64s
  have hmk2 : ∀ wx : World, (Instr.makeSlice 70 (.int .i64 (N : Int)) (.int .i64 (N : Int))).run Tryz.prog wx = .ok (.slice (some ⟨wx.heap.size, 0, none⟩) N N) (wx.alloc (.cells (madeCells #[.slice none 0 0] N) 27)) := fun wx => by
    have := run_make (P := Tryz.prog) wx 70 27 i1 (.slice none 0 0) Tryz.underlying70 hi1 hy0 .i64 .i64 (N : Int) (N : Int) (by omega) (Int.le_refl _) (by rw [hyb]; omega) (by omega)
    rw [hys] at this
    simpa [Value.cells] using this
  clear hi0 hz0 hzs hzb hi1 hy0 hys hyb
  have hb1 : Below w.heap.size w (w.alloc (.cells (madeCells #[.int .u64 0] M) 53)) := (Below.refl _ _).alloc (Nat.le_refl _) _
  have hP := made_words w M (by omega)
  have hsz := alloc_size w (.cells (madeCells #[.int .u64 0] M) 53)
  have hR := made_own (w.alloc (.cells (madeCells #[.int .u64 0] M) 53)) N (by omega) _ rfl
  have hb2 : Below (w.alloc (.cells (madeCells #[.int .u64 0] M) 53)).heap.size (w.alloc (.cells (madeCells #[.int .u64 0] M) 53)) ((w.alloc (.cells (madeCells #[.int .u64 0] M) 53)).alloc (.cells (madeCells #[.slice none 0 0] N) 27)) := (Below.refl _ _).alloc (Nat.le_refl _) _
  have HP := hide (hP.below hb2)
  have hRt := hR.top
  rw [hsz, List.length_replicate, ← cutCells_zero w.heap.size s N] at hRt
  have HR := hide hRt
  have HB := hide (below0 hb1 hb2)
  clear hb1 hb2 hP hR hRt
  have HX : Hid (M = N * s) := hMe.symm
  clear hMe hM
  go_enter Tryz.func116, Tryz.ntmps116
  go_wp2
  go_loopw [17] (fun i wr => ∃ k : Nat, k ≤ N ∧ i = .int .i64 k ∧ Hid (Own wr w.heap.size (.slice (some ⟨w.heap.size, 0, none⟩) M M) (zeros M) ∧ wr.ownsRow (w.heap.size + 1) 27 1 (.slice (some ⟨w.heap.size + 1, 0, none⟩) N N) N (cutCells w.heap.size s N k) ∧ Below w.heap.size w wr)) (fun i _ => N - (intOf i).toNat)
  case atStart => exact ⟨0, Nat.zero_le _, rfl, hide ⟨unhide HP, unhide HR, unhide HB⟩⟩
  case round =>
    obtain ⟨k, hk, rfl, HS⟩ := hrel
    obtain ⟨hP, hR, hB⟩ := unhide HS
    by_cases hlt : k < N
    · obtain ⟨p, hp⟩ : ∃ p, k * s = p := ⟨_, rfl⟩
      obtain ⟨q, hq⟩ : ∃ q, p + s = q := ⟨_, rfl⟩
      have hle : k * s + s ≤ N * s := by
        have := Nat.mul_le_mul_right s hlt
        rw [Nat.succ_mul] at this
        exact this
      have hM2 : N * s ≤ 400004000 := Nat.le_trans (Nat.mul_le_mul hN hs) (by decide)
      have hm1 : wrap64 ((k : Int) * (s : Int)) = (p : Int) := by
        have h1 : ((k : Int) * (s : Int)) = ((k * s : Nat) : Int) := by simp
        rw [h1, hp]
        unfold wrap64
        omega
      have hm2 : wrap64 (((k : Int) + 1) * (s : Int)) = (q : Int) := by
        have h1 : (((k : Int) + 1) * (s : Int)) = ((k * s + s : Nat) : Int) := by rw [Int.add_mul, Int.one_mul]; simp
        rw [h1, hp, hq]
        unfold wrap64
        omega
      have hsl := uslice_cut w.heap.size M M p s (fun e => by rw [← hp, e, Nat.mul_zero]) (by have h := unhide HX; rw [h, ← hp]; exact hle)
      rw [hq] at hsl
      have hcell : wr.cell? ⟨w.heap.size + 1, k, none⟩ = some (.slice none 0 0) := by
        rw [hR.cellAt k (by omega), cutCells_get _ _ _ _ _ hlt, if_neg (by omega)]
      have hfz := hR.frozenAt k
      have hs2 := (hR.stored k (.slice (some ⟨w.heap.size, p, none⟩) s s)).1
      rw [← hp, cutCells_set _ _ _ _ hlt, hp] at hs2
      have hP2 := hP.kept (gb_setCell wr (w.heap.size + 1) k (.slice (some ⟨w.heap.size, p, none⟩) s s)) (.inr (by show (some w.heap.size : Option Nat) ≠ some (w.heap.size + 1); simp))
      have HN := hide (And.intro hP2 (And.intro hs2 (hB.setCell (p := ⟨w.heap.size + 1, k, none⟩) (Nat.le_succ _) (.slice (some ⟨w.heap.size, p, none⟩) s s))))
      clear hP hR hB hP2 hs2 HS HP HR HB hle hM2 hp hq HX
      generalize w.heap.size + 1 = R at *
      go_wp2
      go_roundw
      case rel => exact ⟨k + 1, by omega, by go_num, HN⟩
      case measure => simp [intOf]; omega
    · obtain rfl : k = N := by omega
      clear HP HR HB
      go_wp2
      go_ret
      refine ⟨rfl, ⟨zeros M, ⟨?_, by simp, fun i hi => ?_⟩, ?_, fun i hi => ?_, by omega⟩, hB⟩
      · rw [zeros_len]; exact unhide HX
      · have hg : (List.replicate k (zeros s)).getD i [] = zeros s := by rw [List.getD_eq_getElem?_getD, List.getElem?_replicate, if_pos hi]; rfl
        rw [hg]
        refine ⟨zeros_len s, fun j hj => ?_⟩
        have h1 := flat_lt hi hj
        have h2 := unhide HX
        unfold zeros
        rw [List.getD_eq_getElem?_getD, List.getD_eq_getElem?_getD, List.getElem?_replicate, List.getElem?_replicate, if_pos (by omega), if_pos hj]
      · rw [zeros_len]; exact hP
      · rw [hR.cellAt i (by omega), cutCells_get _ _ _ _ _ hi, if_pos hi]
end Go.Proofs.YtnjdldbdkafnaaaGreatDoor
namespace Go.Proofs.YtnjdldbdkafnaaaGreatDoor
open Go.RowKit Go.Sort
set_option linter.unusedVariables false
set_option linter.unusedSimpArgs false
set_option maxRecDepth 4000

theorem IntsAt.kept {w w' : World} {a : Option Addr} {n : Nat} {xs : List Nat} {row : Option Nat} (h : IntsAt w a n xs) (hg : w.grownBy w' row) (hd : n = 0 ∨ ∀ ad, a = some ad → some ad.block ≠ row) : IntsAt w' a n xs := by
  refine ⟨h.1, ?_⟩
  rcases h.2 with h0 | ⟨b, off, rfl, hc⟩
  · exact .inl h0
  · rcases hd with h0 | hd
    · exact .inl h0
    · exact .inr ⟨b, off, rfl, fun i hi => hg.cell (hc i hi) (hd ⟨b, off, none⟩ rfl)⟩
theorem set_same (rs : List (List Nat)) (i : Nat) : rs.set i (rs.getD i []) = rs := by
  apply List.ext_getElem (by simp)
  intro j h1 h2
  rw [List.getElem_set]
  split
  · rename_i e; subst e; simp [List.getD_eq_getElem?_getD, List.getElem?_eq_getElem h2]
  · rfl
/-- What one round of pick does. -/
theorem pick_store {w : World} {B P R s N i0 k : Nat} {rs : List (List Nat)} {r : List Nat} (h : CutAt w B P R s N (rs.set i0 r)) (hi : i0 < N) (hrl : rs.length = N) (hk : k < 64 * s) :
    ∃ x : Nat, w.cell? ⟨P, i0 * s + k / 64, none⟩ = some (.int .u64 (x : Int)) ∧ x < 18446744073709551616 ∧ w.frozen? ⟨P, i0 * s + k / 64, none⟩ = false ∧
      CutAt (w.setCell ⟨P, i0 * s + k / 64, none⟩ (.int .u64 ((setW x (k % 64) true : Nat) : Int))) B P R s N (rs.set i0 (setB r k true)) := by
  have hg : (rs.set i0 r).getD i0 [] = r := by rw [getD_setR rs i0 i0 r (by omega), if_pos rfl]
  obtain ⟨h1, h2, h3⟩ := h.row hi
  rw [hg] at h1
  have hq : k / 64 < s := by omega
  obtain ⟨b, off, e, hc⟩ := h1.at hq
  simp only [Option.some.injEq, Addr.mk.injEq, and_true] at e
  obtain ⟨rfl, rfl⟩ := e
  refine ⟨r.getD (k / 64) 0, hc _ hq, h1.2.1.get _, h3 _ hq, ?_⟩
  have := h.stored hi hq (setW (r.getD (k / 64) 0) (k % 64) true) (setW_lt _ _ _ (h1.2.1.get _) (by omega))
  rw [hg, List.set_set] at this
  exact this

set_option maxHeartbeats 2000000 in
theorem pick_any (B P R s N i0 : Nat) (rs : List (List Nat)) (a' : Option Addr) (m c' : Nat) (xs : List Nat) (af : Option Addr) (nf cf : Nat) (fs : List Nat) (w : World) (h : CutAt w B P R s N rs) (hi : i0 < N) (h' : RowAt w a' m xs)
    (hl' : m = 0 ∨ ∀ ad, a' = some ad → some ad.block ≠ some P) (hF : IntsAt w af nf fs) (hlF : nf = 0 ∨ ∀ ad, af = some ad → some ad.block ≠ some P) (hfb : ∀ i, fs.getD i 0 ≤ 1000000000) (hn : nf ≤ 64 * s) (hs : s ≤ 4000) (hm : m ≤ 1048576) :
    Calls Tryz.prog 117 #[.slice (some ⟨P, i0 * s, none⟩) s s, .slice a' m c', .slice af nf cf] w fun e w' => e = .returned (.tuple #[]) ∧ CutAt w' B P R s N (rs.set i0 (pickL (rs.getD i0 []) xs fs nf)) ∧ w.grownBy w' (some P) := by
  have hrl := h.len.1
  have H0 : Hid (CutAt w B P R s N (rs.set i0 (pickL (rs.getD i0 []) xs fs 0)) ∧ w.grownBy w (some P)) := hide ⟨by show CutAt w B P R s N (rs.set i0 (rs.getD i0 [])); rw [set_same]; exact h, gb_refl _ _⟩
  have HPK : Hid (∀ k, pickL (rs.getD i0 []) xs fs (k + 1) = if getB xs (fs.getD k 0) = true then setB (pickL (rs.getD i0 []) xs fs k) k true else pickL (rs.getD i0 []) xs fs k) := fun _ => rfl
  clear h
  generalize rs.getD i0 [] = r0 at *
  obtain ⟨po, hpo⟩ : ∃ po, i0 * s = po := ⟨_, rfl⟩
  have HPO := hide hpo
  rw [hpo]
  clear hpo
  go_enter Tryz.func117, Tryz.ntmps117
  go_wp2
  go_loopw [10] (fun i wr => ∃ k : Nat, k ≤ nf ∧ i = .int .i64 k ∧ Hid (CutAt wr B P R s N (rs.set i0 (pickL r0 xs fs k)) ∧ w.grownBy wr (some P))) (fun i _ => nf - (intOf i).toNat)
  case atStart => exact ⟨0, Nat.zero_le _, rfl, H0⟩
  case round =>
    obtain ⟨k, hk, rfl, HS⟩ := hrel
    obtain ⟨hC, hG⟩ := unhide HS
    by_cases hlt : k < nf
    · obtain ⟨b, off, rfl, hc⟩ := (hF.kept hG hlF).at hlt
      have hcell := hc k hlt
      have hr := h'.kept hG hl'
      have hGe := get_any a' m c' xs ((fs.getD k 0 : Nat) : Int) wr hr hm (by have := hfb k; omega)
      rw [getI_nat] at hGe
      have hpk := unhide HPK k
      cases hgb : getB xs (fs.getD k 0) with
      | false =>
        rw [hgb] at hGe hpk
        rw [if_neg (by decide)] at hpk
        rw [← hpk] at hC
        have HGe := hide hGe
        have HC := hide hC
        have HG := hide hG
        clear hC hG hGe hpk hc hr HS H0 hF h' hgb HPK
        generalize fs.getD k 0 = f at *
        go_wp2_with fail
        refine (unhide HGe).mono ?_
        rintro e w1 ⟨rfl, d, hw⟩
        have hb : Below wr.heap.size wr w1 := by rw [hw]; exact below_drewN (Below.refl _ _) d
        have HN := hide (And.intro ((unhide HC).below hb) (gb_trans (unhide HG) (gb_of_below hb (some P)) (.inl rfl)))
        clear hw hb HC HG HGe
        go_wp2
        go_roundw
        case rel => exact ⟨k + 1, by omega, by go_num, HN⟩
        case measure => simp [intOf]; omega
      | true =>
        rw [hgb] at hGe hpk
        rw [if_pos rfl] at hpk
        have HST := hide (fun (w1 : World) (hb : Below wr.heap.size wr w1) => pick_store (hC.below hb) hi hrl (show k < 64 * s by omega))
        have HGe := hide hGe
        have HG := hide hG
        have HPK2 := hide hpk
        clear hC hG hGe hpk hc hr HS H0 hF h' hgb HPK
        generalize fs.getD k 0 = f at *
        go_wp2_with fail
        refine (unhide HGe).mono ?_
        rintro e w1 ⟨rfl, d, hw⟩
        have hb : Below wr.heap.size wr w1 := by rw [hw]; exact below_drewN (Below.refl _ _) d
        obtain ⟨x, hx1, hx2, hx3, hx4⟩ := unhide HST w1 hb
        rw [unhide HPO] at hx1 hx3 hx4
        have HX := hide (sset_any P po s s k x w1 (by omega) (by omega) hx1 hx2 hx3)
        rw [← unhide HPK2] at hx4
        have HN := hide (And.intro hx4 (gb_trans (gb_trans (unhide HG) (gb_of_below hb (some P)) (.inl rfl)) (gb_setCell w1 P (po + k / 64) (.int .u64 ((setW x (k % 64) true : Nat) : Int))) (.inl rfl)))
        clear hw hb HG HGe HST hx1 hx3 hx4 HPK2
        go_wp2_with fail
        refine (unhide HX).mono ?_
        rintro e w2 ⟨rfl, hw⟩
        rw [← hw] at HN
        clear hw HX
        go_wp2
        go_roundw
        case rel => exact ⟨k + 1, by omega, by go_num, HN⟩
        case measure => simp [intOf]; omega
    · obtain rfl : k = nf := by omega
      clear h' hF H0
      go_wp2
      go_end0
      exact ⟨rfl, hC, hG⟩

set_option maxHeartbeats 1000000 in
theorem chosen_any (a : Option Addr) (n c : Nat) (ps : List Nat) (a' : Option Addr) (m c' : Nat) (xs : List Nat) (w : World) (h : IntsAt w a n ps) (h' : RowAt w a' m xs) (hn : n ≤ 100000) (hm : m ≤ 1048576) :
    Calls Tryz.prog 119 #[.slice a n c, .slice a' m c'] w fun e w' => ∃ v, e = .returned v ∧ OwnI w' w.heap.size v (chosenL ps (fun i => getB xs (n + i)) n) ∧ Below w.heap.size w w' := by
  have HCH : Hid (∀ k, chosenL ps (fun i => getB xs (n + i)) (k + 1) = if getB xs (n + k) = true then chosenL ps (fun i => getB xs (n + i)) k ++ [ps.getD k 0] else chosenL ps (fun i => getB xs (n + i)) k) := fun _ => rfl
  have HLE := hide (chosen_len ps (fun i => getB xs (n + i)))
  have H0 : Hid (OwnI w w.heap.size (.slice none 0 0) (chosenL ps (fun i => getB xs (n + i)) 0)) := OwnI.nil _ _
  generalize hch : chosenL ps (fun i => getB xs (n + i)) = CH at *
  clear hch
  go_enter Tryz.func119, Tryz.ntmps119
  go_wp2
  go_loopw [5, 10] (fun v i wr => ∃ k : Nat, k ≤ n ∧ i = .int .i64 k ∧ ∃ a1 l1 c1, v = .slice a1 l1 c1 ∧ Hid (OwnI wr w.heap.size (.slice a1 l1 c1) (CH k)) ∧ Hid (Below w.heap.size w wr)) (fun _ i _ => n - (intOf i).toNat)
  case atStart => exact ⟨0, Nat.zero_le _, rfl, none, 0, 0, rfl, H0, hide (Below.refl _ _)⟩
  case round =>
    obtain ⟨k, hk, rfl, a1, l1, c1, rfl, HI, HB⟩ := hrel
    have hB := unhide HB
    by_cases hlt : k < n
    · obtain ⟨b, off, rfl, hc⟩ := (h.below hB).at hlt
      have hcell := hc k hlt
      have hGe := get_any a' m c' xs ((n : Int) + (k : Int)) wr (h'.below hB) hm (by omega)
      rw [show (n : Int) + (k : Int) = ((n + k : Nat) : Int) by simp, getI_nat, show ((n + k : Nat) : Int) = (n : Int) + (k : Int) by simp] at hGe
      have hch := unhide HCH k
      have hle := unhide HLE k
      cases hgb : getB xs (n + k) with
      | false =>
        rw [hgb] at hGe hch
        rw [if_neg (by decide)] at hch
        have HI2 := HI
        rw [← hch] at HI2
        have HGe := hide hGe
        clear hGe hch hc HI h h' hgb HCH HLE H0
        generalize ps.getD k 0 = f at *
        go_wp2_with fail
        refine (unhide HGe).mono ?_
        rintro e w1 ⟨rfl, d, hw⟩
        have hb : Below wr.heap.size wr w1 := by rw [hw]; exact below_drewN (Below.refl _ _) d
        have HI3 := hide ((unhide HI2).below hb)
        have HB3 := hide (below0 hB hb)
        clear hw hb HI2 HGe hB HB
        go_wp2
        go_roundw
        case rel => exact ⟨k + 1, by omega, by go_num, a1, l1, c1, rfl, HI3, HB3⟩
        case measure => simp [intOf]; omega
      | true =>
        rw [hgb] at hGe hch
        rw [if_pos rfl] at hch
        have HHC := hide hch
        have HGe := hide hGe
        clear hGe hch hc h h' hgb HCH HLE H0
        generalize ps.getD k 0 = f at *
        go_wp2_with fail
        refine (unhide HGe).mono ?_
        rintro e w1 ⟨rfl, d, hw⟩
        have hb : Below wr.heap.size wr w1 := by rw [hw]; exact below_drewN (Below.refl _ _) d
        have HI3 := hide ((unhide HI).below hb)
        have HB3 := hide (below0 hB hb)
        clear hw hb HI HGe hB HB
        have hl3 : (CH k).length ≤ 1048576 := by omega
        go_wp2_with (first | (at_builtin; refine wpList_pushI rfl _ _ rfl w.heap.size (.slice a1 l1 c1) (CH k) f rfl rfl (unhide HI3) (unhide HB3).size hl3 ?_; intro s4 w4 hI4 hg4; have HB4 := hide ((unhide HB3).trans ((unhide HI3).grown hg4 (unhide HB3).size)); rw [← unhide HHC] at hI4; obtain ⟨a4, c4, rfl, _⟩ := hI4.ints; have HI4 := hide hI4; clear hg4 hI4 HI3 HB3 HHC))
        go_roundw
        case rel => exact ⟨k + 1, by omega, by go_num, a4, _, c4, rfl, HI4, HB4⟩
        case measure => simp [intOf]; omega
    · obtain rfl : k = n := by omega
      clear h h' H0 HCH HLE
      go_wp2
      go_ret
      exact ⟨_, rfl, unhide HI, unhide HB⟩
end Go.Proofs.YtnjdldbdkafnaaaGreatDoor
