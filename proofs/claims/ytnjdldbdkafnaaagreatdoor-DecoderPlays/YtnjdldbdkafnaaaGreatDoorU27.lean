/-
  Contracts of gauss.at, gauss.data: the rows at places, and the xor of their texts.
  Rows copied into a slice of the call's own by append: what its cells hold ('Fits'); slice expressions of rows; an append as a step of a region. No condition.
  What span.Express tells, on plain lists. Of no program but for the rows' memory; words below 2^64.
  Contracts of bucketlineref01.Ints, bucketlineref03.In, bucketlineref04.Keep, Fresh: for rows of at most 2^20 words.
-/
import Derived.Test.YtnjdldbdkafnaaaGreatDoorU22
import Derived.Test.YtnjdldbdkafnaaaGreatDoorU25
import Derived.Test.YtnjdldbdkafnaaaGreatDoorU26
namespace Go.Proofs.YtnjdldbdkafnaaaGreatDoor
open Go.RowKit Go.Sort
set_option linter.unusedVariables false
set_option linter.unusedSimpArgs false
set_option maxRecDepth 4000

/-- The rows at places. -/
def atR (ts : List RV) (ps : List Nat) : List RV := ps.map fun i => ts.getD i .dflt
theorem atR_len (ts : List RV) (ps : List Nat) : (atR ts ps).length = ps.length := by simp [atR]
theorem atR_get (ts : List RV) (ps : List Nat) (k : Nat) (hk : k < ps.length) : (atR ts ps).getD k .dflt = ts.getD (ps.getD k 0) .dflt := by
  unfold atR
  rw [List.getD_eq_getElem?_getD, List.getElem?_map, List.getElem?_eq_getElem hk, List.getD_eq_getElem?_getD (l := ps), List.getElem?_eq_getElem hk]
  rfl
theorem RowsIn.atR {w : World} {ts : List RV} {ps : List Nat} (h : RowsIn w ts) (hp : ∀ i ∈ ps, i < ts.length) : RowsIn w (atR ts ps) := fun r hr => by
  obtain ⟨i, hi, rfl⟩ := List.mem_map.1 hr
  exact h.get (hp i hi)

set_option maxHeartbeats 2000000 in
theorem at_any (a : Option Addr) (n c : Nat) (ts : List RV) (ap : Option Addr) (np cp : Nat) (ps : List Nat) (w : World) (h : RowsAt w a n ts) (hp : IntsAt w ap np ps) (hl : ∀ i ∈ ps, i < n) (hn : n ≤ 1048576) (hnp : np ≤ 1048576) :
    Calls Tryz.prog 113 #[.slice a n c, .slice ap np cp] w fun e w' => ∃ v, e = .returned v ∧ OwnS w' w.heap.size v (atR ts ps) ∧ Below w.heap.size w w' := by
  obtain rfl := hp.1
  have Hh := hide h
  have HP := hide hp
  have HL := hide hl
  have hmk := make_r ps.length hnp
  have HM := hide (made_r w ps.length hnp (filR (atR ts ps) 0) (by rw [filR_zero, atR_len]))
  have HBM : Hid (Below w.heap.size w (w.alloc (.cells (madeCells #[.slice none 0 0, .string ⟨#[]⟩] (ps.length * 2)) 29))) := hide ((Below.refl _ _).alloc (Nat.le_refl _) _)
  clear h hp hl
  go_enter Tryz.func113, Tryz.ntmps113
  go_wp2
  go_loopw [13] (fun i wr => ∃ k : Nat, k ≤ ps.length ∧ i = .int .i64 k ∧ Hid (OwnS wr w.heap.size (.slice (some ⟨w.heap.size, 0, none⟩) ps.length ps.length) (filR (atR ts ps) k)) ∧ Hid (Below w.heap.size w wr)) (fun i _ => ps.length - (intOf i).toNat)
  case atStart => exact ⟨0, Nat.zero_le _, rfl, HM, HBM⟩
  case round =>
    obtain ⟨k, hk, rfl, HI, HB⟩ := hrel
    clear HM HBM
    by_cases hlt : k < ps.length
    · obtain ⟨bp, offp, rfl, hclp⟩ := ((unhide HP).below (unhide HB)).at hlt
      have hcp := hclp k hlt
      have hpl : ps.getD k 0 < n := unhide HL _ (by rw [List.getD_eq_getElem?_getD, List.getElem?_eq_getElem hlt]; exact List.getElem_mem hlt)
      obtain ⟨b, off, rfl, hcl⟩ := ((unhide Hh).below (unhide HB)).at hpl
      obtain ⟨hc0, hc1⟩ := hcl _ hpl
      have hlt' : (k : Int) < (ps.length : Int) := by omega
      have hS := filR_succ (atR ts ps) k (by rw [atR_len]; exact hlt)
      rw [atR_get ts ps k hlt] at hS
      generalize ps.getD k 0 = p at *
      have hpl' : (p : Int) < (n : Int) := by omega
      generalize ts.getD p .dflt = r at *
      have hI := unhide HI
      have hfl : (filR (atR ts ps) k).length = ps.length := by rw [filR_length _ _ (by rw [atR_len]; exact hk), atR_len]
      have hcg := cellsR_get (filR (atR ts ps) k) k (by omega)
      have hcell0 := hI.cellAt hcg.1
      have hcell1 := hI.cellAt hcg.2
      have hI' : wr.ownsRow w.heap.size 29 2 (.slice (some ⟨w.heap.size, 0, none⟩) ps.length ps.length) ps.length (cellsR (filR (atR ts ps) k)) := by
        have : wr.ownsRow w.heap.size 29 2 (.slice (some ⟨w.heap.size, 0, none⟩) ps.length ps.length) (filR (atR ts ps) k).length (cellsR (filR (atR ts ps) k)) := hI
        rwa [hfl] at this
      have hfz0 := hI'.frozenAt (k * 2)
      have hfz1 := hI'.frozenAt (k * 2 + 1)
      have hs2 := hI.stored k r
      rw [hS] at hs2
      have HS := hide hs2
      have HB2 := hide (((unhide HB).setCell (p := ⟨w.heap.size, k * 2, none⟩) (Nat.le_refl _) (.slice r.a r.n r.c)).setCell (p := ⟨w.heap.size, k * 2 + 1, none⟩) (Nat.le_refl _) (.string r.s))
      clear hcl hclp hI hI' hs2 hS hcg hfl HI HB
      generalize (filR (atR ts ps) k).getD k .dflt = z at *
      go_wp2
      go_roundw
      case rel => exact ⟨k + 1, by omega, by go_num, HS, HB2⟩
      case measure => simp [intOf]; omega
    · obtain rfl : k = ps.length := by omega
      rw [show ps.length = (atR ts ps).length from (atR_len ts ps).symm, filR_all, atR_len] at HI
      go_wp2
      go_ret
      exact ⟨_, rfl, unhide HI, unhide HB⟩
end Go.Proofs.YtnjdldbdkafnaaaGreatDoor
namespace Go.Proofs.YtnjdldbdkafnaaaGreatDoor
open Go.RowKit Go.Sort
set_option linter.unusedVariables false
set_option linter.unusedSimpArgs false
set_option maxRecDepth 4000

/-- Cells that are rows of words that can be read. -/
def Fits (w : World) (cs : List Value) (rs : List (List Nat)) : Prop := cs.length = rs.length ∧ ∀ i u, cs[i]? = some u → ∃ ai ci, u = .slice ai (rs.getD i []).length ci ∧ RowAt w ai (rs.getD i []).length (rs.getD i []) ∧ (rs.getD i []).length ≤ ci
theorem Fits.below {w w' : World} {cs : List Value} {rs : List (List Nat)} (h : Fits w cs rs) (hb : Below w.heap.size w w') : Fits w' cs rs := ⟨h.1, fun i u hu => by
  obtain ⟨ai, ci, e, hr, hk⟩ := h.2 i u hu
  exact ⟨ai, ci, e, hr.below hb, hk⟩⟩
theorem Fits.append {w : World} {cs ds : List Value} {rs ss : List (List Nat)} (h : Fits w cs rs) (k : Fits w ds ss) : Fits w (cs ++ ds) (rs ++ ss) := by
  refine ⟨by simp [h.1, k.1], fun i u hu => ?_⟩
  by_cases hi : i < cs.length
  · rw [List.getElem?_append_left hi] at hu
    have e : (rs ++ ss).getD i [] = rs.getD i [] := by rw [List.getD_eq_getElem?_getD, List.getElem?_append_left (by rw [← h.1]; exact hi), ← List.getD_eq_getElem?_getD]
    rw [e]
    exact h.2 i u hu
  · rw [List.getElem?_append_right (by omega)] at hu
    have e : (rs ++ ss).getD i [] = ss.getD (i - cs.length) [] := by rw [List.getD_eq_getElem?_getD, List.getElem?_append_right (by rw [← h.1]; omega), ← List.getD_eq_getElem?_getD, h.1]
    rw [e]
    exact k.2 _ u hu
theorem Fits.take {w : World} {cs : List Value} {rs : List (List Nat)} (h : Fits w cs rs) (q : Nat) : Fits w (cs.take q) (rs.take q) := by
  refine ⟨by simp [h.1], fun i u hu => ?_⟩
  have hi : i < q := by
    have := (List.getElem?_eq_some_iff.1 hu).1
    rw [List.length_take] at this
    omega
  rw [List.getElem?_take_of_lt hi] at hu
  have e : (rs.take q).getD i [] = rs.getD i [] := by rw [List.getD_eq_getElem?_getD, List.getElem?_take_of_lt hi, ← List.getD_eq_getElem?_getD]
  rw [e]
  exact h.2 i u hu
theorem Fits.drop {w : World} {cs : List Value} {rs : List (List Nat)} (h : Fits w cs rs) (q : Nat) : Fits w (cs.drop q) (rs.drop q) := by
  refine ⟨by simp [h.1], fun i u hu => ?_⟩
  rw [List.getElem?_drop] at hu
  have e : (rs.drop q).getD i [] = rs.getD (q + i) [] := by rw [List.getD_eq_getElem?_getD, List.getElem?_drop, ← List.getD_eq_getElem?_getD]
  rw [e]
  exact h.2 _ u hu
theorem Fits.one {w : World} {cs : List Value} {rs : List (List Nat)} (h : Fits w cs rs) : ∀ u ∈ cs, u.oneCell' = true := by
  intro u hu
  obtain ⟨i, hi, rfl⟩ := List.getElem_of_mem hu
  obtain ⟨a, c, e, _⟩ := h.2 i _ (List.getElem?_eq_getElem hi)
  rw [e]; rfl
theorem VecsAt.cells {w : World} {b off n : Nat} {rs : List (List Nat)} (h : VecsAt w (some ⟨b, off, none⟩) n rs) : ∃ cs, Fits w cs rs ∧ ∀ i u, cs[i]? = some u → w.cell? ⟨b, off + i, none⟩ = some u := by
  have key : ∀ m, m ≤ n → ∃ cs : List Value, cs.length = m ∧ ∀ i u, cs[i]? = some u → w.cell? ⟨b, off + i, none⟩ = some u ∧ ∃ ai ci, u = .slice ai (rs.getD i []).length ci ∧ RowAt w ai (rs.getD i []).length (rs.getD i []) ∧ (rs.getD i []).length ≤ ci := by
    intro m
    induction m with
    | zero => exact fun _ => ⟨[], rfl, fun i u hu => by simp at hu⟩
    | succ m ih =>
      intro hm
      obtain ⟨cs, hl, hcs⟩ := ih (by omega)
      obtain ⟨b2, off2, e, hc⟩ := h.at (show m < n by omega)
      simp only [Option.some.injEq, Addr.mk.injEq, and_true] at e
      obtain ⟨rfl, rfl⟩ := e
      obtain ⟨ai, ci, h1, h2⟩ := hc m (by omega)
      refine ⟨cs ++ [.slice ai (rs.getD m []).length ci], by simp [hl], fun i u hu => ?_⟩
      by_cases hi : i < m
      · rw [List.getElem?_append_left (by omega)] at hu
        exact hcs i u hu
      · rw [List.getElem?_append_right (by omega)] at hu
        have him : i = m := by
          have := (List.getElem?_eq_some_iff.1 hu).1
          simp at this
          omega
        subst him
        rw [hl, Nat.sub_self] at hu
        simp at hu
        subst hu
        exact ⟨h1, ai, ci, rfl, h2, h.cap (by omega) h1⟩
  obtain ⟨cs, hl, hcs⟩ := key n (Nat.le_refl _)
  exact ⟨cs, ⟨by rw [hl, h.1], fun i u hu => (hcs i u hu).2⟩, fun i u hu => (hcs i u hu).1⟩
theorem Fits.vecs {w : World} {B : Nat} {v : Value} {n : Nat} {cs : List Value} {rs : List (List Nat)} (h : w.ownsRow B 27 1 v n cs) (k : Fits w cs rs) : ∃ a c, v = .slice a n c ∧ VecsAt w a n rs := by
  have hl : cs.length = n := by simpa using h.1
  rcases h.2 with ⟨rfl, h0⟩ | ⟨g, cap, cur, rfl, hb, hg, hnc, hcm, hcs, ht⟩
  · exact ⟨none, 0, by rw [h0], by rw [← k.1, hl], .inl h0, fun _ _ _ _ _ _ e => by cases e⟩
  · have hcell : ∀ i (hi : i < cs.length), w.cell? ⟨g, i, none⟩ = some cs[i] := fun i hi => by
      rw [cell_of_row w g i _ _ _ hg, ← Array.getElem?_toList, ← List.getElem?_eq_getElem hi, ← ht, List.getElem?_take_of_lt (by omega)]
    refine ⟨_, cap, rfl, by rw [← k.1, hl], .inr ⟨g, 0, rfl, fun i hi => ?_⟩, fun b off i ai j ci e hi hc => ?_⟩
    · have hiv : i < cs.length := by omega
      obtain ⟨a, c, e, hr, _⟩ := k.2 i cs[i] (List.getElem?_eq_getElem hiv)
      refine ⟨a, c, ?_, hr⟩
      rw [Nat.zero_add, hcell i hiv, e]
    · simp only [Option.some.injEq, Addr.mk.injEq, and_true] at e
      obtain ⟨rfl, rfl⟩ := e
      have hiv : i < cs.length := by omega
      obtain ⟨a, c, e, _, hk⟩ := k.2 i cs[i] (List.getElem?_eq_getElem hiv)
      rw [Nat.zero_add, hcell i hiv, e] at hc
      simp only [Option.some.injEq, Value.slice.injEq] at hc
      omega

theorem elem_vecs : Tryz.prog.underlying 70 = some (.slice (Tryz.prog.elem 70)) := by kernel_rfl
theorem elem_vecs' : Tryz.prog.elem 70 = 27 := by kernel_rfl
theorem vslice_hi (b off n c q : Nat) (hc : q ≤ c) (w : World) :
    (Instr.sliceAt 70 (.slice (some ⟨b, off, none⟩) n c) none (some (.int .i64 (q : Int))) none).run Tryz.prog w = .ok (.slice (some ⟨b, off, none⟩) q c) w := by
  rw [run_sliceAt_slice _ _ _ _ _ _ elem_vecs, run_slice_h _ _ _ _ _ elem_vecs _ _ (by omega) (by omega), elem_vecs', size_u64s]
  simp [Result.andThen, sliced, Addr.add]

end Go.Proofs.YtnjdldbdkafnaaaGreatDoor
namespace Go.Proofs.YtnjdldbdkafnaaaGreatDoor
open Go.RowKit Go.Sort
set_option linter.unusedVariables false
set_option linter.unusedSimpArgs false
set_option maxRecDepth 4000

theorem IntsAt.lt {w : World} {a : Option Addr} {n : Nat} {xs : List Nat} (h : IntsAt w a n xs) : n = 0 ∨ ∀ ad, a = some ad → ad.block < w.heap.size := by
  rcases h.2 with h0 | ⟨b, off, rfl, hc⟩
  · exact .inl h0
  · by_cases h0 : n = 0
    · exact .inl h0
    · right
      intro ad e
      simp only [Option.some.injEq] at e
      subst e
      exact World.block_lt_of_cell? w _ (hc 0 (by omega))
/-- How many words a row with as many marks as bits has. -/
def sizeL (n : Nat) : Nat := (2 * n + 63) / 64
def markRow (rs : List (List Nat)) (ps fs : List Nat) (s i : Nat) : List Nat := setB (pickL (zeros s) (rs.getD (ps.getD i 0) []) fs ps.length) (ps.length + i) true
def marksL (rs : List (List Nat)) (ps fs : List Nat) (s k : Nat) : List (List Nat) := (List.range (ps.length + 1)).map fun i => if i < k then markRow rs ps fs s i else zeros s
theorem marks_len (rs : List (List Nat)) (ps fs : List Nat) (s k : Nat) : (marksL rs ps fs s k).length = ps.length + 1 := by simp [marksL]
theorem marks_get (rs : List (List Nat)) (ps fs : List Nat) (s k i : Nat) (hi : i < ps.length + 1) : (marksL rs ps fs s k).getD i [] = if i < k then markRow rs ps fs s i else zeros s := by
  simp [marksL, List.getD_eq_getElem?_getD, hi]
theorem marks_zero (rs : List (List Nat)) (ps fs : List Nat) (s : Nat) : marksL rs ps fs s 0 = List.replicate (ps.length + 1) (zeros s) := by
  apply List.ext_getElem
  · simp [marksL]
  · intro i h1 h2; simp [marksL]
theorem marks_set (rs : List (List Nat)) (ps fs : List Nat) (s k : Nat) (hk : k < ps.length + 1) : (marksL rs ps fs s k).set k (markRow rs ps fs s k) = marksL rs ps fs s (k + 1) := by
  apply List.ext_getElem
  · simp [marksL]
  · intro i h1 h2
    rw [List.getElem_set]
    by_cases e : k = i
    · subst e; simp [marksL]
    · rw [if_neg e]
      simp only [marksL, List.getElem_map, List.getElem_range]
      by_cases h3 : i < k
      · rw [if_pos h3, if_pos (by omega)]
      · rw [if_neg h3, if_neg (by omega)]
theorem markRow_small (rs : List (List Nat)) (ps fs : List Nat) (s i : Nat) : smalls (markRow rs ps fs s i) := setB_small (pick_small (zeros_small s) _ _ _) _ _
theorem markRow_len (rs : List (List Nat)) (ps fs : List Nat) (s i : Nat) : (markRow rs ps fs s i).length = s := by unfold markRow; rw [setB_length, pick_len, zeros_len]
theorem marks_fit (rs : List (List Nat)) (ps fs : List Nat) (s k j : Nat) (q : List Nat) (hq : smalls q) (hql : q.length = s) (M : Nat) (hs : s ≤ M) : Fit M (((marksL rs ps fs s k).set j q).take k) := by
  intro x hx
  rcases List.mem_or_eq_of_mem_set (List.mem_of_mem_take hx) with hx | rfl
  · obtain ⟨i, _, rfl⟩ := List.mem_map.1 hx
    split
    · exact ⟨markRow_small _ _ _ _ _, by rw [markRow_len]; exact hs⟩
    · exact ⟨zeros_small s, by rw [zeros_len]; exact hs⟩
  · exact ⟨hq, by omega⟩
theorem marks_take (rs : List (List Nat)) (ps fs : List Nat) (s : Nat) (q : List Nat) : ((marksL rs ps fs s ps.length).set ps.length q).take ps.length = (marksL rs ps fs s ps.length).take ps.length := by
  apply List.ext_getElem
  · simp
  · intro i h1 h2
    have hi : i < ps.length := by
      rw [List.length_take] at h2
      omega
    rw [List.getElem_take, List.getElem_take, List.getElem_set, if_neg (by omega)]
/-- What Express tells of a row that is in the span. -/
def exprL (rs : List (List Nat)) (xs : List Nat) : List Nat :=
  chosenL (keepL rs rs.length) (fun i => getB (reduceL (broughtL ((marksL rs (keepL rs rs.length) (firstsL (broughtL rs)) (sizeL (keepL rs rs.length).length) (keepL rs rs.length).length).take (keepL rs rs.length).length))
    (pickL (zeros (sizeL (keepL rs rs.length).length)) xs (firstsL (broughtL rs)) (keepL rs rs.length).length)) ((keepL rs rs.length).length + i)) (keepL rs rs.length).length
theorem size_ok (n : Nat) : 2 * n ≤ 64 * sizeL n := by unfold sizeL; omega
theorem size_le (n : Nat) (h : n ≤ 100000) : sizeL n ≤ 4000 := by unfold sizeL; omega
theorem brought_pos {M : Nat} {rs : List (List Nat)} (h : Fit M rs) (i : Nat) (hi : i < (broughtL rs).length) : 0 ≤ firstI ((broughtL rs).getD i []) := by
  have h1 := (brought_fit h).getD i
  have h2 : val ((broughtL rs).getD i []) ≠ 0 := by
    refine (brought_tri h).1 _ (List.mem_map.2 ⟨_, ?_, rfl⟩)
    simp [List.getD_eq_getElem?_getD, List.getElem?_eq_getElem hi]
  rw [firstI_val h1.1, if_neg h2]
  omega
theorem firsts_low {M : Nat} {rs : List (List Nat)} (h : Fit M rs) : firstsL (broughtL rs) = (broughtL rs).map fun b => Ech.low (val b) := by
  unfold firstsL
  apply List.map_congr_left
  intro b hb
  have h1 := (brought_fit h) b hb
  have h2 : val b ≠ 0 := (brought_tri h).1 _ (List.mem_map.2 ⟨b, hb, rfl⟩)
  rw [firstI_val h1.1, if_neg h2]
  rfl
theorem firsts_small {rs : List (List Nat)} (h : Fit 1048576 rs) (i : Nat) : (firstsL (broughtL rs)).getD i 0 ≤ 1000000000 := by
  by_cases hi : i < (broughtL rs).length
  · rw [firstsL_get _ i hi]
    have h1 := (brought_fit h).getD i
    have := firstI_le h1.1
    omega
  · rw [getD_of_le (by rw [firstsL_len]; omega)]
    omega
theorem brought_count (rs : List (List Nat)) : (broughtL rs).length = (keepL rs rs.length).length := by rw [keep_brought rs _ (Nat.le_refl _), List.take_length]
/-- .. it is the choice. -/
theorem expr_choice {rs : List (List Nat)} (hf : Fit 1048576 rs) (hn : rs.length ≤ 100000) {xs : List Nat} (hx : smalls xs) {c : Nat} (hc : Choice rs xs c) : exprL rs xs = chosenL (keepL rs rs.length) (fun i => c.testBit i) (keepL rs rs.length).length := by
  have hnl := keep_len rs rs.length
  have hs1 := size_ok (keepL rs rs.length).length
  have hs2 := size_le (keepL rs rs.length).length (by omega)
  unfold exprL
  refine chosen_congr _ _ fun i hi => ?_
  refine express_bits hf (M' := 4000) (fs := firstsL (broughtL rs)) (firsts_low hf) ?_ ?_ ?_ (pick_small (zeros_small _) _ _ _) (pick_val hx (by omega)) (by rw [pick_len, zeros_len]; exact hs2) hc i
  · rw [List.length_take, marks_len]; omega
  · rw [← marks_take _ _ _ _ []]
    intro x hx
    have hx' := List.mem_of_mem_take hx
    obtain ⟨j, hj, rfl⟩ := List.getElem_of_mem hx
    rw [List.length_take, List.length_set, marks_len] at hj
    rw [List.getElem_take, List.getElem_set, if_neg (by omega)]
    simp only [marksL, List.getElem_map, List.getElem_range]
    split
    · exact ⟨markRow_small _ _ _ _ _, by rw [markRow_len]; exact hs2⟩
    · exact ⟨zeros_small _, by rw [zeros_len]; exact hs2⟩
  · intro j hj
    rw [List.getD_eq_getElem?_getD, List.getElem?_take_of_lt hj, ← List.getD_eq_getElem?_getD, marks_get _ _ _ _ _ _ (by omega), if_pos hj]
    exact mark_val (hf.getD _).1 (by omega) (by omega)
end Go.Proofs.YtnjdldbdkafnaaaGreatDoor
namespace Go.Proofs.YtnjdldbdkafnaaaGreatDoor
open Go.RowKit Go.Sort
set_option linter.unusedVariables false
set_option linter.unusedSimpArgs false
set_option maxRecDepth 4000

theorem rkeep_step (rs : List (List Nat)) (k : Nat) : (firstI (reduceL (basisL (rs.take k)) (rs.getD k [])) < 0 → rkeepL rs (k + 1) = rkeepL rs k) ∧ (0 ≤ firstI (reduceL (basisL (rs.take k)) (rs.getD k [])) → rkeepL rs (k + 1) = rkeepL rs k ++ [k]) := by
  simp only [rkeepL]
  constructor
  · intro h; rw [if_pos h]
  · intro h; rw [if_neg (by omega)]
theorem rkeep_len (rs : List (List Nat)) : ∀ k, (rkeepL rs k).length ≤ k
  | 0 => Nat.le_refl _
  | k + 1 => by
    have := rkeep_len rs k
    simp only [rkeepL]
    split
    · omega
    · simp; omega
set_option maxHeartbeats 2000000 in
theorem rkeep_any (a : Option Addr) (n c : Nat) (rs : List (List Nat)) (w : World) (h : VecsAt w a n rs) (hf : Fit 1048576 rs) (hn : n ≤ 100000) :
    Calls Tryz.prog 58 #[.slice a n c] w fun e w' => ∃ v, e = .returned v ∧ OwnI w' w.heap.size v (keepL rs rs.length) ∧ Below w.heap.size w w' := by
  obtain rfl : n = rs.length := h.1.symm
  rw [← keep_eq hf]
  go_enter Tryz.func58, Tryz.ntmps58
  go_wp2
  go_loopw [3, 4, 5] (fun bv kv i wr => ∃ k : Nat, k ≤ rs.length ∧ i = .int .i64 k ∧ ∃ a1 c1 vs ak ck, bv = .slice a1 (basisL (rs.take k)).length c1 ∧ kv = .slice ak (rkeepL rs k).length ck ∧ Hid (OwnV wr w.heap.size (.slice a1 (basisL (rs.take k)).length c1) vs (basisL (rs.take k))) ∧
    Hid (OwnI wr w.heap.size (.slice ak (rkeepL rs k).length ck) (rkeepL rs k)) ∧ Hid (Below w.heap.size w wr)) (fun _ _ i _ => rs.length - (intOf i).toNat)
  case atStart => exact ⟨0, Nat.zero_le _, rfl, none, 0, [], none, 0, rfl, rfl, hide (OwnV.nil _ _), hide (OwnI.nil _ _), hide (Below.refl _ _)⟩
  case round =>
    obtain ⟨k, hk, rfl, a1, c1, vs, ak, ck, rfl, rfl, HV, HI, HB⟩ := hrel
    by_cases hlt : k < rs.length
    · have hB := unhide HB
      obtain ⟨b, off, rfl, hc⟩ := (h.below hB).at hlt
      obtain ⟨ai, ci, hcell, hrow⟩ := hc k hlt
      have hfk := hf.take k
      have hbl := basis_len hfk
      have htk : (rs.take k).length ≤ k := List.length_take_le _ _
      have hkl := rkeep_len rs k
      obtain ⟨_, _, e1, hvec⟩ := (unhide HV).vecs
      simp only [Value.slice.injEq, true_and] at e1
      obtain ⟨rfl, rfl⟩ := e1
      have hX := radd_any a1 _ c1 (basisL (rs.take k)) ai _ ci (rs.getD k []) wr hvec (basis_fit hfk) hrow (by omega) (hf.getD k).2
      rw [radd_eq (basis_fit hfk) (basis_red hfk) hrow.2.1 (hf.getD k).2, ← basis_take hlt] at hX
      have HX := hide hX
      obtain ⟨hs1, hs2⟩ := rkeep_step rs k
      have HS1 := hide hs1
      have HS2 := hide hs2
      clear hc hrow h hfk hX hvec hs1 hs2
      generalize rs.getD k [] = y at *
      generalize basisL (rs.take k) = bk at *
      generalize rkeepL rs k = kk at *
      generalize firstI (reduceL bk y) = f at *
      have hkk : kk.length ≤ 1048576 := by omega
      by_cases hneg : f < 0
      · have hk1 := unhide HS1 hneg
        have hdn : decide (0 ≤ f) = false := by rw [decide_eq_false_iff_not]; omega
        rw [hdn] at HX
        have HK1 := hide hk1
        clear hneg hk1 HS1 HS2 hdn
        go_wp2_with fail
        refine (unhide HX).mono ?_
        rintro e w1 ⟨v1, vs1, rfl, hV1, hb1⟩
        have hI1 := (unhide HI).below hb1
        have hV1 := hV1.mono hB.size
        obtain ⟨a2, c2, rfl⟩ := hV1.shape
        rw [← unhide HK1]
        rw [← unhide HK1] at hI1
        have HV1 := hide hV1
        have HI1 := hide hI1
        have HB1 := hide (below0 hB hb1)
        clear hV1 hI1 hb1 HX hB HB HI HV HK1
        go_wp2
        go_roundw
        case rel => exact ⟨k + 1, by omega, by go_num, a2, c2, vs1, ak, ck, rfl, rfl, HV1, HI1, HB1⟩
        case measure => simp [intOf]; omega
      · have hk1 := unhide HS2 (by omega)
        have hdn : decide (0 ≤ f) = true := by rw [decide_eq_true_iff]; omega
        rw [hdn] at HX
        have HK1 := hide hk1
        clear hneg hk1 HS1 HS2 hdn
        go_wp2_with fail
        refine (unhide HX).mono ?_
        rintro e w1 ⟨v1, vs1, rfl, hV1, hb1⟩
        have HI1 := hide ((unhide HI).below hb1)
        have hV1 := hV1.mono hB.size
        obtain ⟨a2, c2, rfl⟩ := hV1.shape
        have HV1 := hide hV1
        have HB1 := hide (below0 hB hb1)
        clear hV1 hb1 HX hB HB HI HV
        go_wp2_with (first | (at_builtin; refine wpList_pushI rfl _ _ rfl w.heap.size (.slice ak kk.length ck) kk k rfl rfl (unhide HI1) (unhide HB1).size hkk ?_; intro s4 w4 hI4 hg4; have HV4 := hide ((unhide HV1).keptI (unhide HI1) hg4); have HB4 := hide ((unhide HB1).trans ((unhide HI1).grown hg4 (unhide HB1).size)); rw [← unhide HK1] at hI4; obtain ⟨a4, c4, rfl, _⟩ := hI4.ints; have HI4 := hide hI4; clear hg4 hI4 HI1 HB1 HV1 HK1))
        go_roundw
        case rel => exact ⟨k + 1, by omega, by go_num, a2, c2, vs1, a4, c4, rfl, rfl, HV4, HI4, HB4⟩
        case measure => simp [intOf]; omega
    · obtain rfl : k = rs.length := by omega
      clear h
      go_wp2
      go_ret
      exact ⟨_, rfl, unhide HI, unhide HB⟩

end Go.Proofs.YtnjdldbdkafnaaaGreatDoor
