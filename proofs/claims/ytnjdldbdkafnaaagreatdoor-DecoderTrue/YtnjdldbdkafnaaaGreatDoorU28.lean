/-
  Contracts of gauss.at, gauss.data: the rows at places, and the xor of their texts.
  Rows copied into a slice of the call's own by append: what its cells hold ('Fits'); slice expressions of rows; an append as a step of a region. No condition.
  What span.Express tells, on plain lists. Of no program but for the rows' memory; words below 2^64.
  What bucketlineref04.Express tells, on plain lists; 'copy(row, words)' into a new row.
  The walk of PeelTrue: for every input it tells true and writes nothing that was there.
-/
import Derived.Test.YtnjdldbdkafnaaaGreatDoorU22
import Derived.Test.YtnjdldbdkafnaaaGreatDoorU26
import Derived.Test.YtnjdldbdkafnaaaGreatDoorU27
import Derived.Test.YtnjdldbdkafnaaaGreatDoorKA
import Derived.Test.YtnjdldbdkafnaaaGreatDoorU7
import Derived.Test.YtnjdldbdkafnaaaGreatDoorU19
namespace Go.Proofs.YtnjdldbdkafnaaaGreatDoor
open Go.RowKit Go.Sort
set_option linter.unusedVariables false
set_option linter.unusedSimpArgs false
set_option maxRecDepth 4000

/-- The rows at places. -/
def atR (ts : List RV) (ps : List Nat) : List RV := ps.map fun i => ts.getD i .dflt
theorem atR_len (ts : List RV) (ps : List Nat) : (atR ts ps).length = ps.length := by simp [atR]
theorem atR_get (ts : List RV) (ps : List Nat) (k : Nat) (hk : k < ps.length) : (atR ts ps).getD k .dflt = ts.getD (ps.getD k 0) .dflt := by
  unfold atR
  rw [List.getD_eq_getElem?_getD, List.getElem?_map, List.getElem?_eq_getElem hk, List.getD_eq_getElem?_getD (l := ps), List.getElem?_eq_getElem hk]
  rfl
theorem RowsIn.atR {w : World} {ts : List RV} {ps : List Nat} (h : RowsIn w ts) (hp : ∀ i ∈ ps, i < ts.length) : RowsIn w (atR ts ps) := fun r hr => by
  obtain ⟨i, hi, rfl⟩ := List.mem_map.1 hr
  exact h.get (hp i hi)

set_option maxHeartbeats 2000000 in
theorem at_any (a : Option Addr) (n c : Nat) (ts : List RV) (ap : Option Addr) (np cp : Nat) (ps : List Nat) (w : World) (h : RowsAt w a n ts) (hp : IntsAt w ap np ps) (hl : ∀ i ∈ ps, i < n) (hn : n ≤ 1048576) (hnp : np ≤ 1048576) :
    Calls Tryz.prog 113 #[.slice a n c, .slice ap np cp] w fun e w' => ∃ v, e = .returned v ∧ OwnS w' w.heap.size v (atR ts ps) ∧ Below w.heap.size w w' := by
  obtain rfl := hp.1
  have Hh := hide h
  have HP := hide hp
  have HL := hide hl
  have hmk := make_r ps.length hnp
  have HM := hide (made_r w ps.length hnp (filR (atR ts ps) 0) (by rw [filR_zero, atR_len]))
  have HBM : Hid (Below w.heap.size w (w.alloc (.cells (madeCells #[.slice none 0 0, .string ⟨#[]⟩] (ps.length * 2)) 29))) := hide ((Below.refl _ _).alloc (Nat.le_refl _) _)
  clear h hp hl
  go_enter Tryz.func113, Tryz.ntmps113
  go_wp2
  go_loopw [13] (fun i wr => ∃ k : Nat, k ≤ ps.length ∧ i = .int .i64 k ∧ Hid (OwnS wr w.heap.size (.slice (some ⟨w.heap.size, 0, none⟩) ps.length ps.length) (filR (atR ts ps) k)) ∧ Hid (Below w.heap.size w wr)) (fun i _ => ps.length - (intOf i).toNat)
  case atStart => exact ⟨0, Nat.zero_le _, rfl, HM, HBM⟩
  case round =>
    obtain ⟨k, hk, rfl, HI, HB⟩ := hrel
    clear HM HBM
    by_cases hlt : k < ps.length
    · obtain ⟨bp, offp, rfl, hclp⟩ := ((unhide HP).below (unhide HB)).at hlt
      have hcp := hclp k hlt
      have hpl : ps.getD k 0 < n := unhide HL _ (by rw [List.getD_eq_getElem?_getD, List.getElem?_eq_getElem hlt]; exact List.getElem_mem hlt)
      obtain ⟨b, off, rfl, hcl⟩ := ((unhide Hh).below (unhide HB)).at hpl
      obtain ⟨hc0, hc1⟩ := hcl _ hpl
      have hlt' : (k : Int) < (ps.length : Int) := by omega
      have hS := filR_succ (atR ts ps) k (by rw [atR_len]; exact hlt)
      rw [atR_get ts ps k hlt] at hS
      generalize ps.getD k 0 = p at *
      have hpl' : (p : Int) < (n : Int) := by omega
      generalize ts.getD p .dflt = r at *
      have hI := unhide HI
      have hfl : (filR (atR ts ps) k).length = ps.length := by rw [filR_length _ _ (by rw [atR_len]; exact hk), atR_len]
      have hcg := cellsR_get (filR (atR ts ps) k) k (by omega)
      have hcell0 := hI.cellAt hcg.1
      have hcell1 := hI.cellAt hcg.2
      have hI' : wr.ownsRow w.heap.size 29 2 (.slice (some ⟨w.heap.size, 0, none⟩) ps.length ps.length) ps.length (cellsR (filR (atR ts ps) k)) := by
        have : wr.ownsRow w.heap.size 29 2 (.slice (some ⟨w.heap.size, 0, none⟩) ps.length ps.length) (filR (atR ts ps) k).length (cellsR (filR (atR ts ps) k)) := hI
        rwa [hfl] at this
      have hfz0 := hI'.frozenAt (k * 2)
      have hfz1 := hI'.frozenAt (k * 2 + 1)
      have hs2 := hI.stored k r
      rw [hS] at hs2
      have HS := hide hs2
      have HB2 := hide (((unhide HB).setCell (p := ⟨w.heap.size, k * 2, none⟩) (Nat.le_refl _) (.slice r.a r.n r.c)).setCell (p := ⟨w.heap.size, k * 2 + 1, none⟩) (Nat.le_refl _) (.string r.s))
      clear hcl hclp hI hI' hs2 hS hcg hfl HI HB
      generalize (filR (atR ts ps) k).getD k .dflt = z at *
      go_wp2
      go_roundw
      case rel => exact ⟨k + 1, by omega, by go_num, HS, HB2⟩
      case measure => simp [intOf]; omega
    · obtain rfl : k = ps.length := by omega
      rw [show ps.length = (atR ts ps).length from (atR_len ts ps).symm, filR_all, atR_len] at HI
      go_wp2
      go_ret
      exact ⟨_, rfl, unhide HI, unhide HB⟩
end Go.Proofs.YtnjdldbdkafnaaaGreatDoor
namespace Go.Proofs.YtnjdldbdkafnaaaGreatDoor
open Go.RowKit Go.Sort
set_option linter.unusedVariables false
set_option linter.unusedSimpArgs false
set_option maxRecDepth 4000

/-- Cells that are rows of words that can be read. -/
def Fits (w : World) (cs : List Value) (rs : List (List Nat)) : Prop := cs.length = rs.length ∧ ∀ i u, cs[i]? = some u → ∃ ai ci, u = .slice ai (rs.getD i []).length ci ∧ RowAt w ai (rs.getD i []).length (rs.getD i []) ∧ (rs.getD i []).length ≤ ci
theorem Fits.below {w w' : World} {cs : List Value} {rs : List (List Nat)} (h : Fits w cs rs) (hb : Below w.heap.size w w') : Fits w' cs rs := ⟨h.1, fun i u hu => by
  obtain ⟨ai, ci, e, hr, hk⟩ := h.2 i u hu
  exact ⟨ai, ci, e, hr.below hb, hk⟩⟩
theorem Fits.append {w : World} {cs ds : List Value} {rs ss : List (List Nat)} (h : Fits w cs rs) (k : Fits w ds ss) : Fits w (cs ++ ds) (rs ++ ss) := by
  refine ⟨by simp [h.1, k.1], fun i u hu => ?_⟩
  by_cases hi : i < cs.length
  · rw [List.getElem?_append_left hi] at hu
    have e : (rs ++ ss).getD i [] = rs.getD i [] := by rw [List.getD_eq_getElem?_getD, List.getElem?_append_left (by rw [← h.1]; exact hi), ← List.getD_eq_getElem?_getD]
    rw [e]
    exact h.2 i u hu
  · rw [List.getElem?_append_right (by omega)] at hu
    have e : (rs ++ ss).getD i [] = ss.getD (i - cs.length) [] := by rw [List.getD_eq_getElem?_getD, List.getElem?_append_right (by rw [← h.1]; omega), ← List.getD_eq_getElem?_getD, h.1]
    rw [e]
    exact k.2 _ u hu
theorem Fits.take {w : World} {cs : List Value} {rs : List (List Nat)} (h : Fits w cs rs) (q : Nat) : Fits w (cs.take q) (rs.take q) := by
  refine ⟨by simp [h.1], fun i u hu => ?_⟩
  have hi : i < q := by
    have := (List.getElem?_eq_some_iff.1 hu).1
    rw [List.length_take] at this
    omega
  rw [List.getElem?_take_of_lt hi] at hu
  have e : (rs.take q).getD i [] = rs.getD i [] := by rw [List.getD_eq_getElem?_getD, List.getElem?_take_of_lt hi, ← List.getD_eq_getElem?_getD]
  rw [e]
  exact h.2 i u hu
theorem Fits.drop {w : World} {cs : List Value} {rs : List (List Nat)} (h : Fits w cs rs) (q : Nat) : Fits w (cs.drop q) (rs.drop q) := by
  refine ⟨by simp [h.1], fun i u hu => ?_⟩
  rw [List.getElem?_drop] at hu
  have e : (rs.drop q).getD i [] = rs.getD (q + i) [] := by rw [List.getD_eq_getElem?_getD, List.getElem?_drop, ← List.getD_eq_getElem?_getD]
  rw [e]
  exact h.2 _ u hu
theorem Fits.one {w : World} {cs : List Value} {rs : List (List Nat)} (h : Fits w cs rs) : ∀ u ∈ cs, u.oneCell' = true := by
  intro u hu
  obtain ⟨i, hi, rfl⟩ := List.getElem_of_mem hu
  obtain ⟨a, c, e, _⟩ := h.2 i _ (List.getElem?_eq_getElem hi)
  rw [e]; rfl
theorem VecsAt.cells {w : World} {b off n : Nat} {rs : List (List Nat)} (h : VecsAt w (some ⟨b, off, none⟩) n rs) : ∃ cs, Fits w cs rs ∧ ∀ i u, cs[i]? = some u → w.cell? ⟨b, off + i, none⟩ = some u := by
  have key : ∀ m, m ≤ n → ∃ cs : List Value, cs.length = m ∧ ∀ i u, cs[i]? = some u → w.cell? ⟨b, off + i, none⟩ = some u ∧ ∃ ai ci, u = .slice ai (rs.getD i []).length ci ∧ RowAt w ai (rs.getD i []).length (rs.getD i []) ∧ (rs.getD i []).length ≤ ci := by
    intro m
    induction m with
    | zero => exact fun _ => ⟨[], rfl, fun i u hu => by simp at hu⟩
    | succ m ih =>
      intro hm
      obtain ⟨cs, hl, hcs⟩ := ih (by omega)
      obtain ⟨b2, off2, e, hc⟩ := h.at (show m < n by omega)
      simp only [Option.some.injEq, Addr.mk.injEq, and_true] at e
      obtain ⟨rfl, rfl⟩ := e
      obtain ⟨ai, ci, h1, h2⟩ := hc m (by omega)
      refine ⟨cs ++ [.slice ai (rs.getD m []).length ci], by simp [hl], fun i u hu => ?_⟩
      by_cases hi : i < m
      · rw [List.getElem?_append_left (by omega)] at hu
        exact hcs i u hu
      · rw [List.getElem?_append_right (by omega)] at hu
        have him : i = m := by
          have := (List.getElem?_eq_some_iff.1 hu).1
          simp at this
          omega
        subst him
        rw [hl, Nat.sub_self] at hu
        simp at hu
        subst hu
        exact ⟨h1, ai, ci, rfl, h2, h.cap (by omega) h1⟩
  obtain ⟨cs, hl, hcs⟩ := key n (Nat.le_refl _)
  exact ⟨cs, ⟨by rw [hl, h.1], fun i u hu => (hcs i u hu).2⟩, fun i u hu => (hcs i u hu).1⟩
theorem Fits.vecs {w : World} {B : Nat} {v : Value} {n : Nat} {cs : List Value} {rs : List (List Nat)} (h : w.ownsRow B 27 1 v n cs) (k : Fits w cs rs) : ∃ a c, v = .slice a n c ∧ VecsAt w a n rs := by
  have hl : cs.length = n := by simpa using h.1
  rcases h.2 with ⟨rfl, h0⟩ | ⟨g, cap, cur, rfl, hb, hg, hnc, hcm, hcs, ht⟩
  · exact ⟨none, 0, by rw [h0], by rw [← k.1, hl], .inl h0, fun _ _ _ _ _ _ e => by cases e⟩
  · have hcell : ∀ i (hi : i < cs.length), w.cell? ⟨g, i, none⟩ = some cs[i] := fun i hi => by
      rw [cell_of_row w g i _ _ _ hg, ← Array.getElem?_toList, ← List.getElem?_eq_getElem hi, ← ht, List.getElem?_take_of_lt (by omega)]
    refine ⟨_, cap, rfl, by rw [← k.1, hl], .inr ⟨g, 0, rfl, fun i hi => ?_⟩, fun b off i ai j ci e hi hc => ?_⟩
    · have hiv : i < cs.length := by omega
      obtain ⟨a, c, e, hr, _⟩ := k.2 i cs[i] (List.getElem?_eq_getElem hiv)
      refine ⟨a, c, ?_, hr⟩
      rw [Nat.zero_add, hcell i hiv, e]
    · simp only [Option.some.injEq, Addr.mk.injEq, and_true] at e
      obtain ⟨rfl, rfl⟩ := e
      have hiv : i < cs.length := by omega
      obtain ⟨a, c, e, _, hk⟩ := k.2 i cs[i] (List.getElem?_eq_getElem hiv)
      rw [Nat.zero_add, hcell i hiv, e] at hc
      simp only [Option.some.injEq, Value.slice.injEq] at hc
      omega

theorem elem_vecs : Tryz.prog.underlying 70 = some (.slice (Tryz.prog.elem 70)) := by kernel_rfl
theorem elem_vecs' : Tryz.prog.elem 70 = 27 := by kernel_rfl
theorem vslice_hi (b off n c q : Nat) (hc : q ≤ c) (w : World) :
    (Instr.sliceAt 70 (.slice (some ⟨b, off, none⟩) n c) none (some (.int .i64 (q : Int))) none).run Tryz.prog w = .ok (.slice (some ⟨b, off, none⟩) q c) w := by
  rw [run_sliceAt_slice _ _ _ _ _ _ elem_vecs, run_slice_h _ _ _ _ _ elem_vecs _ _ (by omega) (by omega), elem_vecs', size_u64s]
  simp [Result.andThen, sliced, Addr.add]

end Go.Proofs.YtnjdldbdkafnaaaGreatDoor
namespace Go.Proofs.YtnjdldbdkafnaaaGreatDoor
open Go.RowKit Go.Sort
set_option linter.unusedVariables false
set_option linter.unusedSimpArgs false
set_option maxRecDepth 4000

theorem IntsAt.lt {w : World} {a : Option Addr} {n : Nat} {xs : List Nat} (h : IntsAt w a n xs) : n = 0 ∨ ∀ ad, a = some ad → ad.block < w.heap.size := by
  rcases h.2 with h0 | ⟨b, off, rfl, hc⟩
  · exact .inl h0
  · by_cases h0 : n = 0
    · exact .inl h0
    · right
      intro ad e
      simp only [Option.some.injEq] at e
      subst e
      exact World.block_lt_of_cell? w _ (hc 0 (by omega))
/-- How many words a row with as many marks as bits has. -/
def sizeL (n : Nat) : Nat := (2 * n + 63) / 64
def markRow (rs : List (List Nat)) (ps fs : List Nat) (s i : Nat) : List Nat := setB (pickL (zeros s) (rs.getD (ps.getD i 0) []) fs ps.length) (ps.length + i) true
def marksL (rs : List (List Nat)) (ps fs : List Nat) (s k : Nat) : List (List Nat) := (List.range (ps.length + 1)).map fun i => if i < k then markRow rs ps fs s i else zeros s
theorem marks_len (rs : List (List Nat)) (ps fs : List Nat) (s k : Nat) : (marksL rs ps fs s k).length = ps.length + 1 := by simp [marksL]
theorem marks_get (rs : List (List Nat)) (ps fs : List Nat) (s k i : Nat) (hi : i < ps.length + 1) : (marksL rs ps fs s k).getD i [] = if i < k then markRow rs ps fs s i else zeros s := by
  simp [marksL, List.getD_eq_getElem?_getD, hi]
theorem marks_zero (rs : List (List Nat)) (ps fs : List Nat) (s : Nat) : marksL rs ps fs s 0 = List.replicate (ps.length + 1) (zeros s) := by
  apply List.ext_getElem
  · simp [marksL]
  · intro i h1 h2; simp [marksL]
theorem marks_set (rs : List (List Nat)) (ps fs : List Nat) (s k : Nat) (hk : k < ps.length + 1) : (marksL rs ps fs s k).set k (markRow rs ps fs s k) = marksL rs ps fs s (k + 1) := by
  apply List.ext_getElem
  · simp [marksL]
  · intro i h1 h2
    rw [List.getElem_set]
    by_cases e : k = i
    · subst e; simp [marksL]
    · rw [if_neg e]
      simp only [marksL, List.getElem_map, List.getElem_range]
      by_cases h3 : i < k
      · rw [if_pos h3, if_pos (by omega)]
      · rw [if_neg h3, if_neg (by omega)]
theorem markRow_small (rs : List (List Nat)) (ps fs : List Nat) (s i : Nat) : smalls (markRow rs ps fs s i) := setB_small (pick_small (zeros_small s) _ _ _) _ _
theorem markRow_len (rs : List (List Nat)) (ps fs : List Nat) (s i : Nat) : (markRow rs ps fs s i).length = s := by unfold markRow; rw [setB_length, pick_len, zeros_len]
theorem marks_fit (rs : List (List Nat)) (ps fs : List Nat) (s k j : Nat) (q : List Nat) (hq : smalls q) (hql : q.length = s) (M : Nat) (hs : s ≤ M) : Fit M (((marksL rs ps fs s k).set j q).take k) := by
  intro x hx
  rcases List.mem_or_eq_of_mem_set (List.mem_of_mem_take hx) with hx | rfl
  · obtain ⟨i, _, rfl⟩ := List.mem_map.1 hx
    split
    · exact ⟨markRow_small _ _ _ _ _, by rw [markRow_len]; exact hs⟩
    · exact ⟨zeros_small s, by rw [zeros_len]; exact hs⟩
  · exact ⟨hq, by omega⟩
theorem marks_take (rs : List (List Nat)) (ps fs : List Nat) (s : Nat) (q : List Nat) : ((marksL rs ps fs s ps.length).set ps.length q).take ps.length = (marksL rs ps fs s ps.length).take ps.length := by
  apply List.ext_getElem
  · simp
  · intro i h1 h2
    have hi : i < ps.length := by
      rw [List.length_take] at h2
      omega
    rw [List.getElem_take, List.getElem_take, List.getElem_set, if_neg (by omega)]
/-- What Express tells of a row that is in the span. -/
def exprL (rs : List (List Nat)) (xs : List Nat) : List Nat :=
  chosenL (keepL rs rs.length) (fun i => getB (reduceL (broughtL ((marksL rs (keepL rs rs.length) (firstsL (broughtL rs)) (sizeL (keepL rs rs.length).length) (keepL rs rs.length).length).take (keepL rs rs.length).length))
    (pickL (zeros (sizeL (keepL rs rs.length).length)) xs (firstsL (broughtL rs)) (keepL rs rs.length).length)) ((keepL rs rs.length).length + i)) (keepL rs rs.length).length
theorem size_ok (n : Nat) : 2 * n ≤ 64 * sizeL n := by unfold sizeL; omega
theorem size_le (n : Nat) (h : n ≤ 100000) : sizeL n ≤ 4000 := by unfold sizeL; omega
theorem brought_pos {M : Nat} {rs : List (List Nat)} (h : Fit M rs) (i : Nat) (hi : i < (broughtL rs).length) : 0 ≤ firstI ((broughtL rs).getD i []) := by
  have h1 := (brought_fit h).getD i
  have h2 : val ((broughtL rs).getD i []) ≠ 0 := by
    refine (brought_tri h).1 _ (List.mem_map.2 ⟨_, ?_, rfl⟩)
    simp [List.getD_eq_getElem?_getD, List.getElem?_eq_getElem hi]
  rw [firstI_val h1.1, if_neg h2]
  omega
theorem firsts_low {M : Nat} {rs : List (List Nat)} (h : Fit M rs) : firstsL (broughtL rs) = (broughtL rs).map fun b => Ech.low (val b) := by
  unfold firstsL
  apply List.map_congr_left
  intro b hb
  have h1 := (brought_fit h) b hb
  have h2 : val b ≠ 0 := (brought_tri h).1 _ (List.mem_map.2 ⟨b, hb, rfl⟩)
  rw [firstI_val h1.1, if_neg h2]
  rfl
theorem firsts_small {rs : List (List Nat)} (h : Fit 1048576 rs) (i : Nat) : (firstsL (broughtL rs)).getD i 0 ≤ 1000000000 := by
  by_cases hi : i < (broughtL rs).length
  · rw [firstsL_get _ i hi]
    have h1 := (brought_fit h).getD i
    have := firstI_le h1.1
    omega
  · rw [getD_of_le (by rw [firstsL_len]; omega)]
    omega
theorem brought_count (rs : List (List Nat)) : (broughtL rs).length = (keepL rs rs.length).length := by rw [keep_brought rs _ (Nat.le_refl _), List.take_length]
/-- .. it is the choice. -/
theorem expr_choice {rs : List (List Nat)} (hf : Fit 1048576 rs) (hn : rs.length ≤ 100000) {xs : List Nat} (hx : smalls xs) {c : Nat} (hc : Choice rs xs c) : exprL rs xs = chosenL (keepL rs rs.length) (fun i => c.testBit i) (keepL rs rs.length).length := by
  have hnl := keep_len rs rs.length
  have hs1 := size_ok (keepL rs rs.length).length
  have hs2 := size_le (keepL rs rs.length).length (by omega)
  unfold exprL
  refine chosen_congr _ _ fun i hi => ?_
  refine express_bits hf (M' := 4000) (fs := firstsL (broughtL rs)) (firsts_low hf) ?_ ?_ ?_ (pick_small (zeros_small _) _ _ _) (pick_val hx (by omega)) (by rw [pick_len, zeros_len]; exact hs2) hc i
  · rw [List.length_take, marks_len]; omega
  · rw [← marks_take _ _ _ _ []]
    intro x hx
    have hx' := List.mem_of_mem_take hx
    obtain ⟨j, hj, rfl⟩ := List.getElem_of_mem hx
    rw [List.length_take, List.length_set, marks_len] at hj
    rw [List.getElem_take, List.getElem_set, if_neg (by omega)]
    simp only [marksL, List.getElem_map, List.getElem_range]
    split
    · exact ⟨markRow_small _ _ _ _ _, by rw [markRow_len]; exact hs2⟩
    · exact ⟨zeros_small _, by rw [zeros_len]; exact hs2⟩
  · intro j hj
    rw [List.getD_eq_getElem?_getD, List.getElem?_take_of_lt hj, ← List.getD_eq_getElem?_getD, marks_get _ _ _ _ _ _ (by omega), if_pos hj]
    exact mark_val (hf.getD _).1 (by omega) (by omega)
end Go.Proofs.YtnjdldbdkafnaaaGreatDoor
namespace Go.Proofs.YtnjdldbdkafnaaaGreatDoor
open Go.RowKit Go.Sort
set_option linter.unusedVariables false
set_option linter.unusedSimpArgs false
set_option maxRecDepth 4000

/-- Words written over others, from place o on. -/
def ovr : List Nat → Nat → List Nat → List Nat
  | xs, _, [] => xs
  | xs, o, y :: r => ovr (xs.set o y) (o + 1) r
theorem Own.setCells {B g : Nat} : ∀ (ys : List Nat) (w : World) (xs : List Nat) (o cap : Nat), Own w B (.slice (some ⟨g, 0, none⟩) xs.length cap) xs → smalls ys → Own (w.setCells g o (cellsU ys)) B (.slice (some ⟨g, 0, none⟩) xs.length cap) (ovr xs o ys)
  | [], w, xs, o, cap, h, _ => h
  | y :: r, w, xs, o, cap, h, hs => by
    have h1 := h.stored o y (hs y List.mem_cons_self)
    have h2 := Own.setCells r _ (xs.set o y) (o + 1) cap (by rw [List.length_set]; exact h1) hs.tail
    rw [List.length_set] at h2
    exact h2

/-- .. and span's. -/
def exL (rs : List (List Nat)) (xs : List Nat) : List Nat := if firstI (reduceL (broughtL rs) xs) < 0 then exprL rs xs else []
end Go.Proofs.YtnjdldbdkafnaaaGreatDoor
namespace Go.Proofs.YtnjdldbdkafnaaaGreatDoor
open Go.RowKit Go.Sort
set_option linter.unusedVariables false
set_option linter.unusedSimpArgs false
set_option maxRecDepth 4000

/-- The xor of the numbers f at the bits of a row, of the first n. -/
def ofN (f : Nat → Nat) (vs : List Nat) : Nat → Nat
  | 0 => 0
  | n + 1 => if getB vs n then ofN f vs n ^^^ f n else ofN f vs n
theorem ofL_getD (ss : List ByteArray) (vs : List Nat) (i : Nat) : ∀ n, (ofL ss vs n).getD i 0 = ofN (fun b => (tx (ss.getD b ByteArray.empty)).getD i 0) vs n
  | 0 => by simp [ofL, ofN]
  | n + 1 => by
    unfold ofL ofN
    split
    · rw [xorL_getD, ofL_getD ss vs i n]
    · exact ofL_getD ss vs i n
theorem ofN_split {f g : Nat → Nat} {xs kn : List Nat} (h1 : ∀ b, getB kn b = true → g b = f b) (h2 : ∀ b, getB kn b = false → g b = 0) : ∀ n, ofN f xs n ^^^ ofN g xs n = ofN f (dropL xs kn) n
  | 0 => by simp [ofN]
  | n + 1 => by
    have ih := ofN_split (xs := xs) h1 h2 n
    unfold ofN
    rw [dropL_bit]
    cases hx : getB xs n
    · simpa using ih
    · cases hk : getB kn n
      · rw [h2 n hk]
        simp only [Bool.not_false, Bool.and_true, if_true, Nat.xor_zero]
        rw [← ih, Nat.xor_assoc, Nat.xor_comm (f n), ← Nat.xor_assoc]
      · rw [h1 n hk]
        simp only [Bool.not_true, Bool.and_false, if_true, Bool.false_eq_true, if_false]
        rw [← ih, Nat.xor_assoc, Nat.xor_comm (f n), Nat.xor_assoc, Nat.xor_self, Nat.xor_zero]
theorem ofN_one {f : Nat → Nat} {vs : List Nat} {b : Nat} (h : ∀ i, getB vs i = decide (i = b)) : ∀ n, ofN f vs n = if b < n then f b else 0
  | 0 => by simp [ofN]
  | n + 1 => by
    unfold ofN
    rw [ofN_one h n, h n]
    by_cases e : n = b
    · subst e
      rw [decide_eq_true rfl, if_pos rfl, if_neg (by omega), if_pos (by omega)]
      exact Nat.zero_xor _
    · rw [decide_eq_false e, if_neg (by simp)]
      by_cases h1 : b < n
      · rw [if_pos h1, if_pos (by omega)]
      · rw [if_neg h1, if_neg (by omega)]
theorem holdsB_bytes {ss : List ByteArray} {vs : List Nat} {s : ByteArray} : holdsB ss vs s = true ↔ (∀ i, ofN (fun b => (tx (ss.getD b ByteArray.empty)).getD i 0) vs ss.length = (tx s).getD i 0) ∧ ∀ i, ss.length ≤ i → getB vs i = false := by
  rw [holdsB_iff, zeroB_iff]
  refine and_congr_left fun _ => ?_
  constructor
  · intro h i
    have := h i
    rw [tx_xorS, xorL_getD, tx_st (ofL_bytes _ _ _), ofL_getD] at this
    exact Ech.eq_of_xor this
  · intro h i
    rw [tx_xorS, xorL_getD, tx_st (ofL_bytes _ _ _), ofL_getD, h i, Nat.xor_self]
/-- What is known is true. -/
def KTrue (ss : List ByteArray) (kn : List Nat) (bs : List ByteArray) : Prop := ∀ b, getB kn b = true → ∀ i, (tx (bs.getD b ByteArray.empty)).getD i 0 = (tx (ss.getD b ByteArray.empty)).getD i 0
theorem txt_byte {ss : List ByteArray} {j : Nat} {kn : List Nat} {bs : List ByteArray} (hK : Kn (ss.length : Int) j kn bs) (hT : KTrue ss kn bs) {xs : List Nat} {s : ByteArray} (h : holdsB ss xs s = true) (i : Nat) :
    (tx (txtL bs xs s)).getD i 0 = ofN (fun b => (tx (ss.getD b ByteArray.empty)).getD i 0) (dropL xs kn) ss.length := by
  unfold txtL
  have hl := hK.lenb
  rw [Int.toNat_natCast] at hl
  rw [tx_xorS, xorL_getD, tx_st (ofL_bytes _ _ _), ofL_getD, hl, ← (holdsB_bytes.1 h).1 i]
  refine ofN_split (fun b hb => hT b hb i) (fun b hb => ?_) _
  show (tx (bs.getD b ByteArray.empty)).getD i 0 = 0
  rw [hK.none b hb]
  rfl
theorem Run.true {ss : List ByteArray} {rs : List RV} (hz : 0 < sizeOfK (ss.length : Int)) (hg : Good rs) (hh : ∀ r ∈ rs, holdsB ss r.xs r.s = true) : ∀ {j : Nat} {kn : List Nat} {bs : List ByteArray}, Run (ss.length : Int) rs j kn bs → KTrue ss kn bs
  | 0, kn, bs, ⟨h1, h2⟩ => fun b hb => by rw [h1, bit_zeros] at hb; cases hb
  | j + 1, kn, bs, ⟨kn0, bs0, r, h1, h2, h3, h4⟩ => by
    have hK := Run.known hz hg h1
    have hT := Run.true hz hg hh h1
    have hm := List.mem_of_find?_eq_some h2
    obtain ⟨hv, hbits, hk0, hx0, hbk, hfi⟩ := tells_bit (hg r hm).1 (List.find?_some h2)
    have hroom := size_room hz
    rw [Int.toNat_natCast] at hbk hroom
    subst h3 h4
    intro b hb i
    rw [bit_setB _ _ _ _ (by rw [hK.len]; omega)] at hb
    rw [getD_set_tx]
    by_cases e : b = blkOf kn0 r
    · rw [if_pos ⟨e, by rw [hK.lenb, Int.toNat_natCast]; exact hbk⟩, txt_byte hK hT (hh r hm), ofN_one hbits, if_pos hbk, e]
    · rw [if_neg e] at hb
      rw [if_neg (fun h => e h.1)]
      exact hT b hb i
theorem true_told {ss : List ByteArray} {rs : List RV} {kn : List Nat} {bs : List ByteArray} (hP : PeelP (ss.length : Int) rs kn bs) (hg : Good rs) (hh : ∀ r ∈ rs, holdsB ss r.xs r.s = true) : ∀ x ∈ toldTo (ss.length : Int) kn bs (ss.length : Int).toNat, holdsB ss x.1 x.2 = true := by
  intro x hx
  by_cases hz : sizeOfK (ss.length : Int) = 0
  · obtain ⟨p1, p2, _⟩ := peelP_none (rs := rs) hz
    obtain ⟨rfl, rfl⟩ := hP.uniq p1
    rw [p2] at hx; cases hx
  · obtain ⟨⟨j, hj⟩, _⟩ := hP
    have hK := Run.known (by omega) hg hj
    have hT := Run.true (by omega) hg hh hj
    obtain ⟨b, hb, hgb, rfl⟩ := told_mem hK hx
    rw [Int.toNat_natCast] at hb
    refine holdsB_bytes.2 ⟨fun i => ?_, fun i hi => ?_⟩
    · rw [ofN_one (unit_bit hK.size (by omega)), if_pos hb]
      exact (hT b hgb i).symm
    · rw [unit_bit hK.size (by omega), decide_eq_false (by omega)]
theorem true_rest {ss : List ByteArray} {rs : List RV} {kn : List Nat} {bs : List ByteArray} (hP : PeelP (ss.length : Int) rs kn bs) (hg : Good rs) (hh : ∀ r ∈ rs, holdsB ss r.xs r.s = true) : ∀ x ∈ restL (ss.length : Int) rs kn bs, holdsB ss x.1 x.2 = true := by
  intro x hx
  by_cases hz : sizeOfK (ss.length : Int) = 0
  · obtain ⟨p1, _, p3⟩ := peelP_none (rs := rs) hz
    obtain ⟨rfl, rfl⟩ := hP.uniq p1
    rw [p3] at hx; cases hx
  · obtain ⟨⟨j, hj⟩, _⟩ := hP
    have hK := Run.known (by omega) hg hj
    have hT := Run.true (by omega) hg hh hj
    unfold restL at hx
    rw [List.mem_map] at hx
    obtain ⟨r, hr, rfl⟩ := hx
    have hm := (List.mem_filter.1 hr).1
    refine holdsB_bytes.2 ⟨fun i => (txt_byte hK hT (hh r hm) i).symm, fun i hi => ?_⟩
    show getB (dropL r.xs kn) i = false
    rw [dropL_bit, (holdsB_bytes.1 (hh r hm)).2 i hi]
    rfl

end Go.Proofs.YtnjdldbdkafnaaaGreatDoor
