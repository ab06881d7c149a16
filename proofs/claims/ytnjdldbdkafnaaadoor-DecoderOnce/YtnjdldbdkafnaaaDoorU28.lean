/-
  Contracts of gauss.at, gauss.data: the rows at places, and the xor of their texts.
  Rows copied into a slice of the call's own by append: what its cells hold ('Fits'); slice expressions of rows; an append as a step of a region. No condition.
-/
import Derived.Test.YtnjdldbdkafnaaaDoorU22
import Derived.Test.YtnjdldbdkafnaaaDoorU26
import Derived.Test.YtnjdldbdkafnaaaDoorU27
namespace Go.Proofs.YtnjdldbdkafnaaaDoor
open Go.RowKit Go.Sort
set_option linter.unusedVariables false
set_option linter.unusedSimpArgs false
set_option maxRecDepth 4000

/-- The rows at places. -/
def atR (ts : List RV) (ps : List Nat) : List RV := ps.map fun i => ts.getD i .dflt
theorem atR_len (ts : List RV) (ps : List Nat) : (atR ts ps).length = ps.length := by simp [atR]
theorem atR_get (ts : List RV) (ps : List Nat) (k : Nat) (hk : k < ps.length) : (atR ts ps).getD k .dflt = ts.getD (ps.getD k 0) .dflt := by
  unfold atR
  rw [List.getD_eq_getElem?_getD, List.getElem?_map, List.getElem?_eq_getElem hk, List.getD_eq_getElem?_getD (l := ps), List.getElem?_eq_getElem hk]
  rfl
theorem RowsIn.atR {w : World} {ts : List RV} {ps : List Nat} (h : RowsIn w ts) (hp : ∀ i ∈ ps, i < ts.length) : RowsIn w (atR ts ps) := fun r hr => by
  obtain ⟨i, hi, rfl⟩ := List.mem_map.1 hr
  exact h.get (hp i hi)

set_option maxHeartbeats 2000000 in
theorem at_any (a : Option Addr) (n c : Nat) (ts : List RV) (ap : Option Addr) (np cp : Nat) (ps : List Nat) (w : World) (h : RowsAt w a n ts) (hp : IntsAt w ap np ps) (hl : ∀ i ∈ ps, i < n) (hn : n ≤ 1048576) (hnp : np ≤ 1048576) :
    Calls Tryd.prog 75 #[.slice a n c, .slice ap np cp] w fun e w' => ∃ v, e = .returned v ∧ OwnS w' w.heap.size v (atR ts ps) ∧ Below w.heap.size w w' := by
  obtain rfl := hp.1
  have Hh := hide h
  have HP := hide hp
  have HL := hide hl
  have hmk := make_r ps.length hnp
  have HM := hide (made_r w ps.length hnp (filR (atR ts ps) 0) (by rw [filR_zero, atR_len]))
  have HBM : Hid (Below w.heap.size w (w.alloc (.cells (madeCells #[.slice none 0 0, .string ⟨#[]⟩] (ps.length * 2)) 31))) := hide ((Below.refl _ _).alloc (Nat.le_refl _) _)
  clear h hp hl
  go_enter Tryd.func75, Tryd.ntmps75
  go_wp2
  go_loopw [13] (fun i wr => ∃ k : Nat, k ≤ ps.length ∧ i = .int .i64 k ∧ Hid (OwnS wr w.heap.size (.slice (some ⟨w.heap.size, 0, none⟩) ps.length ps.length) (filR (atR ts ps) k)) ∧ Hid (Below w.heap.size w wr)) (fun i _ => ps.length - (intOf i).toNat)
  case atStart => exact ⟨0, Nat.zero_le _, rfl, HM, HBM⟩
  case round =>
    obtain ⟨k, hk, rfl, HI, HB⟩ := hrel
    clear HM HBM
    by_cases hlt : k < ps.length
    · obtain ⟨bp, offp, rfl, hclp⟩ := ((unhide HP).below (unhide HB)).at hlt
      have hcp := hclp k hlt
      have hpl : ps.getD k 0 < n := unhide HL _ (by rw [List.getD_eq_getElem?_getD, List.getElem?_eq_getElem hlt]; exact List.getElem_mem hlt)
      obtain ⟨b, off, rfl, hcl⟩ := ((unhide Hh).below (unhide HB)).at hpl
      obtain ⟨hc0, hc1⟩ := hcl _ hpl
      have hlt' : (k : Int) < (ps.length : Int) := by omega
      have hS := filR_succ (atR ts ps) k (by rw [atR_len]; exact hlt)
      rw [atR_get ts ps k hlt] at hS
      generalize ps.getD k 0 = p at *
      have hpl' : (p : Int) < (n : Int) := by omega
      generalize ts.getD p .dflt = r at *
      have hI := unhide HI
      have hfl : (filR (atR ts ps) k).length = ps.length := by rw [filR_length _ _ (by rw [atR_len]; exact hk), atR_len]
      have hcg := cellsR_get (filR (atR ts ps) k) k (by omega)
      have hcell0 := hI.cellAt hcg.1
      have hcell1 := hI.cellAt hcg.2
      have hI' : wr.ownsRow w.heap.size 31 2 (.slice (some ⟨w.heap.size, 0, none⟩) ps.length ps.length) ps.length (cellsR (filR (atR ts ps) k)) := by
        have : wr.ownsRow w.heap.size 31 2 (.slice (some ⟨w.heap.size, 0, none⟩) ps.length ps.length) (filR (atR ts ps) k).length (cellsR (filR (atR ts ps) k)) := hI
        rwa [hfl] at this
      have hfz0 := hI'.frozenAt (k * 2)
      have hfz1 := hI'.frozenAt (k * 2 + 1)
      have hs2 := hI.stored k r
      rw [hS] at hs2
      have HS := hide hs2
      have HB2 := hide (((unhide HB).setCell (p := ⟨w.heap.size, k * 2, none⟩) (Nat.le_refl _) (.slice r.a r.n r.c)).setCell (p := ⟨w.heap.size, k * 2 + 1, none⟩) (Nat.le_refl _) (.string r.s))
      clear hcl hclp hI hI' hs2 hS hcg hfl HI HB
      generalize (filR (atR ts ps) k).getD k .dflt = z at *
      go_wp2
      go_roundw
      case rel => exact ⟨k + 1, by omega, by go_num, HS, HB2⟩
      case measure => simp [intOf]; omega
    · obtain rfl : k = ps.length := by omega
      rw [show ps.length = (atR ts ps).length from (atR_len ts ps).symm, filR_all, atR_len] at HI
      go_wp2
      go_ret
      exact ⟨_, rfl, unhide HI, unhide HB⟩
end Go.Proofs.YtnjdldbdkafnaaaDoor
namespace Go.Proofs.YtnjdldbdkafnaaaDoor
open Go.RowKit Go.Sort
set_option linter.unusedVariables false
set_option linter.unusedSimpArgs false
set_option maxRecDepth 4000

/-- Cells that are rows of words that can be read. -/
def Fits (w : World) (cs : List Value) (rs : List (List Nat)) : Prop := cs.length = rs.length ∧ ∀ i u, cs[i]? = some u → ∃ ai ci, u = .slice ai (rs.getD i []).length ci ∧ RowAt w ai (rs.getD i []).length (rs.getD i []) ∧ (rs.getD i []).length ≤ ci
theorem Fits.below {w w' : World} {cs : List Value} {rs : List (List Nat)} (h : Fits w cs rs) (hb : Below w.heap.size w w') : Fits w' cs rs := ⟨h.1, fun i u hu => by
  obtain ⟨ai, ci, e, hr, hk⟩ := h.2 i u hu
  exact ⟨ai, ci, e, hr.below hb, hk⟩⟩
theorem Fits.append {w : World} {cs ds : List Value} {rs ss : List (List Nat)} (h : Fits w cs rs) (k : Fits w ds ss) : Fits w (cs ++ ds) (rs ++ ss) := by
  refine ⟨by simp [h.1, k.1], fun i u hu => ?_⟩
  by_cases hi : i < cs.length
  · rw [List.getElem?_append_left hi] at hu
    have e : (rs ++ ss).getD i [] = rs.getD i [] := by rw [List.getD_eq_getElem?_getD, List.getElem?_append_left (by rw [← h.1]; exact hi), ← List.getD_eq_getElem?_getD]
    rw [e]
    exact h.2 i u hu
  · rw [List.getElem?_append_right (by omega)] at hu
    have e : (rs ++ ss).getD i [] = ss.getD (i - cs.length) [] := by rw [List.getD_eq_getElem?_getD, List.getElem?_append_right (by rw [← h.1]; omega), ← List.getD_eq_getElem?_getD, h.1]
    rw [e]
    exact k.2 _ u hu
theorem Fits.take {w : World} {cs : List Value} {rs : List (List Nat)} (h : Fits w cs rs) (q : Nat) : Fits w (cs.take q) (rs.take q) := by
  refine ⟨by simp [h.1], fun i u hu => ?_⟩
  have hi : i < q := by
    have := (List.getElem?_eq_some_iff.1 hu).1
    rw [List.length_take] at this
    omega
  rw [List.getElem?_take_of_lt hi] at hu
  have e : (rs.take q).getD i [] = rs.getD i [] := by rw [List.getD_eq_getElem?_getD, List.getElem?_take_of_lt hi, ← List.getD_eq_getElem?_getD]
  rw [e]
  exact h.2 i u hu
theorem Fits.drop {w : World} {cs : List Value} {rs : List (List Nat)} (h : Fits w cs rs) (q : Nat) : Fits w (cs.drop q) (rs.drop q) := by
  refine ⟨by simp [h.1], fun i u hu => ?_⟩
  rw [List.getElem?_drop] at hu
  have e : (rs.drop q).getD i [] = rs.getD (q + i) [] := by rw [List.getD_eq_getElem?_getD, List.getElem?_drop, ← List.getD_eq_getElem?_getD]
  rw [e]
  exact h.2 _ u hu
theorem Fits.one {w : World} {cs : List Value} {rs : List (List Nat)} (h : Fits w cs rs) : ∀ u ∈ cs, u.oneCell' = true := by
  intro u hu
  obtain ⟨i, hi, rfl⟩ := List.getElem_of_mem hu
  obtain ⟨a, c, e, _⟩ := h.2 i _ (List.getElem?_eq_getElem hi)
  rw [e]; rfl
theorem VecsAt.cells {w : World} {b off n : Nat} {rs : List (List Nat)} (h : VecsAt w (some ⟨b, off, none⟩) n rs) : ∃ cs, Fits w cs rs ∧ ∀ i u, cs[i]? = some u → w.cell? ⟨b, off + i, none⟩ = some u := by
  have key : ∀ m, m ≤ n → ∃ cs : List Value, cs.length = m ∧ ∀ i u, cs[i]? = some u → w.cell? ⟨b, off + i, none⟩ = some u ∧ ∃ ai ci, u = .slice ai (rs.getD i []).length ci ∧ RowAt w ai (rs.getD i []).length (rs.getD i []) ∧ (rs.getD i []).length ≤ ci := by
    intro m
    induction m with
    | zero => exact fun _ => ⟨[], rfl, fun i u hu => by simp at hu⟩
    | succ m ih =>
      intro hm
      obtain ⟨cs, hl, hcs⟩ := ih (by omega)
      obtain ⟨b2, off2, e, hc⟩ := h.at (show m < n by omega)
      simp only [Option.some.injEq, Addr.mk.injEq, and_true] at e
      obtain ⟨rfl, rfl⟩ := e
      obtain ⟨ai, ci, h1, h2⟩ := hc m (by omega)
      refine ⟨cs ++ [.slice ai (rs.getD m []).length ci], by simp [hl], fun i u hu => ?_⟩
      by_cases hi : i < m
      · rw [List.getElem?_append_left (by omega)] at hu
        exact hcs i u hu
      · rw [List.getElem?_append_right (by omega)] at hu
        have him : i = m := by
          have := (List.getElem?_eq_some_iff.1 hu).1
          simp at this
          omega
        subst him
        rw [hl, Nat.sub_self] at hu
        simp at hu
        subst hu
        exact ⟨h1, ai, ci, rfl, h2, h.cap (by omega) h1⟩
  obtain ⟨cs, hl, hcs⟩ := key n (Nat.le_refl _)
  exact ⟨cs, ⟨by rw [hl, h.1], fun i u hu => (hcs i u hu).2⟩, fun i u hu => (hcs i u hu).1⟩
theorem Fits.vecs {w : World} {B : Nat} {v : Value} {n : Nat} {cs : List Value} {rs : List (List Nat)} (h : w.ownsRow B 29 1 v n cs) (k : Fits w cs rs) : ∃ a c, v = .slice a n c ∧ VecsAt w a n rs := by
  have hl : cs.length = n := by simpa using h.1
  rcases h.2 with ⟨rfl, h0⟩ | ⟨g, cap, cur, rfl, hb, hg, hnc, hcm, hcs, ht⟩
  · exact ⟨none, 0, by rw [h0], by rw [← k.1, hl], .inl h0, fun _ _ _ _ _ _ e => by cases e⟩
  · have hcell : ∀ i (hi : i < cs.length), w.cell? ⟨g, i, none⟩ = some cs[i] := fun i hi => by
      rw [cell_of_row w g i _ _ _ hg, ← Array.getElem?_toList, ← List.getElem?_eq_getElem hi, ← ht, List.getElem?_take_of_lt (by omega)]
    refine ⟨_, cap, rfl, by rw [← k.1, hl], .inr ⟨g, 0, rfl, fun i hi => ?_⟩, fun b off i ai j ci e hi hc => ?_⟩
    · have hiv : i < cs.length := by omega
      obtain ⟨a, c, e, hr, _⟩ := k.2 i cs[i] (List.getElem?_eq_getElem hiv)
      refine ⟨a, c, ?_, hr⟩
      rw [Nat.zero_add, hcell i hiv, e]
    · simp only [Option.some.injEq, Addr.mk.injEq, and_true] at e
      obtain ⟨rfl, rfl⟩ := e
      have hiv : i < cs.length := by omega
      obtain ⟨a, c, e, _, hk⟩ := k.2 i cs[i] (List.getElem?_eq_getElem hiv)
      rw [Nat.zero_add, hcell i hiv, e] at hc
      simp only [Option.some.injEq, Value.slice.injEq] at hc
      omega

theorem elem_vecs : Tryd.prog.underlying 65 = some (.slice (Tryd.prog.elem 65)) := by kernel_rfl
theorem elem_vecs' : Tryd.prog.elem 65 = 29 := by kernel_rfl
theorem vslice_hi (b off n c q : Nat) (hc : q ≤ c) (w : World) :
    (Instr.sliceAt 65 (.slice (some ⟨b, off, none⟩) n c) none (some (.int .i64 (q : Int))) none).run Tryd.prog w = .ok (.slice (some ⟨b, off, none⟩) q c) w := by
  rw [run_sliceAt_slice _ _ _ _ _ _ elem_vecs, run_slice_h _ _ _ _ _ elem_vecs _ _ (by omega) (by omega), elem_vecs', size_u64s]
  simp [Result.andThen, sliced, Addr.add]

end Go.Proofs.YtnjdldbdkafnaaaDoor
