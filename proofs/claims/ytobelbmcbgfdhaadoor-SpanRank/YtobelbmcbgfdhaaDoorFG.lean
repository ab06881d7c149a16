/-
  Rows copied into a slice of the call's own by append: what its cells hold ('Fits'); slice expressions of rows; an append as a step of a region. No condition.
-/
import Derived.Test.YtobelbmcbgfdhaaDoorEG
namespace Go.Proofs.YtobelbmcbgfdhaaDoor
open Go.RowKit Go.Sort
set_option linter.unusedVariables false

/-- Cells that are rows of words that can be read. -/
def Fits (w : World) (cs : List Value) (rs : List (List Nat)) : Prop := cs.length = rs.length ∧ ∀ i u, cs[i]? = some u → ∃ ai ci, u = .slice ai (rs.getD i []).length ci ∧ RowAt w ai (rs.getD i []).length (rs.getD i []) ∧ (rs.getD i []).length ≤ ci
theorem Fits.below {w w' : World} {cs : List Value} {rs : List (List Nat)} (h : Fits w cs rs) (hb : Below w.heap.size w w') : Fits w' cs rs := ⟨h.1, fun i u hu => by
  obtain ⟨ai, ci, e, hr, hk⟩ := h.2 i u hu
  exact ⟨ai, ci, e, hr.below hb, hk⟩⟩
theorem Fits.append {w : World} {cs ds : List Value} {rs ss : List (List Nat)} (h : Fits w cs rs) (k : Fits w ds ss) : Fits w (cs ++ ds) (rs ++ ss) := by
  refine ⟨by simp [h.1, k.1], fun i u hu => ?_⟩
  by_cases hi : i < cs.length
  · rw [List.getElem?_append_left hi] at hu
    have e : (rs ++ ss).getD i [] = rs.getD i [] := by rw [List.getD_eq_getElem?_getD, List.getElem?_append_left (by rw [← h.1]; exact hi), ← List.getD_eq_getElem?_getD]
    rw [e]
    exact h.2 i u hu
  · rw [List.getElem?_append_right (by omega)] at hu
    have e : (rs ++ ss).getD i [] = ss.getD (i - cs.length) [] := by rw [List.getD_eq_getElem?_getD, List.getElem?_append_right (by rw [← h.1]; omega), ← List.getD_eq_getElem?_getD, h.1]
    rw [e]
    exact k.2 _ u hu
theorem Fits.take {w : World} {cs : List Value} {rs : List (List Nat)} (h : Fits w cs rs) (q : Nat) : Fits w (cs.take q) (rs.take q) := by
  refine ⟨by simp [h.1], fun i u hu => ?_⟩
  have hi : i < q := by
    have := (List.getElem?_eq_some_iff.1 hu).1
    rw [List.length_take] at this
    omega
  rw [List.getElem?_take_of_lt hi] at hu
  have e : (rs.take q).getD i [] = rs.getD i [] := by rw [List.getD_eq_getElem?_getD, List.getElem?_take_of_lt hi, ← List.getD_eq_getElem?_getD]
  rw [e]
  exact h.2 i u hu
theorem Fits.drop {w : World} {cs : List Value} {rs : List (List Nat)} (h : Fits w cs rs) (q : Nat) : Fits w (cs.drop q) (rs.drop q) := by
  refine ⟨by simp [h.1], fun i u hu => ?_⟩
  rw [List.getElem?_drop] at hu
  have e : (rs.drop q).getD i [] = rs.getD (q + i) [] := by rw [List.getD_eq_getElem?_getD, List.getElem?_drop, ← List.getD_eq_getElem?_getD]
  rw [e]
  exact h.2 _ u hu
theorem Fits.one {w : World} {cs : List Value} {rs : List (List Nat)} (h : Fits w cs rs) : ∀ u ∈ cs, u.oneCell' = true := by
  intro u hu
  obtain ⟨i, hi, rfl⟩ := List.getElem_of_mem hu
  obtain ⟨a, c, e, _⟩ := h.2 i _ (List.getElem?_eq_getElem hi)
  rw [e]; rfl
theorem VecsAt.cells {w : World} {b off n : Nat} {rs : List (List Nat)} (h : VecsAt w (some ⟨b, off, none⟩) n rs) : ∃ cs, Fits w cs rs ∧ ∀ i u, cs[i]? = some u → w.cell? ⟨b, off + i, none⟩ = some u := by
  have key : ∀ m, m ≤ n → ∃ cs : List Value, cs.length = m ∧ ∀ i u, cs[i]? = some u → w.cell? ⟨b, off + i, none⟩ = some u ∧ ∃ ai ci, u = .slice ai (rs.getD i []).length ci ∧ RowAt w ai (rs.getD i []).length (rs.getD i []) ∧ (rs.getD i []).length ≤ ci := by
    intro m
    induction m with
    | zero => exact fun _ => ⟨[], rfl, fun i u hu => by simp at hu⟩
    | succ m ih =>
      intro hm
      obtain ⟨cs, hl, hcs⟩ := ih (by omega)
      obtain ⟨b2, off2, e, hc⟩ := h.at (show m < n by omega)
      simp only [Option.some.injEq, Addr.mk.injEq, and_true] at e
      obtain ⟨rfl, rfl⟩ := e
      obtain ⟨ai, ci, h1, h2⟩ := hc m (by omega)
      refine ⟨cs ++ [.slice ai (rs.getD m []).length ci], by simp [hl], fun i u hu => ?_⟩
      by_cases hi : i < m
      · rw [List.getElem?_append_left (by omega)] at hu
        exact hcs i u hu
      · rw [List.getElem?_append_right (by omega)] at hu
        have him : i = m := by
          have := (List.getElem?_eq_some_iff.1 hu).1
          simp at this
          omega
        subst him
        rw [hl, Nat.sub_self] at hu
        simp at hu
        subst hu
        exact ⟨h1, ai, ci, rfl, h2, h.cap (by omega) h1⟩
  obtain ⟨cs, hl, hcs⟩ := key n (Nat.le_refl _)
  exact ⟨cs, ⟨by rw [hl, h.1], fun i u hu => (hcs i u hu).2⟩, fun i u hu => (hcs i u hu).1⟩
theorem Fits.vecs {w : World} {B : Nat} {v : Value} {n : Nat} {cs : List Value} {rs : List (List Nat)} (h : w.ownsRow B 23 1 v n cs) (k : Fits w cs rs) : ∃ a c, v = .slice a n c ∧ VecsAt w a n rs := by
  have hl : cs.length = n := by simpa using h.1
  rcases h.2 with ⟨rfl, h0⟩ | ⟨g, cap, cur, rfl, hb, hg, hnc, hcm, hcs, ht⟩
  · exact ⟨none, 0, by rw [h0], by rw [← k.1, hl], .inl h0, fun _ _ _ _ _ _ e => by cases e⟩
  · have hcell : ∀ i (hi : i < cs.length), w.cell? ⟨g, i, none⟩ = some cs[i] := fun i hi => by
      rw [cell_of_row w g i _ _ _ hg, ← Array.getElem?_toList, ← List.getElem?_eq_getElem hi, ← ht, List.getElem?_take_of_lt (by omega)]
    refine ⟨_, cap, rfl, by rw [← k.1, hl], .inr ⟨g, 0, rfl, fun i hi => ?_⟩, fun b off i ai j ci e hi hc => ?_⟩
    · have hiv : i < cs.length := by omega
      obtain ⟨a, c, e, hr, _⟩ := k.2 i cs[i] (List.getElem?_eq_getElem hiv)
      refine ⟨a, c, ?_, hr⟩
      rw [Nat.zero_add, hcell i hiv, e]
    · simp only [Option.some.injEq, Addr.mk.injEq, and_true] at e
      obtain ⟨rfl, rfl⟩ := e
      have hiv : i < cs.length := by omega
      obtain ⟨a, c, e, _, hk⟩ := k.2 i cs[i] (List.getElem?_eq_getElem hiv)
      rw [Nat.zero_add, hcell i hiv, e] at hc
      simp only [Option.some.injEq, Value.slice.injEq] at hc
      omega

theorem elem_vecs : Tryd.prog.underlying 22 = some (.slice (Tryd.prog.elem 22)) := by kernel_rfl
theorem elem_vecs' : Tryd.prog.elem 22 = 23 := by kernel_rfl
theorem vslice_lo (b off n c q : Nat) (hq : q ≤ n) (hc : q < c) (w : World) :
    (Instr.sliceAt 22 (.slice (some ⟨b, off, none⟩) n c) (some (.int .i64 (q : Int))) none none).run Tryd.prog w = .ok (.slice (some ⟨b, off + q, none⟩) (n - q) (c - q)) w := by
  rw [run_sliceAt_slice _ _ _ _ _ _ elem_vecs, run_slice_l _ _ _ _ _ elem_vecs _ _ (by omega) (by omega), elem_vecs', size_u64s]
  have e : ¬ c = q := by omega
  simp [Result.andThen, sliced, e, Addr.add]
theorem vslice_hi (b off n c q : Nat) (hc : q ≤ c) (w : World) :
    (Instr.sliceAt 22 (.slice (some ⟨b, off, none⟩) n c) none (some (.int .i64 (q : Int))) none).run Tryd.prog w = .ok (.slice (some ⟨b, off, none⟩) q c) w := by
  rw [run_sliceAt_slice _ _ _ _ _ _ elem_vecs, run_slice_h _ _ _ _ _ elem_vecs _ _ (by omega) (by omega), elem_vecs', size_u64s]
  simp [Result.andThen, sliced, Addr.add]
/-- append(own, rows...) as one step of a region that draws its order. -/
theorem append_region {ops : Array Oper} {o : Oper} {a : Act} {w : World} {K : Act → World → Prop} {Q : Exit → Act → World → Prop} {E : Prop} (hg : o.guard = none) (s x : Operand)
    (ho : o.op = .call { callee := .builtin .append, args := #[s, x], argTypes := #[22, 22] }) (B : Nat) (v : Value) (n : Nat) (xs : List Value) (hs : a.eval s = v) (hown : w.ownsRow B 23 1 v n xs)
    (ad : Addr) (m c : Nat) (news : List Value) (hx : a.eval x = .slice (some ad) m c) (hl : news.length = m) (hnews : ∀ j u, news[j]? = some u → w.cell? (ad.add j) = some u) (h1 : ∀ u ∈ news, u.oneCell' = true) (hn : n + m ≤ 1000000) (hB : B ≤ w.heap.size)
    (h : ∀ v' w', w'.ownsRow B 23 1 v' (n + m) (xs ++ news) → w.grownBy w' v.ownBlock → K (a.put o.dst v') w') :
    if Region.wanted o (yielded ops a.tmps) = true then Oper.wp Tryd.prog o a w K Q else E := by
  obtain ⟨i0, hi, hz0, hz1, hz2⟩ := info_parts info_u64s
  rw [if_pos (by simp [Region.wanted, hg])]
  exact wp_append_own w s x 22 ho B 23 i0 (.slice none 0 0) 1 24 Tryd.underlying22 hi hz0 hz1 hz2 rfl (by decide) v n xs hs hown ad m c news hx (by omega) hnews h1 (by unfold maxLen; omega) (by omega) hB (fun v' w' h2 h3 _ => h v' w' h2 h3)
/-- An operation behind a guard that lets it by. -/
theorem wpList_wanted {ops : Array Oper} {rest : List Oper} {o : Oper} {a : Act} {w : World} {Q : Exit → Act → World → Prop} (hw : Region.wanted o (yielded ops a.tmps) = true)
    (h : ∀ K : Act → World → Prop, (∀ a w, wpList Tryd.prog ops Q rest a w → K a w) → o.wp Tryd.prog a w K Q) : wpList Tryd.prog ops Q (o :: rest) a w :=
  wpList_step fun K hK => by rw [if_pos hw]; exact h K hK
theorem add_off (b off i : Nat) : (⟨b, off, none⟩ : Addr).add i = ⟨b, off + i, none⟩ := by
  unfold Addr.add
  split
  · rename_i h; simp_all
  · rfl

end Go.Proofs.YtobelbmcbgfdhaaDoor
