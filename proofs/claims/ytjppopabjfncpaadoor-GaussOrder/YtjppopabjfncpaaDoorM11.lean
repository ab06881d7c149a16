/-
  Rows copied into a slice of the call's own by append: what its cells hold ('Fits'); slice expressions of rows; an append as a step of a region. No condition.
  What span.Express tells, on plain lists. Of no program but for the rows' memory; words below 2^64.
  Contracts of bucketlineref01.Ints, bucketlineref03.In, bucketlineref04.Keep, Fresh: for rows of at most 2^20 words.
-/
import Derived.Test.YtjppopabjfncpaaDoorM9
import Derived.Test.YtjppopabjfncpaaDoorM10
namespace Go.Proofs.YtjppopabjfncpaaDoor
open Go.RowKit Go.Sort
set_option linter.unusedVariables false
set_option maxRecDepth 4000

/-- Cells that are rows of words that can be read. -/
def Fits (w : World) (cs : List Value) (rs : List (List Nat)) : Prop := cs.length = rs.length ∧ ∀ i u, cs[i]? = some u → ∃ ai ci, u = .slice ai (rs.getD i []).length ci ∧ RowAt w ai (rs.getD i []).length (rs.getD i []) ∧ (rs.getD i []).length ≤ ci
theorem Fits.below {w w' : World} {cs : List Value} {rs : List (List Nat)} (h : Fits w cs rs) (hb : Below w.heap.size w w') : Fits w' cs rs := ⟨h.1, fun i u hu => by
  obtain ⟨ai, ci, e, hr, hk⟩ := h.2 i u hu
  exact ⟨ai, ci, e, hr.below hb, hk⟩⟩
theorem Fits.append {w : World} {cs ds : List Value} {rs ss : List (List Nat)} (h : Fits w cs rs) (k : Fits w ds ss) : Fits w (cs ++ ds) (rs ++ ss) := by
  refine ⟨by simp [h.1, k.1], fun i u hu => ?_⟩
  by_cases hi : i < cs.length
  · rw [List.getElem?_append_left hi] at hu
    have e : (rs ++ ss).getD i [] = rs.getD i [] := by rw [List.getD_eq_getElem?_getD, List.getElem?_append_left (by rw [← h.1]; exact hi), ← List.getD_eq_getElem?_getD]
    rw [e]
    exact h.2 i u hu
  · rw [List.getElem?_append_right (by omega)] at hu
    have e : (rs ++ ss).getD i [] = ss.getD (i - cs.length) [] := by rw [List.getD_eq_getElem?_getD, List.getElem?_append_right (by rw [← h.1]; omega), ← List.getD_eq_getElem?_getD, h.1]
    rw [e]
    exact k.2 _ u hu
theorem Fits.take {w : World} {cs : List Value} {rs : List (List Nat)} (h : Fits w cs rs) (q : Nat) : Fits w (cs.take q) (rs.take q) := by
  refine ⟨by simp [h.1], fun i u hu => ?_⟩
  have hi : i < q := by
    have := (List.getElem?_eq_some_iff.1 hu).1
    rw [List.length_take] at this
    omega
  rw [List.getElem?_take_of_lt hi] at hu
  have e : (rs.take q).getD i [] = rs.getD i [] := by rw [List.getD_eq_getElem?_getD, List.getElem?_take_of_lt hi, ← List.getD_eq_getElem?_getD]
  rw [e]
  exact h.2 i u hu
theorem Fits.drop {w : World} {cs : List Value} {rs : List (List Nat)} (h : Fits w cs rs) (q : Nat) : Fits w (cs.drop q) (rs.drop q) := by
  refine ⟨by simp [h.1], fun i u hu => ?_⟩
  rw [List.getElem?_drop] at hu
  have e : (rs.drop q).getD i [] = rs.getD (q + i) [] := by rw [List.getD_eq_getElem?_getD, List.getElem?_drop, ← List.getD_eq_getElem?_getD]
  rw [e]
  exact h.2 _ u hu
theorem Fits.one {w : World} {cs : List Value} {rs : List (List Nat)} (h : Fits w cs rs) : ∀ u ∈ cs, u.oneCell' = true := by
  intro u hu
  obtain ⟨i, hi, rfl⟩ := List.getElem_of_mem hu
  obtain ⟨a, c, e, _⟩ := h.2 i _ (List.getElem?_eq_getElem hi)
  rw [e]; rfl
theorem VecsAt.cells {w : World} {b off n : Nat} {rs : List (List Nat)} (h : VecsAt w (some ⟨b, off, none⟩) n rs) : ∃ cs, Fits w cs rs ∧ ∀ i u, cs[i]? = some u → w.cell? ⟨b, off + i, none⟩ = some u := by
  have key : ∀ m, m ≤ n → ∃ cs : List Value, cs.length = m ∧ ∀ i u, cs[i]? = some u → w.cell? ⟨b, off + i, none⟩ = some u ∧ ∃ ai ci, u = .slice ai (rs.getD i []).length ci ∧ RowAt w ai (rs.getD i []).length (rs.getD i []) ∧ (rs.getD i []).length ≤ ci := by
    intro m
    induction m with
    | zero => exact fun _ => ⟨[], rfl, fun i u hu => by simp at hu⟩
    | succ m ih =>
      intro hm
      obtain ⟨cs, hl, hcs⟩ := ih (by omega)
      obtain ⟨b2, off2, e, hc⟩ := h.at (show m < n by omega)
      simp only [Option.some.injEq, Addr.mk.injEq, and_true] at e
      obtain ⟨rfl, rfl⟩ := e
      obtain ⟨ai, ci, h1, h2⟩ := hc m (by omega)
      refine ⟨cs ++ [.slice ai (rs.getD m []).length ci], by simp [hl], fun i u hu => ?_⟩
      by_cases hi : i < m
      · rw [List.getElem?_append_left (by omega)] at hu
        exact hcs i u hu
      · rw [List.getElem?_append_right (by omega)] at hu
        have him : i = m := by
          have := (List.getElem?_eq_some_iff.1 hu).1
          simp at this
          omega
        subst him
        rw [hl, Nat.sub_self] at hu
        simp at hu
        subst hu
        exact ⟨h1, ai, ci, rfl, h2, h.cap (by omega) h1⟩
  obtain ⟨cs, hl, hcs⟩ := key n (Nat.le_refl _)
  exact ⟨cs, ⟨by rw [hl, h.1], fun i u hu => (hcs i u hu).2⟩, fun i u hu => (hcs i u hu).1⟩
theorem Fits.vecs {w : World} {B : Nat} {v : Value} {n : Nat} {cs : List Value} {rs : List (List Nat)} (h : w.ownsRow B 35 1 v n cs) (k : Fits w cs rs) : ∃ a c, v = .slice a n c ∧ VecsAt w a n rs := by
  have hl : cs.length = n := by simpa using h.1
  rcases h.2 with ⟨rfl, h0⟩ | ⟨g, cap, cur, rfl, hb, hg, hnc, hcm, hcs, ht⟩
  · exact ⟨none, 0, by rw [h0], by rw [← k.1, hl], .inl h0, fun _ _ _ _ _ _ e => by cases e⟩
  · have hcell : ∀ i (hi : i < cs.length), w.cell? ⟨g, i, none⟩ = some cs[i] := fun i hi => by
      rw [cell_of_row w g i _ _ _ hg, ← Array.getElem?_toList, ← List.getElem?_eq_getElem hi, ← ht, List.getElem?_take_of_lt (by omega)]
    refine ⟨_, cap, rfl, by rw [← k.1, hl], .inr ⟨g, 0, rfl, fun i hi => ?_⟩, fun b off i ai j ci e hi hc => ?_⟩
    · have hiv : i < cs.length := by omega
      obtain ⟨a, c, e, hr, _⟩ := k.2 i cs[i] (List.getElem?_eq_getElem hiv)
      refine ⟨a, c, ?_, hr⟩
      rw [Nat.zero_add, hcell i hiv, e]
    · simp only [Option.some.injEq, Addr.mk.injEq, and_true] at e
      obtain ⟨rfl, rfl⟩ := e
      have hiv : i < cs.length := by omega
      obtain ⟨a, c, e, _, hk⟩ := k.2 i cs[i] (List.getElem?_eq_getElem hiv)
      rw [Nat.zero_add, hcell i hiv, e] at hc
      simp only [Option.some.injEq, Value.slice.injEq] at hc
      omega

theorem elem_vecs : Tryd.prog.underlying 44 = some (.slice (Tryd.prog.elem 44)) := by kernel_rfl
theorem elem_vecs' : Tryd.prog.elem 44 = 35 := by kernel_rfl
theorem vslice_lo (b off n c q : Nat) (hq : q ≤ n) (hc : q < c) (w : World) :
    (Instr.sliceAt 44 (.slice (some ⟨b, off, none⟩) n c) (some (.int .i64 (q : Int))) none none).run Tryd.prog w = .ok (.slice (some ⟨b, off + q, none⟩) (n - q) (c - q)) w := by
  rw [run_sliceAt_slice _ _ _ _ _ _ elem_vecs, run_slice_l _ _ _ _ _ elem_vecs _ _ (by omega) (by omega), elem_vecs', size_u64s]
  have e : ¬ c = q := by omega
  simp [Result.andThen, sliced, e, Addr.add]
theorem vslice_hi (b off n c q : Nat) (hc : q ≤ c) (w : World) :
    (Instr.sliceAt 44 (.slice (some ⟨b, off, none⟩) n c) none (some (.int .i64 (q : Int))) none).run Tryd.prog w = .ok (.slice (some ⟨b, off, none⟩) q c) w := by
  rw [run_sliceAt_slice _ _ _ _ _ _ elem_vecs, run_slice_h _ _ _ _ _ elem_vecs _ _ (by omega) (by omega), elem_vecs', size_u64s]
  simp [Result.andThen, sliced, Addr.add]
/-- append(own, rows...) as one step of a region that draws its order. -/
theorem append_region {ops : Array Oper} {o : Oper} {a : Act} {w : World} {K : Act → World → Prop} {Q : Exit → Act → World → Prop} {E : Prop} (hg : o.guard = none) (s x : Operand)
    (ho : o.op = .call { callee := .builtin .append, args := #[s, x], argTypes := #[44, 44] }) (B : Nat) (v : Value) (n : Nat) (xs : List Value) (hs : a.eval s = v) (hown : w.ownsRow B 35 1 v n xs)
    (ad : Addr) (m c : Nat) (news : List Value) (hx : a.eval x = .slice (some ad) m c) (hl : news.length = m) (hnews : ∀ j u, news[j]? = some u → w.cell? (ad.add j) = some u) (h1 : ∀ u ∈ news, u.oneCell' = true) (hn : n + m ≤ 1000000) (hB : B ≤ w.heap.size)
    (h : ∀ v' w', w'.ownsRow B 35 1 v' (n + m) (xs ++ news) → w.grownBy w' v.ownBlock → K (a.put o.dst v') w') :
    if Region.wanted o (yielded ops a.tmps) = true then Oper.wp Tryd.prog o a w K Q else E := by
  obtain ⟨i0, hi, hz0, hz1, hz2⟩ := info_parts info_u64s
  rw [if_pos (by simp [Region.wanted, hg])]
  exact wp_append_own w s x 44 ho B 35 i0 (.slice none 0 0) 1 24 Tryd.underlying44 hi hz0 hz1 hz2 rfl (by decide) v n xs hs hown ad m c news hx (by omega) hnews h1 (by unfold maxLen; omega) (by omega) hB (fun v' w' h2 h3 _ => h v' w' h2 h3)
/-- An operation behind a guard that lets it by. -/
theorem wpList_wanted {ops : Array Oper} {rest : List Oper} {o : Oper} {a : Act} {w : World} {Q : Exit → Act → World → Prop} (hw : Region.wanted o (yielded ops a.tmps) = true)
    (h : ∀ K : Act → World → Prop, (∀ a w, wpList Tryd.prog ops Q rest a w → K a w) → o.wp Tryd.prog a w K Q) : wpList Tryd.prog ops Q (o :: rest) a w :=
  wpList_step fun K hK => by rw [if_pos hw]; exact h K hK
theorem add_off (b off i : Nat) : (⟨b, off, none⟩ : Addr).add i = ⟨b, off + i, none⟩ := by
  unfold Addr.add
  split
  · rename_i h; simp_all
  · rfl

end Go.Proofs.YtjppopabjfncpaaDoor
namespace Go.Proofs.YtjppopabjfncpaaDoor
open Go.RowKit Go.Sort
set_option linter.unusedVariables false
set_option maxRecDepth 4000

theorem IntsAt.lt {w : World} {a : Option Addr} {n : Nat} {xs : List Nat} (h : IntsAt w a n xs) : n = 0 ∨ ∀ ad, a = some ad → ad.block < w.heap.size := by
  rcases h.2 with h0 | ⟨b, off, rfl, hc⟩
  · exact .inl h0
  · by_cases h0 : n = 0
    · exact .inl h0
    · right
      intro ad e
      simp only [Option.some.injEq] at e
      subst e
      exact World.block_lt_of_cell? w _ (hc 0 (by omega))
/-- How many words a row with as many marks as bits has. -/
def sizeL (n : Nat) : Nat := (2 * n + 63) / 64
def markRow (rs : List (List Nat)) (ps fs : List Nat) (s i : Nat) : List Nat := setB (pickL (zeros s) (rs.getD (ps.getD i 0) []) fs ps.length) (ps.length + i) true
def marksL (rs : List (List Nat)) (ps fs : List Nat) (s k : Nat) : List (List Nat) := (List.range (ps.length + 1)).map fun i => if i < k then markRow rs ps fs s i else zeros s
theorem marks_len (rs : List (List Nat)) (ps fs : List Nat) (s k : Nat) : (marksL rs ps fs s k).length = ps.length + 1 := by simp [marksL]
theorem marks_get (rs : List (List Nat)) (ps fs : List Nat) (s k i : Nat) (hi : i < ps.length + 1) : (marksL rs ps fs s k).getD i [] = if i < k then markRow rs ps fs s i else zeros s := by
  simp [marksL, List.getD_eq_getElem?_getD, hi]
theorem marks_zero (rs : List (List Nat)) (ps fs : List Nat) (s : Nat) : marksL rs ps fs s 0 = List.replicate (ps.length + 1) (zeros s) := by
  apply List.ext_getElem
  · simp [marksL]
  · intro i h1 h2; simp [marksL]
theorem marks_set (rs : List (List Nat)) (ps fs : List Nat) (s k : Nat) (hk : k < ps.length + 1) : (marksL rs ps fs s k).set k (markRow rs ps fs s k) = marksL rs ps fs s (k + 1) := by
  apply List.ext_getElem
  · simp [marksL]
  · intro i h1 h2
    rw [List.getElem_set]
    by_cases e : k = i
    · subst e; simp [marksL]
    · rw [if_neg e]
      simp only [marksL, List.getElem_map, List.getElem_range]
      by_cases h3 : i < k
      · rw [if_pos h3, if_pos (by omega)]
      · rw [if_neg h3, if_neg (by omega)]
theorem markRow_small (rs : List (List Nat)) (ps fs : List Nat) (s i : Nat) : smalls (markRow rs ps fs s i) := setB_small (pick_small (zeros_small s) _ _ _) _ _
theorem markRow_len (rs : List (List Nat)) (ps fs : List Nat) (s i : Nat) : (markRow rs ps fs s i).length = s := by unfold markRow; rw [setB_length, pick_len, zeros_len]
theorem marks_fit (rs : List (List Nat)) (ps fs : List Nat) (s k j : Nat) (q : List Nat) (hq : smalls q) (hql : q.length = s) (M : Nat) (hs : s ≤ M) : Fit M (((marksL rs ps fs s k).set j q).take k) := by
  intro x hx
  rcases List.mem_or_eq_of_mem_set (List.mem_of_mem_take hx) with hx | rfl
  · obtain ⟨i, _, rfl⟩ := List.mem_map.1 hx
    split
    · exact ⟨markRow_small _ _ _ _ _, by rw [markRow_len]; exact hs⟩
    · exact ⟨zeros_small s, by rw [zeros_len]; exact hs⟩
  · exact ⟨hq, by omega⟩
theorem marks_take (rs : List (List Nat)) (ps fs : List Nat) (s : Nat) (q : List Nat) : ((marksL rs ps fs s ps.length).set ps.length q).take ps.length = (marksL rs ps fs s ps.length).take ps.length := by
  apply List.ext_getElem
  · simp
  · intro i h1 h2
    have hi : i < ps.length := by
      rw [List.length_take] at h2
      omega
    rw [List.getElem_take, List.getElem_take, List.getElem_set, if_neg (by omega)]
/-- What Express tells of a row that is in the span. -/
def exprL (rs : List (List Nat)) (xs : List Nat) : List Nat :=
  chosenL (keepL rs rs.length) (fun i => getB (reduceL (broughtL ((marksL rs (keepL rs rs.length) (firstsL (broughtL rs)) (sizeL (keepL rs rs.length).length) (keepL rs rs.length).length).take (keepL rs rs.length).length))
    (pickL (zeros (sizeL (keepL rs rs.length).length)) xs (firstsL (broughtL rs)) (keepL rs rs.length).length)) ((keepL rs rs.length).length + i)) (keepL rs rs.length).length
theorem size_ok (n : Nat) : 2 * n ≤ 64 * sizeL n := by unfold sizeL; omega
theorem size_le (n : Nat) (h : n ≤ 100000) : sizeL n ≤ 4000 := by unfold sizeL; omega
theorem brought_pos {M : Nat} {rs : List (List Nat)} (h : Fit M rs) (i : Nat) (hi : i < (broughtL rs).length) : 0 ≤ firstI ((broughtL rs).getD i []) := by
  have h1 := (brought_fit h).getD i
  have h2 : val ((broughtL rs).getD i []) ≠ 0 := by
    refine (brought_tri h).1 _ (List.mem_map.2 ⟨_, ?_, rfl⟩)
    simp [List.getD_eq_getElem?_getD, List.getElem?_eq_getElem hi]
  rw [firstI_val h1.1, if_neg h2]
  omega
theorem firsts_low {M : Nat} {rs : List (List Nat)} (h : Fit M rs) : firstsL (broughtL rs) = (broughtL rs).map fun b => Ech.low (val b) := by
  unfold firstsL
  apply List.map_congr_left
  intro b hb
  have h1 := (brought_fit h) b hb
  have h2 : val b ≠ 0 := (brought_tri h).1 _ (List.mem_map.2 ⟨b, hb, rfl⟩)
  rw [firstI_val h1.1, if_neg h2]
  rfl
theorem firsts_small {rs : List (List Nat)} (h : Fit 1048576 rs) (i : Nat) : (firstsL (broughtL rs)).getD i 0 ≤ 1000000000 := by
  by_cases hi : i < (broughtL rs).length
  · rw [firstsL_get _ i hi]
    have h1 := (brought_fit h).getD i
    have := firstI_le h1.1
    omega
  · rw [getD_of_le (by rw [firstsL_len]; omega)]
    omega
theorem brought_count (rs : List (List Nat)) : (broughtL rs).length = (keepL rs rs.length).length := by rw [keep_brought rs _ (Nat.le_refl _), List.take_length]
/-- .. it is the choice. -/
theorem expr_choice {rs : List (List Nat)} (hf : Fit 1048576 rs) (hn : rs.length ≤ 100000) {xs : List Nat} (hx : smalls xs) {c : Nat} (hc : Choice rs xs c) : exprL rs xs = chosenL (keepL rs rs.length) (fun i => c.testBit i) (keepL rs rs.length).length := by
  have hnl := keep_len rs rs.length
  have hs1 := size_ok (keepL rs rs.length).length
  have hs2 := size_le (keepL rs rs.length).length (by omega)
  unfold exprL
  refine chosen_congr _ _ fun i hi => ?_
  refine express_bits hf (M' := 4000) (fs := firstsL (broughtL rs)) (firsts_low hf) ?_ ?_ ?_ (pick_small (zeros_small _) _ _ _) (pick_val hx (by omega)) (by rw [pick_len, zeros_len]; exact hs2) hc i
  · rw [List.length_take, marks_len]; omega
  · rw [← marks_take _ _ _ _ []]
    intro x hx
    have hx' := List.mem_of_mem_take hx
    obtain ⟨j, hj, rfl⟩ := List.getElem_of_mem hx
    rw [List.length_take, List.length_set, marks_len] at hj
    rw [List.getElem_take, List.getElem_set, if_neg (by omega)]
    simp only [marksL, List.getElem_map, List.getElem_range]
    split
    · exact ⟨markRow_small _ _ _ _ _, by rw [markRow_len]; exact hs2⟩
    · exact ⟨zeros_small _, by rw [zeros_len]; exact hs2⟩
  · intro j hj
    rw [List.getD_eq_getElem?_getD, List.getElem?_take_of_lt hj, ← List.getD_eq_getElem?_getD, marks_get _ _ _ _ _ _ (by omega), if_pos hj]
    exact mark_val (hf.getD _).1 (by omega) (by omega)
end Go.Proofs.YtjppopabjfncpaaDoor
namespace Go.Proofs.YtjppopabjfncpaaDoor
open Go.RowKit Go.Sort
set_option linter.unusedVariables false
set_option maxRecDepth 4000


theorem cnt_first {r : List Nat} (hr : smalls r) : (cnt r = 0) ↔ firstI r < 0 := by
  rw [firstI_nonneg_iff]
  exact ⟨zero_of_cnt r hr, cnt_of_zero r⟩
theorem cnt_first_dec {r : List Nat} (hr : smalls r) : (((cnt r : Nat) : Int) == 0) = decide (firstI r < 0) := by
  by_cases h : firstI r < 0
  · rw [(cnt_first hr).2 h, decide_eq_true h]; rfl
  · rw [decide_eq_false h]
    have := fun e => h ((cnt_first hr).1 e)
    simpa using this

theorem rkeep_step (rs : List (List Nat)) (k : Nat) : (firstI (reduceL (basisL (rs.take k)) (rs.getD k [])) < 0 → rkeepL rs (k + 1) = rkeepL rs k) ∧ (0 ≤ firstI (reduceL (basisL (rs.take k)) (rs.getD k [])) → rkeepL rs (k + 1) = rkeepL rs k ++ [k]) := by
  simp only [rkeepL]
  constructor
  · intro h; rw [if_pos h]
  · intro h; rw [if_neg (by omega)]
theorem rkeep_len (rs : List (List Nat)) : ∀ k, (rkeepL rs k).length ≤ k
  | 0 => Nat.le_refl _
  | k + 1 => by
    have := rkeep_len rs k
    simp only [rkeepL]
    split
    · omega
    · simp; omega
set_option maxHeartbeats 2000000 in
theorem rkeep_any (a : Option Addr) (n c : Nat) (rs : List (List Nat)) (w : World) (h : VecsAt w a n rs) (hf : Fit 1048576 rs) (hn : n ≤ 100000) :
    Calls Tryd.prog 23 #[.slice a n c] w fun e w' => ∃ v, e = .returned v ∧ OwnI w' w.heap.size v (keepL rs rs.length) ∧ Below w.heap.size w w' := by
  obtain rfl : n = rs.length := h.1.symm
  rw [← keep_eq hf]
  go_enter Tryd.func23, Tryd.ntmps23
  go_wp2
  go_loopw [3, 4, 5] (fun bv kv i wr => ∃ k : Nat, k ≤ rs.length ∧ i = .int .i64 k ∧ ∃ a1 c1 vs ak ck, bv = .slice a1 (basisL (rs.take k)).length c1 ∧ kv = .slice ak (rkeepL rs k).length ck ∧ Hid (OwnV wr w.heap.size (.slice a1 (basisL (rs.take k)).length c1) vs (basisL (rs.take k))) ∧
    Hid (OwnI wr w.heap.size (.slice ak (rkeepL rs k).length ck) (rkeepL rs k)) ∧ Hid (Below w.heap.size w wr)) (fun _ _ i _ => rs.length - (intOf i).toNat)
  case atStart => exact ⟨0, Nat.zero_le _, rfl, none, 0, [], none, 0, rfl, rfl, hide (OwnV.nil _ _), hide (OwnI.nil _ _), hide (Below.refl _ _)⟩
  case round =>
    obtain ⟨k, hk, rfl, a1, c1, vs, ak, ck, rfl, rfl, HV, HI, HB⟩ := hrel
    by_cases hlt : k < rs.length
    · have hB := unhide HB
      obtain ⟨b, off, rfl, hc⟩ := (h.below hB).at hlt
      obtain ⟨ai, ci, hcell, hrow⟩ := hc k hlt
      have hfk := hf.take k
      have hbl := basis_len hfk
      have htk : (rs.take k).length ≤ k := List.length_take_le _ _
      have hkl := rkeep_len rs k
      obtain ⟨_, _, e1, hvec⟩ := (unhide HV).vecs
      simp only [Value.slice.injEq, true_and] at e1
      obtain ⟨rfl, rfl⟩ := e1
      have hX := radd_any a1 _ c1 (basisL (rs.take k)) ai _ ci (rs.getD k []) wr hvec (basis_fit hfk) hrow (by omega) (hf.getD k).2
      rw [radd_eq (basis_fit hfk) (basis_red hfk) hrow.2.1 (hf.getD k).2, ← basis_take hlt] at hX
      have HX := hide hX
      obtain ⟨hs1, hs2⟩ := rkeep_step rs k
      have HS1 := hide hs1
      have HS2 := hide hs2
      clear hc hrow h hfk hX hvec hs1 hs2
      generalize rs.getD k [] = y at *
      generalize basisL (rs.take k) = bk at *
      generalize rkeepL rs k = kk at *
      generalize firstI (reduceL bk y) = f at *
      have hkk : kk.length ≤ 1048576 := by omega
      by_cases hneg : f < 0
      · have hk1 := unhide HS1 hneg
        have hdn : decide (0 ≤ f) = false := by rw [decide_eq_false_iff_not]; omega
        rw [hdn] at HX
        have HK1 := hide hk1
        clear hneg hk1 HS1 HS2 hdn
        go_wp2_with fail
        refine (unhide HX).mono ?_
        rintro e w1 ⟨v1, vs1, rfl, hV1, hb1⟩
        have hI1 := (unhide HI).below hb1
        have hV1 := hV1.mono hB.size
        obtain ⟨a2, c2, rfl⟩ := hV1.shape
        rw [← unhide HK1]
        rw [← unhide HK1] at hI1
        have HV1 := hide hV1
        have HI1 := hide hI1
        have HB1 := hide (below0 hB hb1)
        clear hV1 hI1 hb1 HX hB HB HI HV HK1
        go_wp2
        go_roundw
        case rel => exact ⟨k + 1, by omega, by go_num, a2, c2, vs1, ak, ck, rfl, rfl, HV1, HI1, HB1⟩
        case measure => simp [intOf]; omega
      · have hk1 := unhide HS2 (by omega)
        have hdn : decide (0 ≤ f) = true := by rw [decide_eq_true_iff]; omega
        rw [hdn] at HX
        have HK1 := hide hk1
        clear hneg hk1 HS1 HS2 hdn
        go_wp2_with fail
        refine (unhide HX).mono ?_
        rintro e w1 ⟨v1, vs1, rfl, hV1, hb1⟩
        have HI1 := hide ((unhide HI).below hb1)
        have hV1 := hV1.mono hB.size
        obtain ⟨a2, c2, rfl⟩ := hV1.shape
        have HV1 := hide hV1
        have HB1 := hide (below0 hB hb1)
        clear hV1 hb1 HX hB HB HI HV
        go_wp2_with (first | (at_builtin; refine wpList_pushI rfl _ _ rfl w.heap.size (.slice ak kk.length ck) kk k rfl rfl (unhide HI1) (unhide HB1).size hkk ?_; intro s4 w4 hI4 hg4; have HV4 := hide ((unhide HV1).keptI (unhide HI1) hg4); have HB4 := hide ((unhide HB1).trans ((unhide HI1).grown hg4 (unhide HB1).size)); rw [← unhide HK1] at hI4; obtain ⟨a4, c4, rfl, _⟩ := hI4.ints; have HI4 := hide hI4; clear hg4 hI4 HI1 HB1 HV1 HK1))
        go_roundw
        case rel => exact ⟨k + 1, by omega, by go_num, a2, c2, vs1, a4, c4, rfl, rfl, HV4, HI4, HB4⟩
        case measure => simp [intOf]; omega
    · obtain rfl : k = rs.length := by omega
      clear h
      go_wp2
      go_ret
      exact ⟨_, rfl, unhide HI, unhide HB⟩

end Go.Proofs.YtjppopabjfncpaaDoor
