/-
  What bucketlineref04.Express tells, on plain lists; 'copy(row, words)' into a new row.
-/
import Derived.Test.YtjppopabjfncpaaDoorM11
import Derived.Test.YtjppopabjfncpaaDoorM3
namespace Go.Proofs.YtjppopabjfncpaaDoor
open Go.RowKit Go.Sort
set_option linter.unusedVariables false
set_option maxRecDepth 4000

/-- Words written over others, from place o on. -/
def ovr : List Nat → Nat → List Nat → List Nat
  | xs, _, [] => xs
  | xs, o, y :: r => ovr (xs.set o y) (o + 1) r
theorem ovr_len : ∀ (ys xs : List Nat) (o : Nat), (ovr xs o ys).length = xs.length
  | [], xs, o => rfl
  | y :: r, xs, o => by simp only [ovr]; rw [ovr_len r, List.length_set]
theorem ovr_get : ∀ (ys xs : List Nat) (o j : Nat), o + ys.length ≤ xs.length → (ovr xs o ys).getD j 0 = if o ≤ j ∧ j < o + ys.length then ys.getD (j - o) 0 else xs.getD j 0
  | [], xs, o, j, h => by simp only [ovr]; rw [if_neg (by simp only [List.length_nil]; omega)]
  | y :: r, xs, o, j, h => by
    simp only [List.length_cons] at h
    simp only [ovr]
    rw [ovr_get r (xs.set o y) (o + 1) j (by rw [List.length_set]; omega), getD_set]
    by_cases h1 : j = o
    · subst h1
      rw [if_neg (by omega), if_pos ⟨rfl, by omega⟩, if_pos (by simp), Nat.sub_self]
      rfl
    · by_cases h2 : o + 1 ≤ j ∧ j < o + 1 + r.length
      · rw [if_pos h2, if_pos (by simp only [List.length_cons]; omega), show j - o = (j - (o + 1)) + 1 by omega]
        rfl
      · rw [if_neg h2, if_neg (fun k => h1 k.1), if_neg (by simp only [List.length_cons]; omega)]
theorem ovr_zeros (ys : List Nat) (L : Nat) (h : ys.length ≤ L) : ovr (zeros L) 0 ys = ys ++ zeros (L - ys.length) := by
  apply ext_getD
  · rw [ovr_len, List.length_append, zeros_len, zeros_len]; omega
  · intro j hj
    rw [ovr_get _ _ _ _ (by rw [zeros_len]; omega)]
    by_cases h1 : j < ys.length
    · rw [if_pos (by omega), Nat.sub_zero, List.getD_eq_getElem?_getD, List.getD_eq_getElem?_getD, List.getElem?_append_left h1]
    · rw [if_neg (by omega), List.getD_eq_getElem?_getD, List.getD_eq_getElem?_getD, List.getElem?_append_right (by omega)]
      unfold zeros
      rw [List.getElem?_replicate, List.getElem?_replicate]
      split <;> split <;> rfl
theorem Own.setCells {B g : Nat} : ∀ (ys : List Nat) (w : World) (xs : List Nat) (o cap : Nat), Own w B (.slice (some ⟨g, 0, none⟩) xs.length cap) xs → smalls ys → Own (w.setCells g o (cellsU ys)) B (.slice (some ⟨g, 0, none⟩) xs.length cap) (ovr xs o ys)
  | [], w, xs, o, cap, h, _ => h
  | y :: r, w, xs, o, cap, h, hs => by
    have h1 := h.stored o y (hs y List.mem_cons_self)
    have h2 := Own.setCells r _ (xs.set o y) (o + 1) cap (by rw [List.length_set]; exact h1) hs.tail
    rw [List.length_set] at h2
    exact h2
theorem info_u64_one : (Tryd.prog.info? 33).map (·.size) = some 1 := by kernel_rfl
/-- copy(row, words), the row new. -/
theorem wpList_copyU {w : World} {ops : Array Oper} {rest : List Oper} {o : Oper} {act : Act} {Q : Exit → Act → World → Prop} (hgd : o.guard = none) (d s : Operand)
    (ho : o.op = .call { callee := .builtin .copy, args := #[d, s], argTypes := #[35, 35] }) (B g L : Nat) (a' : Option Addr) (m c' : Nat) (ys : List Nat)
    (hd : act.eval d = .slice (some ⟨g, 0, none⟩) L L) (hs : act.eval s = .slice a' m c') (hO : Own w B (.slice (some ⟨g, 0, none⟩) L L) (zeros L)) (h' : RowAt w a' m ys) (hm : m ≤ L) (hB : B ≤ w.heap.size)
    (hK : ∀ u w', Own w' B (.slice (some ⟨g, 0, none⟩) L L) (ys ++ zeros (L - m)) → Below B w w' → wpList Tryd.prog ops Q rest (act.put o.dst u) w') : wpList Tryd.prog ops Q (o :: rest) act w := by
  obtain rfl : m = ys.length := h'.1.symm
  by_cases h0 : ys.length = 0
  · refine copy_list hgd d s 35 ho _ _ hd hs (run_copy_none w 35 35 o.type 33 _ _ _ _ _ _ Tryd.underlying35 info_u64_one (by rw [h0]; exact Nat.min_eq_left (Nat.zero_le _))) (hK _ _ ?_ (Below.refl _ _))
    have e : ys = [] := List.eq_nil_of_length_eq_zero h0
    subst e
    exact hO
  · obtain ⟨b, off, rfl, hc⟩ := h'.at (show 0 < ys.length by omega)
    obtain ⟨g2, cap, e, _, _, hcg, hfg⟩ := hO.at (by rw [zeros_len]; omega)
    rw [zeros_len] at e hcg
    simp only [Value.slice.injEq, Option.some.injEq, Addr.mk.injEq, and_true, true_and] at e
    obtain ⟨rfl, rfl⟩ := e
    have hmin : (cellsU ys).length = Nat.min ys.length L := by rw [cellsU_length]; exact (Nat.min_eq_left hm).symm
    refine copy_list hgd d s 35 ho _ _ hd hs (run_copy_cells w 35 35 o.type 33 g 0 L L ⟨b, off, none⟩ ys.length c' (cellsU ys) Tryd.underlying35 info_u64_one hmin h'.news
      (fun j hj => by rw [cellsU_length] at hj; rw [Nat.zero_add, hcg j (by omega)]; rfl) (fun j hj => by rw [Nat.zero_add]; exact hfg j) (cellsU_one ys)) (hK _ _ ?_ (gb_below (setCells_gb g (cellsU ys) 0 w) hB (fun k hk => by rw [← Option.some.inj hk]; exact (hO.lt rfl).1)))
    have := Own.setCells ys w (zeros L) 0 L (by rw [zeros_len]; exact hO) h'.2.1
    rw [zeros_len, ovr_zeros ys L hm] at this
    exact this

/-- The greatest number of words of the first k rows. -/
def widthL (rs : List (List Nat)) : Nat → Nat
  | 0 => 0
  | k + 1 => max (widthL rs k) (rs.getD k []).length
theorem width_ge (rs : List (List Nat)) : ∀ k i, i < k → (rs.getD i []).length ≤ widthL rs k
  | 0, i, h => by omega
  | k + 1, i, h => by
    simp only [widthL]
    by_cases e : i = k
    · subst e; omega
    · have := width_ge rs k i (by omega); omega
theorem width_le (rs : List (List Nat)) (M : Nat) (h : ∀ i, (rs.getD i []).length ≤ M) : ∀ k, widthL rs k ≤ M
  | 0 => Nat.zero_le _
  | k + 1 => by
    have h1 := width_le rs M h k
    have h2 := h k
    simp only [widthL]
    omega
/-- A kept row with a bit more, behind all of theirs. -/
def extRow (rs : List (List Nat)) (ps : List Nat) (W i : Nat) : List Nat :=
  setB (rs.getD (ps.getD i 0) [] ++ zeros (W + ps.length / 64 + 1 - (rs.getD (ps.getD i 0) []).length)) (64 * W + i) true
def extL (rs : List (List Nat)) (ps : List Nat) (W : Nat) : List (List Nat) := (List.range ps.length).map (extRow rs ps W)
theorem extL_len (rs : List (List Nat)) (ps : List Nat) (W : Nat) : (extL rs ps W).length = ps.length := by simp [extL]
theorem extL_get (rs : List (List Nat)) (ps : List Nat) (W i : Nat) (h : i < ps.length) : (extL rs ps W).getD i [] = extRow rs ps W i := by
  simp [extL, List.getD_eq_getElem?_getD, h]
theorem app_small {xs ys : List Nat} (h : smalls xs) (k : smalls ys) : smalls (xs ++ ys) := fun x hx => (List.mem_append.1 hx).elim (h x) (k x)
theorem getB_app (xs : List Nat) (n j : Nat) : getB (xs ++ zeros n) j = getB xs j := by
  unfold getB
  rw [List.getD_eq_getElem?_getD, List.getD_eq_getElem?_getD]
  by_cases h : j / 64 < xs.length
  · rw [List.getElem?_append_left h]
  · have e : xs[j / 64]? = none := List.getElem?_eq_none (by omega)
    rw [List.getElem?_append_right (by omega), e]
    unfold zeros
    rw [List.getElem?_replicate]
    split <;> rfl
theorem ext_fit {M W : Nat} {rs : List (List Nat)} (hf : Fit W rs) (ps : List Nat) (hM : W + ps.length / 64 + 1 ≤ M) : Fit M (extL rs ps W) := by
  intro x hx
  obtain ⟨i, _, rfl⟩ := List.mem_map.1 hx
  have h1 := hf.getD (ps.getD i 0)
  refine ⟨setB_small (app_small h1.1 (zeros_small _)) _ _, ?_⟩
  unfold extRow
  rw [setB_length, List.length_append, zeros_len]
  omega
theorem ext_val {W : Nat} {rs : List (List Nat)} (hf : Fit W rs) (ps : List Nat) (i : Nat) (hi : i < ps.length) : val (extRow rs ps W i) = val (rs.getD (ps.getD i 0) []) ^^^ 2 ^ (64 * W + i) := by
  have h1 := hf.getD (ps.getD i 0)
  unfold extRow
  apply Nat.eq_of_testBit_eq
  intro j
  rw [val_bit (setB_small (app_small h1.1 (zeros_small _)) _ _), getB_setB _ _ _ (by rw [List.length_append, zeros_len]; omega), getB_app, Nat.testBit_xor, Nat.testBit_two_pow, val_bit h1.1]
  by_cases h2 : j = 64 * W + i
  · rw [h2, getB_out _ _ (by have := h1.2; omega)]; simp
  · have h3 : decide (64 * W + i = j) = false := by simp; omega
    have h4 : decide (j = 64 * W + i) = false := by simpa using h2
    rw [h3, h4]; simp
/-- What the reference's Express tells: the places, and whether there are such. -/
def rexL (ps : List Nat) (W : Nat) (r : List Nat) : List Nat := if 0 ≤ firstI r ∧ firstI r < 64 * (W : Int) then [] else chosenL ps (fun i => getB r (64 * W + i)) ps.length
def rexB (W : Nat) (r : List Nat) : Bool := !decide (0 ≤ firstI r ∧ firstI r < 64 * (W : Int))
/-- .. and span's. -/
def exL (rs : List (List Nat)) (xs : List Nat) : List Nat := if firstI (reduceL (broughtL rs) xs) < 0 then exprL rs xs else []
theorem express_same {W : Nat} {rs : List (List Nat)} (hf : Fit W rs) (hW : W ≤ 1000) (hn : rs.length ≤ 100000) {xs : List Nat} (hx : smalls xs) (hxl : xs.length ≤ W) :
    rexL (keepL rs rs.length) W (reduceL (basisL (extL rs (keepL rs rs.length) W)) xs) = exL rs xs ∧ rexB W (reduceL (basisL (extL rs (keepL rs rs.length) W)) xs) = !freshB rs xs := by
  have hf2 : Fit 1048576 rs := fun b hb => ⟨(hf b hb).1, by have := (hf b hb).2; omega⟩
  have hkl := keep_len rs rs.length
  have hE := ext_fit hf (keepL rs rs.length) (M := 1048576) (by omega)
  obtain ⟨h1, h2⟩ := express_ref hf (v := xs) (E := extL rs (keepL rs rs.length) W) (extL_len _ _ _) hE (fun i hi => by rw [extL_get _ _ _ _ hi]; exact ext_val hf _ i hi) hx hxl (by omega)
  have hin := brought_in hf2 hx (by omega)
  unfold rexL rexB exL freshB
  by_cases hs : Ech.Sp (rs.map val) (val xs)
  · obtain ⟨c, hc⟩ := choice_of hf2 hs
    obtain ⟨h3, h4⟩ := h1 c hc
    have hnot : ¬ (0 ≤ firstI (reduceL (basisL (extL rs (keepL rs rs.length) W)) xs) ∧ firstI (reduceL (basisL (extL rs (keepL rs rs.length) W)) xs) < 64 * (W : Int)) := by omega
    rw [if_neg hnot, decide_eq_false hnot, if_pos (hin.2 hs), decide_eq_true (hin.2 hs), expr_choice hf2 hn hx hc]
    exact ⟨chosen_congr _ _ fun i _ => h4 i, rfl⟩
  · have h5 := h2 hs
    have h6 : ¬ firstI (reduceL (broughtL rs) xs) < 0 := fun e => hs (hin.1 e)
    rw [if_pos h5, decide_eq_true h5, if_neg h6, decide_eq_false h6]
    exact ⟨rfl, rfl⟩
end Go.Proofs.YtjppopabjfncpaaDoor
