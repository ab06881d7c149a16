/-
  Contract of xor.vecs.
-/
import Derived.Test.YtjppopabjfncpaaDoorM2
namespace Go.Proofs.YtjppopabjfncpaaDoor
open Go.RowKit Go.Sort
set_option linter.unusedVariables false
set_option maxRecDepth 4000

/-- The xor of all rows' words. -/
def vecL (rs : List RV) : List Nat := rs.foldl (fun a r => xorL a r.xs) []
theorem vecL_from (rs : List RV) : ∀ a, rs.foldl (fun a r => xorL a r.xs) a = xorL a (vecL rs) := by
  induction rs with
  | nil => intro a; exact (xorL_nil a).symm
  | cons r rs ih =>
    intro a
    show rs.foldl _ (xorL a r.xs) = xorL a (rs.foldl _ (xorL [] r.xs))
    rw [ih, ih (xorL [] r.xs), nil_xorL, xorL_assoc]
theorem vecL_cons (r : RV) (rs : List RV) : vecL (r :: rs) = xorL r.xs (vecL rs) := by
  show rs.foldl _ (xorL [] r.xs) = _
  rw [vecL_from, nil_xorL]
theorem vecL_append (ps bs : List RV) : vecL (ps ++ bs) = xorL (vecL ps) (vecL bs) := by
  unfold vecL
  rw [List.foldl_append]
  exact vecL_from bs _
theorem vecL_len (rs : List RV) (h : ∀ r ∈ rs, r.xs.length ≤ 10) : (vecL rs).length ≤ 10 := by
  induction rs with
  | nil => simp [vecL]
  | cons r rs ih =>
    rw [vecL_cons, xorL_length]
    have h1 := h r List.mem_cons_self
    have h2 := ih (fun r hr => h r (List.mem_cons_of_mem _ hr))
    omega
theorem getD_take_rv (rs : List RV) (q i : Nat) (h : i < q) : (rs.take q).getD i .dflt = rs.getD i .dflt := by
  simp [List.getD_eq_getElem?_getD, h]
theorem getD_drop_rv (rs : List RV) (q i : Nat) : (rs.drop q).getD i .dflt = rs.getD (q + i) .dflt := by
  simp [List.getD_eq_getElem?_getD, List.getElem?_drop]
theorem RowsAt.take {w : World} {a : Option Addr} {n : Nat} {rs : List RV} (h : RowsAt w a n rs) (q : Nat) (hq : q ≤ n) : RowsAt w a q (rs.take q) := by
  refine ⟨by rw [List.length_take, h.1]; omega, fun i hi => by rw [getD_take_rv rs q i hi]; exact h.2.1 i (by omega), ?_⟩
  rcases h.2.2 with h0 | ⟨b, off, rfl, hc⟩
  · exact .inl (by omega)
  · exact .inr ⟨b, off, rfl, fun i hi => by rw [getD_take_rv rs q i hi]; exact hc i (by omega)⟩
theorem RowsAt.drop {w : World} {b off : Nat} {n : Nat} {rs : List RV} (h : RowsAt w (some ⟨b, off, none⟩) n rs) (q : Nat) (hq : q ≤ n) : RowsAt w (some ⟨b, off + q * 2, none⟩) (n - q) (rs.drop q) := by
  refine ⟨by rw [List.length_drop, h.1], fun i hi => by rw [getD_drop_rv]; exact h.2.1 _ (by omega), ?_⟩
  rcases h.2.2 with h0 | ⟨b', off', he, hc⟩
  · exact .inl (by omega)
  · simp only [Option.some.injEq, Addr.mk.injEq, and_true] at he
    obtain ⟨rfl, rfl⟩ := he
    refine .inr ⟨b, _, rfl, fun i hi => ?_⟩
    rw [getD_drop_rv, show off + q * 2 + i * 2 = off + (q + i) * 2 from by omega]
    exact hc (q + i) (by omega)

theorem info_row : (Tryd.prog.info? 37).map (fun i => (i.size, i.bytes)) = some (2, 40) := by kernel_rfl
theorem size_row (w : World) : (sizeOf 37).run Tryd.prog w = .ok 2 w := by
  cases h : Tryd.prog.info? 37 with
  | none => have := info_row; rw [h] at this; cases this
  | some i =>
    have := info_row
    rw [h] at this
    simp only [Option.map_some, Option.some.injEq, Prod.mk.injEq] at this
    simp [sizeOf, typeInfo, h, this.1]
theorem elem_rows : Tryd.prog.underlying 22 = some (.slice (Tryd.prog.elem 22)) := by kernel_rfl
theorem elem_rows' : Tryd.prog.elem 22 = 37 := by kernel_rfl
theorem slice_lo (b off n c q : Nat) (hq : q ≤ n) (hc : q < c) (w : World) :
    (Instr.sliceAt 22 (.slice (some ⟨b, off, none⟩) n c) (some (.int .i64 (q : Int))) none none).run Tryd.prog w = .ok (.slice (some ⟨b, off + q * 2, none⟩) (n - q) (c - q)) w := by
  rw [run_sliceAt_slice _ _ _ _ _ _ elem_rows, run_slice_l _ _ _ _ _ elem_rows _ _ (by omega) (by omega), elem_rows', size_row]
  have e : ¬ c = q := by omega
  simp [Result.andThen, sliced, e, Addr.add]
theorem slice_hi (b off n c q : Nat) (hc : q ≤ c) (w : World) :
    (Instr.sliceAt 22 (.slice (some ⟨b, off, none⟩) n c) none (some (.int .i64 (q : Int))) none).run Tryd.prog w = .ok (.slice (some ⟨b, off, none⟩) q c) w := by
  rw [run_sliceAt_slice _ _ _ _ _ _ elem_rows, run_slice_h _ _ _ _ _ elem_rows _ _ (by omega) (by omega), elem_rows', size_row]
  simp [Result.andThen, sliced, Addr.add]
end Go.Proofs.YtjppopabjfncpaaDoor
