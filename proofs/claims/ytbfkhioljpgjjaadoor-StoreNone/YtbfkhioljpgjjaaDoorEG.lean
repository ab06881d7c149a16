/-
  Contracts of bucketlineref03.Add, Basis, Rank and of bucketlinelaw03.awake: for rows of at most 2^20 words, in every world that holds the table of math/bits.
-/
import Derived.Test.YtbfkhioljpgjjaaDoorEF
namespace Go.Proofs.YtbfkhioljpgjjaaDoor
open Go.RowKit
set_option linter.unusedVariables false
set_option maxRecDepth 4000

theorem radd_any (a : Option Addr) (n c : Nat) (rs : List (List Nat)) (a' : Option Addr) (m c' : Nat) (xs : List Nat) (w : World) (h : VecsAt w a n rs) (hf : Fit 1048576 rs) (h' : RowAt w a' m xs) (hn : n ≤ 100000) (hm : m ≤ 1048576) :
    Calls Tryd.prog 46 #[.slice a n c, .slice a' m c'] w fun e w' => ∃ v vs, e = .returned (.tuple #[v, .bool (decide (0 ≤ firstI (reduceL rs xs)))]) ∧ OwnV w' w.heap.size v vs (raddL rs xs) ∧ Below w.heap.size w w' := by
  by_cases hneg : firstI (reduceL rs xs) < 0
  · rw [show decide (0 ≤ firstI (reduceL rs xs)) = false by simp; omega, show raddL rs xs = rs by unfold raddL; rw [if_pos hneg]]
    exact radd_no a n c rs a' m c' xs w h hf h' hn hm hneg
  · rw [show decide (0 ≤ firstI (reduceL rs xs)) = true by simp; omega]
    exact radd_yes a n c rs a' m c' xs w h hf h' hn hm (by omega)

set_option maxHeartbeats 1000000 in
theorem rbasis_any (a : Option Addr) (n c : Nat) (rs : List (List Nat)) (w : World) (h : VecsAt w a n rs) (hf : Fit 1048576 rs) (hn : n ≤ 100000) :
    Calls Tryd.prog 40 #[.slice a n c] w fun e w' => ∃ v vs, e = .returned v ∧ OwnV w' w.heap.size v vs (basisL rs) ∧ Below w.heap.size w w' := by
  go_enter Tryd.func40, Tryd.ntmps40
  go_wp2
  go_loopw [3, 4] (fun b i wr => ∃ k : Nat, k ≤ n ∧ i = .int .i64 k ∧ ∃ a1 c1 vs, b = .slice a1 (basisL (rs.take k)).length c1 ∧ Hid (OwnV wr w.heap.size (.slice a1 (basisL (rs.take k)).length c1) vs (basisL (rs.take k))) ∧ Hid (Below w.heap.size w wr)) (fun _ i _ => n - (intOf i).toNat)
  case atStart => exact ⟨0, Nat.zero_le _, rfl, none, 0, [], rfl, hide (OwnV.nil _ _), hide (Below.refl _ _)⟩
  case round =>
    obtain ⟨k, hk, rfl, a1, c1, vs, rfl, HV, HB⟩ := hrel
    by_cases hlt : k < n
    · have hB := unhide HB
      obtain ⟨b, off, rfl, hc⟩ := (h.below hB).at hlt
      obtain ⟨ai, ci, hcell, hrow⟩ := hc k hlt
      have hfk := hf.take k
      have hbl := basis_len hfk
      have htk : (rs.take k).length ≤ k := List.length_take_le _ _
      obtain ⟨_, _, e1, hvec⟩ := (unhide HV).vecs
      simp only [Value.slice.injEq, true_and] at e1
      obtain ⟨rfl, rfl⟩ := e1
      have hX := radd_any a1 _ c1 (basisL (rs.take k)) ai _ ci (rs.getD k []) wr hvec (basis_fit hfk) hrow (by omega) (hf.getD k).2
      rw [radd_eq (basis_fit hfk) (basis_red hfk) hrow.2.1 (hf.getD k).2] at hX
      have HX := hide hX
      have HE := hide (basis_take (show k < rs.length by rw [h.1]; exact hlt))
      clear hc hrow h HV hfk hbl htk hX hvec
      generalize rs.getD k [] = y at *
      generalize basisL (rs.take k) = bk at *
      go_wp2_with fail
      refine (unhide HX).mono ?_
      rintro e w1 ⟨v1, vs1, rfl, hV1, hb1⟩
      rw [← unhide HE] at hV1
      have hV1 := hV1.mono hB.size
      obtain ⟨a2, c2, rfl, _⟩ := hV1.vecs
      have HV1 := hide hV1
      have HB1 := hide (below0 hB hb1)
      clear hV1 hb1 HX hB HB
      go_wp2
      go_roundw
      case rel => exact ⟨k + 1, by omega, by go_num, a2, c2, vs1, rfl, HV1, HB1⟩
      case measure => simp [intOf]; omega
    · have hke : rs.take k = rs := List.take_of_length_le (by rw [h.1]; omega)
      rw [hke] at HV
      rw [hke]
      clear h hke
      go_wp2
      go_ret
      exact ⟨_, _, rfl, unhide HV, unhide HB⟩
set_option maxHeartbeats 400000 in
theorem rrank_any (a : Option Addr) (n c : Nat) (rs : List (List Nat)) (w : World) (h : VecsAt w a n rs) (hf : Fit 1048576 rs) (hn : n ≤ 100000) :
    Calls Tryd.prog 27 #[.slice a n c] w fun e w' => e = .returned (.int .i64 ((basisL rs).length : Int)) ∧ Below w.heap.size w w' := by
  have HX := hide (rbasis_any a n c rs w h hf hn)
  clear h hf
  generalize basisL rs = bs at *
  go_enter Tryd.func27, Tryd.ntmps27
  go_wp2_with fail
  refine (unhide HX).mono ?_
  rintro e w1 ⟨v1, vs1, rfl, hV1, hb1⟩
  obtain ⟨a2, c2, rfl, _⟩ := hV1.vecs
  clear hV1 HX
  go_wp2
  go_ret
  exact ⟨rfl, hb1⟩

/-- Literals of rows of one word. -/
theorem lit1 (w : World) (x : Nat) (hx : x < 18446744073709551616) : RowAt (w.alloc (.cells #[.int .u64 (x : Int)] 46)) (some ⟨w.heap.size, 0, none⟩) 1 [x] := row_new1 w x hx
theorem vecs_lit {w : World} {g : Nat} {cur : Array Value} {rs : List (List Nat)} (hg : w.heap[g]? = some (.cells cur 34 (0, 0)))
    (h : ∀ i, i < rs.length → ∃ b, cur[i]? = some (.slice (some ⟨b, 0, none⟩) (rs.getD i []).length 1) ∧ RowAt w (some ⟨b, 0, none⟩) (rs.getD i []).length (rs.getD i []) ∧ (rs.getD i []).length ≤ 1) : VecsAt w (some ⟨g, 0, none⟩) rs.length rs := by
  refine ⟨rfl, .inr ⟨g, 0, rfl, fun i hi => ?_⟩, fun b off i ai k ci e hi hc => ?_⟩
  · obtain ⟨b, h1, h2, _⟩ := h i hi
    exact ⟨_, 1, by rw [Nat.zero_add, cell_of_row w g i _ _ _ hg]; exact h1, h2⟩
  · simp only [Option.some.injEq, Addr.mk.injEq, and_true] at e
    obtain ⟨rfl, rfl⟩ := e
    obtain ⟨b, h1, _, h3⟩ := h i hi
    rw [Nat.zero_add, cell_of_row w g i _ _ _ hg, h1] at hc
    simp only [Option.some.injEq, Value.slice.injEq] at hc
    omega
theorem alloc_below (w : World) (o : Obj) : Below w.heap.size w (w.alloc o) := (Below.refl _ _).alloc (Nat.le_refl _) _
theorem lit_two (w : World) (x y : Nat) (hx : x < 18446744073709551616) (hy : y < 18446744073709551616) :
    VecsAt (((w.alloc (.cells #[.int .u64 (x : Int)] 46)).alloc (.cells #[.int .u64 (y : Int)] 46)).alloc (.cells #[.slice (some ⟨w.heap.size, 0, none⟩) 1 1, .slice (some ⟨w.heap.size + 1, 0, none⟩) 1 1] 34)) (some ⟨w.heap.size + 1 + 1, 0, none⟩) 2 [[x], [y]] := by
  have h1 := ((lit1 w x hx).below (alloc_below _ (.cells #[.int .u64 (y : Int)] 46))).below (alloc_below _ (.cells #[.slice (some ⟨w.heap.size, 0, none⟩) 1 1, .slice (some ⟨w.heap.size + 1, 0, none⟩) 1 1] 34))
  have h2 := (lit1 (w.alloc (.cells #[.int .u64 (x : Int)] 46)) y hy).below (alloc_below _ (.cells #[.slice (some ⟨w.heap.size, 0, none⟩) 1 1, .slice (some ⟨w.heap.size + 1, 0, none⟩) 1 1] 34))
  rw [alloc_size] at h2
  refine vecs_lit (rs := [[x], [y]]) (cur := #[.slice (some ⟨w.heap.size, 0, none⟩) 1 1, .slice (some ⟨w.heap.size + 1, 0, none⟩) 1 1]) ?_ fun i hi => ?_
  · have := heap_alloc_new ((w.alloc (.cells #[.int .u64 (x : Int)] 46)).alloc (.cells #[.int .u64 (y : Int)] 46)) (.cells #[.slice (some ⟨w.heap.size, 0, none⟩) 1 1, .slice (some ⟨w.heap.size + 1, 0, none⟩) 1 1] 34)
    rw [alloc_size, alloc_size] at this
    exact this
  · match i, hi with
    | 0, _ => exact ⟨_, rfl, h1, Nat.le_refl _⟩
    | 1, _ => exact ⟨_, rfl, h2, Nat.le_refl _⟩
theorem lit_three (w : World) (x y z : Nat) (hx : x < 18446744073709551616) (hy : y < 18446744073709551616) (hz : z < 18446744073709551616) :
    VecsAt ((((w.alloc (.cells #[.int .u64 (x : Int)] 46)).alloc (.cells #[.int .u64 (y : Int)] 46)).alloc (.cells #[.int .u64 (z : Int)] 46)).alloc (.cells #[.slice (some ⟨w.heap.size, 0, none⟩) 1 1, .slice (some ⟨w.heap.size + 1, 0, none⟩) 1 1, .slice (some ⟨w.heap.size + 1 + 1, 0, none⟩) 1 1] 34)) (some ⟨w.heap.size + 1 + 1 + 1, 0, none⟩) 3 [[x], [y], [z]] := by
  have h1 := (((lit1 w x hx).below (alloc_below _ (.cells #[.int .u64 (y : Int)] 46))).below (alloc_below _ (.cells #[.int .u64 (z : Int)] 46))).below (alloc_below _ (.cells #[.slice (some ⟨w.heap.size, 0, none⟩) 1 1, .slice (some ⟨w.heap.size + 1, 0, none⟩) 1 1, .slice (some ⟨w.heap.size + 1 + 1, 0, none⟩) 1 1] 34))
  have h2 := ((lit1 (w.alloc (.cells #[.int .u64 (x : Int)] 46)) y hy).below (alloc_below _ (.cells #[.int .u64 (z : Int)] 46))).below (alloc_below _ (.cells #[.slice (some ⟨w.heap.size, 0, none⟩) 1 1, .slice (some ⟨w.heap.size + 1, 0, none⟩) 1 1, .slice (some ⟨w.heap.size + 1 + 1, 0, none⟩) 1 1] 34))
  have h3 := (lit1 ((w.alloc (.cells #[.int .u64 (x : Int)] 46)).alloc (.cells #[.int .u64 (y : Int)] 46)) z hz).below (alloc_below _ (.cells #[.slice (some ⟨w.heap.size, 0, none⟩) 1 1, .slice (some ⟨w.heap.size + 1, 0, none⟩) 1 1, .slice (some ⟨w.heap.size + 1 + 1, 0, none⟩) 1 1] 34))
  rw [alloc_size] at h2
  rw [alloc_size, alloc_size] at h3
  refine vecs_lit (rs := [[x], [y], [z]]) (cur := #[.slice (some ⟨w.heap.size, 0, none⟩) 1 1, .slice (some ⟨w.heap.size + 1, 0, none⟩) 1 1, .slice (some ⟨w.heap.size + 1 + 1, 0, none⟩) 1 1]) ?_ fun i hi => ?_
  · have := heap_alloc_new (((w.alloc (.cells #[.int .u64 (x : Int)] 46)).alloc (.cells #[.int .u64 (y : Int)] 46)).alloc (.cells #[.int .u64 (z : Int)] 46)) (.cells #[.slice (some ⟨w.heap.size, 0, none⟩) 1 1, .slice (some ⟨w.heap.size + 1, 0, none⟩) 1 1, .slice (some ⟨w.heap.size + 1 + 1, 0, none⟩) 1 1] 34)
    rw [alloc_size, alloc_size, alloc_size] at this
    exact this
  · match i, hi with
    | 0, _ => exact ⟨_, rfl, h1, Nat.le_refl _⟩
    | 1, _ => exact ⟨_, rfl, h2, Nat.le_refl _⟩
    | 2, _ => exact ⟨_, rfl, h3, Nat.le_refl _⟩
theorem fit_one {rs : List (List Nat)} (h : ∀ r ∈ rs, r.length = 1 ∧ ∀ x ∈ r, x < 100) : Fit 1048576 rs := fun b hb => ⟨fun x hx => by have := (h b hb).2 x hx; show x < 18446744073709551616; omega, by rw [(h b hb).1]; decide⟩
theorem aw_basis : basisL [[3], [6], [5]] = [[5], [6]] := by decide
theorem aw_insert : insertL [[5], [6]] [1] = [[1], [2], [4]] := by decide
theorem aw_first : firstI (reduceL [[5], [6]] [1]) = 2 := by decide
theorem aw_three : firstI (reduceL [[5], [6]] [3]) = -1 := by decide
theorem aw_reduce : reduceL [[5], [6]] [1] = [4] := by decide

theorem aw_same : decide (cnt (xorL [4] [4]) = 0) = true := by decide
theorem below_a3 {w wk w' : World} {o o' o'' : Obj} (hB : Below w.heap.size w wk) (hb : Below (((wk.alloc o).alloc o').alloc o'').heap.size (((wk.alloc o).alloc o').alloc o'') w') : Below w.heap.size w w' := below1 (hB.alloc hB.size o |>.alloc (by have := hB.size; simp; omega) o') hb
theorem below_a4 {w wk w' : World} {o o' o'' o3 : Obj} (hB : Below w.heap.size w wk) (hb : Below ((((wk.alloc o).alloc o').alloc o'').alloc o3).heap.size ((((wk.alloc o).alloc o').alloc o'').alloc o3) w') : Below w.heap.size w w' := below_a3 (hB.alloc hB.size o) hb
theorem a2_below (w : World) (o o' : Obj) : Below w.heap.size w ((w.alloc o).alloc o') := below0 (alloc_below w o) (alloc_below _ o')
theorem a3_below (w : World) (o o' o'' : Obj) : Below w.heap.size w (((w.alloc o).alloc o').alloc o'') := below0 (a2_below w o o') (alloc_below _ o'')
theorem a4_below (w : World) (o o' o'' o3 : Obj) : Below w.heap.size w ((((w.alloc o).alloc o').alloc o'').alloc o3) := below0 (a3_below w o o' o'') (alloc_below _ o3)
end Go.Proofs.YtbfkhioljpgjjaaDoor
