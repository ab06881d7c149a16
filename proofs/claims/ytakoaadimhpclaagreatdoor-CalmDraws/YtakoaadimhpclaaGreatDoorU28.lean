/-
  Contracts of math/bits.Mul at 1 and a small number; of slices.Repeat of one number. Condition: at most eight times.
-/
import Derived.Test.YtakoaadimhpclaaGreatDoorU27
import Derived.Deep.RegionLaw
import Derived.Test.YtakoaadimhpclaaGreatDoorU18
import Derived.LoopN
namespace Go.Proofs.YtakoaadimhpclaaGreatDoor
open Go.RowKit Go.Sort
set_option linter.unusedVariables false
set_option linter.unusedSimpArgs false
set_option maxRecDepth 4000

theorem mul64_one (n : Nat) (hn : n ≤ 8) (w : World) : Calls Tryz.prog 91 #[.int .u64 1, .int .u64 (n : Int)] w fun e w' => e = .returned (.tuple #[.int .u64 0, .int .u64 (n : Int)]) ∧ w' = w := by
  have h9 : n = 0 ∨ n = 1 ∨ n = 2 ∨ n = 3 ∨ n = 4 ∨ n = 5 ∨ n = 6 ∨ n = 7 ∨ n = 8 := by omega
  rcases h9 with rfl | rfl | rfl | rfl | rfl | rfl | rfl | rfl | rfl
  all_goals
    go_enter Tryz.func91, Tryz.ntmps91
    go_wp2
    go_ret2
    exact ⟨rfl, rfl⟩
theorem mul_one_any (n : Nat) (hn : n ≤ 8) (w : World) : Calls Tryz.prog 72 #[.int .u64 1, .int .u64 (n : Int)] w fun e w' => e = .returned (.tuple #[.int .u64 0, .int .u64 (n : Int)]) ∧ w' = w := by
  go_enter Tryz.func72, Tryz.ntmps72
  go_wp2_with (first
    | (go_at_call 91; refine (mul64_one n hn _).mono ?_; rintro e w1 ⟨rfl, hw1⟩; obtain rfl := hw1.symm; clear hw1)
    | fail)
  go_ret2
  exact ⟨rfl, rfl⟩
/-- Cells written one behind the other. -/
def ovrV : List Value → Nat → List Value → List Value
  | xs, _, [] => xs
  | xs, o, v :: r => ovrV (xs.set o v) (o + 1) r
theorem ovrV_mid : ∀ (vs A B C : List Value), B.length = vs.length → ovrV (A ++ (B ++ C)) A.length vs = A ++ (vs ++ C)
  | [], A, B, C, h => by
    have : B = [] := List.eq_nil_of_length_eq_zero h
    subst this
    rfl
  | v :: r, A, [], C, h => by simp at h
  | v :: r, A, b :: B, C, h => by
    have h1 := ovrV_mid r (A ++ [v]) B C (by simpa using h)
    unfold ovrV
    rw [show (A ++ (b :: B ++ C)).set A.length v = (A ++ [v]) ++ (B ++ C) by simp, show A.length + 1 = (A ++ [v]).length by simp, h1]
    simp
theorem owns_setCells {B g : Nat} {e : TypeId} {size n cap : Nat} : ∀ (vs : List Value) (w : World) (xs : List Value) (o : Nat), w.ownsRow B e size (.slice (some ⟨g, 0, none⟩) n cap) n xs → (w.setCells g o vs).ownsRow B e size (.slice (some ⟨g, 0, none⟩) n cap) n (ovrV xs o vs)
  | [], w, xs, o, h => h
  | v :: r, w, xs, o, h => owns_setCells r _ (xs.set o v) (o + 1) (h.stored o v).1
/-- copy of elements of some cells each: all is read ahead of anything being written. -/
theorem run_copy_many (w : World) (dT sT ty elem : TypeId) (b o dLen dCap s k : Nat) (a : Addr) (sLen sCap : Nat) (cs : List Value)
    (hu : Tryz.prog.underlying dT = some (.slice elem)) (hs : (Tryz.prog.info? elem).map (·.size) = some s) (hk : k = Nat.min sLen dLen) (hn : cs.length = k * s)
    (hsrc : ∀ j v, cs[j]? = some v → w.cell? (a.add j) = some v) (hc : ∀ j, j < cs.length → (w.cell? ⟨b, o + j, none⟩).isSome = true) (hf : ∀ j, j < cs.length → w.frozen? ⟨b, o + j, none⟩ = false) (h1 : ∀ v ∈ cs, v.oneCell' = true) :
    (Builtin.copy_ #[dT, sT] ty #[.slice (some ⟨b, o, none⟩) dLen dCap, .slice (some a) sLen sCap]).run Tryz.prog w = .ok (goInt k) (w.setCells b o cs) := by
  have hl := run_loadCells_list (P := Tryz.prog) w a cs hsrc
  have hst := run_storeCells_cells (P := Tryz.prog) b o cs 0 w (by simpa using hc) (by simpa using hf) h1
  cases hq : Tryz.prog.info? elem with
  | none => simp [hq] at hs
  | some i =>
    have hi : i.size = s := by simpa [hq] using hs
    simp [Builtin.copy_, run_underlying hu, Builtin.lenOf, Builtin.firstCells, sizeOf, typeInfo, hq, hi, ← hk, ← hn, hl, hst]
/-- m times some cells, then zero ones, n times in all. -/
def repV (cs z : List Value) (n m : Nat) : List Value := (List.replicate m cs).flatten ++ (List.replicate (n - m) z).flatten
theorem flat_len (cs : List Value) : ∀ m, (List.replicate m cs).flatten.length = m * cs.length
  | 0 => by simp
  | m + 1 => by rw [List.replicate_succ, List.flatten_cons, List.length_append, flat_len cs m, Nat.add_mul]; omega
theorem flat_add (cs : List Value) (a b : Nat) : (List.replicate (a + b) cs).flatten = (List.replicate a cs).flatten ++ (List.replicate b cs).flatten := by
  rw [← List.replicate_append_replicate, List.flatten_append]
/-- A copy of the first k ones behind the first m ones. -/
theorem repV_copy {cs z : List Value} (hz : z.length = cs.length) {n m k : Nat} (hk : m + k ≤ n) : ovrV (repV cs z n m) (m * cs.length) (List.replicate k cs).flatten = repV cs z n (m + k) := by
  unfold repV
  rw [show n - m = k + (n - (m + k)) by omega, flat_add z k, flat_add cs m k, ← flat_len cs m, ovrV_mid _ _ _ _ (by rw [flat_len, flat_len, hz]), List.append_assoc]
theorem repV_len {cs z : List Value} {s n m : Nat} (hc : cs.length = s) (hz : z.length = s) (hm : m ≤ n) : (repV cs z n m).length = n * s := by
  unfold repV
  rw [List.length_append, flat_len, flat_len, hc, hz, ← Nat.add_mul]
  congr 1
  omega
/-- The copy of what stands behind it, within one row. -/
theorem rep_copy {B g n c m k s : Nat} {e dT : TypeId} {cs z : List Value} (hu : Tryz.prog.underlying dT = some (.slice e)) (hs : (Tryz.prog.info? e).map (·.size) = some s) (hc : cs.length = s) (hz : z.length = s) (h1 : ∀ v ∈ cs, v.oneCell' = true)
    (hk : k = Nat.min m (n - m)) (hm : m ≤ n) {w : World} (h : w.ownsRow B e s (.slice (some ⟨g, 0, none⟩) n c) n (repV cs z n m)) :
    (w.setCells g (m * s) (List.replicate k cs).flatten).ownsRow B e s (.slice (some ⟨g, 0, none⟩) n c) n (repV cs z n (m + k)) ∧ w.grownBy (w.setCells g (m * s) (List.replicate k cs).flatten) (some g) ∧
    ∀ ty dc sc, (Builtin.copy_ #[dT, dT] ty #[.slice (some ⟨g, m * s, none⟩) (n - m) dc, .slice (some ⟨g, 0, none⟩) m sc]).run Tryz.prog w = .ok (goInt k) (w.setCells g (m * s) (List.replicate k cs).flatten) := by
  have hkm : k ≤ m ∧ m + k ≤ n := by
    have h2 : k ≤ m := by rw [hk]; exact Nat.min_le_left _ _
    have h3 : k ≤ n - m := by rw [hk]; exact Nat.min_le_right _ _
    omega
  have hl := repV_len (n := n) (m := m) hc hz hm
  have hlk : (List.replicate k cs).flatten.length = k * s := by rw [flat_len, hc]
  have hle : m * s + k * s ≤ n * s := by rw [← Nat.add_mul]; exact Nat.mul_le_mul_right _ hkm.2
  refine ⟨?_, setCells_gb g _ _ _, fun ty dc sc => ?_⟩
  · have := owns_setCells (List.replicate k cs).flatten w _ (m * s) h
    rwa [show ovrV (repV cs z n m) (m * s) (List.replicate k cs).flatten = repV cs z n (m + k) from by rw [← hc]; exact repV_copy (by omega) hkm.2] at this
  · refine run_copy_many w dT dT ty e g (m * s) (n - m) dc s k ⟨g, 0, none⟩ m sc (List.replicate k cs).flatten hu hs hk hlk (fun j v hj => ?_) (fun j hj => ?_) (fun j hj => ?_) (fun v hv => ?_)
    · have hjl := (List.getElem?_eq_some_iff.1 hj).1
      refine World.ownsRow.cells h (g := g) rfl j v ?_
      unfold repV
      rw [show m = k + (m - k) by omega, flat_add cs k (m - k), List.append_assoc, List.getElem?_append_left hjl]
      exact hj
    · rw [hlk] at hj
      obtain ⟨u, hu'⟩ : ∃ u, (repV cs z n m)[m * s + j]? = some u := ⟨_, List.getElem?_eq_getElem (by rw [hl]; omega)⟩
      have := World.ownsRow.cells h (g := g) rfl (m * s + j) u hu'
      rw [show (⟨g, 0, none⟩ : Addr).add (m * s + j) = ⟨g, m * s + j, none⟩ from by unfold Addr.add; split <;> simp_all] at this
      rw [this]
      rfl
    · exact World.ownsRow.frozenAt h (m * s + j)
    · obtain ⟨l, hl', hv'⟩ := List.mem_flatten.1 hv
      rw [(List.mem_replicate.1 hl').2] at hv'
      exact h1 v hv'
end Go.Proofs.YtakoaadimhpclaaGreatDoor
