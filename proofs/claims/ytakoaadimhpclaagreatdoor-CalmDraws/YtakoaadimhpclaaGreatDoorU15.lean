/-
  Plain mathematics of a source: the row of chosen blocks (rowL), the degree (degN), the packet's row (evecL) and text (ofL). No condition.
  Contracts of split.Plan and bucketlineref09.Plan: for every two ints. Of bucketlineref02.Texts: for every two slices of texts.
-/
import Derived.Test.YtakoaadimhpclaaGreatDoorU10
import Derived.Test.YtakoaadimhpclaaGreatDoorU12
import Derived.Test.YtakoaadimhpclaaGreatDoorU14
import Derived.Test.YtakoaadimhpclaaGreatDoorU2
import Derived.Test.YtakoaadimhpclaaGreatDoorU13
import Derived.Deep.QuietTactic
import Derived.BigQuiet
namespace Go.Proofs.YtakoaadimhpclaaGreatDoor
set_option linter.unusedVariables false
set_option linter.unusedSimpArgs false
set_option maxRecDepth 4000

/-- The row of chosen ones of k blocks. -/
def rowL (k : Nat) (ns : List Nat) : List Nat := ns.foldl (fun v i => setB v i true) (List.replicate (sizeOfK (k : Int)) 0)
theorem rowL_nil (k : Nat) : rowL k [] = List.replicate (sizeOfK (k : Int)) 0 := rfl
theorem rowL_snoc (k : Nat) (ns : List Nat) (i : Nat) : rowL k (ns ++ [i]) = setB (rowL k ns) i true := by simp [rowL, List.foldl_append]
theorem rowL_take (k : Nat) (ns : List Nat) (j : Nat) (h : j < ns.length) : rowL k (ns.take (j + 1)) = setB (rowL k (ns.take j)) (ns.getD j 0) true := by
  rw [List.take_succ_eq_append_getElem h, rowL_snoc]
  simp [List.getD_eq_getElem?_getD, List.getElem?_eq_getElem h]
theorem fold_len : ∀ (ns v : List Nat), (ns.foldl (fun v i => setB v i true) v).length = v.length
  | [], _ => rfl
  | i :: ns, v => by rw [List.foldl_cons, fold_len ns, setB_length]
theorem rowL_length (k : Nat) (ns : List Nat) : (rowL k ns).length = sizeOfK (k : Int) := by rw [rowL, fold_len, List.length_replicate]
theorem zeros_smalls (n : Nat) : smalls (List.replicate n 0) := by
  intro x hx
  rw [(List.mem_replicate.1 hx).2]
  show 0 < 18446744073709551616
  decide

/-- The degree by a draw. -/
def degN (k s x : Nat) : Nat := pickD (tableL k s) x
theorem degN_in (k s x : Nat) (hk : 1 ≤ k) (hs : s ≤ 128) : 1 ≤ degN k s x ∧ degN k s x ≤ k := by
  have := pickD_in (tableL_pos k s hk hs) x
  rw [tableL_len] at this
  exact this
/-- The degree of the packet that the draws behind the N-th say; the row; how many draws are used then. -/
def degL (k s : Nat) (L : List Nat) (N : Nat) : Nat := degN k s (drawN L (N + 1))
def evecL (k s : Nat) (L : List Nat) (N : Nat) : List Nat := rowL k (distL L (N + 1) k (degL k s L N))
def nextN (k s : Nat) (L : List Nat) (N : Nat) : Nat := N + 1 + degL k s L N
theorem degL_in (k s : Nat) (L : List Nat) (N : Nat) (hk : 1 ≤ k) (hs : s ≤ 128) : 1 ≤ degL k s L N ∧ degL k s L N ≤ k := degN_in k s _ hk hs
theorem deg_min (k s : Nat) (L : List Nat) (N : Nat) (hk : 1 ≤ k) (hs : s ≤ 128) : min ((degL k s L N : Nat) : Int).toNat k = degL k s L N := by
  have := degL_in k s L N hk hs
  omega
theorem vecL_length (k s : Nat) (L : List Nat) (N : Nat) : (evecL k s L N).length = sizeOfK (k : Int) := rowL_length _ _

/-- Draws 0, i: block i alone. -/
theorem deg_zero (k s : Nat) (hk : 1 ≤ k) (hs : s ≤ 128) : degN k s 0 = 1 := by
  have := pickD_at (tableL k s) 0 0 (by rw [tableL_len]; omega) (by rw [tableL_get k s 0 (by omega)]; have := (shareN_le k s (0 + 1) hs).1; omega)
  unfold degN
  simpa [sumZ] using this
theorem unit_deg (k s i : Nat) (hk : 1 ≤ k) (hs : s ≤ 128) : degL k s [0, i] 0 = 1 := by
  unfold degL
  rw [show drawN [0, i] (0 + 1) = 0 from by rw [drawN_in (by simp)]; rfl]
  exact deg_zero k s hk hs
theorem range_getD (k i : Nat) (h : i < k) : (List.range k).getD i 0 = i := by simp [List.getD_eq_getElem?_getD, h]
theorem unit_dist (k i : Nat) (hi : i < k) : distL [0, i] 1 k 1 = [i] := by
  have hp := dist_perm [0, i] 1 k 1 (by omega)
  have hq : picksL [0, i] 1 (List.range k) 1 = [i] := by
    show [] ++ [_] = [i]
    rw [show drawN [0, i] (1 + 0 + 1) = i from by rw [drawN_in (by simp)]; rfl]
    show [] ++ [(List.range k).getD (i % (List.range k).length) 0] = [i]
    rw [List.length_range, Nat.mod_eq_of_lt hi, range_getD k i hi]
    rfl
  rw [hq] at hp
  exact (List.perm_singleton.1 hp.symm)
theorem unit_vec (k s i : Nat) (hk : 1 ≤ k) (hs : s ≤ 128) (hi : i < k) : evecL k s [0, i] 0 = rowL k [i] := by
  unfold evecL
  rw [unit_deg k s i hk hs, show (0 + 1 : Nat) = 1 from rfl, unit_dist k i hi]
theorem unit_row (k i : Nat) (hi : i < k) : rowL k [i] = unitL (k : Int) (i : Int) := by
  unfold unitL setI
  rw [if_neg (by omega), if_neg (by omega)]
  rfl
end Go.Proofs.YtakoaadimhpclaaGreatDoor
namespace Go.Proofs.YtakoaadimhpclaaGreatDoor
open Go.RowKit
set_option linter.unusedVariables false
set_option linter.unusedSimpArgs false
set_option maxRecDepth 4000

theorem ret_two {k k' : IntKind} {a b c d : Int} (h : a = c) (h' : b = d) : Ending.returned (.tuple #[.int k a, .int k' b]) = .returned (.tuple #[.int k c, .int k' d]) := by rw [h, h']
theorem kc_yes {n z : Nat} (h : 0 < n % z ∨ n / z = 0) : kc n z = n / z + 1 := if_pos h
theorem kc_no {n z : Nat} (h : ¬ (0 < n % z ∨ n / z = 0)) : kc n z = n / z := if_neg h

set_option maxHeartbeats 400000 in
theorem plan_any (n z : Int) (w : World) (hn : n ≤ 9223372036854775807) :
    Calls Tryz.prog 35 #[.int .i64 n, .int .i64 z] w fun e w' => e = .returned (.tuple #[.int .i64 (planK n z), .int .i64 (planE n z)]) ∧ w' = w := by
  by_cases h : n < 0 ∨ z < 1 ∨ 64 < z
  · rw [(plan_arg h).1, (plan_arg h).2]
    by_cases h1 : n < 0
    · clear h
      go_enter Tryz.func35, Tryz.ntmps35
      go_wp2
      go_ret2
      exact ⟨rfl, rfl⟩
    · by_cases h2 : z < 1
      · clear h
        go_enter Tryz.func35, Tryz.ntmps35
        go_wp2
        go_ret2
        exact ⟨rfl, rfl⟩
      · have h3 : 64 < z := by omega
        clear h
        go_enter Tryz.func35, Tryz.ntmps35
        go_wp2
        go_ret2
        exact ⟨rfl, rfl⟩
  · obtain ⟨N, rfl⟩ : ∃ N : Nat, n = (N : Int) := ⟨n.toNat, by omega⟩
    obtain ⟨Z, rfl⟩ : ∃ Z : Nat, z = (Z : Int) := ⟨z.toNat, by omega⟩
    have hz1 : 1 ≤ Z := by omega
    have hz2 : Z ≤ 64 := by omega
    have hz0 : (1 : Int) ≤ (Z : Int) := by omega
    have hz3 : (Z : Int) ≤ 64 := by omega
    have hn0 : (0 : Int) ≤ (N : Int) := by omega
    have eq : (N : Int) / (Z : Int) = ((N / Z : Nat) : Int) := by simp
    have er : (N : Int) % (Z : Int) = ((N % Z : Nat) : Int) := by simp
    have hq : N / Z ≤ N := Nat.div_le_self _ _
    have hqr : N / Z + N % Z ≤ N := by
      have h1 := Nat.div_add_mod N Z
      have h2 := Nat.le_mul_of_pos_left (N / Z) (show 0 < Z by omega)
      omega
    have HY := hide (fun h => kc_yes (n := N) (z := Z) h)
    have HN := hide (fun h => kc_no (n := N) (z := Z) h)
    have HO := hide (fun h => plan_ok (n := N) hz1 hz2 h)
    have HS := hide (fun h => plan_size (n := N) hz1 hz2 h)
    generalize kc N Z = k at *
    obtain ⟨E0, hE0⟩ : ∃ E0, planE (N : Int) (Z : Int) = E0 := ⟨_, rfl⟩
    obtain ⟨K0, hK0⟩ : ∃ K0, planK (N : Int) (Z : Int) = K0 := ⟨_, rfl⟩
    rw [hE0, hK0]
    rw [hE0, hK0] at HO HS
    clear h hE0 hK0
    generalize N / Z = q at *
    generalize N % Z = r at *
    by_cases hr : 0 < r
    · have hkk := unhide HY (.inl hr)
      have HK := hide hkk
      by_cases hbig : 128 < q + 1
      · have hbi : (128 : Int) < (q : Int) + 1 := by omega
        have HR := hide (unhide HS (by omega))
        clear HY HN HO HS hkk
        go_enter Tryz.func35, Tryz.ntmps35
        go_wp2
        go_ret2
        exact ⟨ret_two (unhide HR).2.symm (unhide HR).1.symm, rfl⟩
      · have HR := hide (unhide HO (by omega))
        clear HY HN HO HS hkk
        go_enter Tryz.func35, Tryz.ntmps35
        go_wp2
        go_ret2
        exact ⟨ret_two (by rw [(unhide HR).2, unhide HK]; go_num) (unhide HR).1.symm, rfl⟩
    · by_cases hq0 : q = 0
      · subst hq0
        have hkk := unhide HY (.inr rfl)
        have HK := hide hkk
        have HR := hide (unhide HO (by omega))
        clear HY HN HO HS hkk
        go_enter Tryz.func35, Tryz.ntmps35
        go_wp2
        go_ret2
        exact ⟨ret_two (by rw [(unhide HR).2, unhide HK]; rfl) (unhide HR).1.symm, rfl⟩
      · have hkk := unhide HN (by omega)
        have HK := hide hkk
        by_cases hbig : 128 < q
        · have HR := hide (unhide HS (by omega))
          clear HY HN HO HS hkk
          go_enter Tryz.func35, Tryz.ntmps35
          go_wp2
          go_ret2
          exact ⟨ret_two (unhide HR).2.symm (unhide HR).1.symm, rfl⟩
        · have HR := hide (unhide HO (by omega))
          clear HY HN HO HS hkk
          go_enter Tryz.func35, Tryz.ntmps35
          go_wp2
          go_ret2
          exact ⟨ret_two (by rw [(unhide HR).2, unhide HK]) (unhide HR).1.symm, rfl⟩

end Go.Proofs.YtakoaadimhpclaaGreatDoor
