/-
  Events of a network as data ('EVV'), slices of them in memory ('EvAt'). No condition.
  Contracts of net.toRight, nodesRight, boundsRight, Check. Condition: what is asked of can be read; no slice of a node's To is longer than its room.
-/
import Derived.Test.YtakoaadimhpclaaGreatDoorU26
import Derived.Test.YtakoaadimhpclaaGreatDoorU1
namespace Go.Proofs.YtakoaadimhpclaaGreatDoor
open Go.RowKit
set_option linter.unusedVariables false
set_option linter.unusedSimpArgs false
set_option maxRecDepth 4000

/-- An event as it lies in memory. -/
structure EVV where
  kd : Int
  nd : Int
  n : Int
  at_ : Int
  by_ : Int
  a : Option Addr
  dn : Nat
  dc : Nat
  xs : List Nat
def EVV.dflt : EVV := ⟨0, 0, 0, 0, 0, none, 0, 0, []⟩
def EVV.cells (e : EVV) : List Value := [.int .i64 e.kd, .int .i64 e.nd, .int .i64 e.n, .int .i64 e.at_, .int .i64 e.by_, .slice e.a e.dn e.dc]
def EVV.val (e : EVV) : Value := .agg #[.int .i64 e.kd, .int .i64 e.nd, .int .i64 e.n, .int .i64 e.at_, .int .i64 e.by_, .slice e.a e.dn e.dc]
end Go.Proofs.YtakoaadimhpclaaGreatDoor
namespace Go.Proofs.YtakoaadimhpclaaGreatDoor
open Go.RowKit Go.Sort
set_option linter.unusedVariables false
set_option linter.unusedSimpArgs false
set_option maxRecDepth 4000

theorem elem_intsN : Tryz.prog.underlying 58 = some (.slice (Tryz.prog.elem 58)) := by kernel_rfl
theorem elem_intsN' : Tryz.prog.elem 58 = 3 := by kernel_rfl
theorem islice_hi (a : Option Addr) (n c q : Nat) (hc : q ≤ c) (w : World) :
    (Instr.sliceAt 58 (.slice a n c) none (some (.int .i64 (q : Int))) none).run Tryz.prog w = .ok (.slice a q c) w := by
  have hz : ∀ w : World, (sizeOf 3).run Tryz.prog w = .ok 1 w := fun w => by kernel_rfl
  rw [run_sliceAt_slice _ _ _ _ _ _ elem_intsN, run_slice_h _ _ _ _ _ elem_intsN _ _ (by omega) (by omega), elem_intsN', hz]
  cases a <;> simp [Result.andThen, sliced, Addr.add]
theorem IntzAt.take {w : World} {a : Option Addr} {n : Nat} {xs : List Int} (h : IntzAt w a n xs) {k : Nat} (hk : k ≤ n) : IntzAt w a k (xs.take k) := by
  refine ⟨by rw [List.length_take, h.1]; omega, ?_⟩
  rcases h.2 with h0 | ⟨b, off, rfl, hc⟩
  · left; omega
  · refine .inr ⟨b, off, rfl, fun i hi => ?_⟩
    rw [hc i (by omega), List.getD_eq_getElem?_getD, List.getD_eq_getElem?_getD, List.getElem?_take_of_lt hi]
theorem mem_takeZ {xs : List Int} {k : Nat} (hk : k ≤ xs.length) (x : Int) : x ∈ xs.take k ↔ ∃ j, j < k ∧ xs.getD j 0 = x := by
  rw [List.mem_iff_getElem?]
  constructor
  · rintro ⟨j, hj⟩
    have hl := (List.getElem?_eq_some_iff.1 hj).1
    rw [List.length_take] at hl
    refine ⟨j, by omega, ?_⟩
    rw [List.getElem?_take_of_lt (by omega)] at hj
    rw [List.getD_eq_getElem?_getD, hj]
    rfl
  · rintro ⟨j, hj, rfl⟩
    refine ⟨j, ?_⟩
    rw [List.getElem?_take_of_lt hj, List.getElem?_eq_getElem (by omega), List.getD_eq_getElem?_getD, List.getElem?_eq_getElem (by omega)]
    rfl
set_option maxHeartbeats 2000000 in
theorem ntto_any (a : Option Addr) (n c : Nat) (xs : List Int) (id N : Nat) (w : World) (h : IntzAt w a n xs) (hn : n ≤ 9223372036854775807) (hc : n ≤ c) (hN : 1 ≤ N ∧ N ≤ 8) (hid : id < N) :
    Calls Tryz.prog 75 #[.slice a n c, .int .i64 (id : Int), .int .i64 (N : Int)] w fun e w' => ((e = .returned (.bool true) ∧ TosP xs id N) ∨ (e = .returned (.bool false) ∧ ¬ TosP xs id N)) ∧ w' = w := by
  obtain rfl := h.1
  have hN1 : IntKind.i64.wrap ((N : Int) - 1) = (N : Int) - 1 := by rw [IntKind.wrap_i64]; omega
  have H := hide h
  clear h
  go_enter Tryz.func75, Tryz.ntmps75
  go_wp2
  go_loop [11] (fun i => ∃ k : Nat, k ≤ xs.length ∧ i = .int .i64 k ∧ Hid (∀ j, j < k → (0 ≤ xs.getD j 0 ∧ xs.getD j 0 ≤ (N : Int) - 1) ∧ xs.getD j 0 ≠ id ∧ ∀ k, k < j → xs.getD k 0 ≠ xs.getD j 0)) (fun i => xs.length - (intOf i).toNat)
  case atStart => exact ⟨0, Nat.zero_le _, rfl, hide (fun j hj => by omega)⟩
  case round =>
    obtain ⟨k, hk, rfl, HZ⟩ := hrel
    by_cases hlt : k < xs.length
    · have hlt' : (k : Int) < (xs.length : Int) := by omega
      have hkN : k < N := dist_lt hid (unhide HZ)
      obtain ⟨b, off, rfl, hcell⟩ := (unhide H).at hlt
      have hck := hcell k hlt
      have hsl := islice_hi (some ⟨b, off, none⟩) xs.length c k (by omega)
      have HC := hide (containsI_any (some ⟨b, off, none⟩) k c (xs.take k) (xs.getD k 0) w ((unhide H).take (by omega)) (by omega))
      have hmt := mem_takeZ (xs := xs) (k := k) (by omega) (xs.getD k 0)
      clear hcell
      have HNO : (¬ ((0 ≤ xs.getD k 0 ∧ xs.getD k 0 ≤ (N : Int) - 1) ∧ xs.getD k 0 ≠ id ∧ ∀ q, q < k → xs.getD q 0 ≠ xs.getD k 0)) → ¬ TosP xs id N := fun e p => e (p.2 k hlt)
      have HNO := hide HNO
      by_cases h1 : 0 ≤ xs.getD k 0 ∧ xs.getD k 0 ≤ (N : Int) - 1
      case neg =>
        have HF := hide ((unhide HNO) fun p => h1 p.1)
        clear hmt HC HNO HZ
        generalize xs.getD k 0 = x at *
        go_wp2_with (first
          | (go_at_call 73; refine (ntin_no _ _ _ _ h1).mono ?_; rintro e w1 ⟨rfl, hw1⟩; obtain rfl := hw1.symm; clear hw1)
          | fail)
        go_ret
        exact ⟨.inr ⟨rfl, unhide HF⟩, rfl⟩
      case pos =>
        by_cases h2 : xs.getD k 0 = id
        · have HF := hide ((unhide HNO) fun p => p.2.1 h2)
          rw [h2] at hck h1
          clear h2 HNO HZ hmt HC
          go_wp2_with (first
            | (go_at_call 73; refine (ntin_yes _ _ _ _ h1).mono ?_; rintro e w1 ⟨rfl, hw1⟩; obtain rfl := hw1.symm; clear hw1)
            | fail)
          go_ret
          exact ⟨.inr ⟨rfl, unhide HF⟩, rfl⟩
        · by_cases h3 : xs.getD k 0 ∈ xs.take k
          · have HF := hide ((unhide HNO) fun p => by obtain ⟨j, hj, e⟩ := hmt.1 h3; exact p.2.2 j hj e)
            have hd : decide (xs.getD k 0 ∈ xs.take k) = true := decide_eq_true h3
            rw [hd] at HC
            clear hmt h3 hd HNO HZ
            generalize xs.getD k 0 = x at *
            have e2 : (x == (id : Int)) = false := beq_eq_false_iff_ne.2 h2
            clear h2
            go_wp2_with (first
              | (go_at_call 73; refine (ntin_yes _ _ _ _ h1).mono ?_; rintro e w1 ⟨rfl, hw1⟩; obtain rfl := hw1.symm; clear hw1)
              | (go_at_call 92; refine (unhide HC).mono ?_; rintro e w1 ⟨rfl, hw1⟩; obtain rfl := hw1.symm; clear hw1)
              | fail)
            go_ret
            exact ⟨.inr ⟨rfl, unhide HF⟩, rfl⟩
          · have hd : decide (xs.getD k 0 ∈ xs.take k) = false := decide_eq_false h3
            rw [hd] at HC
            have HS := hide (show ∀ j, j < k + 1 → (0 ≤ xs.getD j 0 ∧ xs.getD j 0 ≤ (N : Int) - 1) ∧ xs.getD j 0 ≠ id ∧ ∀ k, k < j → xs.getD k 0 ≠ xs.getD j 0 from fun j hj => by
              by_cases e : j = k
              · rw [e]; exact ⟨h1, h2, fun q hq e => h3 (hmt.2 ⟨q, hq, e⟩)⟩
              · exact unhide HZ j (by omega))
            clear hmt h3 hd HNO HZ
            generalize xs.getD k 0 = x at *
            have e2 : (x == (id : Int)) = false := beq_eq_false_iff_ne.2 h2
            clear h2
            go_wp2_with (first
              | (go_at_call 73; refine (ntin_yes _ _ _ _ h1).mono ?_; rintro e w1 ⟨rfl, hw1⟩; obtain rfl := hw1.symm; clear hw1)
              | (go_at_call 92; refine (unhide HC).mono ?_; rintro e w1 ⟨rfl, hw1⟩; obtain rfl := hw1.symm; clear hw1)
              | fail)
            go_round
            case rel => exact ⟨k + 1, hlt, by go_num, HS⟩
            case measure => simp [intOf]; omega
    · have HF := hide (show TosP xs id N from ⟨by have := dist_lt hid (unhide HZ); omega, fun i hi => unhide HZ i (by omega)⟩)
      go_wp2
      go_ret
      exact ⟨.inl ⟨rfl, unhide HF⟩, rfl⟩
end Go.Proofs.YtakoaadimhpclaaGreatDoor
