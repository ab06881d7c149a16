/-
  Contracts of slices.Index, Contains and Clone at ints, recode.around and distance, bucketlineref18.far, bucketlinelaw18.far. Conditions: at most 2^20 ints; a target from -2^40 to 2^40, a degree of at most 2^20.
-/
import Derived.Test.YtfimbbiholllhaaDoorM8
import Derived.Test.YtfimbbiholllhaaDoorM4
namespace Go.Proofs.YtfimbbiholllhaaDoor
open Go.RowKit
set_option linter.unusedVariables false
set_option maxRecDepth 4000

theorem take_snocZ (xs : List Int) (k : Nat) (hk : k < xs.length) : xs.take (k + 1) = xs.take k ++ [xs.getD k 0] := by
  rw [List.take_succ_eq_append_getElem hk]
  simp [List.getD_eq_getElem?_getD, List.getElem?_eq_getElem hk]
set_option maxHeartbeats 1000000 in
theorem indexI_any (a : Option Addr) (n c : Nat) (xs : List Int) (x : Int) (w : World) (h : IntzAt w a n xs) (hn : n ≤ 1048576) :
    Calls Tryd.prog 66 #[.slice a n c, .int .i64 x] w fun e w' => ∃ r : Int, e = .returned (.int .i64 r) ∧ decide (0 ≤ r) = decide (x ∈ xs) ∧ w' = w := by
  obtain rfl := h.1
  have Hh := hide h
  clear h
  go_enter Tryd.func66, Tryd.ntmps66
  go_wp2
  go_loop [8] (fun i => ∃ k : Nat, k ≤ xs.length ∧ i = .int .i64 k ∧ Hid (x ∉ xs.take k)) (fun i => xs.length - (intOf i).toNat)
  case atStart => exact ⟨0, Nat.zero_le _, rfl, hide (by rw [List.take_zero]; exact List.not_mem_nil)⟩
  case round =>
    obtain ⟨k, hk, rfl, HN⟩ := hrel
    by_cases hlt : k < xs.length
    · obtain ⟨b, off, rfl, hcl⟩ := (unhide Hh).at hlt
      have hcell := hcl k hlt
      have hlt' : (k : Int) < (xs.length : Int) := by omega
      have HT := hide (take_snocZ xs k hlt)
      have HM := hide (show xs.getD k 0 ∈ xs from by rw [List.getD_eq_getElem?_getD, List.getElem?_eq_getElem hlt]; exact List.getElem_mem hlt)
      clear hcl
      generalize xs.getD k 0 = y at *
      by_cases he : x = y
      · subst he
        go_wp2
        go_ret
        exact ⟨_, rfl, ⟨fun _ => unhide HM, fun _ => by omega⟩, rfl⟩
      · go_wp2
        go_round
        case rel => exact ⟨k + 1, by omega, by go_num, hide (by rw [unhide HT, List.mem_append, List.mem_singleton]; exact fun h => h.elim (unhide HN) he)⟩
        case measure => simp [intOf]; omega
    · have hke : xs.take k = xs := List.take_of_length_le (by omega)
      rw [hke] at HN
      go_wp2
      go_ret
      exact ⟨_, rfl, ⟨fun h => absurd h (by decide), fun h => absurd h (unhide HN)⟩, rfl⟩
set_option maxHeartbeats 400000 in
theorem containsI_any (a : Option Addr) (n c : Nat) (xs : List Int) (x : Int) (w : World) (h : IntzAt w a n xs) (hn : n ≤ 1048576) :
    Calls Tryd.prog 59 #[.slice a n c, .int .i64 x] w fun e w' => e = .returned (.bool (decide (x ∈ xs))) ∧ w' = w := by
  have HC := hide (indexI_any a n c xs x w h hn)
  clear h
  go_enter Tryd.func59, Tryd.ntmps59
  go_wp2_with (go_at_call 66; refine (unhide HC).mono ?_; rintro e w1 ⟨r, rfl, hr, hw1⟩; obtain rfl := hw1.symm; clear hw1 HC)
  go_ret
  exact ⟨rfl, rfl⟩
set_option maxHeartbeats 1000000 in
theorem cloneI_any (a : Addr) (n c : Nat) (xs : List Int) (w : World) (h : IntzAt w (some a) n xs) (hn : n ≤ 1048576) :
    Calls Tryd.prog 50 #[.slice (some a) n c] w fun e w' => ∃ v, e = .returned v ∧ OwnZ w' w.heap.size v xs ∧ Below w.heap.size w w' := by
  have hnil := fun wx => Lib.run_eql_slice_nil (P := Tryd.prog) wx 27 3 (some a) n c 0 0 Tryd.underlying27
  obtain ⟨i0, hi, hz0, hz1, hz2⟩ := info_parts info_intZ
  go_enter Tryd.func50, Tryd.ntmps50
  go_wp2_with (first | (at_builtin; refine wpList_append_own _ rfl (.tmp 5) (.tmp 6) 27 rfl w.heap.size 3 i0 (.int .i64 0) 1 8 Tryd.underlying27 hi hz0 hz1 hz2 rfl (by decide) _ _ _ rfl (World.ownsRow_lit _ #[] 0 (Nat.le_refl _) (by decide) rfl) a n c (cellsZ xs) rfl ?c0 ?c1 ?c2 ?c3 ?c4 ?c5 ?_))
  case c0 => rw [cellsZ_length, h.1, Nat.mul_one]
  case c1 =>
    have h2 := h.below ((Below.refl _ _).alloc (Nat.le_refl _) (.cells #[] 3))
    intro j u hj
    obtain ⟨b, off, e, hc⟩ := h2.at (i := j) (by have := (List.getElem?_eq_some_iff.1 hj).1; rw [cellsZ_length, h.1] at this; exact this)
    simp only [Option.some.injEq] at e
    subst e
    have hjl : j < n := by have := (List.getElem?_eq_some_iff.1 hj).1; rw [cellsZ_length, h.1] at this; exact this
    rw [cellsZ_get xs j (by rw [h.1]; exact hjl)] at hj
    rw [show (⟨b, off, none⟩ : Addr).add j = ⟨b, off + j, none⟩ by unfold Addr.add; split <;> simp_all, hc j hjl]
    exact hj
  case c2 => intro u hu; obtain ⟨x, _, rfl⟩ := List.mem_map.1 hu; rfl
  case c3 => unfold maxLen; omega
  case c4 => omega
  case c5 => simp
  intro v' w1 hown hgrow _
  have HB := hide (show Below w.heap.size w w1 from ((Below.refl _ _).alloc (Nat.le_refl _) _).grown hgrow (by simp) (fun k hk => by simp [Value.ownBlock] at hk; omega))
  have HO := hide (show OwnZ w1 w.heap.size v' xs from by have hl := h.1; show w1.ownsRow _ _ _ _ xs.length _; rw [hl]; simpa using hown)
  clear hown hgrow
  go_wp2
  go_ret
  exact ⟨_, rfl, unhide HO, unhide HB⟩

theorem place_emod (b : Int) {n : Nat} (hn : 0 < n) : ((placeN b n : Nat) : Int) = (b.tmod n + n) % n := by
  rw [(place_is b hn).1]
  have h3 : -(n : Int) < b.tmod n := by
    have := Int.lt_tmod_of_pos b (show (0 : Int) < n by omega)
    omega
  exact Int.tmod_eq_emod_of_nonneg (by omega)
theorem around_any (b : Int) (n : Nat) (hn : 0 < n) (hm : n ≤ 1048576) (hb : -9223372036854775808 ≤ b ∧ b ≤ 9223372036854775807) (w : World) :
    Calls Tryd.prog 22 #[.int .i64 b, .int .i64 (n : Int)] w fun e w' => e = .returned (.int .i64 ((placeN b n : Nat) : Int)) ∧ w' = w := by
  have hnz : ¬ ((n : Int) = 0) := by omega
  have h1 := place_emod b hn
  have h2 : (b.tmod n) < n := Int.tmod_lt_of_pos _ (by omega)
  have h3 : -(n : Int) < b.tmod n := by
    have := Int.lt_tmod_of_pos b (show (0 : Int) < n by omega)
    omega
  go_enter Tryd.func22, Tryd.ntmps22
  go_wp2
  go_ret
  exact ⟨congrArg (fun x => Ending.returned (.int .i64 x)) h1.symm, rfl⟩
theorem dist_wrap (d : Nat) (t : Int) (hd : d ≤ 1048576) (ht : -1099511627776 ≤ t ∧ t ≤ 1099511627776) : IntKind.u64.wrap (max (d : Int) t - IntKind.u64.wrap (min (d : Int) t)) = ((distN d t : Nat) : Int) := by
  rw [IntKind.wrap_u64, IntKind.wrap_u64, distN_cast]
  unfold distZ
  split <;> omega
theorem distance_any (d : Nat) (t : Int) (hd : d ≤ 1048576) (ht : -1099511627776 ≤ t ∧ t ≤ 1099511627776) (w : World) :
    Calls Tryd.prog 46 #[.int .i64 (d : Int), .int .i64 t] w fun e w' => e = .returned (.int .u64 ((distN d t : Nat) : Int)) ∧ w' = w := by
  have hmax := max_runZ (d : Int) t
  have hmin := min_runZ (d : Int) t
  go_enter Tryd.func46, Tryd.ntmps46
  go_wp2
  go_ret
  exact ⟨congrArg (fun x => Ending.returned (.int .u64 x)) (dist_wrap d t hd ht), rfl⟩
theorem far_any (d : Nat) (t : Int) (hd : d ≤ 1048576) (ht : -1099511627776 ≤ t ∧ t ≤ 1099511627776) (w : World) :
    Calls Tryd.prog 26 #[.int .i64 (d : Int), .int .i64 t] w fun e w' => e = .returned (.int .i64 (distZ d t)) ∧ w' = w := by
  unfold distZ
  by_cases h : (d : Int) < t
  · rw [if_pos h]
    go_enter Tryd.func26, Tryd.ntmps26
    go_wp2
    go_ret
    exact ⟨rfl, rfl⟩
  · rw [if_neg h]
    go_enter Tryd.func26, Tryd.ntmps26
    go_wp2
    go_ret
    exact ⟨rfl, rfl⟩
/-- Is a target too far? -/
def farB (t : Int) : Bool := decide (t < -1099511627776) || decide (1099511627776 < t)
theorem lfar_any (t : Int) (w : World) : Calls Tryd.prog 9 #[.int .i64 t] w fun e w' => e = .returned (.bool (farB t)) ∧ w' = w := by
  unfold farB
  by_cases h : t < -1099511627776
  · rw [decide_eq_true h]
    go_enter Tryd.func9, Tryd.ntmps9
    go_wp2
    go_ret
    exact ⟨rfl, rfl⟩
  · rw [decide_eq_false h]
    go_enter Tryd.func9, Tryd.ntmps9
    go_wp2
    go_ret
    exact ⟨rfl, rfl⟩
end Go.Proofs.YtfimbbiholllhaaDoor
