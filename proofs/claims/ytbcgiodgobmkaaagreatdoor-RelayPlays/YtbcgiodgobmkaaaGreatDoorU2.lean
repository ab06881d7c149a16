/-
  'append(nil, xs...)' and 'append(own, xs...)' of words, as steps of a walk: rows of the call's own. At most 2^20 words.
  Contracts of bucketlineref01.Count, Xor, First, Same, Words: for every row of at most 2^20 words.
  Contracts of bucketlineref01.First, Same, Words, Size, Set and of words.Size, Set: for every row of at most 2^20 words, every int.
-/
import Derived.Test.YtbcgiodgobmkaaaGreatDoorU0
import Derived.OwnWalk
import Derived.Test.YtbcgiodgobmkaaaGreatDoorU1
import Derived.RegionTactic
import Derived.Deep.RegionWith
namespace Go.Proofs.YtbcgiodgobmkaaaGreatDoor
open Go.RowKit
set_option linter.unusedVariables false
set_option linter.unusedSimpArgs false
set_option maxRecDepth 4000

/-- append(nil, xs...): a row of the call's own, whatever xs is. -/
theorem run_append_nil_any (t ty e : TypeId) (ht : Tryz.prog.underlying t = some (.slice e)) (i : TypeInfo) (hi : Tryz.prog.info? e = some i) (c : Nat) (w : World) :
    (Builtin.append_ #[t, t] ty #[.slice none 0 0, .slice none 0 c]).run Tryz.prog w = .ok (.slice none 0 0) w := by
  simp [Builtin.append_, run_underlying ht, sizeOf, typeInfo, hi, Builtin.lenOf, Builtin.firstCells]
theorem wpList_append_nil {w : World} {ops : Array Oper} {rest : List Oper} {o : Oper} {act : Act} {Q : Exit → Act → World → Prop} (hgd : o.guard = none) (s x : Operand)
    (ho : o.op = .call { callee := .builtin .append, args := #[s, x], argTypes := #[25, 25] }) (a : Option Addr) (n c : Nat) (xs : List Nat)
    (hs : act.eval s = .slice none 0 0) (hx : act.eval x = .slice a n c) (h : RowAt w a n xs) (hn : n ≤ 1048576)
    (hK : ∀ v' w', Own w' w.heap.size v' xs → Below w.heap.size w w' → wpList Tryz.prog ops Q rest (act.put o.dst v') w') : wpList Tryz.prog ops Q (o :: rest) act w := by
  obtain ⟨i0, hi, hz0, hz1, hz2⟩ := info_parts info_u64
  cases a with
  | none =>
    have h0 : n = 0 := by
      rcases h.2.2 with h0 | ⟨b, off, h1, _⟩
      · exact h0
      · cases h1
    subst h0
    have hxs : xs = [] := List.eq_nil_of_length_eq_zero h.1
    subst hxs
    refine wpList_plain hgd fun K hK' => ?_
    have hrun := run_append_nil_any 25 o.type 59 Tryz.underlying25 i0 hi c w
    unfold Oper.wp
    simp [execOp, ho, resolve, invoke, builtin, hs, hx, hrun, Result.andThen]
    exact hK' _ _ (hK _ _ (Own.nil _ _) (Below.refl _ _))
  | some ad =>
    refine wpList_append_own w hgd s x 25 ho w.heap.size 59 i0 (.int .u64 0) 1 8 Tryz.underlying25 hi hz0 hz1 hz2 rfl (by decide) (.slice none 0 0) 0 [] hs (World.ownsRow_nil _ _ _ _) ad n c (cellsU xs) hx
      (by rw [cellsU_length, h.1, Nat.mul_one]) h.news (cellsU_one xs) (by unfold maxLen; omega) (by omega) (Nat.le_refl _) ?_
    intro v' w' hown hgrow _
    exact hK v' w' ⟨h.2.1, by rw [h.1]; simpa using hown⟩ ((Below.refl _ _).grown hgrow (Nat.le_refl _) (fun k hk => by simp [Value.ownBlock] at hk))
end Go.Proofs.YtbcgiodgobmkaaaGreatDoor
namespace Go.Proofs.YtbcgiodgobmkaaaGreatDoor
open Go.RowKit
set_option linter.unusedVariables false
set_option linter.unusedSimpArgs false
set_option maxRecDepth 4000

theorem rcnt_num (x : Nat) (hx : x < 18446744073709551616) : bits .and .u64 (x : Int) 1 = ((x % 2 : Nat) : Int) := by
  have h := u64_and_nat x 1 hx (by omega)
  rwa [nat_mask1] at h

set_option maxHeartbeats 1000000 in
theorem rcount_any (a : Option Addr) (n c : Nat) (xs : List Nat) (w : World) (h : RowAt w a n xs) (hn : n ≤ 1048576) :
    Calls Tryz.prog 42 #[.slice a n c] w fun e w' => e = .returned (.int .i64 ((cnt xs : Nat) : Int)) ∧ w' = w := by
  go_enter Tryz.func42, Tryz.ntmps42
  go_wp2
  go_loop [3, 4] (fun t i => ∃ k : Nat, k ≤ n ∧ i = .int .i64 k ∧ t = .int .i64 ((cnt (xs.take k) : Nat) : Int)) (fun _ i => n - (intOf i).toNat)
  case atStart => exact ⟨0, Nat.zero_le _, rfl, rfl⟩
  case round =>
    obtain ⟨k, hk, rfl, rfl⟩ := hrel
    by_cases hlt : k < n
    · obtain ⟨b, off, rfl, hc⟩ := h.at hlt
      have hcell := hc k hlt
      have hx := h.2.1.get k
      have hs := cnt_take xs k (by rw [h.1]; exact hlt)
      have hb := cnt_le (xs.take k)
      have hlen : (xs.take k).length ≤ k := List.length_take_le _ _
      have hp := pop_le (xs.getD k 0)
      have HS := hide hs
      generalize xs.getD k 0 = x at *
      generalize cnt (xs.take k) = s at *
      clear hs hc h
      go_wp2
      go_loop [3, 5] (fun t y => ∃ z q : Nat, z < 18446744073709551616 ∧ y = .int .u64 (z : Int) ∧ t = .int .i64 (q : Int) ∧ q + pop z = s + pop x) (fun _ y => (intOf y).toNat)
      case atStart => exact ⟨x, s, hx, rfl, rfl, rfl⟩
      case round =>
        obtain ⟨z, q, hz, rfl, rfl, hq⟩ := hrel
        have HQ := hide hq
        have hqb : q ≤ 200000000 := by omega
        clear hq
        by_cases hz0 : 0 < z
        · have hb1 := rcnt_num z hz
          have HP := hide (pop_step z hz)
          go_wp2
          go_round
          case rel => exact ⟨z / 2, q + z % 2, by omega, by go_num, by go_num, by have := unhide HP; have := unhide HQ; omega⟩
          case measure => simp [intOf]; omega
        · have hz1 : z = 0 := by omega
          subst hz1
          have hfin : cnt (xs.take (k + 1)) = q := by
            have h1 := unhide HS
            have h2 := unhide HQ
            rw [pop_zero] at h2
            omega
          have HF := hide hfin
          clear hfin
          go_wp2
          go_round
          case rel => exact ⟨k + 1, by omega, by go_num, by rw [unhide HF]⟩
          case measure => simp [intOf]; omega
    · go_wp2
      go_ret
      exact ⟨ret_int (by rw [List.take_of_length_le (by rw [h.1]; omega)]), rfl⟩

theorem rxor_round {w wr : World} {B g cap : Nat} {xs ys : List Nat} {k : Nat} (hx : smalls xs) (hy : smalls ys) (hk : k < xs.length) (hB : B ≤ g)
    (ho : Own wr B (.slice (some ⟨g, 0, none⟩) xs.length cap) (xorTo xs ys k)) (hb : Below B w wr) :
    Own (wr.setCell ⟨g, k, none⟩ (.int .u64 ((xs.getD k 0 ^^^ ys.getD k 0 : Nat) : Int))).drew B (.slice (some ⟨g, 0, none⟩) xs.length cap) (xorTo xs ys (k + 1)) ∧
    Below B w (wr.setCell ⟨g, k, none⟩ (.int .u64 ((xs.getD k 0 ^^^ ys.getD k 0 : Nat) : Int))).drew := by
  obtain ⟨h1, h2⟩ := xor_round hx hy hk hB ho hb
  exact ⟨⟨h1.1, h1.2.drew⟩, h2.drew⟩

set_option maxHeartbeats 1000000 in
theorem rxor_any (a : Option Addr) (n c : Nat) (xs : List Nat) (a' : Option Addr) (m c' : Nat) (ys : List Nat) (w : World) (h : RowAt w a n xs) (h' : RowAt w a' m ys) (hn : n ≤ 1048576) (hm : m ≤ 1048576) :
    Calls Tryz.prog 57 #[.slice a n c, .slice a' m c'] w fun e w' => ∃ v, e = .returned v ∧ Own w' w.heap.size v (xorL xs ys) ∧ Below w.heap.size w w' := by
  obtain rfl : n = xs.length := h.1.symm
  obtain rfl : m = ys.length := h'.1.symm
  by_cases hsw : xs.length < ys.length
  · have hge : ((xs.length : Int) < (ys.length : Int)) := by omega
    go_enter Tryz.func57, Tryz.ntmps57
    go_wp2_with (first | (at_builtin; refine wpList_append_nil rfl _ _ rfl a' ys.length c' ys rfl rfl h' (by omega) ?_; intro v w1 ho hb))
    go_loopw [6] (fun i wr => ∃ k : Nat, k ≤ xs.length ∧ i = .int .i64 k ∧ Hid (Own wr w.heap.size v (xorTo ys xs k)) ∧ Hid (Below w.heap.size w wr)) (fun i _ => xs.length - (intOf i).toNat)
    case atStart => exact ⟨0, Nat.zero_le _, rfl, hide (by rw [xorTo_zero]; exact ho), hide hb⟩
    case round =>
      obtain ⟨k, hk, rfl, HO, HB⟩ := hrel
      clear ho hb
      by_cases hlt : k < xs.length
      · obtain ⟨b', off', rfl, hc'⟩ := (h.below (unhide HB)).at hlt
        have hkn : k < ys.length := by omega
        have hkn' : (k : Int) < (ys.length : Int) := by omega
        have hlt' : (k : Int) < (xs.length : Int) := by omega
        obtain ⟨g, cap, rfl, hBg, hgs, hcg, hfg⟩ := (unhide HO).at (by rw [xorTo_length]; omega)
        have hcell' := hc' k hlt
        have hcell := hcg k (by rw [xorTo_length]; omega)
        have hfz := hfg k
        rw [xorTo_getD ys xs k k (by omega), if_neg (by omega)] at hcell
        have hxo := u64_xor_nat (ys.getD k 0) (xs.getD k 0) (h'.2.1.get k) (h.2.1.get k)
        rw [xorTo_length] at HO
        have R := hide (rxor_round h'.2.1 h.2.1 (by omega) hBg (unhide HO) (unhide HB))
        rw [xorTo_length]
        generalize ys.getD k 0 = x at *
        generalize xs.getD k 0 = y at *
        clear hc' hcg hfg h h' HO
        go_wp2
        go_region
        all_goals go_wp2
        go_roundw
        case rel => exact ⟨k + 1, by omega, by go_num, hide (unhide R).1, hide (unhide R).2⟩
        case measure => simp [intOf]; omega
      · have hke : k = xs.length := by omega
        subst hke
        rw [xorTo_all ys xs (by omega)] at HO
        clear h h'
        go_wp2
        go_ret
        exact ⟨_, rfl, by rw [xorL_comm]; exact unhide HO, unhide HB⟩
  · have hge : ¬ ((xs.length : Int) < (ys.length : Int)) := by omega
    go_enter Tryz.func57, Tryz.ntmps57
    go_wp2_with (first | (at_builtin; refine wpList_append_nil rfl _ _ rfl a xs.length c xs rfl rfl h (by omega) ?_; intro v w1 ho hb))
    go_loopw [6] (fun i wr => ∃ k : Nat, k ≤ ys.length ∧ i = .int .i64 k ∧ Hid (Own wr w.heap.size v (xorTo xs ys k)) ∧ Hid (Below w.heap.size w wr)) (fun i _ => ys.length - (intOf i).toNat)
    case atStart => exact ⟨0, Nat.zero_le _, rfl, hide (by rw [xorTo_zero]; exact ho), hide hb⟩
    case round =>
      obtain ⟨k, hk, rfl, HO, HB⟩ := hrel
      clear ho hb
      by_cases hlt : k < ys.length
      · obtain ⟨b', off', rfl, hc'⟩ := (h'.below (unhide HB)).at hlt
        have hkn : k < xs.length := by omega
        have hkn' : (k : Int) < (xs.length : Int) := by omega
        have hlt' : (k : Int) < (ys.length : Int) := by omega
        obtain ⟨g, cap, rfl, hBg, hgs, hcg, hfg⟩ := (unhide HO).at (by rw [xorTo_length]; omega)
        have hcell' := hc' k hlt
        have hcell := hcg k (by rw [xorTo_length]; omega)
        have hfz := hfg k
        rw [xorTo_getD xs ys k k (by omega), if_neg (by omega)] at hcell
        have hxo := u64_xor_nat (xs.getD k 0) (ys.getD k 0) (h.2.1.get k) (h'.2.1.get k)
        rw [xorTo_length] at HO
        have R := hide (rxor_round h.2.1 h'.2.1 (by omega) hBg (unhide HO) (unhide HB))
        rw [xorTo_length]
        generalize xs.getD k 0 = x at *
        generalize ys.getD k 0 = y at *
        clear hc' hcg hfg h h' HO
        go_wp2
        go_region
        all_goals go_wp2
        go_roundw
        case rel => exact ⟨k + 1, by omega, by go_num, hide (unhide R).1, hide (unhide R).2⟩
        case measure => simp [intOf]; omega
      · have hke : k = ys.length := by omega
        subst hke
        rw [xorTo_all xs ys (by omega)] at HO
        clear h h'
        go_wp2
        go_ret
        exact ⟨_, rfl, unhide HO, unhide HB⟩

end Go.Proofs.YtbcgiodgobmkaaaGreatDoor
namespace Go.Proofs.YtbcgiodgobmkaaaGreatDoor
open Go.RowKit
set_option linter.unusedVariables false
set_option linter.unusedSimpArgs false
set_option maxRecDepth 4000

set_option maxHeartbeats 1000000 in
theorem rfirst_any (a : Option Addr) (n c : Nat) (xs : List Nat) (w : World) (h : RowAt w a n xs) (hn : n ≤ 1048576) :
    Calls Tryz.prog 99 #[.slice a n c] w fun e w' => e = .returned (.int .i64 (firstI xs)) ∧ w' = w := by
  go_enter Tryz.func99, Tryz.ntmps99
  go_wp2
  go_loop [3] (fun i => ∃ k : Nat, k ≤ n ∧ i = .int .i64 k ∧ Hid (∀ j, j < k → xs.getD j 0 = 0)) (fun i => n - (intOf i).toNat)
  case atStart => exact ⟨0, Nat.zero_le _, rfl, hide (fun j hj => by omega)⟩
  case round =>
    obtain ⟨k, hk, rfl, HZ⟩ := hrel
    by_cases hlt : k < n
    · have hR := h
      obtain ⟨b, off, rfl, hc⟩ := h.at hlt
      have hcell := hc k hlt
      have hx := h.2.1.get k
      by_cases h0 : xs.getD k 0 = 0
      · rw [h0] at hcell
        have HS := hide (first_step xs k (unhide HZ) h0)
        clear hc h h0 hx hR
        go_wp2
        go_round
        case rel => exact ⟨k + 1, by omega, by go_num, HS⟩
        case measure => simp [intOf]; omega
      · have HF := hide (firstI_at xs k (by rw [h.1]; exact hlt) (unhide HZ) h0)
        have hct := ctz_lt (xs.getD k 0) h0 hx
        have HB := hide (ctz_bit (xs.getD k 0) h0 hx)
        have HL := hide (fun j (hj : j < Lib.ctz 64 (xs.getD k 0)) => ctz_low (xs.getD k 0) j h0 hx hj)
        have HG := hide (fun j (hj : j < 64) => getB_at xs k j hj)
        have hne : (((xs.getD k 0 : Nat) : Int) == 0) = false := by simp only [beq_eq_false_iff_ne, ne_eq]; omega
        generalize xs.getD k 0 = x at *
        generalize Lib.ctz 64 x = t at *
        clear hc h h0
        go_wp2
        go_loop [4] (fun y => ∃ j : Nat, j ≤ t ∧ y = .int .i64 (64 * (k : Int) + (j : Int))) (fun y => (64 * k + t) - (intOf y).toNat)
        case atStart => exact ⟨0, by omega, by go_num⟩
        case round =>
          obtain ⟨j, hj, rfl⟩ := hrel
          have hc := rget_in (some ⟨b, off, none⟩) n c xs (64 * (k : Int) + (j : Int)) w hR (by omega) (by omega) (by omega) (by omega)
          rw [show (64 * (k : Int) + (j : Int)).toNat = 64 * k + j by omega, unhide HG j (by omega)] at hc
          by_cases hjt : j < t
          · rw [unhide HL j hjt] at hc
            have HC := hide hc
            clear hc hR
            go_wp2_with (go_at_call 37; refine (unhide HC).mono ?_; rintro e w' ⟨rfl, rfl⟩)
            go_round
            case rel => exact ⟨j + 1, by omega, by go_num⟩
            case measure => simp [intOf]; omega
          · have hje : j = t := by omega
            subst hje
            rw [unhide HB] at hc
            have HC := hide hc
            clear hc hR
            go_wp2_with (go_at_call 37; refine (unhide HC).mono ?_; rintro e w' ⟨rfl, rfl⟩)
            go_ret
            exact ⟨ret_int (by rw [unhide HF]; omega), rfl⟩
    · have HF := hide (first_none xs (fun j hj => unhide HZ j (by have := h.1; omega)))
      go_wp2
      go_ret
      exact ⟨ret_int (unhide HF).symm, rfl⟩

set_option maxHeartbeats 400000 in
theorem rsame_any (a : Option Addr) (n c : Nat) (xs : List Nat) (a' : Option Addr) (m c' : Nat) (ys : List Nat) (w : World) (h : RowAt w a n xs) (h' : RowAt w a' m ys) (hn : n ≤ 1048576) (hm : m ≤ 1048576) :
    Calls Tryz.prog 58 #[.slice a n c, .slice a' m c'] w fun e w' => e = .returned (.bool (decide (cnt (xorL xs ys) = 0))) ∧ Below w.heap.size w w' := by
  go_enter Tryz.func58, Tryz.ntmps58
  go_wp2_with fail
  refine (rxor_any a n c xs a' m c' ys _ h h' hn hm).mono ?_
  rintro e w1 ⟨v, rfl, ho, hb⟩
  obtain ⟨a1, c1, rfl, hr⟩ := ho.row
  have hl : (xorL xs ys).length ≤ 1048576 := by rw [xorL_length, h.1, h'.1]; omega
  go_wp2_with fail
  refine (rcount_any a1 _ c1 _ _ hr hl).mono ?_
  rintro e w2 ⟨rfl, rfl⟩
  have he : ∀ q : Nat, ((q : Int) == 0) = decide (q = 0) := fun q => by
    by_cases e : q = 0
    · subst e; rfl
    · simp [e]
  have HE := hide (he (cnt (xorL xs ys)))
  clear he
  go_wp2
  go_ret
  exact ⟨ret_bool (unhide HE), hb⟩

def sizeOfK (k : Int) : Nat := if k < 1 ∨ 128 < k then 0 else ((k + 63) / 64).toNat
set_option maxHeartbeats 400000 in
theorem size_any (k : Int) (w : World) :
    Calls Tryz.prog 148 #[.int .i64 k] w fun e w' => e = .returned (.int .i64 ((sizeOfK k : Nat) : Int)) ∧ w' = w := by
  by_cases h1 : k < 1
  · have e : sizeOfK k = 0 := by unfold sizeOfK; rw [if_pos (.inl h1)]
    rw [e]
    go_enter Tryz.func148, Tryz.ntmps148
    go_wp2
    go_ret
    exact ⟨rfl, rfl⟩
  · by_cases h2 : 128 < k
    · have e : sizeOfK k = 0 := by unfold sizeOfK; rw [if_pos (.inr h2)]
      rw [e]
      go_enter Tryz.func148, Tryz.ntmps148
      go_wp2
      go_ret
      exact ⟨rfl, rfl⟩
    · have e : ((sizeOfK k : Nat) : Int) = (k + 64 - 1) / 64 := by unfold sizeOfK; rw [if_neg (by omega)]; omega
      have HE := hide e
      clear e
      go_enter Tryz.func148, Tryz.ntmps148
      go_wp2
      go_ret
      exact ⟨ret_int (unhide HE).symm, rfl⟩
set_option maxHeartbeats 400000 in
theorem rsize_any (k : Int) (w : World) :
    Calls Tryz.prog 61 #[.int .i64 k] w fun e w' => e = .returned (.int .i64 ((sizeOfK k : Nat) : Int)) ∧ w' = w := by
  by_cases h1 : k < 1
  · have e : sizeOfK k = 0 := by unfold sizeOfK; rw [if_pos (.inl h1)]
    rw [e]
    go_enter Tryz.func61, Tryz.ntmps61
    go_wp2
    go_ret
    exact ⟨rfl, rfl⟩
  · by_cases h2 : 128 < k
    · have e : sizeOfK k = 0 := by unfold sizeOfK; rw [if_pos (.inr h2)]
      rw [e]
      go_enter Tryz.func61, Tryz.ntmps61
      go_wp2
      go_ret
      exact ⟨rfl, rfl⟩
    · have e : ((sizeOfK k : Nat) : Int) = (k + 64 - 1) / 64 := by unfold sizeOfK; rw [if_neg (by omega)]; omega
      have HE := hide e
      clear e
      go_enter Tryz.func61, Tryz.ntmps61
      go_wp2
      go_loop [3] (fun t => ∃ q : Nat, 64 * ((q : Int) - 1) < k ∧ t = .int .i64 (q : Int)) (fun t => 10 - (intOf t).toNat)
      case atStart => exact ⟨0, by omega, rfl⟩
      case round =>
        obtain ⟨q, hq, rfl⟩ := hrel
        by_cases hl : 64 * (q : Int) < k
        · go_wp2
          go_round
          case rel => exact ⟨q + 1, by omega, by go_num⟩
          case measure => simp [intOf]; omega
        · go_wp2
          go_ret
          exact ⟨ret_int (by rw [unhide HE]; omega), rfl⟩
end Go.Proofs.YtbcgiodgobmkaaaGreatDoor
