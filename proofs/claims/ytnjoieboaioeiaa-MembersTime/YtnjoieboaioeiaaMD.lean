/-
  Contracts of Members.Alive, Inc, All, of members that are there and of none. No condition.
-/
import Derived.Test.YtnjoieboaioeiaaMC
namespace Go.Proofs.Ytnjoieboaioeiaa
open Go.RowKit Go.Sort
set_option linter.unusedVariables false
set_option maxRecDepth 4000

theorem aliveP_no {T : Int} {p : Int × Int} {t : Int} (h : hdB p = false) : aliveP T p t = false := by unfold aliveP; rw [h]; rfl
theorem aliveP_time {T : Int} {p : Int × Int} {t : Int} (h : timeB t = false) : aliveP T p t = false := by unfold aliveP; rw [h, Bool.and_false]; rfl
theorem aliveP_of {T : Int} {p : Int × Int} {t : Int} (h : hdB p = true) (ht : timeB t = true) : aliveP T p t = (decide (0 ≤ t - (p.2 - 1)) && decide (t - (p.2 - 1) ≤ T)) := by unfold aliveP; rw [h, ht]; rfl
/-- Alive, of whatever is noted: what the contract of 'member' tells. -/
theorem alive_core (v : Value) (T : Int) (a b x t : Int) (w : World) (hm : Calls Try.prog 27 #[v, .int .i64 x] w fun e w' => e = .returned (.agg #[.int .i64 a, .int .i64 b]) ∧ Below w.heap.size w w') (hh : hdB (a, b) = false) :
    Calls Try.prog 13 #[v, .int .i64 x, .int .i64 t] w fun e w' => e = .returned (.bool false) ∧ Below w.heap.size w w' := by
  have HM := hide hm
  clear hm
  go_enter Try.func13, Try.ntmps13
  go_wp2_with (first
    | (go_at_call 27; refine (unhide HM).mono ?_; rintro e w1 ⟨rfl, hb1⟩; have HB1 := hide (below0 hb1 (alloc_low w1 (.cells #[.int .i64 a, .int .i64 b] 49))); clear hb1)
    | (go_at_call 28; refine (heard_any a b _).mono ?_; rintro e w2 ⟨rfl, hb2⟩; have HB2 := hide (below0 (unhide HB1) hb2); clear hb2; rw [hh])
    | fail)
  go_ret
  exact ⟨rfl, unhide HB2⟩
set_option maxHeartbeats 2000000 in
theorem mbalive_any (g : Nat) (T : Int) (Z : List Int) (x t : Int) (w : World) (h : MbAt w g T Z) :
    Calls Try.prog 13 #[.pointer (some ⟨g, 0, none⟩), .int .i64 x, .int .i64 t] w fun e w' => e = .returned (.bool (aliveB T Z x t)) ∧ Below w.heap.size w w' := by
  have hp := h.inv.mem x
  have hm := member_any g T Z x w h
  unfold aliveB
  generalize memO Z x = p at *
  obtain ⟨a, b⟩ := p
  cases hh : hdB (a, b)
  · rw [aliveP_no hh]
    exact alive_core _ T a b x t w hm hh
  have HM := hide hm
  clear hm
  cases ht : timeB t
  · rw [aliveP_time ht]
    clear h hp
    go_enter Try.func13, Try.ntmps13
    go_wp2_with (first
      | (go_at_call 27; refine (unhide HM).mono ?_; rintro e w1 ⟨rfl, hb1⟩; have HB1 := hide (below0 hb1 (alloc_low w1 (.cells #[.int .i64 a, .int .i64 b] 49))); clear hb1)
      | (go_at_call 28; refine (heard_any a b _).mono ?_; rintro e w2 ⟨rfl, hb2⟩; have HB2 := hide (below0 (unhide HB1) hb2); clear hb2; rw [hh])
      | (go_at_call 24; refine (istime_any _ _).mono ?_; rintro e w3 ⟨rfl, hw1⟩; obtain rfl := hw1.symm; clear hw1; rw [ht])
      | fail)
    go_ret
    exact ⟨rfl, unhide HB2⟩
  rw [aliveP_of hh ht]
  have htt := timeB_iff.1 ht
  obtain ⟨-, hb0, hb1, -⟩ := hp
  simp only at hb0 hb1
  have hw : IntKind.i64.wrap (t - (b - 1)) = t - (b - 1) := by rw [IntKind.wrap_i64]; omega
  have HL := hide (fun wx => mlast_any a b ⟨hb0, hb1⟩ wx)
  have HH := hide h
  clear h htt hb0 hb1
  simp only
  obtain ⟨q, hq⟩ : ∃ q, t - (b - 1) = q := ⟨_, rfl⟩
  have hwq : IntKind.i64.wrap (t - (b - 1)) = q := hw.trans hq
  rw [hq]
  obtain ⟨l, hl⟩ : ∃ l, b - 1 = l := ⟨_, rfl⟩
  have HL' := HL
  rw [hl] at HL' hwq
  clear HL hw hq
  have hlx := hide hl
  clear hl
  by_cases h0 : 0 ≤ q
  · have d0 : decide (0 ≤ q) = true := decide_eq_true h0
    rw [d0, Bool.true_and]
    go_enter Try.func13, Try.ntmps13
    go_wp2_with (first
      | (go_at_call 27; refine (unhide HM).mono ?_; rintro e w1 ⟨rfl, hb1⟩; have HB0 := hide hb1; have HB1 := hide (below0 hb1 (alloc_low w1 (.cells #[.int .i64 a, .int .i64 b] 49))); have HQ := hide (bkA_new 49 w1 [.int .i64 a, .int .i64 b]); clear hb1)
      | (go_at_call 28; refine (heard_any a b _).mono ?_; rintro e w2 ⟨rfl, hb2⟩; have HB2 := hide (below0 (unhide HB1) hb2); have hq2 := (unhide HQ).below hb2; have q0 := hq2.at 0 rfl; have q1 := hq2.at 1 rfl; clear hb2 hq2; rw [hh])
      | (go_at_call 24; refine (istime_any _ _).mono ?_; rintro e w3 ⟨rfl, hw1⟩; obtain rfl := hw1.symm; clear hw1; rw [ht])
      | (go_at_call 29; refine (unhide HL' _).mono ?_; rintro e w4 ⟨rfl, hb4⟩; have HB4 := hide (below0 (unhide HB2) hb4); have qt := ((unhide HH).below (unhide HB4)).t; clear hb4 q0 q1)
      | fail)
    go_ret
    exact ⟨rfl, unhide HB4⟩
  · have d0 : decide (0 ≤ q) = false := decide_eq_false h0
    rw [d0, Bool.false_and]
    go_enter Try.func13, Try.ntmps13
    go_wp2_with (first
      | (go_at_call 27; refine (unhide HM).mono ?_; rintro e w1 ⟨rfl, hb1⟩; have HB0 := hide hb1; have HB1 := hide (below0 hb1 (alloc_low w1 (.cells #[.int .i64 a, .int .i64 b] 49))); have HQ := hide (bkA_new 49 w1 [.int .i64 a, .int .i64 b]); clear hb1)
      | (go_at_call 28; refine (heard_any a b _).mono ?_; rintro e w2 ⟨rfl, hb2⟩; have HB2 := hide (below0 (unhide HB1) hb2); have hq2 := (unhide HQ).below hb2; have q0 := hq2.at 0 rfl; have q1 := hq2.at 1 rfl; clear hb2 hq2; rw [hh])
      | (go_at_call 24; refine (istime_any _ _).mono ?_; rintro e w3 ⟨rfl, hw1⟩; obtain rfl := hw1.symm; clear hw1; rw [ht])
      | (go_at_call 29; refine (unhide HL' _).mono ?_; rintro e w4 ⟨rfl, hb4⟩; have HB4 := hide (below0 (unhide HB2) hb4); clear hb4 q0 q1)
      | fail)
    go_ret
    exact ⟨rfl, unhide HB4⟩
theorem hd_zero : hdB (0, 0) = false := rfl
theorem mbalive_nil (x t : Int) (w : World) : Calls Try.prog 13 #[.pointer none, .int .i64 x, .int .i64 t] w fun e w' => e = .returned (.bool false) ∧ Below w.heap.size w w' :=
  alive_core _ 0 0 0 x t w (member_nil x w) hd_zero
/-- Inc, of whatever is noted. -/
theorem inc_core (v : Value) (a b x : Int) (w : World) (hm : Calls Try.prog 27 #[v, .int .i64 x] w fun e w' => e = .returned (.agg #[.int .i64 a, .int .i64 b]) ∧ Below w.heap.size w w') :
    Calls Try.prog 15 #[v, .int .i64 x] w fun e w' => e = .returned (.int .i64 (incP (a, b))) ∧ Below w.heap.size w w' := by
  have HM := hide hm
  clear hm
  unfold incP
  cases hh : hdB (a, b)
  · rw [if_neg (by decide)]
    go_enter Try.func15, Try.ntmps15
    go_wp2_with (first
      | (go_at_call 27; refine (unhide HM).mono ?_; rintro e w1 ⟨rfl, hb1⟩; have HB1 := hide (below0 hb1 (alloc_low w1 (.cells #[.int .i64 a, .int .i64 b] 49))); clear hb1)
      | (go_at_call 28; refine (heard_any a b _).mono ?_; rintro e w2 ⟨rfl, hb2⟩; have HB2 := hide (below0 (unhide HB1) hb2); clear hb2; rw [hh])
      | fail)
    go_ret
    exact ⟨rfl, unhide HB2⟩
  · rw [if_pos rfl]
    go_enter Try.func15, Try.ntmps15
    go_wp2_with (first
      | (go_at_call 27; refine (unhide HM).mono ?_; rintro e w1 ⟨rfl, hb1⟩; have HB1 := hide (below0 hb1 (alloc_low w1 (.cells #[.int .i64 a, .int .i64 b] 49))); have HQ := hide (bkA_new 49 w1 [.int .i64 a, .int .i64 b]); clear hb1)
      | (go_at_call 28; refine (heard_any a b _).mono ?_; rintro e w2 ⟨rfl, hb2⟩; have HB2 := hide (below0 (unhide HB1) hb2); have hq2 := (unhide HQ).below hb2; have q0 := hq2.at 0 rfl; have q1 := hq2.at 1 rfl; clear hb2 hq2; rw [hh])
      | (go_at_call 25; refine (minc_any a b _).mono ?_; rintro e w3 ⟨rfl, hb3⟩; have HB3 := hide (below0 (unhide HB2) hb3); clear hb3)
      | fail)
    go_ret
    exact ⟨rfl, unhide HB3⟩
theorem mbinc_any (g : Nat) (T : Int) (Z : List Int) (x : Int) (w : World) (h : MbAt w g T Z) :
    Calls Try.prog 15 #[.pointer (some ⟨g, 0, none⟩), .int .i64 x] w fun e w' => e = .returned (.int .i64 (incO Z x)) ∧ Below w.heap.size w w' :=
  inc_core _ (memO Z x).1 (memO Z x).2 x w (member_any g T Z x w h)
theorem mbinc_nil (x : Int) (w : World) : Calls Try.prog 15 #[.pointer none, .int .i64 x] w fun e w' => e = .returned (.int .i64 (-1)) ∧ Below w.heap.size w w' :=
  inc_core _ 0 0 x w (member_nil x w)
set_option maxHeartbeats 2000000 in
/-- All, of whoever is alive. -/
theorem all_core (v : Value) (P : Nat → Bool) (t : Int) (w : World) (ha : ∀ (n : Nat) (wx : World), n < 8 → Below w.heap.size w wx → Calls Try.prog 13 #[v, .int .i64 (n : Int), .int .i64 t] wx fun e w' => e = .returned (.bool (P n)) ∧ Below wx.heap.size wx w') :
    Calls Try.prog 18 #[v, .int .i64 t] w fun e w' => ∃ o, e = .returned o ∧ OwnZ w' w.heap.size o (allTo P 8) ∧ Below w.heap.size w w' := by
  have HA := hide ha
  clear ha
  go_enter Try.func18, Try.ntmps18
  go_wp2
  go_loopw [5, 7] (fun o i wr => ∃ k : Nat, k ≤ 8 ∧ i = .int .i64 k ∧ Hid (OwnZ wr w.heap.size o (allTo P k) ∧ Below w.heap.size w wr)) (fun _ i _ => 8 - (intOf i).toNat)
  case atStart => exact ⟨0, Nat.zero_le _, rfl, hide ⟨OwnZ.nil _ _, Below.refl _ _⟩⟩
  case round =>
    obtain ⟨k, hk, rfl, HR⟩ := hrel
    obtain ⟨ho, hB⟩ := unhide HR
    by_cases hlt : k < 8
    · have hlt' : (k : Int) < 8 := by omega
      have HX := hide (unhide HA k wr hlt hB)
      have HO := hide ho
      have HB := hide hB
      clear ho hB HR HA
      obtain ⟨ao, co, rfl, -⟩ := (unhide HO).ints
      cases hp : P k
      · rw [hp] at HX
        have HE := hide (allTo_no hp)
        clear hp
        go_wp2_with (go_at_call 13; refine (unhide HX).mono ?_; rintro e w1 ⟨rfl, hb1⟩; have HB1 := hide hb1; clear hb1)
        go_roundw
        case rel => exact ⟨k + 1, by omega, by go_num, hide ⟨by rw [unhide HE]; exact (unhide HO).below (unhide HB1), below0 (unhide HB) (unhide HB1)⟩⟩
        case measure => simp [intOf]; omega
      · rw [hp] at HX
        have HE := hide (allTo_yes hp)
        have hln := allTo_len P k
        clear hp
        generalize (allTo P k).length = N at *
        go_wp2_with (first
          | (go_at_call 13; refine (unhide HX).mono ?_; rintro e w1 ⟨rfl, hb1⟩; have HB1 := hide (below0 (unhide HB) hb1); have HO1 := hide ((unhide HO).below hb1); clear hb1)
          | (at_builtin; refine wpList_pushZ rfl (.tmp 14) (.tmp 16) rfl w.heap.size _ (allTo P k) (k : Int) rfl rfl (unhide HO1) (unhide HB1).size (Nat.le_trans (allTo_len P k) (by omega)) ?_; intro s4 w4 ho4 hb4; rw [← unhide HE] at ho4; have HO4 := hide ho4; have HB4 := hide ((unhide HB1).trans hb4); clear ho4 hb4)
          | fail)
        go_roundw
        case rel => exact ⟨k + 1, by omega, by go_num, hide ⟨unhide HO4, unhide HB4⟩⟩
        case measure => simp [intOf]; omega
    · obtain rfl : k = 8 := by omega
      have HRR := HR
      clear ho hB HR HA
      go_wp2
      go_ret
      exact ⟨_, rfl, unhide HRR⟩
theorem mball_any (g : Nat) (T : Int) (Z : List Int) (t : Int) (w : World) (h : MbAt w g T Z) :
    Calls Try.prog 18 #[.pointer (some ⟨g, 0, none⟩), .int .i64 t] w fun e w' => ∃ o, e = .returned o ∧ OwnZ w' w.heap.size o (allZ T Z t) ∧ Below w.heap.size w w' :=
  all_core _ _ t w fun n wx _ hb => mbalive_any g T Z (n : Int) t wx (h.below hb)
theorem mball_nil (t : Int) (w : World) :
    Calls Try.prog 18 #[.pointer none, .int .i64 t] w fun e w' => ∃ o, e = .returned o ∧ OwnZ w' w.heap.size o [] ∧ Below w.heap.size w w' :=
  all_core _ (fun _ => false) t w fun n wx _ hb => mbalive_nil (n : Int) t wx
end Go.Proofs.Ytnjoieboaioeiaa
