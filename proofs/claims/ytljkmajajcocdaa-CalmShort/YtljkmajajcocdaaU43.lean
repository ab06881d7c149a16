/-
  The walk of bucketlinelaw28.CalmSteps. Condition: the config can be read.
-/
import Derived.Test.YtljkmajajcocdaaU33
import Derived.Test.YtljkmajajcocdaaU34
import Derived.Deep.QuietTactic
import Derived.BigQuiet
namespace Go.Proofs.Ytljkmajajcocdaa
open Go.RowKit Go.Sort Go.Shelf
set_option linter.unusedVariables false
set_option linter.unusedSimpArgs false
set_option maxRecDepth 4000

set_option maxHeartbeats 16000000 in
theorem calmsteps_walk (f : CFV) (fr to : Int) (w : World) (hf : CfIn w f) :
    Calls Try.prog 5 #[f.val, .int .i64 fr, .int .i64 to] w fun e w' => e = .returned (.bool true) ∧ Below w.heap.size w w' := by
  have X := hide (bkA_new 25 w [.slice f.a f.n f.c, .string f.obj, .int .i64 f.size, .int .i64 f.spread, .int .i64 f.buffer, .int .i64 f.queue, .int .i64 f.cache, .float .f64 f.rate, .int .i64 f.timeout, .int .i64 f.target])
  have HB := hide (alloc_low w (.cells #[.slice f.a f.n f.c, .string f.obj, .int .i64 f.size, .int .i64 f.spread, .int .i64 f.buffer, .int .i64 f.queue, .int .i64 f.cache, .float .f64 f.rate, .int .i64 f.timeout, .int .i64 f.target] 25))
  have HF := hide (fun wx (hb : Below w.heap.size w wx) => hf.below hb)
  have hld := (unhide X).load Try.underlying25 rfl info_cfg rfl
  have HW := hide (few28_any f _ (hf.below (unhide HB)))
  clear hf
  unfold CFV.val at *
  go_enter Try.func5, Try.ntmps5
  go_wp2_with fail
  refine (unhide HW).mono ?_
  rintro e w1 ⟨⟨rfl, hn1⟩ | rfl, hb1⟩
  case inr =>
    have HB1 := hide (below0 (unhide HB) hb1)
    clear hb1 hld HW
    go_wp2_with (first
      | (go_at_call 8; refine (awake28_any _).mono ?_; rintro e w2 ⟨rfl, hb2⟩; have HB2 := hide (below0 (unhide HB1) hb2); clear hb2)
      | fail)
    go_ret
    exact ⟨rfl, unhide HB2⟩
  have HB1 := hide (below0 (unhide HB) hb1)
  have X1 := hide ((unhide X).below hb1)
  have y0 := (unhide X1).at 0 rfl
  have y1 := (unhide X1).at 1 rfl
  have y2 := (unhide X1).at 2 rfl
  have y3 := (unhide X1).at 3 rfl
  have y4 := (unhide X1).at 4 rfl
  have y5 := (unhide X1).at 5 rfl
  have y6 := (unhide X1).at 6 rfl
  have y7 := (unhide X1).at 7 rfl
  have y8 := (unhide X1).at 8 rfl
  have y9 := (unhide X1).at 9 rfl
  have HP := hide (path_any f fr to w1 ((unhide HF) w1 (unhide HB1)))
  unfold CFV.val at HP
  clear hb1 hld HW
  go_wp2_with fail
  refine (unhide HP).mono ?_
  rintro e w2 ⟨v, L, rfl, hp, ho, hb2⟩
  have HB2 := hide (below0 (unhide HB1) hb2)
  have X2 := hide ((unhide X1).below hb2)
  have hlt2 := (unhide X2).lt
  clear y0 y1 y2 y3 y4 y5 y6 y7 y8 y9 HP
  by_cases hL : 0 < L.length
  case neg =>
    obtain rfl : L = [] := List.length_eq_zero_iff.1 (by omega)
    obtain ⟨a, c, rfl, -⟩ := ho.ints
    have z0 := (unhide X2).at 0 rfl
    have z1 := (unhide X2).at 1 rfl
    have z2 := (unhide X2).at 2 rfl
    have z3 := (unhide X2).at 3 rfl
    have z4 := (unhide X2).at 4 rfl
    have z5 := (unhide X2).at 5 rfl
    have z6 := (unhide X2).at 6 rfl
    have z7 := (unhide X2).at 7 rfl
    have z8 := (unhide X2).at 8 rfl
    have z9 := (unhide X2).at 9 rfl
    have HR := hide (rchk26_any f w2 ((unhide HF) w2 (unhide HB2)))
    unfold CFV.val at HR
    have HPP := hide hp
    clear hL ho hp hb2
    go_wp2_with fail
    refine (unhide HR).mono ?_
    rintro e w3 ⟨en, rfl, hr, hb3⟩
    have HB3 := hide (below0 (unhide HB2) hb3)
    have y0 := ((unhide X2).below hb3).at 0 rfl
    have HC := hide hr
    clear hr hb3 HR z0 z1 z2 z3 z4 z5 z6 z7 z8 z9
    by_cases h0 : en = 0
    case neg =>
      have hd : (en != 0) = true := by simp [h0]
      clear h0
      go_wp2_with (first
        | (go_at_call 8; refine (awake28_any _).mono ?_; rintro e w4 ⟨rfl, hb4⟩; have HB4 := hide (below0 (unhide HB3) hb4); clear hb4)
        | fail)
      go_ret
      exact ⟨rfl, unhide HB4⟩
    subst h0
    by_cases h1 : fr = to
    case neg =>
      have hd : (fr != to) = true := by simp [h1]
      clear h1
      go_wp2_with (first
        | (go_at_call 8; refine (awake28_any _).mono ?_; rintro e w4 ⟨rfl, hb4⟩; have HB4 := hide (below0 (unhide HB3) hb4); clear hb4)
        | fail)
      go_ret
      exact ⟨rfl, unhide HB4⟩
    by_cases h2 : fr < 0
    · go_wp2_with (first
        | (go_at_call 8; refine (awake28_any _).mono ?_; rintro e w4 ⟨rfl, hb4⟩; have HB4 := hide (below0 (unhide HB3) hb4); clear hb4)
        | fail)
      go_ret
      exact ⟨rfl, unhide HB4⟩
    have h3 : (f.n : Int) ≤ fr := Classical.byContradiction fun hc => PathP.none (unhide HPP) (unhide HC) h1 ⟨by omega, by omega⟩
    have hd : (fr != to) = false := by simp [h1]
    subst h1
    go_wp2_with (first
      | (go_at_call 8; refine (awake28_any _).mono ?_; rintro e w4 ⟨rfl, hb4⟩; have HB4 := hide (below0 (unhide HB3) hb4); clear hb4)
      | fail)
    go_ret
    exact ⟨rfl, unhide HB4⟩
  have hq := hp.q hL
  obtain ⟨g, c, rfl, hg, hcl⟩ := ho.nats hL
  have HQ := hide hq
  have HL := hide hcl
  obtain ⟨nL, hnL⟩ : ∃ nL, L.length = nL := ⟨_, rfl⟩
  rw [hnL] at hL
  have h8 : nL ≤ 8 := by rw [← hnL]; exact hq.pos.2
  have HN := hide hnL
  rw [hnL]
  have hn100 := hn1
  clear hp ho hq hcl hb2 hg hn1 hnL
  go_wp2_with fail
  go_loopw [8] (fun i wr => ∃ m : Nat, m ≤ nL ∧ i = .int .i64 m ∧ Hid (Below w2.heap.size w2 wr)) (fun i _ => nL - (intOf i).toNat)
  case atStart => exact ⟨0, Nat.zero_le _, rfl, hide (Below.refl _ _)⟩
  case round =>
    obtain ⟨m, hm, rfl, HW2⟩ := hrel
    rename_i wr
    have X3 := hide ((unhide X2).below (unhide HW2))
    have x0 := (unhide X3).at 0 rfl
    by_cases hlt : m < nL
    · have hlt' : (m : Int) < (nL : Int) := by omega
      obtain ⟨y, hy⟩ : ∃ y, L.getD m 0 = y := ⟨_, rfl⟩
      have HCM := hide (show ∀ W, Below w2.heap.size w2 W → W.cell? ⟨g, m, none⟩ = some (.int .i64 (y : Int)) from fun W hb => by rw [← hy]; exact (unhide HL) W hb m (by rw [unhide HN]; exact hlt))
      have hcm := (unhide HCM) wr (unhide HW2)
      have hyn : y < f.n := by rw [← hy]; exact (unhide HQ).lt m (by rw [unhide HN]; exact hlt)
      have HY := hide (show ∀ k, k < m → ((L.getD k 0 : Nat) : Int) ≠ (y : Int) from fun k hk e => (unhide HQ).ne hk (by rw [unhide HN]; exact hlt) (by rw [hy]; omega))
      have HS := hide (show ∀ u, u + 1 = m → (y : Int) ∈ tosN f.ds (L.getD u 0) from fun u hu => by rw [← hy, ← hu]; exact (unhide HQ).step u (by rw [unhide HN]; omega))
      have d1 : decide ((y : Int) < 0) = false := by rw [decide_eq_false_iff_not]; omega
      have d2 : decide ((f.n : Int) ≤ (y : Int)) = false := by rw [decide_eq_false_iff_not]; omega
      clear hy
      go_wp2_with fail
      go_quiet (fail)
      go_wp2_with fail
      clear x0 hcm
      go_loopw [9] (fun i wr => ∃ k : Nat, k ≤ m ∧ i = .int .i64 k ∧ Hid (Below w2.heap.size w2 wr)) (fun i _ => m - (intOf i).toNat)
      case atStart => exact ⟨0, Nat.zero_le _, rfl, hide (below_drewN (unhide HW2) _)⟩
      case round =>
        obtain ⟨k, hk, rfl, HW4⟩ := hrel
        rename World => wr2
        have hcm2 := (unhide HCM) wr2 (unhide HW4)
        by_cases hkl : k < m
        · have hkl' : (k : Int) < (m : Int) := by omega
          have hck := (unhide HL) wr2 (unhide HW4) k (by rw [unhide HN]; omega)
          have hne := (unhide HY) k hkl
          generalize L.getD k 0 = z at *
          have d3 : ((z : Int) == (y : Int)) = false := by rw [beq_eq_false_iff_ne]; exact hne
          clear hne d1 d2
          go_wp2_with fail
          go_quiet (fail)
          go_wp2
          go_roundw
          case rel => exact ⟨k + 1, hkl, by go_num, hide (below_drewN (unhide HW4) _)⟩
          case measure => simp [intOf]; omega
        · obtain rfl : k = m := by omega
          clear d1 d2
          by_cases hm0 : k = 0
          · subst hm0
            go_wp2
            go_roundw
            case rel => exact ⟨0 + 1, by omega, by go_num, HW4⟩
            case measure => simp [intOf]; omega
          obtain ⟨u, hu⟩ : ∃ u, u + 1 = k := ⟨k - 1, by omega⟩
          have hk0 : ¬ ((k : Int) = 0) := by omega
          have hwr : IntKind.i64.wrap ((k : Int) - 1) = (u : Int) := by rw [IntKind.wrap_i64]; omega
          have hul : (u : Int) < (nL : Int) := by omega
          have hcu := (unhide HL) wr2 (unhide HW4) u (by rw [unhide HN]; omega)
          have hzn := (unhide HQ).lt u (by rw [unhide HN]; omega)
          have hin := (unhide HS) u hu
          generalize L.getD u 0 = z at *
          have hcf := (unhide HF) wr2 ((unhide HB2).trans ((unhide HW4).mono (unhide HB2).size))
          obtain ⟨b, off, ha, hc⟩ := hcf.nds.at hzn
          obtain ⟨-, hc1⟩ := hc z hzn
          have HTZ := hide (show ∀ W, Below w2.heap.size w2 W → IntzAt W (f.ds.getD z .dflt).a (f.ds.getD z .dflt).n (f.ds.getD z .dflt).tos from fun W hb => ((unhide HF) W ((unhide HB2).trans (hb.mono (unhide HB2).size))).nds.2.1 z hzn)
          have htl := (hcf.tos z hzn).1
          have x1 := ((unhide X2).below (unhide HW4)).at 0 rfl
          rw [ha] at x1
          have HIN := hide (show (y : Int) ∈ (f.ds.getD z .dflt).tos from hin)
          have hzn' : (z : Int) < (f.n : Int) := by omega
          clear hc ha hcf hin hu hm0
          generalize f.ds.getD z .dflt = d at *
          go_wp2_with fail
          go_quiet (fail)
          go_wp2_with fail
          clear x1 hcu hc1
          go_loopw [10, 94] (fun s i wr => ∃ (j : Nat) (bb : Bool), j ≤ d.n ∧ i = .int .i64 j ∧ s = .bool bb ∧ Hid (bb = true ↔ ∃ q, q < j ∧ d.tos.getD q 0 = (y : Int)) ∧ Hid (Below w2.heap.size w2 wr)) (fun _ i _ => d.n - (intOf i).toNat)
          case atStart => exact ⟨0, false, Nat.zero_le _, rfl, rfl, hide ⟨fun h => (by cases h), fun ⟨q, hq, _⟩ => by omega⟩, hide (below_drewN (unhide HW4) _)⟩
          case round =>
            obtain ⟨j, bb, hj, rfl, rfl, HBB, HW5⟩ := hrel
            rename World => wr3
            have hcm3 := (unhide HCM) wr3 (unhide HW5)
            by_cases hjl : j < d.n
            · have hjl' : (j : Int) < (d.n : Int) := by omega
              obtain ⟨b3, off3, ha3, hc3⟩ := ((unhide HTZ) wr3 (unhide HW5)).at hjl
              have hcj := hc3 j hjl
              rw [ha3]
              obtain ⟨t, ht⟩ : ∃ t, d.tos.getD j 0 = t := ⟨_, rfl⟩
              rw [ht] at hcj
              have HT := hide ht
              clear hc3 ha3 ht
              rcases bb with _ | _
              · go_wp2
                go_roundw
                case rel => exact ⟨j + 1, t == (y : Int), hjl, by go_num, rfl, hide (by
                  constructor
                  · intro h
                    exact ⟨j, by omega, (unhide HT).trans (by simpa using h)⟩
                  · rintro ⟨q, hq, e⟩
                    by_cases hqj : q = j
                    · rw [hqj, unhide HT] at e
                      simp [e]
                    · exact absurd ((unhide HBB).2 ⟨q, by omega, e⟩) (by decide)), HW5⟩
                case measure => simp [intOf]; omega
              · go_wp2
                go_roundw
                case rel => exact ⟨j + 1, true, hjl, by go_num, rfl, hide ⟨fun _ => by
                  obtain ⟨q, hq, e⟩ := (unhide HBB).1 rfl
                  exact ⟨q, by omega, e⟩, fun _ => rfl⟩, HW5⟩
                case measure => simp [intOf]; omega
            · obtain rfl : j = d.n := by omega
              rcases bb with _ | _
              · obtain ⟨q, hq, e⟩ := mem_getD (unhide HIN)
                exact absurd ((unhide HBB).2 ⟨q, by rw [← ((unhide HTZ) wr3 (unhide HW5)).1]; exact hq, e⟩) (by decide)
              · go_wp2
                go_roundw
                case rel => exact ⟨k + 1, by omega, by go_num, HW5⟩
                case measure => simp [intOf]; omega
    · obtain rfl : m = nL := by omega
      obtain ⟨u, hu⟩ : ∃ u, u + 1 = m := ⟨m - 1, by omega⟩
      have hwr : IntKind.i64.wrap ((m : Int) - 1) = (u : Int) := by rw [IntKind.wrap_i64]; omega
      have hul : (u : Int) < (m : Int) := by omega
      have hc0 := (unhide HL) wr (unhide HW2) 0 (by rw [unhide HN]; omega)
      have hcu := (unhide HL) wr (unhide HW2) u (by rw [unhide HN]; omega)
      rw [(unhide HQ).first] at hc0
      have hlast := (unhide HQ).last
      rw [unhide HN, ← hu, Nat.add_sub_cancel] at hlast
      rw [hlast] at hcu
      have HBr := hide ((unhide HB2).trans ((unhide HW2).mono (unhide HB2).size))
      clear hlast hu
      go_wp2_with (first
        | (go_at_call 8; refine (awake28_any _).mono ?_; rintro e w4 ⟨rfl, hb4⟩; have HB4 := hide (below0 (unhide HBr) hb4); clear hb4)
        | fail)
      go_ret
      exact ⟨rfl, unhide HB4⟩
end Go.Proofs.Ytljkmajajcocdaa
