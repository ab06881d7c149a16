/-
  The walk of bucketlinelaw28.CalmShort. Condition: the config can be read.
-/
import Derived.Test.YtljkmajajcocdaaU33
import Derived.Test.YtljkmajajcocdaaU34
import Derived.Deep.QuietTactic
import Derived.BigQuiet
namespace Go.Proofs.Ytljkmajajcocdaa
open Go.RowKit Go.Sort Go.Shelf
set_option linter.unusedVariables false
set_option linter.unusedSimpArgs false
set_option maxRecDepth 4000

/-- The next node is the least of the nearest. -/
theorem WayQ.short {f : CFV} {fr to t : Int} {L M : List Nat} (h : WayQ f fr to L) (k : WayQ f t to M) {m : Nat} (hm : m + 1 < L.length) (ht : t ∈ tosN f.ds (L.getD m 0)) :
    L.length ≤ M.length + m + 1 ∧ (L.length = M.length + m + 1 → ((L.getD (m + 1) 0 : Nat) : Int) ≤ t) := by
  have hF := farN_is (to := to.toNat) (stepP_of h.chk).1
  have h1 := h.far m (by omega)
  have h2 := k.far 0 k.pos.1
  have h3 := k.first
  have e : t.toNat = M.getD 0 0 := by omega
  have h4 := hF.edge _ (h.lt m (by omega)) t ht
  rw [e] at h4
  exact ⟨by omega, fun q => h.least m hm t ht (by rw [e]; omega)⟩
set_option maxHeartbeats 16000000 in
theorem calmshort_walk (f : CFV) (fr to : Int) (w : World) (hf : CfIn w f) :
    Calls Try.prog 6 #[f.val, .int .i64 fr, .int .i64 to] w fun e w' => e = .returned (.bool true) ∧ Below w.heap.size w w' := by
  have X := hide (bkA_new 25 w [.slice f.a f.n f.c, .string f.obj, .int .i64 f.size, .int .i64 f.spread, .int .i64 f.buffer, .int .i64 f.queue, .int .i64 f.cache, .float .f64 f.rate, .int .i64 f.timeout, .int .i64 f.target])
  have HB := hide (alloc_low w (.cells #[.slice f.a f.n f.c, .string f.obj, .int .i64 f.size, .int .i64 f.spread, .int .i64 f.buffer, .int .i64 f.queue, .int .i64 f.cache, .float .f64 f.rate, .int .i64 f.timeout, .int .i64 f.target] 25))
  have HF := hide (fun wx (hb : Below w.heap.size w wx) => hf.below hb)
  have hld := (unhide X).load Try.underlying25 rfl info_cfg rfl
  have HW := hide (few28_any f _ (hf.below (unhide HB)))
  have HPA := hide (fun (t : Int) wx (hb : Below w.heap.size w wx) => path_any f t to wx (hf.below hb))
  clear hf
  unfold CFV.val at *
  go_enter Try.func6, Try.ntmps6
  go_wp2_with fail
  refine (unhide HW).mono ?_
  rintro e w1 ⟨⟨rfl, hn1⟩ | rfl, hb1⟩
  case inr =>
    have HB1 := hide (below0 (unhide HB) hb1)
    clear hb1 hld HW
    go_wp2_with (first
      | (go_at_call 8; refine (awake28_any _).mono ?_; rintro e w9 ⟨rfl, hb9⟩; have HB9 := hide (below0 (unhide HB1) hb9); clear hb9)
      | fail)
    go_ret
    exact ⟨rfl, unhide HB9⟩
  have HB1 := hide (below0 (unhide HB) hb1)
  have X1 := hide ((unhide X).below hb1)
  have y0 := (unhide X1).at 0 rfl
  have y1 := (unhide X1).at 1 rfl
  have y2 := (unhide X1).at 2 rfl
  have y3 := (unhide X1).at 3 rfl
  have y4 := (unhide X1).at 4 rfl
  have y5 := (unhide X1).at 5 rfl
  have y6 := (unhide X1).at 6 rfl
  have y7 := (unhide X1).at 7 rfl
  have y8 := (unhide X1).at 8 rfl
  have y9 := (unhide X1).at 9 rfl
  have HR := hide (rchk26_any f w1 ((unhide HF) w1 (unhide HB1)))
  unfold CFV.val at HR
  clear hb1 hld HW
  go_wp2_with fail
  refine (unhide HR).mono ?_
  rintro e w2 ⟨en, rfl, hr, hb2⟩
  have HB2 := hide (below0 (unhide HB1) hb2)
  have X2 := hide ((unhide X1).below hb2)
  have HC := hide hr
  clear hr hb2 HR y0 y1 y2 y3 y4 y5 y6 y7 y8 y9
  by_cases h0 : en = 0
  case neg =>
    have hd : (en != 0) = true := by simp [h0]
    clear h0
    go_wp2_with (first
      | (go_at_call 8; refine (awake28_any _).mono ?_; rintro e w9 ⟨rfl, hb9⟩; have HB9 := hide (below0 (unhide HB2) hb9); clear hb9)
      | fail)
    go_ret
    exact ⟨rfl, unhide HB9⟩
  subst h0
  have z0 := (unhide X2).at 0 rfl
  have z1 := (unhide X2).at 1 rfl
  have z2 := (unhide X2).at 2 rfl
  have z3 := (unhide X2).at 3 rfl
  have z4 := (unhide X2).at 4 rfl
  have z5 := (unhide X2).at 5 rfl
  have z6 := (unhide X2).at 6 rfl
  have z7 := (unhide X2).at 7 rfl
  have z8 := (unhide X2).at 8 rfl
  have z9 := (unhide X2).at 9 rfl
  go_wp2_with fail
  refine ((unhide HPA) fr w2 (unhide HB2)).mono ?_
  rintro e w3 ⟨v, L, rfl, hp, ho, hb3⟩
  have HB3 := hide (below0 (unhide HB2) hb3)
  have X3 := hide ((unhide X2).below hb3)
  have hlt3 := (unhide X3).lt
  clear z0 z1 z2 z3 z4 z5 z6 z7 z8 z9
  by_cases hL : 0 < L.length
  case neg =>
    obtain rfl : L = [] := List.length_eq_zero_iff.1 (by omega)
    obtain ⟨a, c, rfl, -⟩ := ho.ints
    clear hL ho hp hb3
    go_wp2_with fail
    go_loopw [8] (fun i wr => i = .int .i64 0 ∧ Hid (Below w3.heap.size w3 wr)) (fun _ _ => 0)
    case atStart => exact ⟨rfl, hide (Below.refl _ _)⟩
    case round =>
      obtain ⟨rfl, HW3⟩ := hrel
      rename_i wr
      have HBr := hide ((unhide HB3).trans ((unhide HW3).mono (unhide HB3).size))
      go_wp2_with (first
        | (go_at_call 8; refine (awake28_any _).mono ?_; rintro e w9 ⟨rfl, hb9⟩; have HB9 := hide (below0 (unhide HBr) hb9); clear hb9)
        | fail)
      go_ret
      exact ⟨rfl, unhide HB9⟩
  have hq := hp.q hL
  obtain ⟨g, c, rfl, hg, hcl⟩ := ho.nats hL
  have HQ := hide hq
  have HL := hide hcl
  obtain ⟨nL, hnL⟩ : ∃ nL, L.length = nL := ⟨_, rfl⟩
  rw [hnL] at hL
  have h8 : nL ≤ 8 := by rw [← hnL]; exact hq.pos.2
  have HN := hide hnL
  rw [hnL]
  have hn100 := hn1
  clear hp ho hq hcl hb3 hg hn1 hnL
  go_wp2_with fail
  go_loopw [8] (fun i wr => ∃ m : Nat, m + 1 ≤ nL ∧ i = .int .i64 m ∧ Hid (Below w3.heap.size w3 wr)) (fun i _ => nL - (intOf i).toNat)
  case atStart => exact ⟨0, hL, rfl, hide (Below.refl _ _)⟩
  case round =>
    obtain ⟨m, hm, rfl, HW3⟩ := hrel
    rename_i wr
    have x0 := ((unhide X3).below (unhide HW3)).at 0 rfl
    have hwm : IntKind.i64.wrap ((m : Int) + 1) = (m : Int) + 1 := by rw [IntKind.wrap_i64]; omega
    by_cases hlt : m + 1 < nL
    · have hlt' : (m : Int) + 1 < (nL : Int) := by omega
      have hlm : (m : Int) < (nL : Int) := by omega
      obtain ⟨y, hy⟩ : ∃ y, L.getD m 0 = y := ⟨_, rfl⟩
      obtain ⟨x, hx⟩ : ∃ x, L.getD (m + 1) 0 = x := ⟨_, rfl⟩
      have hcm : wr.cell? ⟨g, m, none⟩ = some (.int .i64 (y : Int)) := by rw [← hy]; exact (unhide HL) wr (unhide HW3) m (by rw [unhide HN]; omega)
      have HCX := hide (show ∀ W, Below w3.heap.size w3 W → W.cell? ⟨g, m + 1, none⟩ = some (.int .i64 (x : Int)) from fun W hb => by rw [← hx]; exact (unhide HL) W hb (m + 1) (by rw [unhide HN]; exact hlt))
      have hyn : y < f.n := by rw [← hy]; exact (unhide HQ).lt m (by rw [unhide HN]; omega)
      have hyn' : (y : Int) < (f.n : Int) := by omega
      have HS := hide (show ∀ t M, t ∈ tosN f.ds y → WayQ f t to M → nL ≤ M.length + m + 1 ∧ (nL = M.length + m + 1 → (x : Int) ≤ t) from fun t M ht hM => by
        have := (unhide HQ).short hM (m := m) (by rw [unhide HN]; exact hlt) (by rw [hy]; exact ht)
        rw [unhide HN, hx] at this
        exact this)
      have d1 : decide ((y : Int) < 0) = false := by rw [decide_eq_false_iff_not]; omega
      have d2 : decide ((f.n : Int) ≤ (y : Int)) = false := by rw [decide_eq_false_iff_not]; omega
      clear hy hx
      have hcf := (unhide HF) wr ((unhide HB3).trans ((unhide HW3).mono (unhide HB3).size))
      obtain ⟨b, off, ha, hc⟩ := hcf.nds.at hyn
      obtain ⟨-, hc1⟩ := hc y hyn
      have HTZ := hide (show ∀ W, Below w3.heap.size w3 W → IntzAt W (f.ds.getD y .dflt).a (f.ds.getD y .dflt).n (f.ds.getD y .dflt).tos from fun W hb => ((unhide HF) W ((unhide HB3).trans (hb.mono (unhide HB3).size))).nds.2.1 y hyn)
      have htl := (hcf.tos y hyn).1
      have HS2 := hide (show ∀ t M, t ∈ (f.ds.getD y .dflt).tos → WayQ f t to M → nL ≤ M.length + m + 1 ∧ (nL = M.length + m + 1 → (x : Int) ≤ t) from unhide HS)
      clear hc hcf HS
      generalize f.ds.getD y .dflt = d at *
      rw [ha] at x0
      clear ha
      go_wp2_with fail
      go_quiet (fail)
      go_wp2_with fail
      go_quiet (fail)
      go_wp2_with fail
      clear x0 hcm hc1
      have d6 : decide (f.n ≤ y) = false := by rw [decide_eq_false_iff_not]; omega
      simp only [d6]
      clear d1 d2 d6
      go_loopw [57] (fun i wr => ∃ k : Nat, k ≤ d.n ∧ i = .int .i64 k ∧ Hid (Below w3.heap.size w3 wr)) (fun i _ => d.n - (intOf i).toNat)
      case atStart => exact ⟨0, Nat.zero_le _, rfl, hide (below_drewN (below_drewN (unhide HW3) _) _)⟩
      case round =>
        obtain ⟨k, hk, rfl, HW4⟩ := hrel
        rename World => wr2
        by_cases hkl : k < d.n
        · have hkl' : (k : Int) < (d.n : Int) := by omega
          have X4 := hide ((unhide X3).below (unhide HW4))
          have y0 := (unhide X4).at 0 rfl
          have y1 := (unhide X4).at 1 rfl
          have y2 := (unhide X4).at 2 rfl
          have y3 := (unhide X4).at 3 rfl
          have y4 := (unhide X4).at 4 rfl
          have y5 := (unhide X4).at 5 rfl
          have y6 := (unhide X4).at 6 rfl
          have y7 := (unhide X4).at 7 rfl
          have y8 := (unhide X4).at 8 rfl
          have y9 := (unhide X4).at 9 rfl
          obtain ⟨b3, off3, ha3, hc3⟩ := ((unhide HTZ) wr2 (unhide HW4)).at hkl
          have hcj := hc3 k hkl
          have htm : d.tos.getD k 0 ∈ d.tos := getD_mem (by rw [((unhide HTZ) wr2 (unhide HW4)).1]; exact hkl)
          rw [ha3]
          obtain ⟨t, ht⟩ : ∃ t, d.tos.getD k 0 = t := ⟨_, rfl⟩
          rw [ht] at hcj htm
          have HT := hide htm
          clear hc3 ha3 ht htm
          go_wp2_with fail
          refine ((unhide HPA) t wr2 ((unhide HB3).trans ((unhide HW4).mono (unhide HB3).size))).mono ?_
          rintro e w5 ⟨v5, M, rfl, hp5, ho5, hb5⟩
          have HW5 := hide (below0 (unhide HW4) hb5)
          clear hcj y0 y1 y2 y3 y4 y5 y6 y7 y8 y9
          obtain ⟨a5, c5, rfl, -⟩ := ho5.ints
          have hlM : (natZ M).length = M.length := List.length_map _
          rw [hlM]
          clear ho5 hb5 hlM
          by_cases hM : 0 < M.length
          case neg =>
            obtain rfl : M = [] := List.length_eq_zero_iff.1 (by omega)
            clear hp5 hM
            go_wp2
            go_roundw
            case rel => exact ⟨k + 1, hkl, by go_num, HW5⟩
            case measure => simp [intOf]; omega
          obtain ⟨s1, s2⟩ := (unhide HS2) t M (unhide HT) (hp5.q hM)
          have hM8 := (hp5.q hM).pos.2
          clear hp5
          generalize M.length = nM at *
          obtain ⟨r, hr⟩ : ∃ r, nL = r + m + 1 := ⟨nL - m - 1, by omega⟩
          have hw1 : IntKind.i64.wrap ((nL : Int) - (m : Int)) = (r : Int) + 1 := by rw [IntKind.wrap_i64]; omega
          have hw2 : IntKind.i64.wrap ((r : Int) + 1 - 1) = (r : Int) := by rw [IntKind.wrap_i64]; omega
          have d3 : decide ((nM : Int) < (r : Int)) = false := by rw [decide_eq_false_iff_not]; omega
          have d0 : decide ((0 : Int) < (nM : Int)) = true := by rw [decide_eq_true_iff]; omega
          have hcx := (unhide HCX) w5 (unhide HW5)
          clear d0 d3
          by_cases he : nM = r
          · subst he
            have d5 : decide (t < (x : Int)) = false := by rw [decide_eq_false_iff_not]; have := s2 (by omega); omega
            clear s1 s2 hr
            go_wp2
            go_roundw
            case rel => exact ⟨k + 1, hkl, by go_num, HW5⟩
            case measure => simp [intOf]; omega
          · have d4 : ((nM : Int) == (r : Int)) = false := by rw [beq_eq_false_iff_ne]; omega
            have d7 : ¬ (nM : Int) < (r : Int) := by omega
            have d8 : (nM == r) = false := by rw [beq_eq_false_iff_ne]; exact he
            clear s1 s2 hr hcx
            go_wp2
            go_roundw
            case rel => exact ⟨k + 1, hkl, by go_num, HW5⟩
            case measure => simp [intOf]; omega
        · obtain rfl : k = d.n := by omega
          go_wp2
          go_roundw
          case rel => exact ⟨m + 1, by omega, by go_num, HW4⟩
          case measure => simp [intOf]; omega
    · obtain rfl : m + 1 = nL := by omega
      have HBr := hide ((unhide HB3).trans ((unhide HW3).mono (unhide HB3).size))
      go_wp2_with (first
        | (go_at_call 8; refine (awake28_any _).mono ?_; rintro e w9 ⟨rfl, hb9⟩; have HB9 := hide (below0 (unhide HBr) hb9); clear hb9)
        | fail)
      go_ret
      exact ⟨rfl, unhide HB9⟩
end Go.Proofs.Ytljkmajajcocdaa
