/-
  Contracts of bucketlineref25.in, tos and Check. Condition: the config can be read.
-/
import Derived.Test.YtljkmajajcocdaaU6
import Derived.Test.YtljkmajajcocdaaU7
import Derived.Test.YtljkmajajcocdaaU8
namespace Go.Proofs.Ytljkmajajcocdaa
open Go.RowKit Go.Sort
set_option linter.unusedVariables false
set_option linter.unusedSimpArgs false
set_option maxRecDepth 4000

theorem rin_yes (n l h : Int) (w : World) (hn : l ≤ n ∧ n ≤ h) : Calls Try.prog 50 #[.int .i64 n, .int .i64 l, .int .i64 h] w fun e w' => e = .returned (.bool true) ∧ w' = w := by
  obtain ⟨h1, h2⟩ := hn
  go_enter Try.func50, Try.ntmps50
  go_wp2
  go_ret
  exact ⟨rfl, rfl⟩
theorem rin_no (n l h : Int) (w : World) (hn : ¬ (l ≤ n ∧ n ≤ h)) : Calls Try.prog 50 #[.int .i64 n, .int .i64 l, .int .i64 h] w fun e w' => e = .returned (.bool false) ∧ w' = w := by
  by_cases h1 : l ≤ n
  · have h2 : ¬ n ≤ h := fun e => hn ⟨h1, e⟩
    clear hn
    go_enter Try.func50, Try.ntmps50
    go_wp2
    go_ret
    exact ⟨rfl, rfl⟩
  · clear hn
    go_enter Try.func50, Try.ntmps50
    go_wp2
    go_ret
    exact ⟨rfl, rfl⟩
set_option maxHeartbeats 2000000 in
theorem rtos_any (a : Option Addr) (n c : Nat) (xs : List Int) (id N : Int) (w : World) (h : IntzAt w a n xs) (hn : n ≤ 9223372036854775807) (hN : 1 ≤ N ∧ N ≤ 8) (hid : 0 ≤ id ∧ id ≤ 8) :
    Calls Try.prog 51 #[.slice a n c, .int .i64 id, .int .i64 N] w fun e w' => ((e = .returned (.bool true) ∧ TosP xs id N) ∨ (e = .returned (.bool false) ∧ ¬ TosP xs id N)) ∧ Below w.heap.size w w' := by
  obtain rfl := h.1
  by_cases h0 : N ≤ (xs.length : Int)
  · have hd : decide (N ≤ (xs.length : Int)) = true := by simpa using h0
    clear h
    go_enter Try.func51, Try.ntmps51
    go_wp2
    go_ret
    exact ⟨.inr ⟨rfl, fun h => by have := h.1; omega⟩, Below.refl _ _⟩
  have hd : decide (N ≤ (xs.length : Int)) = false := by simpa using h0
  have hlt0 : (xs.length : Int) < N := by omega
  have hN1 : IntKind.i64.wrap (N - 1) = N - 1 := by rw [IntKind.wrap_i64]; omega
  have H := hide h
  clear h
  go_enter Try.func51, Try.ntmps51
  go_wp2
  go_loopw [7] (fun i wr => ∃ k : Nat, k ≤ xs.length ∧ i = .int .i64 k ∧ Hid (Below w.heap.size w wr) ∧ Hid (∀ j, j < k → (0 ≤ xs.getD j 0 ∧ xs.getD j 0 ≤ N - 1) ∧ xs.getD j 0 ≠ id ∧ ∀ k, k < j → xs.getD k 0 ≠ xs.getD j 0)) (fun i _ => xs.length - (intOf i).toNat)
  case atStart => exact ⟨0, Nat.zero_le _, rfl, hide (Below.refl _ _), hide (fun j hj => by omega)⟩
  case round =>
    obtain ⟨k, hk, rfl, HB, HZ⟩ := hrel
    by_cases hlt : k < xs.length
    · have hlt' : (k : Int) < (xs.length : Int) := by omega
      obtain ⟨b, off, rfl, hc⟩ := ((unhide H).below (unhide HB)).at hlt
      have hck := hc k hlt
      clear hc
      have HNO : (¬ ((0 ≤ xs.getD k 0 ∧ xs.getD k 0 ≤ N - 1) ∧ xs.getD k 0 ≠ id ∧ ∀ q, q < k → xs.getD q 0 ≠ xs.getD k 0)) → ¬ TosP xs id N := fun e p => e (p.2 k hlt)
      have HNO := hide HNO
      by_cases h1 : 0 ≤ xs.getD k 0 ∧ xs.getD k 0 ≤ N - 1
      case neg =>
        have HF := hide ((unhide HNO) fun p => h1 p.1)
        generalize xs.getD k 0 = x at *
        go_wp2_with (first
          | (go_at_call 50; refine (rin_no _ _ _ _ h1).mono ?_; rintro e w1 ⟨rfl, hw1⟩; obtain rfl := hw1.symm; clear hw1)
          | fail)
        go_ret
        exact ⟨.inr ⟨rfl, unhide HF⟩, unhide HB⟩
      case pos =>
        by_cases h2 : xs.getD k 0 = id
        · have HF := hide ((unhide HNO) fun p => p.2.1 h2)
          rw [h2] at hck h1
          clear h2 HNO HZ
          go_wp2_with (first
            | (go_at_call 50; refine (rin_yes _ _ _ _ h1).mono ?_; rintro e w1 ⟨rfl, hw1⟩; obtain rfl := hw1.symm; clear hw1)
            | fail)
          go_ret
          exact ⟨.inr ⟨rfl, unhide HF⟩, unhide HB⟩
        · obtain ⟨x, hx⟩ : ∃ x, xs.getD k 0 = x := ⟨_, rfl⟩
          have HX := hide hx
          have HH := hide (show (0 ≤ xs.getD k 0 ∧ xs.getD k 0 ≤ N - 1) ∧ xs.getD k 0 ≠ id from ⟨h1, h2⟩)
          rw [hx] at hck h1 h2
          have e2 : (x == id) = false := by rw [beq_eq_false_iff_ne]; exact h2
          clear hx h2
          go_wp2_with (first
            | (go_at_call 50; refine (rin_yes _ _ _ _ h1).mono ?_; rintro e w1 ⟨rfl, hw1⟩; obtain rfl := hw1.symm; clear hw1)
            | fail)
          clear hck
          go_loopw [8] (fun i wi => ∃ q : Nat, q ≤ k ∧ i = .int .i64 q ∧ Hid (Below w.heap.size w wi) ∧ Hid (∀ j, j < q → xs.getD j 0 ≠ xs.getD k 0)) (fun i _ => k - (intOf i).toNat)
          case atStart => exact ⟨0, Nat.zero_le _, rfl, HB, hide (fun j hj => by omega)⟩
          case round =>
            obtain ⟨q, hq, rfl, HBI, HQ⟩ := hrel
            by_cases hqk : q < k
            · have hqk' : (q : Int) < (k : Int) := by omega
              obtain ⟨b', off', he', hc⟩ := ((unhide H).below (unhide HBI)).at hlt
              simp only [Option.some.injEq, Addr.mk.injEq, and_true] at he'
              obtain ⟨rfl, rfl⟩ := he'
              have hck := hc k hlt
              rw [unhide HX] at hck
              have hcq := hc q (by omega)
              clear hc
              have hql : q < xs.length := by omega
              have hql' : (q : Int) < (xs.length : Int) := by omega
              by_cases he : xs.getD q 0 = x
              · have HF := hide ((unhide HNO) fun p => p.2.2 q hqk (he.trans (unhide HX).symm))
                rw [he] at hcq
                clear he HNO HQ HZ HH HX e2 h1
                go_wp2
                go_region
                all_goals go_wp2
                go_ret
                exact ⟨.inr ⟨rfl, unhide HF⟩, (unhide HBI).drew⟩
              · have HQ1 := hide (show ∀ j, j < q + 1 → xs.getD j 0 ≠ xs.getD k 0 from fun j hj => by
                  by_cases e : j = q
                  · rw [e, unhide HX]; exact he
                  · exact unhide HQ j (by omega))
                have e3 : (xs.getD q 0 == x) = false := by rw [beq_eq_false_iff_ne]; exact he
                clear he HNO HQ HZ HH e2 h1
                generalize xs.getD q 0 = y at *
                go_wp2
                go_region
                all_goals go_wp2
                go_roundw
                case rel => exact ⟨q + 1, hqk, by go_num, hide (unhide HBI).drew, HQ1⟩
                case measure => simp [intOf]; omega
            · obtain rfl : q = k := by omega
              have HS := hide (show ∀ j, j < q + 1 → (0 ≤ xs.getD j 0 ∧ xs.getD j 0 ≤ N - 1) ∧ xs.getD j 0 ≠ id ∧ ∀ k, k < j → xs.getD k 0 ≠ xs.getD j 0 from fun j hj => by
                by_cases e : j = q
                · rw [e]; exact ⟨(unhide HH).1, (unhide HH).2, unhide HQ⟩
                · exact unhide HZ j (by omega))
              clear HNO HQ HZ HH e2 h1
              go_wp2
              go_roundw
              case rel => exact ⟨q + 1, hlt, by go_num, HBI, HS⟩
              case measure => simp [intOf]; omega
    · have HF := hide (show TosP xs id N from ⟨hlt0, fun i hi => unhide HZ i (by omega)⟩)
      go_wp2
      go_ret
      exact ⟨.inl ⟨rfl, unhide HF⟩, unhide HB⟩
set_option maxHeartbeats 4000000 in
theorem rchk_num (f : CFV) (w : World) (hl : f.n ≤ 9223372036854775807) (hn : ¬ NumP f) : Calls Try.prog 37 #[f.val] w fun e w' => e = .returned (.int .i64 1) ∧ Below w.heap.size w w' := by
  obtain ⟨a, n, c, ds, obj, size, spread, buffer, queue, cache, rate, timeout, target⟩ := f
  simp only [CFV.val] at hl ⊢
  have HB := hide (alloc_low w (.cells #[.slice a n c, .string obj, .int .i64 size, .int .i64 spread, .int .i64 buffer, .int .i64 queue, .int .i64 cache, .float .f64 rate, .int .i64 timeout, .int .i64 target] 25))
  have HN := hide hn
  clear hn
  by_cases k0 : (1 ≤ (n : Int) ∧ (n : Int) ≤ 8)
  case neg =>
    go_enter Try.func37, Try.ntmps37
    go_wp2_with (first
      | (go_at_call 50; first | (refine (rin_yes _ _ _ _ (by assumption)).mono ?_; rintro e w1 ⟨rfl, hw1⟩; obtain rfl := hw1.symm; clear hw1) | (refine (rin_no _ _ _ _ (by assumption)).mono ?_; rintro e w1 ⟨rfl, hw1⟩; obtain rfl := hw1.symm; clear hw1))
      | fail)
    go_ret
    exact ⟨rfl, unhide HB⟩
  by_cases k1 : (0 ≤ spread ∧ spread ≤ 128)
  case neg =>
    go_enter Try.func37, Try.ntmps37
    go_wp2_with (first
      | (go_at_call 50; first | (refine (rin_yes _ _ _ _ (by assumption)).mono ?_; rintro e w1 ⟨rfl, hw1⟩; obtain rfl := hw1.symm; clear hw1) | (refine (rin_no _ _ _ _ (by assumption)).mono ?_; rintro e w1 ⟨rfl, hw1⟩; obtain rfl := hw1.symm; clear hw1))
      | fail)
    go_ret
    exact ⟨rfl, unhide HB⟩
  by_cases k2 : (1 ≤ buffer ∧ buffer ≤ 256)
  case neg =>
    go_enter Try.func37, Try.ntmps37
    go_wp2_with (first
      | (go_at_call 50; first | (refine (rin_yes _ _ _ _ (by assumption)).mono ?_; rintro e w1 ⟨rfl, hw1⟩; obtain rfl := hw1.symm; clear hw1) | (refine (rin_no _ _ _ _ (by assumption)).mono ?_; rintro e w1 ⟨rfl, hw1⟩; obtain rfl := hw1.symm; clear hw1))
      | fail)
    go_ret
    exact ⟨rfl, unhide HB⟩
  by_cases k3 : (1 ≤ queue ∧ queue ≤ 256)
  case neg =>
    go_enter Try.func37, Try.ntmps37
    go_wp2_with (first
      | (go_at_call 50; first | (refine (rin_yes _ _ _ _ (by assumption)).mono ?_; rintro e w1 ⟨rfl, hw1⟩; obtain rfl := hw1.symm; clear hw1) | (refine (rin_no _ _ _ _ (by assumption)).mono ?_; rintro e w1 ⟨rfl, hw1⟩; obtain rfl := hw1.symm; clear hw1))
      | fail)
    go_ret
    exact ⟨rfl, unhide HB⟩
  by_cases k4 : (0 ≤ cache ∧ cache ≤ 256)
  case neg =>
    go_enter Try.func37, Try.ntmps37
    go_wp2_with (first
      | (go_at_call 50; first | (refine (rin_yes _ _ _ _ (by assumption)).mono ?_; rintro e w1 ⟨rfl, hw1⟩; obtain rfl := hw1.symm; clear hw1) | (refine (rin_no _ _ _ _ (by assumption)).mono ?_; rintro e w1 ⟨rfl, hw1⟩; obtain rfl := hw1.symm; clear hw1))
      | fail)
    go_ret
    exact ⟨rfl, unhide HB⟩
  by_cases k5 : (0 ≤ timeout ∧ timeout ≤ 1048576)
  case neg =>
    go_enter Try.func37, Try.ntmps37
    go_wp2_with (first
      | (go_at_call 50; first | (refine (rin_yes _ _ _ _ (by assumption)).mono ?_; rintro e w1 ⟨rfl, hw1⟩; obtain rfl := hw1.symm; clear hw1) | (refine (rin_no _ _ _ _ (by assumption)).mono ?_; rintro e w1 ⟨rfl, hw1⟩; obtain rfl := hw1.symm; clear hw1))
      | fail)
    go_ret
    exact ⟨rfl, unhide HB⟩
  by_cases k6 : (1 ≤ target ∧ target ≤ 128)
  case neg =>
    go_enter Try.func37, Try.ntmps37
    go_wp2_with (first
      | (go_at_call 50; first | (refine (rin_yes _ _ _ _ (by assumption)).mono ?_; rintro e w1 ⟨rfl, hw1⟩; obtain rfl := hw1.symm; clear hw1) | (refine (rin_no _ _ _ _ (by assumption)).mono ?_; rintro e w1 ⟨rfl, hw1⟩; obtain rfl := hw1.symm; clear hw1))
      | fail)
    go_ret
    exact ⟨rfl, unhide HB⟩
  exact absurd (show NumP ⟨a, n, c, ds, obj, size, spread, buffer, queue, cache, rate, timeout, target⟩ from ⟨⟨by show 1 ≤ n; omega, by show n ≤ 8; omega⟩, k1, k2, k3, k4, k5, k6⟩) (unhide HN)
set_option maxHeartbeats 8000000 in
theorem rchk_any (f : CFV) (w : World) (h : CfIn w f) : Calls Try.prog 37 #[f.val] w fun e w' => ∃ en : Int, e = .returned (.int .i64 en) ∧ ChkR f en ∧ Below w.heap.size w w' := by
  by_cases hN : NumP f
  case neg => exact (rchk_num f w h.len hN).mono fun e w' ⟨he, hb⟩ => ⟨1, he, .inr ⟨fun k => hN k.1, rfl⟩, hb⟩
  have HF := hide (show ∀ f' : CFV, f' = f → ∀ en, ChkR f' en → ChkR f en from fun f' e en k => e ▸ k)
  obtain ⟨a, n, c, ds, obj, size, spread, buffer, queue, cache, rate, timeout, target⟩ := f
  have hNN := hN
  obtain ⟨k0', k1, k2, k3, k4, k5, k6⟩ := hNN
  have k0 : 1 ≤ (n : Int) ∧ (n : Int) ≤ 8 := by have k9 : 1 ≤ n ∧ n ≤ 8 := k0'; omega
  replace k1 : 0 ≤ spread ∧ spread ≤ 128 := k1
  replace k2 : 1 ≤ buffer ∧ buffer ≤ 256 := k2
  replace k3 : 1 ≤ queue ∧ queue ≤ 256 := k3
  replace k4 : 0 ≤ cache ∧ cache ≤ 256 := k4
  replace k5 : 0 ≤ timeout ∧ timeout ≤ 1048576 := k5
  replace k6 : 1 ≤ target ∧ target ≤ 128 := k6
  have ho : obj.size ≤ 9223372036854775807 := h.obj
  have HB := hide (alloc_low w (.cells #[.slice a n c, .string obj, .int .i64 size, .int .i64 spread, .int .i64 buffer, .int .i64 queue, .int .i64 cache, .float .f64 rate, .int .i64 timeout, .int .i64 target] 25))
  have HX := hide (bkA_new 25 w [.slice a n c, .string obj, .int .i64 size, .int .i64 spread, .int .i64 buffer, .int .i64 queue, .int .i64 cache, .float .f64 rate, .int .i64 timeout, .int .i64 target])
  have HD := hide (NdsAt.below h.nds (unhide HB))
  have HTS := hide h.tos
  have HPL := hide (fun wx => rplan_any (obj.size : Int) size wx (by omega))
  have HNUM := hide hN
  clear hN h HF k0'
  unfold CFV.val
  go_enter Try.func37, Try.ntmps37
  go_wp2_with (first
    | (go_at_call 50; first | (refine (rin_yes _ _ _ _ (by assumption)).mono ?_; rintro e w1 ⟨rfl, hw1⟩; obtain rfl := hw1.symm; clear hw1) | (refine (rin_no _ _ _ _ (by assumption)).mono ?_; rintro e w1 ⟨rfl, hw1⟩; obtain rfl := hw1.symm; clear hw1))
    | fail)
  generalize w.alloc (.cells #[.slice a n c, .string obj, .int .i64 size, .int .i64 spread, .int .i64 buffer, .int .i64 queue, .int .i64 cache, .float .f64 rate, .int .i64 timeout, .int .i64 target] 25) = W at *
  have HW := hide (Below.refl W.heap.size W)
  go_loopw [4, 5] (fun s i wr => ∃ k : Nat, k ≤ n ∧ i = .int .i64 k ∧ s = .int .i64 (srcN ds k : Nat) ∧ Hid (Below W.heap.size W wr) ∧ Hid (∀ j, j < k → (1 ≤ (ds.getD j .dflt).kd ∧ (ds.getD j .dflt).kd ≤ 3) ∧ TosP (ds.getD j .dflt).tos j n)) (fun _ i _ => n - (intOf i).toNat)
  case atStart => exact ⟨0, Nat.zero_le _, rfl, rfl, HW, hide (fun j hj => by omega)⟩
  case round =>
    obtain ⟨k, hk, rfl, rfl, HBW, HZ⟩ := hrel
    rename_i wr
    have hx := (unhide HX).below (unhide HBW)
    have h0 := hx.at 0 rfl
    have h1 := hx.at 1 rfl
    have h2 := hx.at 2 rfl
    have HX2 := hide hx
    have HB2 := hide (below0 (unhide HB) (unhide HBW))
    clear hx
    have hsl := srcN_le ds k
    by_cases hlt : k < n
    · have hlt' : (k : Int) < (n : Int) := by omega
      have hd := (unhide HD).below (unhide HBW)
      obtain ⟨b, off, ha, hc⟩ := hd.at hlt
      obtain ⟨hc0, hc1⟩ := hc k hlt
      have htz := hd.2.1 k hlt
      have HT := hide (rtos_any _ _ (ds.getD k .dflt).c _ (k : Int) (n : Int) _ htz ((unhide HTS) k hlt).1 k0 (by omega))
      have HNO := hide (show (¬ ((1 ≤ (ds.getD k .dflt).kd ∧ (ds.getD k .dflt).kd ≤ 3) ∧ TosP (ds.getD k .dflt).tos k n)) → ChkR ⟨a, n, c, ds, obj, size, spread, buffer, queue, cache, rate, timeout, target⟩ 1 from fun e => .inr ⟨fun p => e (p.2.1 k hlt), rfl⟩)
      have HS1 := hide (show srcN ds (k + 1) = srcN ds k + if (ds.getD k .dflt).kd = 1 then 1 else 0 from rfl)
      have HYS := hide (fun (e : (1 ≤ (ds.getD k .dflt).kd ∧ (ds.getD k .dflt).kd ≤ 3) ∧ TosP (ds.getD k .dflt).tos k n) => show ∀ j, j < k + 1 → (1 ≤ (ds.getD j .dflt).kd ∧ (ds.getD j .dflt).kd ≤ 3) ∧ TosP (ds.getD j .dflt).tos j n from fun j hj => by
        by_cases q : j = k
        · rw [q]; exact e
        · exact unhide HZ j (by omega))
      have HCC := hide (fun wx (hb : Below wr.heap.size wr wx) => show wx.cell? ⟨b, off + k * 2, none⟩ = some (.int .i64 (ds.getD k .dflt).kd) from (hb.cell (p := ⟨b, off + k * 2, none⟩) (World.block_lt_of_cell? wr _ hc0)).trans hc0)
      have HA := hide ha
      subst ha
      clear hc htz hd HA
      generalize ds.getD k .dflt = d at *
      obtain ⟨s1, he1⟩ : ∃ s1, srcN ds (k + 1) = s1 := ⟨_, rfl⟩
      rw [he1] at HS1
      have HE1 := hide he1
      clear he1
      generalize srcN ds k = s0 at *
      by_cases q1 : 1 ≤ d.kd ∧ d.kd ≤ 3
      case neg =>
        have HF := hide ((unhide HNO) fun p => q1 p.1)
        go_wp2_with (first
          | (go_at_call 50; refine (rin_no _ _ _ _ q1).mono ?_; rintro e w1 ⟨rfl, hw1⟩; obtain rfl := hw1.symm; clear hw1)
          | fail)
        go_ret
        exact ⟨1, rfl, unhide HF, unhide HB2⟩
      case pos =>
        go_wp2_with (first
          | (go_at_call 50; refine (rin_yes _ _ _ _ q1).mono ?_; rintro e w1 ⟨rfl, hw1⟩; obtain rfl := hw1.symm; clear hw1)
          | fail)
        refine (unhide HT).mono ?_
        rintro e w2 ⟨⟨rfl, ht2⟩ | ⟨rfl, ht2⟩, hb2⟩
        · have hx3 := (unhide HX2).below hb2
          have g0 := hx3.at 0 rfl
          have gk := unhide HCC _ hb2
          have HB3 := hide (below0 (unhide HBW) hb2)
          have HY2 := hide (unhide HYS ⟨q1, ht2⟩)
          clear hx3 h0 h1 h2 hc0 hc1 HNO HYS HZ ht2 hb2
          by_cases q2 : d.kd = 1
          · have hs : s1 = s0 + 1 := by rw [unhide HS1, if_pos q2]
            rw [q2] at gk
            clear q1 q2 HS1
            go_wp2
            go_roundw
            case rel => exact ⟨k + 1, hlt, by go_num, by rw [unhide HE1, hs]; go_num, HB3, HY2⟩
            case measure => simp [intOf]; omega
          · have hs : s1 = s0 := by rw [unhide HS1, if_neg q2, Nat.add_zero]
            have e2 : (d.kd == 1) = false := by rw [beq_eq_false_iff_ne]; exact q2
            clear q1 q2 HS1
            go_wp2
            go_roundw
            case rel => exact ⟨k + 1, hlt, by go_num, by rw [unhide HE1, hs], HB3, HY2⟩
            case measure => simp [intOf]; omega
        · have HF := hide ((unhide HNO) fun p => ht2 p.2)
          have HB3 := hide (below0 (unhide HB2) hb2)
          clear HNO HYS HZ ht2 hb2
          go_wp2
          go_ret
          exact ⟨1, rfl, unhide HF, unhide HB3⟩
    · obtain rfl : k = n := by omega
      by_cases q : srcN ds k = 1
      · have HF := hide (show ChkR ⟨a, k, c, ds, obj, size, spread, buffer, queue, cache, rate, timeout, target⟩ (planE obj.size size) from .inl ⟨⟨unhide HNUM, unhide HZ, q⟩, rfl⟩)
        rw [q]
        clear HZ q HNUM
        go_wp2_with (first
          | (go_at_call 30; refine (unhide HPL _).mono ?_; rintro e w1 ⟨rfl, hw1⟩; obtain rfl := hw1.symm; clear hw1)
          | fail)
        go_ret
        exact ⟨_, rfl, unhide HF, unhide HB2⟩
      · have HF := hide (show ChkR ⟨a, k, c, ds, obj, size, spread, buffer, queue, cache, rate, timeout, target⟩ 1 from .inr ⟨fun p => q p.2.2, rfl⟩)
        have e2 : (((srcN ds k : Nat) : Int) != 1) = true := by simp; omega
        clear HZ q HNUM
        go_wp2
        go_ret
        exact ⟨1, rfl, unhide HF, unhide HB2⟩
end Go.Proofs.Ytljkmajajcocdaa
