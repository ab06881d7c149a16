/-
  Contracts of net.nodesRight, boundsRight, Check. Condition: what is asked of can be read; no slice of a node's To is longer than its room.
-/
import Derived.Test.YtakoaadimhpclaaGreatDoorU29
namespace Go.Proofs.YtakoaadimhpclaaGreatDoor
open Go.RowKit Go.Sort
set_option linter.unusedVariables false
set_option linter.unusedSimpArgs false
set_option maxRecDepth 4000

/-- May the nodes be? -/
def NodsP (n : Nat) (ds : List NDV) : Prop := (1 ≤ n ∧ n ≤ 8) ∧ (∀ i, i < n → (1 ≤ (ds.getD i .dflt).kd ∧ (ds.getD i .dflt).kd ≤ 3) ∧ TosP (ds.getD i .dflt).tos i n) ∧ srcN ds n = 1
set_option maxHeartbeats 4000000 in
theorem ntnodes_any (a : Option Addr) (n c : Nat) (ds : List NDV) (w : World) (h : NdsAt w a n ds) (hn : n ≤ 9223372036854775807) (hts : ∀ i, i < n → (ds.getD i .dflt).n ≤ 9223372036854775807 ∧ (ds.getD i .dflt).n ≤ (ds.getD i .dflt).c) :
    Calls Tryz.prog 57 #[.slice a n c] w fun e w' => ((e = .returned (.bool true) ∧ NodsP n ds) ∨ (e = .returned (.bool false) ∧ ¬ NodsP n ds)) ∧ Below w.heap.size w w' := by
  by_cases k0 : 1 ≤ (n : Int) ∧ (n : Int) ≤ 8
  case neg =>
    clear h
    go_enter Tryz.func57, Tryz.ntmps57
    go_wp2_with (first
      | (go_at_call 73; refine (ntin_no _ _ _ _ k0).mono ?_; rintro e w1 ⟨rfl, hw1⟩; obtain rfl := hw1.symm; clear hw1)
      | fail)
    go_ret
    exact ⟨.inr ⟨rfl, fun p => k0 ⟨by have := p.1; omega, by have := p.1; omega⟩⟩, Below.refl _ _⟩
  have H := hide h
  have HTS := hide hts
  clear h hts
  go_enter Tryz.func57, Tryz.ntmps57
  go_wp2_with (first
    | (go_at_call 73; refine (ntin_yes _ _ _ _ k0).mono ?_; rintro e w1 ⟨rfl, hw1⟩; obtain rfl := hw1.symm; clear hw1)
    | fail)
  go_loopw [3, 12] (fun s i wr => ∃ k : Nat, k ≤ n ∧ i = .int .i64 k ∧ s = .int .i64 (srcN ds k : Nat) ∧ Hid (Below w.heap.size w wr) ∧ Hid (∀ j, j < k → (1 ≤ (ds.getD j .dflt).kd ∧ (ds.getD j .dflt).kd ≤ 3) ∧ TosP (ds.getD j .dflt).tos j n)) (fun _ i _ => n - (intOf i).toNat)
  case atStart => exact ⟨0, Nat.zero_le _, rfl, rfl, hide (Below.refl _ _), hide (fun j hj => by omega)⟩
  case round =>
    obtain ⟨k, hk, rfl, rfl, HB, HZ⟩ := hrel
    rename_i wr
    have hsl := srcN_le ds k
    by_cases hlt : k < n
    · have hlt' : (k : Int) < (n : Int) := by omega
      have hd := (unhide H).below (unhide HB)
      obtain ⟨b, off, rfl, hc⟩ := hd.at hlt
      obtain ⟨hc0, hc1⟩ := hc k hlt
      have htz := hd.2.1 k hlt
      have HT := hide (fun wx (hb : Below wr.heap.size wr wx) => ntto_any _ _ (ds.getD k .dflt).c _ k n wx (htz.below hb) ((unhide HTS) k hlt).1 ((unhide HTS) k hlt).2 (by omega) hlt)
      have HNO := hide (show (¬ ((1 ≤ (ds.getD k .dflt).kd ∧ (ds.getD k .dflt).kd ≤ 3) ∧ TosP (ds.getD k .dflt).tos k n)) → ¬ NodsP n ds from fun e p => e (p.2.1 k hlt))
      have HS1 := hide (show srcN ds (k + 1) = srcN ds k + if (ds.getD k .dflt).kd = 1 then 1 else 0 from rfl)
      have HYS := hide (fun (e : (1 ≤ (ds.getD k .dflt).kd ∧ (ds.getD k .dflt).kd ≤ 3) ∧ TosP (ds.getD k .dflt).tos k n) => show ∀ j, j < k + 1 → (1 ≤ (ds.getD j .dflt).kd ∧ (ds.getD j .dflt).kd ≤ 3) ∧ TosP (ds.getD j .dflt).tos j n from fun j hj => by
        by_cases q : j = k
        · rw [q]; exact e
        · exact unhide HZ j (by omega))
      clear hc htz hd
      generalize ds.getD k .dflt = d at *
      obtain ⟨s1, he1⟩ : ∃ s1, srcN ds (k + 1) = s1 := ⟨_, rfl⟩
      rw [he1] at HS1
      have HE1 := hide he1
      clear he1
      generalize srcN ds k = s0 at *
      have HBW := hide (alloc_low wr (.cells #[.int .i64 d.kd, .slice d.a d.n d.c] 83))
      have HB2 := hide (below0 (unhide HB) (unhide HBW))
      go_wp2_with fail
      refine (ntkind_any d.kd _).mono ?_
      rintro e w2 ⟨⟨rfl, q1⟩ | ⟨rfl, q1⟩, hw2⟩
      · obtain rfl := hw2.symm
        clear hw2
        go_wp2_with fail
        refine (unhide HT _ (unhide HBW)).mono ?_
        rintro e w3 ⟨⟨rfl, ht2⟩ | ⟨rfl, ht2⟩, hw3⟩
        · obtain rfl := hw3.symm
          have HY2 := hide (unhide HYS ⟨q1, ht2⟩)
          clear hw3 HNO HYS HZ ht2 HT hc0 hc1
          by_cases q2 : d.kd = 1
          · have hs : s1 = s0 + 1 := by rw [unhide HS1, if_pos q2]
            have e2 : (d.kd == 1) = true := by rw [beq_iff_eq]; exact q2
            clear q1 q2 HS1
            go_wp2
            go_roundw
            case rel => exact ⟨k + 1, hlt, by go_num, by rw [unhide HE1, hs]; go_num, HB2, HY2⟩
            case measure => simp [intOf]; omega
          · have hs : s1 = s0 := by rw [unhide HS1, if_neg q2, Nat.add_zero]
            have e2 : (d.kd == 1) = false := by rw [beq_eq_false_iff_ne]; exact q2
            clear q1 q2 HS1
            go_wp2
            go_roundw
            case rel => exact ⟨k + 1, hlt, by go_num, by rw [unhide HE1, hs], HB2, HY2⟩
            case measure => simp [intOf]; omega
        · obtain rfl := hw3.symm
          have HF := hide ((unhide HNO) fun p => ht2 p.2)
          clear hw3 HNO HYS HZ ht2 HT
          go_wp2
          go_ret
          exact ⟨.inr ⟨rfl, unhide HF⟩, unhide HB2⟩
      · obtain rfl := hw2.symm
        have HF := hide ((unhide HNO) fun p => q1 p.1)
        clear hw2 HNO HYS HZ HT
        go_wp2
        go_ret
        exact ⟨.inr ⟨rfl, unhide HF⟩, unhide HB2⟩
    · obtain rfl : k = n := by omega
      by_cases q : srcN ds k = 1
      · have HF := hide (show NodsP k ds from ⟨by omega, unhide HZ, q⟩)
        rw [q]
        clear HZ q
        go_wp2
        go_ret
        exact ⟨.inl ⟨rfl, unhide HF⟩, unhide HB⟩
      · have HF := hide (show ¬ NodsP k ds from fun p => q p.2.2)
        have e2 : (((srcN ds k : Nat) : Int) == 1) = false := by rw [beq_eq_false_iff_ne]; omega
        clear HZ q
        go_wp2
        go_ret
        exact ⟨.inr ⟨rfl, unhide HF⟩, unhide HB⟩
/-- May the bounds be? -/
def BndP (f : CFV) : Prop := (0 ≤ f.spread ∧ f.spread ≤ 128) ∧ (1 ≤ f.buffer ∧ f.buffer ≤ 256) ∧ (1 ≤ f.queue ∧ f.queue ≤ 256) ∧ (0 ≤ f.cache ∧ f.cache ≤ 256) ∧ (0 ≤ f.timeout ∧ f.timeout ≤ 1048576) ∧ (1 ≤ f.target ∧ f.target ≤ 128)
theorem cfgp_iff (f : CFV) : CfgP f ↔ NodsP f.n f.ds ∧ BndP f :=
  ⟨fun ⟨⟨a, b⟩, c, d⟩ => ⟨⟨a, c, d⟩, b⟩, fun ⟨⟨a, c, d⟩, b⟩ => ⟨⟨a, b⟩, c, d⟩⟩
set_option maxHeartbeats 4000000 in
theorem ntbounds_any (f : CFV) (w : World) : Calls Tryz.prog 58 #[f.val] w fun e w' => ((e = .returned (.bool true) ∧ BndP f) ∨ (e = .returned (.bool false) ∧ ¬ BndP f)) ∧ Below w.heap.size w w' := by
  obtain ⟨a, n, c, ds, obj, size, spread, buffer, queue, cache, rate, timeout, target⟩ := f
  simp only [CFV.val, BndP]
  have HB := hide (alloc_low w (.cells #[.slice a n c, .string obj, .int .i64 size, .int .i64 spread, .int .i64 buffer, .int .i64 queue, .int .i64 cache, .float .f64 rate, .int .i64 timeout, .int .i64 target] 51))
  by_cases k0 : (0 ≤ spread ∧ spread ≤ 128)
  case neg =>
    go_enter Tryz.func58, Tryz.ntmps58
    go_wp2_with (first
      | (go_at_call 73; first | (refine (ntin_yes _ _ _ _ (by assumption)).mono ?_; rintro e w1 ⟨rfl, hw1⟩; obtain rfl := hw1.symm; clear hw1) | (refine (ntin_no _ _ _ _ (by assumption)).mono ?_; rintro e w1 ⟨rfl, hw1⟩; obtain rfl := hw1.symm; clear hw1))
      | fail)
    go_ret
    exact ⟨.inr ⟨rfl, fun p => k0 p.1⟩, unhide HB⟩
  by_cases k1 : (1 ≤ buffer ∧ buffer ≤ 256)
  case neg =>
    go_enter Tryz.func58, Tryz.ntmps58
    go_wp2_with (first
      | (go_at_call 73; first | (refine (ntin_yes _ _ _ _ (by assumption)).mono ?_; rintro e w1 ⟨rfl, hw1⟩; obtain rfl := hw1.symm; clear hw1) | (refine (ntin_no _ _ _ _ (by assumption)).mono ?_; rintro e w1 ⟨rfl, hw1⟩; obtain rfl := hw1.symm; clear hw1))
      | fail)
    go_ret
    exact ⟨.inr ⟨rfl, fun p => k1 p.2.1⟩, unhide HB⟩
  by_cases k2 : (1 ≤ queue ∧ queue ≤ 256)
  case neg =>
    go_enter Tryz.func58, Tryz.ntmps58
    go_wp2_with (first
      | (go_at_call 73; first | (refine (ntin_yes _ _ _ _ (by assumption)).mono ?_; rintro e w1 ⟨rfl, hw1⟩; obtain rfl := hw1.symm; clear hw1) | (refine (ntin_no _ _ _ _ (by assumption)).mono ?_; rintro e w1 ⟨rfl, hw1⟩; obtain rfl := hw1.symm; clear hw1))
      | fail)
    go_ret
    exact ⟨.inr ⟨rfl, fun p => k2 p.2.2.1⟩, unhide HB⟩
  by_cases k3 : (0 ≤ cache ∧ cache ≤ 256)
  case neg =>
    go_enter Tryz.func58, Tryz.ntmps58
    go_wp2_with (first
      | (go_at_call 73; first | (refine (ntin_yes _ _ _ _ (by assumption)).mono ?_; rintro e w1 ⟨rfl, hw1⟩; obtain rfl := hw1.symm; clear hw1) | (refine (ntin_no _ _ _ _ (by assumption)).mono ?_; rintro e w1 ⟨rfl, hw1⟩; obtain rfl := hw1.symm; clear hw1))
      | fail)
    go_ret
    exact ⟨.inr ⟨rfl, fun p => k3 p.2.2.2.1⟩, unhide HB⟩
  by_cases k4 : (0 ≤ timeout ∧ timeout ≤ 1048576)
  case neg =>
    go_enter Tryz.func58, Tryz.ntmps58
    go_wp2_with (first
      | (go_at_call 73; first | (refine (ntin_yes _ _ _ _ (by assumption)).mono ?_; rintro e w1 ⟨rfl, hw1⟩; obtain rfl := hw1.symm; clear hw1) | (refine (ntin_no _ _ _ _ (by assumption)).mono ?_; rintro e w1 ⟨rfl, hw1⟩; obtain rfl := hw1.symm; clear hw1))
      | fail)
    go_ret
    exact ⟨.inr ⟨rfl, fun p => k4 p.2.2.2.2.1⟩, unhide HB⟩
  by_cases k5 : (1 ≤ target ∧ target ≤ 128)
  case neg =>
    go_enter Tryz.func58, Tryz.ntmps58
    go_wp2_with (first
      | (go_at_call 73; first | (refine (ntin_yes _ _ _ _ (by assumption)).mono ?_; rintro e w1 ⟨rfl, hw1⟩; obtain rfl := hw1.symm; clear hw1) | (refine (ntin_no _ _ _ _ (by assumption)).mono ?_; rintro e w1 ⟨rfl, hw1⟩; obtain rfl := hw1.symm; clear hw1))
      | fail)
    go_ret
    exact ⟨.inr ⟨rfl, fun p => k5 p.2.2.2.2.2⟩, unhide HB⟩
  go_enter Tryz.func58, Tryz.ntmps58
  go_wp2_with (first
    | (go_at_call 73; first | (refine (ntin_yes _ _ _ _ (by assumption)).mono ?_; rintro e w1 ⟨rfl, hw1⟩; obtain rfl := hw1.symm; clear hw1) | (refine (ntin_no _ _ _ _ (by assumption)).mono ?_; rintro e w1 ⟨rfl, hw1⟩; obtain rfl := hw1.symm; clear hw1))
    | fail)
  go_ret
  exact ⟨.inl ⟨rfl, k0, k1, k2, k3, k4, k5⟩, unhide HB⟩
set_option maxHeartbeats 4000000 in
theorem ntchk_any (f : CFV) (w : World) (h : CfIn w f) (hcap : ∀ i, i < f.n → (f.ds.getD i .dflt).n ≤ (f.ds.getD i .dflt).c) :
    Calls Tryz.prog 34 #[f.val] w fun e w' => ∃ en : Int, e = .returned (.int .i64 en) ∧ ChkR f en ∧ Below w.heap.size w w' := by
  have HB := hide (alloc_low w (.cells #[.slice f.a f.n f.c, .string f.obj, .int .i64 f.size, .int .i64 f.spread, .int .i64 f.buffer, .int .i64 f.queue, .int .i64 f.cache, .float .f64 f.rate, .int .i64 f.timeout, .int .i64 f.target] 51))
  have HX := hide (bkA_new 51 w [.slice f.a f.n f.c, .string f.obj, .int .i64 f.size, .int .i64 f.spread, .int .i64 f.buffer, .int .i64 f.queue, .int .i64 f.cache, .float .f64 f.rate, .int .i64 f.timeout, .int .i64 f.target])
  have hn := h.len
  have ho := h.obj
  have HN := hide (fun wx (hb : Below w.heap.size w wx) => ntnodes_any f.a f.n f.c f.ds wx (h.nds.below hb) hn fun i hi => ⟨(h.tos i hi).1, hcap i hi⟩)
  have HPL := hide (fun wx => plan_any (f.obj.size : Int) f.size wx (by omega))
  clear h hcap
  rw [show f.val = .agg #[.slice f.a f.n f.c, .string f.obj, .int .i64 f.size, .int .i64 f.spread, .int .i64 f.buffer, .int .i64 f.queue, .int .i64 f.cache, .float .f64 f.rate, .int .i64 f.timeout, .int .i64 f.target] from rfl]
  go_enter Tryz.func34, Tryz.ntmps34
  go_wp2_with fail
  refine (unhide HN _ (unhide HB)).mono ?_
  rintro e w1 ⟨⟨rfl, h1⟩ | ⟨rfl, h1⟩, hb1⟩
  · have hx := (unhide HX).below hb1
    have x0 := hx.at 0 rfl; have x1 := hx.at 1 rfl; have x2 := hx.at 2 rfl; have x3 := hx.at 3 rfl; have x4 := hx.at 4 rfl; have x5 := hx.at 5 rfl; have x6 := hx.at 6 rfl; have x7 := hx.at 7 rfl; have x8 := hx.at 8 rfl; have x9 := hx.at 9 rfl
    have HX1 := hide hx
    have HB1 := hide (below0 (unhide HB) hb1)
    clear hx hb1
    go_wp2_with fail
    refine (ntbounds_any f _).mono ?_
    clear x0 x1 x2 x3 x4 x5 x6 x7 x8 x9
    rintro e w2 ⟨⟨rfl, h2⟩ | ⟨rfl, h2⟩, hb2⟩
    · have hx := (unhide HX1).below hb2
      have x1 := hx.at 1 rfl
      have x2 := hx.at 2 rfl
      have HB2 := hide (below0 (unhide HB1) hb2)
      have HF := hide (show ChkR f (planE f.obj.size f.size) from .inl ⟨(cfgp_iff f).2 ⟨h1, h2⟩, rfl⟩)
      clear hx hb2
      go_wp2_with (first
        | (go_at_call 35; refine (unhide HPL _).mono ?_; rintro e w3 ⟨rfl, hw3⟩; obtain rfl := hw3.symm; clear hw3)
        | fail)
      go_ret
      exact ⟨_, rfl, unhide HF, unhide HB2⟩
    · have HB2 := hide (below0 (unhide HB1) hb2)
      have HF := hide (show ChkR f 1 from .inr ⟨fun p => h2 ((cfgp_iff f).1 p).2, rfl⟩)
      clear hb2
      go_wp2
      go_ret
      exact ⟨1, rfl, unhide HF, unhide HB2⟩
  · have HB1 := hide (below0 (unhide HB) hb1)
    have HF := hide (show ChkR f 1 from .inr ⟨fun p => h1 ((cfgp_iff f).1 p).1, rfl⟩)
    clear hb1
    go_wp2
    go_ret
    exact ⟨1, rfl, unhide HF, unhide HB1⟩
end Go.Proofs.YtakoaadimhpclaaGreatDoor
