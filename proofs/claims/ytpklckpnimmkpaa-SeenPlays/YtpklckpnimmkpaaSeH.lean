/-
  The walks of bucketlinelaw23.SeenNone and SeenTwice.
-/
import Derived.Test.YtpklckpnimmkpaaSeG
namespace Go.Proofs.Ytpklckpnimmkpaa
open Go.RowKit Go.Sort Go.Maps
set_option linter.unusedVariables false
set_option maxRecDepth 4000

/-- A cache of the call's own. -/
structure CaJ (w wk : World) (g b m N : Nat) (L : List Nat) : Prop where
  ca : CaAt wk g b m N L
  bel : Below w.heap.size w wk
  lg : w.heap.size ≤ g
  lb : w.heap.size ≤ b
theorem CaJ.below {w wk w' : World} {g b m N : Nat} {L : List Nat} (h : CaJ w wk g b m N L) (hb : Below wk.heap.size wk w') : CaJ w w' g b m N L := ⟨h.ca.below hb, below0 h.bel hb, h.lg, h.lb⟩
theorem CaJ.tu {w wk w' : World} {g b m N N' : Nat} {L L' : List Nat} (h : CaJ w wk g b m N L) (ht : Tu (caF g b) wk w') (hc : CaAt w' g b m N' L') : CaJ w w' g b m N' L' :=
  ⟨hc, h.bel.trans (ht.below h.bel.size fun j hj hf => by have := h.lg; have := h.lb; rcases hf with hf | hf <;> omega), h.lg, h.lb⟩
theorem CaJ.mono {w wk : World} {g b m N N' : Nat} {L : List Nat} (h : CaJ w wk g b m N L) (hN : N ≤ N') : CaJ w wk g b m N' L := ⟨h.ca.mono hN, h.bel, h.lg, h.lb⟩
theorem CaJ.low {w0 w wk : World} {g b m N : Nat} {L : List Nat} (h : CaJ w wk g b m N L) (hb : Below w0.heap.size w0 w) : CaJ w0 wk g b m N L := ⟨h.ca, below0 hb h.bel, Nat.le_trans hb.size h.lg, Nat.le_trans hb.size h.lb⟩
theorem cj_new (n : Int) (w : World) :
    Calls Try.prog 13 #[.int .i64 n] w fun e w' => ∃ g b, e = .returned (.pointer (some ⟨g, 0, none⟩)) ∧ CaJ w w' g b (capN n) 0 [] :=
  (senew_any n w).mono fun e w' ⟨g, b, he, hg, hb, hc, hw⟩ => ⟨g, b, he, hc, hw, hg, hb⟩
theorem cj_fresh {w wk : World} {g b m N : Nat} {L : List Nat} (h : CaJ w wk g b m N L) (p : PKV) (hr : RowAt w p.r.a p.r.n p.r.xs) (hN : N < 1099511627776) :
    Calls Try.prog 18 #[.pointer (some ⟨g, 0, none⟩), p.val] wk fun e w' => e = .returned (.bool (freshD L p.pd)) ∧ CaJ w w' g b m (N + 1) (cameL m L p.pd) :=
  (sefresh_any g b m N L p wk h.ca (hr.below h.bel) hN).mono fun e w' ⟨he, hc, ht⟩ => ⟨he, h.tu ht hc⟩
theorem cj_has {w wk : World} {g b m N : Nat} {L : List Nat} (h : CaJ w wk g b m N L) (p : PKV) (hr : RowAt w p.r.a p.r.n p.r.xs) :
    Calls Try.prog 16 #[.pointer (some ⟨g, 0, none⟩), p.val] wk fun e w' => e = .returned (.bool (hasD L (prD p.pd))) ∧ CaJ w w' g b m N L :=
  (sehas_any g b m N L p wk h.ca (hr.below h.bel)).mono fun e w' ⟨he, hb⟩ => ⟨he, h.below hb⟩
theorem cj_clear {w wk : World} {g b m N : Nat} {L : List Nat} (h : CaJ w wk g b m N L) :
    Calls Try.prog 21 #[.pointer (some ⟨g, 0, none⟩)] wk fun e w' => e = .returned (.tuple #[]) ∧ CaJ w w' g b m 0 [] :=
  (seclear_any g b m N L wk h.ca).mono fun e w' ⟨he, hc, ht⟩ => ⟨he, h.tu ht hc⟩

/-- The packet's block and the cache. -/
structure NoS (w wk : World) (p : PKV) (g b m N : Nat) (L : List Nat) : Prop where
  cj : CaJ w wk g b m N L
  pa : BkA 26 wk w.heap.size [.int .i64 p.o, .int .i64 p.l, .int .i64 p.k, .int .i64 p.z, .int .i64 p.h, .slice p.r.a p.r.n p.r.c, .string p.r.s]
theorem NoS.below {w wk w' : World} {p : PKV} {g b m N : Nat} {L : List Nat} (h : NoS w wk p g b m N L) (hb : Below wk.heap.size wk w') : NoS w w' p g b m N L := ⟨h.cj.below hb, h.pa.below hb⟩
theorem NoS.tu {w wk w' : World} {p : PKV} {g b m N N' : Nat} {L L' : List Nat} (h : NoS w wk p g b m N L) (ht : Tu (caF g b) wk w') (hc : CaAt w' g b m N' L') : NoS w w' p g b m N' L' :=
  ⟨h.cj.tu ht hc, h.pa.tu ht (h.cj.ca.out h.pa (by decide))⟩

set_option maxHeartbeats 4000000 in
theorem senone_walk (p : PKV) (most : Int) (W : World) (hr : RowAt W p.r.a p.r.n p.r.xs) (hn : p.r.n ≤ 9223372036854775807) (hs : p.r.s.size ≤ 9223372036854775807) :
    Calls Try.prog 7 #[p.val, .int .i64 most] W fun e w' => e = .returned (.bool true) ∧ Below W.heap.size W w' := by
  have B0 := hide (below_new W (.cells #[.int .i64 p.o, .int .i64 p.l, .int .i64 p.k, .int .i64 p.z, .int .i64 p.h, .slice p.r.a p.r.n p.r.c, .string p.r.s] 26))
  have K0 := hide (bkA_new 26 W [.int .i64 p.o, .int .i64 p.l, .int .i64 p.k, .int .i64 p.z, .int .i64 p.h, .slice p.r.a p.r.n p.r.c, .string p.r.s])
  have HA0 := hide (seawake_any (W.alloc (.cells #[.int .i64 p.o, .int .i64 p.l, .int .i64 p.k, .int .i64 p.z, .int .i64 p.h, .slice p.r.a p.r.n p.r.c, .string p.r.s] 26)))
  by_cases h1 : 100 < p.r.n
  · have hd1 : decide (100 < (p.r.n : Int)) = true := by simp only [decide_eq_true_eq]; omega
    unfold PKV.val
    clear hr hs h1 K0
    generalize p.r = x at *
    go_enter Try.func7, Try.ntmps7
    go_wp2_with (first | (go_at_call 8; refine (unhide HA0).mono ?_; rintro e w1 ⟨rfl, hb1⟩; have HB1 := hide (below0 (unhide B0) hb1); clear hb1) | fail)
    go_ret
    exact ⟨rfl, unhide HB1⟩
  · have hd1 : decide (100 < (p.r.n : Int)) = false := by simp only [decide_eq_false_iff_not]; omega
    by_cases h2 : 1000 < p.r.s.size
    · have hd2 : decide (1000 < (p.r.s.size : Int)) = true := by simp only [decide_eq_true_eq]; omega
      unfold PKV.val
      clear hr h1 h2 K0
      generalize p.r = x at *
      go_enter Try.func7, Try.ntmps7
      go_wp2_with (first | (go_at_call 8; refine (unhide HA0).mono ?_; rintro e w1 ⟨rfl, hb1⟩; have HB1 := hide (below0 (unhide B0) hb1); clear hb1) | fail)
      go_ret
      exact ⟨rfl, unhide HB1⟩
    · have hd2 : decide (1000 < (p.r.s.size : Int)) = false := by simp only [decide_eq_false_iff_not]; omega
      have HC1 := hide (fun wx => seclear_nil wx)
      have HN := hide (fun wx => senew_any most wx)
      have HNF := hide (fun wx => sefresh_nil p wx)
      have HNH := hide (fun wx => sehas_nil p wx)
      have HNL := hide (fun wx => selen_nil wx)
      have HF := hide (fun wx g b m N L (h : NoS W wx p g b m N L) hN => sefresh_any g b m N L p wx h.cj.ca (hr.below h.cj.bel) hN)
      have hF : ∃ bb, freshD [] p.pd = bb := ⟨_, rfl⟩
      obtain ⟨bb, hbb⟩ := hF
      have HBB := hide hbb
      have HF1 : Hid True := trivial
      have HF2 : Hid True := trivial
      have HF3 : Hid True := trivial
      have HNLF : Hid True := trivial
      unfold PKV.val
      unfold PKV.val at HNF HNH HF
      clear hr h1 h2 hbb HA0
      go_enter Try.func7, Try.ntmps7
      go_wp2_with (first
        | (go_at_call 21; clear HF1; refine (unhide HC1 _).mono ?_; rintro e w1 ⟨rfl, hw1⟩; obtain rfl := hw1.symm; clear hw1)
        | (go_at_call 13; refine (unhide HN _).mono ?_; rintro e w2 ⟨g, b, rfl, lg, lb, hc, hbw⟩; have HS2 := hide (show NoS W w2 p g b (capN most) 0 [] from ⟨⟨hc, below0 (unhide B0) hbw, Nat.le_trans (unhide B0).size lg, Nat.le_trans (unhide B0).size lb⟩, (unhide K0).below hbw⟩); clear hc hbw lg lb B0 K0; generalize capN most = m at *; have q0 := (unhide HS2).pa.at 0 rfl; have q1 := (unhide HS2).pa.at 1 rfl; have q2 := (unhide HS2).pa.at 2 rfl; have q3 := (unhide HS2).pa.at 3 rfl; have q4 := (unhide HS2).pa.at 4 rfl; have q5 := (unhide HS2).pa.at 5 rfl; have q6 := (unhide HS2).pa.at 6 rfl)
        | (go_at_call 18; clear HF2; refine (unhide HF _ _ _ _ _ _ (unhide HS2) (by decide)).mono ?_; rintro e w3 ⟨rfl, hc3, ht3⟩; rw [unhide HBB]; have HS3 := hide ((unhide HS2).tu ht3 hc3); clear hc3 ht3 HS2 q0 q1 q2 q3 q4 q5 q6)
        | (go_at_call 21; refine (seclear_any _ _ _ _ _ _ (unhide HS3).cj.ca).mono ?_; rintro e w4 ⟨rfl, hc4, ht4⟩; have HS4 := hide ((unhide HS3).tu ht4 hc4); clear hc4 ht4 HS3; have q0 := (unhide HS4).pa.at 0 rfl; have q1 := (unhide HS4).pa.at 1 rfl; have q2 := (unhide HS4).pa.at 2 rfl; have q3 := (unhide HS4).pa.at 3 rfl; have q4 := (unhide HS4).pa.at 4 rfl; have q5 := (unhide HS4).pa.at 5 rfl; have q6 := (unhide HS4).pa.at 6 rfl)
        | (go_at_call 18; clear HF3; refine (unhide HNF _).mono ?_; rintro e w5 ⟨rfl, hb5⟩; have HS5 := hide ((unhide HS4).below hb5); clear hb5 HS4 q0 q1 q2 q3 q4 q5 q6; have q0 := (unhide HS5).pa.at 0 rfl; have q1 := (unhide HS5).pa.at 1 rfl; have q2 := (unhide HS5).pa.at 2 rfl; have q3 := (unhide HS5).pa.at 3 rfl; have q4 := (unhide HS5).pa.at 4 rfl; have q5 := (unhide HS5).pa.at 5 rfl; have q6 := (unhide HS5).pa.at 6 rfl)
        | (go_at_call 16; refine (unhide HNH _).mono ?_; rintro e w6 ⟨rfl, hb6⟩; have HS6 := hide ((unhide HS5).below hb6); clear hb6 HS5 q0 q1 q2 q3 q4 q5 q6; have q0 := (unhide HS6).pa.at 0 rfl; have q1 := (unhide HS6).pa.at 1 rfl; have q2 := (unhide HS6).pa.at 2 rfl; have q3 := (unhide HS6).pa.at 3 rfl; have q4 := (unhide HS6).pa.at 4 rfl; have q5 := (unhide HS6).pa.at 5 rfl; have q6 := (unhide HS6).pa.at 6 rfl)
        | (go_at_call 19; clear HNLF; refine (unhide HNL _).mono ?_; rintro e w7 ⟨rfl, hw7⟩; obtain rfl := hw7.symm; clear hw7)
        | (go_at_call 19; refine (selen_any _ _ _ _ _ _ (unhide HS6).cj.ca).mono ?_; rintro e w8 ⟨rfl, hw8⟩; obtain rfl := hw8.symm; clear hw8)
        | (go_at_call 18; refine (unhide HF _ _ _ _ _ _ (unhide HS6) (by decide)).mono ?_; rintro e w9 ⟨rfl, hc9, ht9⟩; rw [unhide HBB]; have HS9 := hide ((unhide HS6).tu ht9 hc9); clear hc9 ht9 HS6 q0 q1 q2 q3 q4 q5 q6)
        | (go_at_call 8; refine (seawake_any _).mono ?_; rintro e w10 ⟨rfl, hb10⟩; have HB10 := hide (below0 (unhide HS9).cj.bel hb10); clear hb10)
        | fail)
      go_ret
      exact ⟨rfl, unhide HB10⟩
end Go.Proofs.Ytpklckpnimmkpaa
