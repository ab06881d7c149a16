/-
  The walk of bucketlinelaw23.SeenTwice.
-/
import Derived.Test.YtpklckpnimmkpaaSeH
namespace Go.Proofs.Ytpklckpnimmkpaa
open Go.RowKit Go.Sort Go.Maps
set_option linter.unusedVariables false
set_option maxRecDepth 4000

theorem fresh_twice {m : Nat} {L : List Nat} {p : PD} (h : freshD L p = true) : freshD (cameL m L p) p = decide (m = 0) := by
  have h1 : cameL m L p = seenL m L (prD p) := by unfold cameL; rw [h]; rfl
  have h2 : okD p = true := by unfold freshD at h; rw [Bool.and_eq_true] at h; exact h.1
  rw [h1]
  unfold freshD seenL
  by_cases hm : m = 0
  · rw [if_pos hm]
    unfold freshD at h
    rw [h]
    simp [hm]
  · rw [if_neg hm, h2]
    simp only [Bool.true_and, hm, decide_false]
    have : hasD (if L.length = m then L.tail ++ [prD p] else L ++ [prD p]) (prD p) = true := by split <;> simp [hasD]
    rw [this]; rfl
set_option maxHeartbeats 4000000 in
theorem setwice_walk (most : Int) (a : Option Addr) (n c : Nat) (ps : List PKV) (W : World) (h : PksAt W a n ps) (hn : n ≤ 9223372036854775807) (hbig : ∀ i, (ps.getD i .dflt).r.n ≤ 9223372036854775807 ∧ (ps.getD i .dflt).r.s.size ≤ 9223372036854775807) :
    Calls Try.prog 5 #[.int .i64 most, .slice a n c] W fun e w' => e = .returned (.bool true) ∧ Below W.heap.size W w' := by
  have HAW := hide (fun (w1 : World) => seawake_any w1)
  have HF := hide (fewP_any a n c ps W h hn hbig)
  have HH := hide h
  have HL1 := hide h.1
  have HCAP := hide (fun wx => rcap_any most wx)
  clear h hbig
  go_enter Try.func5, Try.ntmps5
  go_wp2_with fail
  refine (unhide HF).mono ?_
  rintro e w0 ⟨hf, hw⟩
  obtain rfl := hw.symm
  clear hw HF
  rcases hf with ⟨rfl, hf⟩ | ⟨rfl, hf⟩
  case inr =>
    clear hf
    go_wp2_with (go_at_call 8; refine (unhide HAW _).mono ?_; rintro e w1 ⟨rfl, hb1⟩)
    go_ret
    exact ⟨rfl, hb1⟩
  have hl : n ≤ 60 := by rw [← unhide HL1]; exact hf.1
  clear hf HL1
  go_wp2_with fail
  refine (cj_new most W).mono ?_
  rintro e w1 ⟨g, b, rfl, hj1⟩
  have HJ1 := hide hj1
  clear hj1
  obtain ⟨m, hm⟩ : ∃ m, capN most = m := ⟨_, rfl⟩
  rw [hm] at HJ1 HCAP
  clear hm
  go_wp2
  go_loopw [6] (fun i wr => ∃ (j : Nat) (L : List Nat), j ≤ n ∧ i = .int .i64 j ∧ Hid (CaJ W wr g b m (2 * j) L)) (fun i _ => n - (intOf i).toNat)
  case atStart => exact ⟨0, [], Nat.zero_le _, rfl, HJ1⟩
  case round =>
    obtain ⟨j, L, hj, rfl, HJ⟩ := hrel
    clear HJ1
    by_cases hlt : j < n
    · have hR := (unhide HH).below (unhide HJ).bel
      have HRW := hide ((unhide HH).2.1 j hlt)
      obtain ⟨b0, off, rfl, hcl⟩ := hR.at hlt
      have HCL := hide (fun wx (hb : Below W.heap.size W wx) => by
        have h3 := ((unhide HH).below hb).at hlt
        obtain ⟨b1, off1, e1, h4⟩ := h3
        cases e1
        exact h4 j hlt)
      obtain ⟨q0, q1, q2, q3, q4, q5, q6⟩ := hcl j hlt
      have hlt' : (j : Int) < (n : Int) := by omega
      clear hR hcl
      generalize ps.getD j .dflt = p at *
      have HFR := hide (fun wx N L (h : CaJ W wx g b m N L) hN => cj_fresh h p (unhide HRW) hN)
      unfold PKV.val at HFR
      have HTW := hide (fun h1 => fresh_twice (m := m) (L := L) (p := p.pd) h1)
      have HF1 : Hid True := trivial
      obtain ⟨bb, hbb⟩ : ∃ bb, freshD L p.pd = bb := ⟨_, rfl⟩
      have HBB := hide hbb
      cases bb
      · have hL' : (cameL m L p.pd).length ≤ m := cameL_len (unhide HJ).ca.len _
        generalize hL2 : cameL m L p.pd = L2 at *
        have HL2 := hide hL2
        have hd : (L2.length : Int) ≤ (m : Int) := by omega
        clear hbb hL2 hL'
        go_wp2_with (first
          | (go_at_call 18; refine (unhide HFR _ _ _ (unhide HJ) (by omega)).mono ?_; rintro e w2 ⟨rfl, hj2⟩; rw [unhide HBB]; rw [unhide HL2] at hj2; have HJ2 := hide hj2; clear hj2)
          | (go_at_call 19; refine (selen_any _ _ _ _ _ _ (unhide HJ2).ca).mono ?_; rintro e w3 ⟨rfl, hw3⟩; obtain rfl := hw3.symm; clear hw3)
          | (go_at_call 20; refine (unhide HCAP _).mono ?_; rintro e w4 ⟨rfl, hw4⟩; obtain rfl := hw4.symm; clear hw4)
          | fail)
        go_roundw
        case rel => exact ⟨j + 1, L2, by omega, by go_num, hide ((unhide HJ2).mono (by omega))⟩
        case measure => simp [intOf]; omega
      · have hL' : (cameL m L p.pd).length ≤ m := cameL_len (unhide HJ).ca.len _
        have hL3' : (cameL m (cameL m L p.pd) p.pd).length ≤ m := cameL_len hL' _
        have HB2 := hide (unhide HTW hbb)
        generalize hL2 : cameL m L p.pd = L2 at *
        generalize hL3 : cameL m L2 p.pd = L3 at *
        have HL2 := hide hL2
        have HL3 := hide hL3
        have hd : (L3.length : Int) ≤ (m : Int) := by omega
        clear hbb hL2 hL' hL3 hL3' HTW
        by_cases hm0 : m = 0
        · subst hm0
          rw [show decide (0 = 0) = true from rfl] at HB2
          go_wp2_with (first
            | (go_at_call 18; clear HF1; refine (unhide HFR _ _ _ (unhide HJ) (by omega)).mono ?_; rintro e w2 ⟨rfl, hj2⟩; rw [unhide HBB]; rw [unhide HL2] at hj2; have HJ2 := hide hj2; obtain ⟨r0, r1, r2, r3, r4, r5, r6⟩ := unhide HCL w2 hj2.bel; clear hj2 q0 q1 q2 q3 q4 q5 q6)
            | (go_at_call 18; refine (unhide HFR _ _ _ (unhide HJ2) (by omega)).mono ?_; rintro e w5 ⟨rfl, hj5⟩; rw [unhide HB2]; rw [unhide HL3] at hj5; have HJ5 := hide hj5; clear hj5)
            | (go_at_call 19; refine (selen_any _ _ _ _ _ _ (unhide HJ5).ca).mono ?_; rintro e w3 ⟨rfl, hw3⟩; obtain rfl := hw3.symm; clear hw3)
            | (go_at_call 20; refine (unhide HCAP _).mono ?_; rintro e w4 ⟨rfl, hw4⟩; obtain rfl := hw4.symm; clear hw4)
            | fail)
          go_roundw
          case rel => exact ⟨j + 1, L3, by omega, by go_num, hide ((unhide HJ5).mono (by omega))⟩
          case measure => simp [intOf]; omega
        · have hd0 : ((m : Int) == 0) = false := by simp; omega
          rw [show decide (m = 0) = false from by simp [hm0]] at HB2
          clear hm0
          go_wp2_with (first
            | (go_at_call 18; clear HF1; refine (unhide HFR _ _ _ (unhide HJ) (by omega)).mono ?_; rintro e w2 ⟨rfl, hj2⟩; rw [unhide HBB]; rw [unhide HL2] at hj2; have HJ2 := hide hj2; obtain ⟨r0, r1, r2, r3, r4, r5, r6⟩ := unhide HCL w2 hj2.bel; clear hj2 q0 q1 q2 q3 q4 q5 q6)
            | (go_at_call 18; refine (unhide HFR _ _ _ (unhide HJ2) (by omega)).mono ?_; rintro e w5 ⟨rfl, hj5⟩; rw [unhide HB2]; rw [unhide HL3] at hj5; have HJ5 := hide hj5; clear hj5)
            | (go_at_call 19; refine (selen_any _ _ _ _ _ _ (unhide HJ5).ca).mono ?_; rintro e w3 ⟨rfl, hw3⟩; obtain rfl := hw3.symm; clear hw3)
            | (go_at_call 20; refine (unhide HCAP _).mono ?_; rintro e w4 ⟨rfl, hw4⟩; obtain rfl := hw4.symm; clear hw4)
            | fail)
          go_roundw
          case rel => exact ⟨j + 1, L3, by omega, by go_num, hide ((unhide HJ5).mono (by omega))⟩
          case measure => simp [intOf]; omega
    · have hlt' : (n : Int) ≤ (j : Int) := by omega
      have HB := hide (unhide HJ).bel
      clear HJ
      go_wp2_with (first | (go_at_call 8; refine (unhide HAW _).mono ?_; rintro e w9 ⟨rfl, hb9⟩; have HB9 := hide (below0 (unhide HB) hb9); clear hb9) | fail)
      go_ret
      exact ⟨rfl, unhide HB9⟩
end Go.Proofs.Ytpklckpnimmkpaa
