/-
  The walk of GaussTrue: for every input it tells true and writes nothing that was there.
-/
import Derived.Test.YtjppopabjfncpaaDoorJK
namespace Go.Proofs.YtjppopabjfncpaaDoor
open Go.RowKit Go.Sort
set_option linter.unusedVariables false
set_option maxRecDepth 4000

theorem RightP.mem {ss : List ByteArray} {rs : List RV} (h : RightP ss rs) : (∀ r ∈ rs, holdsB ss r.xs r.s = true) ∧ ∀ r ∈ rs, r.s.size = (ss.getD 0 ByteArray.empty).size :=
  ⟨mem_getD fun i hi => (h.holds i hi).1, mem_getD fun i hi => (h.holds i hi).2⟩
theorem RightP.room {ss : List ByteArray} {rs : List RV} (h : RightP ss rs) : 0 < sizeOfK (ss.length : Int) := by
  have h1 := h.pos
  have h2 := h.most
  unfold sizeOfK
  split
  · omega
  · omega
theorem RightP.sol {w : World} {a : Option Addr} {n : Nat} {ss : List ByteArray} {rs : List RV} (h : RightP ss rs) (hR : RowsAt w a n rs) :
    okC (ss.length : Int) (validC (ss.length : Int) rs) = decide (rankV (ss.length : Int) rs = ss.length) ∧ solveC (ss.length : Int) (validC (ss.length : Int) rs) = if rankV (ss.length : Int) rs = ss.length then ss else [] :=
  sol_true (good_of hR h.short) (len_of hR h.short) (by have := h.few; omega) h.room h.mem.1 h.mem.2 (fun b hb => (h.size b hb).1)
theorem RightP.dec {w : World} {a : Option Addr} {n : Nat} {ss : List ByteArray} {rs : List RV} (h : RightP ss rs) (hR : RowsAt w a n rs) {kn : List Nat} {bs : List ByteArray} (hP : PeelP (ss.length : Int) rs kn bs) :
    okC (ss.length : Int) (peelC (ss.length : Int) rs kn bs) = decide (rankV (ss.length : Int) rs = ss.length) ∧ solveC (ss.length : Int) (peelC (ss.length : Int) rs kn bs) = if rankV (ss.length : Int) rs = ss.length then ss else [] :=
  dec_true hP (good_of hR h.short) (len_of hR h.short) (by have := h.few; omega) h.room h.mem.1 h.mem.2 (fun b hb => (h.size b hb).1)

set_option maxHeartbeats 4000000 in
theorem gtrue_walk (al : Option Addr) (nl cl : Nat) (ss : List ByteArray) (a : Option Addr) (n c : Nat) (rs : List RV) (w : World) (ht : Tab w) (hl : TextsAt w al nl ss) (h : RowsAt w a n rs) (hn : n ≤ 9223372036854775807) (hcap : CapR rs) (hbig : ∀ i, (rs.getD i .dflt).n ≤ 9223372036854775807 ∧ (rs.getD i .dflt).s.size ≤ 9223372036854775807) :
    Calls Tryd.prog 5 #[.slice al nl cl, .slice a n c] w fun e w' => e = .returned (.bool true) ∧ Below w.heap.size w w' := by
  have HF := hide (right_any al nl cl ss a n c rs w hl h hn hbig)
  have HL := hide hl
  have Hh := hide h
  have HC := hide hcap
  have HT := hide ht
  have HAW := hide (fun (w1 : World) (hb : Below w.heap.size w w1) => awake_any w1 (ht.below hb))
  clear h hcap ht hbig hl
  go_enter Tryd.func5, Tryd.ntmps5
  go_wp2_with fail
  refine (unhide HF).mono ?_
  rintro e w0 ⟨⟨b, rfl, hb⟩, hb0⟩
  have HB0 := hide hb0
  clear HF hb0
  cases b
  · clear hb
    go_wp2_with (go_at_call 9; refine (unhide HAW _ (unhide HB0)).mono ?_; rintro e w1 ⟨rfl, hb1⟩)
    go_ret
    exact ⟨rfl, below0 (unhide HB0) hb1⟩
  have hP := hb rfl
  clear hb
  have hlen := (unhide HL).1
  have hs := hP.short
  have hmost := hP.most
  obtain ⟨kn, bs, hPP⟩ := peel_is (k := (ss.length : Int)) (good_of (unhide Hh) hs)
  have hsol := hP.sol (unhide Hh)
  have hdec := hP.dec (unhide Hh) hPP
  have hfew := hP.few
  have hNL := (unhide Hh).1
  subst hlen
  have HV := hide (rvalids_any (ss.length : Int) a n c rs w0 ((unhide Hh).below (unhide HB0)) (unhide HC) (by omega))
  have HVS := hide (fun (w1 : World) (av : Option Addr) (mv cv : Nat) hG => VsAt.of (w := w0) (w1 := w1) (av := av) (mv := mv) (cv := cv) (k := (ss.length : Int)) ((unhide Hh).below (unhide HB0)) hs hG)
  have hvl : (rs.filter fun r => validB (ss.length : Int) r.xs).length ≤ 1000 := by
    have h1 := List.length_filter_le (fun r : RV => validB (ss.length : Int) r.xs) rs
    omega
  have HRK := hide (fun (av : Option Addr) (mv cv : Nat) (w1 : World) (hV : VsAt w1 (ss.length : Int) av mv (rs.filter fun r => validB (ss.length : Int) r.xs)) => rgrank_any av mv cv _ w1 hV.rows hV.inn hV.short (by have := hV.rows.1; omega))
  have HS := hide (fun (w1 : World) (hb : Below w.heap.size w w1) => solve_any (ss.length : Int) a n c rs w1 ((unhide HT).below hb) ((unhide Hh).below hb) (unhide HC) hs (by omega))
  have HD := hide (fun (w1 : World) (hb : Below w.heap.size w w1) => decode_any (ss.length : Int) a n c rs kn bs hPP w1 ((unhide HT).below hb) ((unhide Hh).below hb) hs (by omega))
  rw [hsol.1, hsol.2] at HS
  rw [hdec.1, hdec.2] at HD
  change Hid (∀ (av : Option Addr) (mv cv : Nat) (w1 : World), VsAt w1 (ss.length : Int) av mv (rs.filter fun r => validB (ss.length : Int) r.xs) → Calls Tryd.prog 14 #[.slice av mv cv] w1 fun e w' => e = .returned (.int .i64 ((rankV (ss.length : Int) rs : Nat) : Int)) ∧ Below w1.heap.size w1 w') at HRK
  generalize rankV (ss.length : Int) rs = RK at *
  clear hsol hdec hPP hs
  have HF1 : Hid True := hide trivial
  by_cases hfull : RK = ss.length
  · have hfe : ((RK : Int) == (ss.length : Int)) = true := by rw [beq_iff_eq]; omega
    rw [decide_eq_true hfull, if_pos hfull] at HS HD
    have HTX := hide (fun (a1 : Option Addr) (m1 c1 : Nat) (w1 w2 : World) (B : Nat) (hb : Below w.heap.size w w2) (ho : OwnT w1 B (.slice a1 m1 c1) ss) (hb2 : Below w1.heap.size w1 w2) => show Calls Tryd.prog 12 #[.slice a1 m1 c1, .slice al ss.length cl] w2 fun e w' => e = .returned (.bool true) ∧ Below w2.heap.size w2 w' from by
      obtain ⟨a1', c1', e1, hT1⟩ := ho.texts
      simp only [Value.slice.injEq] at e1
      obtain ⟨rfl, rfl, rfl⟩ := e1
      have := texts2_any a1 ss.length c1 ss al ss.length cl ss w2 (hT1.below hb2) ((unhide HL).below hb) (by omega) (by omega)
      rw [decide_eq_true rfl] at this
      exact this)
    clear hfull
    go_wp2_with (first | (go_at_call 18; refine (unhide HV).mono ?_; rintro e w1 ⟨av, mv, cv, rfl, hG⟩; have HR1 := hide (unhide HRK av mv cv w1 (unhide HVS w1 av mv cv hG)); have HB1 := hide (below0 (unhide HB0) hG.2.2.2.2); clear hG) | (go_at_call 14; refine (unhide HR1).mono ?_; rintro e w2 ⟨rfl, hb2⟩; have HB2 := hide (below0 (unhide HB1) hb2); have HS2 := hide (unhide HS w2 (unhide HB2)); clear hb2) | (go_at_call 10; refine (unhide HS2).mono ?_; rintro e w3 ⟨a3, m3, c3, rfl, ho3, hb3⟩; have HO3 := hide ho3; have HB3 := hide (below0 (unhide HB2) hb3); have HD3 := hide (unhide HD w3 (unhide HB3)); clear ho3 hb3) | (go_at_call 15; refine (unhide HD3).mono ?_; rintro e w4 ⟨a4, m4, c4, rfl, ho4, hb4⟩; have HB4 := hide (below0 (unhide HB3) hb4); have HT3 := hide (unhide HTX a3 m3 c3 w3 w4 w2.heap.size (unhide HB4) (unhide HO3) hb4); have HT4 := hide (fun (w5 : World) (hb : Below w4.heap.size w4 w5) => unhide HTX a4 m4 c4 w4 w5 w3.heap.size (below0 (unhide HB4) hb) ho4 hb); clear ho4 hb4) | (go_at_call 12; clear HF1; refine (unhide HT3).mono ?_; rintro e w5 ⟨rfl, hb5⟩; have HB5 := hide (below0 (unhide HB4) hb5); have HT5 := hide (unhide HT4 w5 hb5); clear hb5) | (go_at_call 12; refine (unhide HT5).mono ?_; rintro e w6 ⟨rfl, hb6⟩; have HB6 := hide (below0 (unhide HB5) hb6); have HA6 := hide (unhide HAW w6 (unhide HB6)); clear hb6) | (go_at_call 9; refine (unhide HA6).mono ?_; rintro e w7 ⟨rfl, hb7⟩; have HB7 := hide (below0 (unhide HB6) hb7); clear hb7))
    go_ret
    exact ⟨rfl, unhide HB7⟩
  · have hfe : ((RK : Int) == (ss.length : Int)) = false := by rw [beq_eq_false_iff_ne]; omega
    rw [decide_eq_false hfull] at HS HD
    clear hfull
    go_wp2_with (first | (go_at_call 18; refine (unhide HV).mono ?_; rintro e w1 ⟨av, mv, cv, rfl, hG⟩; have HR1 := hide (unhide HRK av mv cv w1 (unhide HVS w1 av mv cv hG)); have HB1 := hide (below0 (unhide HB0) hG.2.2.2.2); clear hG) | (go_at_call 14; refine (unhide HR1).mono ?_; rintro e w2 ⟨rfl, hb2⟩; have HB2 := hide (below0 (unhide HB1) hb2); have HS2 := hide (unhide HS w2 (unhide HB2)); clear hb2) | (go_at_call 10; refine (unhide HS2).mono ?_; rintro e w3 ⟨a3, m3, c3, rfl, ho3, hb3⟩; have HO3 := hide ho3; have HB3 := hide (below0 (unhide HB2) hb3); have HD3 := hide (unhide HD w3 (unhide HB3)); clear ho3 hb3) | (go_at_call 15; refine (unhide HD3).mono ?_; rintro e w4 ⟨a4, m4, c4, rfl, ho4, hb4⟩; have HB4 := hide (below0 (unhide HB3) hb4); have HA6 := hide (unhide HAW w4 (unhide HB4)); clear ho4 hb4) | (go_at_call 9; refine (unhide HA6).mono ?_; rintro e w7 ⟨rfl, hb7⟩; have HB7 := hide (below0 (unhide HB4) hb7); clear hb7))
    go_ret
    exact ⟨rfl, unhide HB7⟩
end Go.Proofs.YtjppopabjfncpaaDoor
