/-
  The walk of the law DrawsAlike: for every input it tells true and writes nothing that was there. No condition.
-/
import Derived.Test.YtmodllifgdhmiaaDF
import Derived.Test.YtmodllifgdhmiaaAp
namespace Go.Proofs.Ytmodllifgdhmiaa
open Go.RowKit
set_option linter.unusedVariables false
set_option maxRecDepth 4000

theorem DrAt.other {w w' : World} {g g2 B B2 : Nat} {L L2 : List Nat} {N N2 : Nat} (h : DrAt w g B L N) (h2 : DrAt w g2 B2 L2 N2) (hg : w.grownBy w' (some g2)) (hne : g ≠ g2) : DrAt w' g B L N := by
  obtain ⟨_, _, a, n, c, h3, _⟩ := h2
  exact h.kept hg hne h3
theorem DrAt.row {w w' : World} {g B : Nat} {L : List Nat} {N : Nat} {a : Option Addr} {n : Nat} {xs : List Nat} (h : DrAt w g B L N) (hr : RowAt w a n xs) (hg : w.grownBy w' (some g)) : RowAt w' a n xs := by
  obtain ⟨_, _, a, n, c, h3, _⟩ := h
  exact hr.kept hg (h3.apart hr)
theorem draw_left (L M : List Nat) (q : Nat) (h : q < L.length) : drawN (L ++ M) (q + 1) = L.getD q 0 := by
  rw [drawN_in (by rw [List.length_append]; omega)]
  simp [List.getD_eq_getElem?_getD, List.getElem?_append_left h]
theorem draw_right (L M : List Nat) (q : Nat) (h : q < M.length) : drawN (L ++ M) (L.length + q + 1) = M.getD q 0 := by
  rw [drawN_in (by rw [List.length_append]; omega)]
  simp [List.getD_eq_getElem?_getD, List.getElem?_append_right]

set_option maxHeartbeats 2000000 in
theorem alike_walk (a : Option Addr) (len cap : Nat) (xs : List Nat) (a' : Option Addr) (len' cap' : Nat) (ys : List Nat) (w : World) (h : RowAt w a len xs) (hm : len ≤ 9223372036854775807) (h' : RowAt w a' len' ys) (hm' : len' ≤ 9223372036854775807) :
    Calls Try.prog 6 #[.slice a len cap, .slice a' len' cap'] w fun e w' => e = .returned (.bool true) ∧ Below w.heap.size w w' := by
  have HA := hide (fun wx => awake_any wx)
  by_cases hl : 300 < len
  · clear h h'
    go_enter Try.func6, Try.ntmps6
    go_wp2_with (go_at_call 8; refine (unhide HA _).mono ?_; rintro e w6 ⟨rfl, hb6⟩)
    go_ret
    exact ⟨rfl, hb6⟩
  by_cases hl2 : 300 < len'
  · clear h h'
    go_enter Try.func6, Try.ntmps6
    go_wp2_with (go_at_call 8; refine (unhide HA _).mono ?_; rintro e w6 ⟨rfl, hb6⟩)
    go_ret
    exact ⟨rfl, hb6⟩
  have d1 : decide ((300 : Int) < (len : Int)) = false := by rw [decide_eq_false_iff_not]; omega
  have d2 : decide ((300 : Int) < (len' : Int)) = false := by rw [decide_eq_false_iff_not]; omega
  obtain rfl : len = xs.length := h.1.symm
  obtain rfl : len' = ys.length := h'.1.symm
  have HN := hide (new_any a xs.length cap xs w h (by omega))
  have HH := hide h
  have HH' := hide h'
  have HL1 := hide hl
  have HL2 := hide hl2
  clear h h' hl hl2
  go_enter Try.func6, Try.ntmps6
  go_wp2_with fail
  refine (unhide HN).mono ?_
  rintro e w1 ⟨ga, rfl, hga, hDa, hb1⟩
  have HDa := hide hDa
  have HB1 := hide hb1
  have HGa := hide hga
  clear hDa hb1 hga
  obtain ⟨zs, hzs⟩ : ∃ zs, xs ++ ys = zs := ⟨_, rfl⟩
  have HZS := hide hzs
  have hzl : zs.length ≤ 1048576 := by rw [← hzs, List.length_append]; have := unhide HL1; have := unhide HL2; omega
  have HZL := hide hzl
  clear hzs hzl
  have HF1 : Hid True := trivial
  have HF2 : Hid True := trivial
  go_wp2_with (first | (at_builtin; clear HF1; refine wpList_append_nil rfl _ _ rfl a xs.length cap xs rfl rfl ((unhide HH).below (unhide HB1)) (by have := unhide HL1; omega) ?_; intro v2 w2 ho2 hb2; obtain ⟨a2, c2, rfl, -⟩ := ho2.row; have HO2 := hide ho2; have HB2 := hide hb2; clear ho2 hb2) | (at_builtin; clear HF2; refine wpList_append_row rfl _ _ rfl w1.heap.size a2 xs.length c2 xs a' ys.length cap' ys rfl rfl (unhide HO2) ((unhide HH').below (below0 (unhide HB1) (unhide HB2))) (unhide HB2).size (by have := unhide HL1; have := unhide HL2; omega) ?_; intro v3 w3 ho3 hb3; rw [unhide HZS] at ho3; obtain ⟨a3, c3, rfl, hr3⟩ := ho3.row; have HR3 := hide hr3; have HB3 := hide ((unhide HB2).trans hb3); clear ho3 hb3 hr3) | (go_at_call 9; refine (new_any a3 zs.length c3 zs w3 (unhide HR3) (unhide HZL)).mono ?_; rintro e w4 ⟨gb, rfl, hgb, hDb, hb4⟩; have HDb := hide hDb; have HGb := hide (Nat.le_trans (unhide HB3).size hgb); have HB4 := hide ((unhide HB3).trans (hb4.mono (unhide HB3).size)); clear hDb hgb hb4))
  have HDa4 := hide ((unhide HDa).below (unhide HB4))
  have HBw4 := hide ((unhide HB1).trans ((unhide HB4).mono (unhide HB1).size))
  have HNe := hide (show ga ≠ gb from by have := (unhide HDa).lt; have := unhide HGb; omega)
  have HGbw := hide (Nat.le_trans (unhide HB1).size (unhide HGb))
  clear HDa HB1 HB2 HB3 HO2 HR3 HN HB4
  go_loopw [7] (fun i wr => ∃ q : Nat, q ≤ xs.length ∧ i = .int .i64 q ∧ Hid (DrAt wr ga w1.heap.size xs q ∧ DrAt wr gb w4.heap.size zs q ∧ Below w.heap.size w wr)) (fun i _ => xs.length - (intOf i).toNat)
  case atStart => exact ⟨0, Nat.zero_le _, rfl, hide ⟨unhide HDa4, unhide HDb, unhide HBw4⟩⟩
  case round =>
    obtain ⟨q, hq, rfl, HR⟩ := hrel
    clear HDa4 HDb HBw4
    obtain ⟨hA, hBb, hW⟩ := unhide HR
    by_cases hlt : q < xs.length
    · have HX1 := hide (next_any ga w1.heap.size xs q wr hA (by have := unhide HL1; omega))
      rw [drawN_in hlt] at HX1
      have HX2 := hide (fun wx hd => next_any gb w4.heap.size zs q wx hd (by have := unhide HL1; omega))
      rw [← unhide HZS, draw_left xs ys q hlt] at HX2
      rw [unhide HZS] at HX2
      have HC := hide (fun (w2 : World) (hg : wr.grownBy w2 (some ga)) => hA.row ((unhide HH).below hW) hg)
      have HK := hide (fun (w2 : World) (hg : wr.grownBy w2 (some ga)) => hBb.other hA hg (fun e => unhide HNe e.symm))
      have HW := hide hW
      clear hA hBb hW HR
      generalize hx : xs.getD q 0 = x at *
      have HXX := hide hx
      clear hx
      go_wp2_with fail
      refine (unhide HX1).mono ?_
      rintro e w2 ⟨rfl, hD2, hG2⟩
      have hr2 := unhide HC _ hG2
      obtain ⟨b, off, rfl, hc⟩ := hr2.at hlt
      have hcell := hc q hlt
      rw [unhide HXX] at hcell
      have HD2 := hide hD2
      have HDb2 := hide (unhide HK _ hG2)
      have HW2 := hide (below_gb (unhide HW) hG2 (unhide HW).size (unhide HGa))
      clear hD2 hG2 hr2 hc HX1 HC HK HW
      go_wp2_with (go_at_call 16; refine (unhide HX2 _ (unhide HDb2)).mono ?_; rintro e w5 ⟨rfl, hD5, hG5⟩; have HD5 := hide hD5; have HDa5 := hide ((unhide HD2).other (unhide HDb2) hG5 (unhide HNe)); have HW5 := hide (below_gb (unhide HW2) hG5 (unhide HW2).size (unhide HGbw)); clear hD5 hG5)
      go_roundw
      case rel => exact ⟨q + 1, by omega, by go_num, hide ⟨unhide HDa5, unhide HD5, unhide HW5⟩⟩
      case measure => simp [intOf]; omega
    · obtain rfl : q = xs.length := by omega
      have HDa6 := hide hA
      have HDb6 := hide hBb
      have HW6 := hide hW
      clear hA hBb hW HR
      obtain ⟨wo, rfl⟩ : ∃ wo, wo = wr := ⟨wr, rfl⟩
      go_wp2
      go_loopw [9] (fun i wr => ∃ p : Nat, p ≤ ys.length ∧ i = .int .i64 p ∧ Hid (DrAt wr ga w1.heap.size xs xs.length ∧ DrAt wr gb w4.heap.size zs (xs.length + p) ∧ Below w.heap.size w wr)) (fun i _ => ys.length - (intOf i).toNat)
      case atStart => exact ⟨0, Nat.zero_le _, rfl, hide ⟨unhide HDa6, unhide HDb6, unhide HW6⟩⟩
      case round =>
        obtain ⟨p, hp, rfl, HR⟩ := hrel
        clear HDa6 HDb6 HW6
        obtain ⟨hA, hBb, hW⟩ := unhide HR
        by_cases hlt : p < ys.length
        · have HX := hide (next_any gb w4.heap.size zs (xs.length + p) wr.drew (hBb.below (Below.refl _ _).drew) (by have := unhide HL1; have := unhide HL2; omega))
          rw [← unhide HZS, draw_right xs ys p hlt] at HX
          rw [unhide HZS] at HX
          have hrow := (unhide HH').below hW
          have HC := hide (fun (w2 : World) (hg : wr.drew.grownBy w2 (some gb)) => (hBb.below (Below.refl _ _).drew).row (w := wr.drew) hrow.drew hg)
          have HK := hide (fun (w2 : World) (hg : wr.drew.grownBy w2 (some gb)) => (hA.below (Below.refl _ _).drew).other (hBb.below (Below.refl _ _).drew) hg (unhide HNe))
          have HW := hide (fun (w2 : World) (hg : wr.drew.grownBy w2 (some gb)) => below_gb (hW.drew) hg hW.size (unhide HGbw))
          obtain ⟨b, off, rfl, hc⟩ := hrow.at hlt
          have hcell := hc p hlt
          have hc2 : ∀ (w2 : World), wr.drew.grownBy w2 (some gb) → w2.cell? ⟨b, off + p, none⟩ = some (.int .u64 ((ys.getD p 0 : Nat) : Int)) := by
            intro w2 hg
            obtain ⟨b2, off2, e, hc2⟩ := (unhide HC w2 hg).at hlt
            simp only [Option.some.injEq, Addr.mk.injEq, and_true] at e
            obtain ⟨rfl, rfl⟩ := e
            exact hc2 p hlt
          have HC2 := hide hc2
          clear hA hBb hW HR hc hrow HC hc2
          generalize ys.getD p 0 = y at *
          go_wp2_with fail
          go_region_held (fun w' => w'.cell? ⟨b, off + p, none⟩ = some (.int .u64 (y : Int))) (go_keep) (first | (go_at_call 16; refine (unhide HX).mono ?_; rintro e w5 ⟨rfl, hD5, hG5⟩; have HD5 := hide hD5; have HDa5 := hide (unhide HK _ hG5); have HW5 := hide (unhide HW _ hG5); have hS5 := unhide HC2 _ hG5; clear hD5 hG5))
          go_wp2
          go_roundw
          case rel => exact ⟨p + 1, by omega, by go_num, hide ⟨unhide HDa5, unhide HD5, unhide HW5⟩⟩
          case measure => simp [intOf]; omega
        · obtain rfl : p = ys.length := by omega
          have HDa7 := hide hA
          have HDb7 := hide hBb
          have HW7 := hide hW
          clear hA hBb hW HR
          have l1 : xs.length ≤ 300 := by have := unhide HL1; omega
          have l2 : ys.length ≤ 300 := by have := unhide HL2; omega
          go_wp2_with fail
          refine (used_any ga _ _ _ _ (unhide HDa7)).mono ?_
          rintro e w8 ⟨rfl, hw⟩
          obtain rfl := hw.symm
          clear hw
          obtain ⟨t, ht⟩ : ∃ t, xs.length + ys.length = t := ⟨_, rfl⟩
          rw [ht] at HDb7
          have hti : (xs.length : Int) + (ys.length : Int) = (t : Int) := by omega
          have htl : t ≤ 600 := by omega
          have HT := hide ht
          clear ht
          go_wp2_with (first | (go_at_call 15; refine (used_any gb _ _ _ _ (unhide HDb7)).mono ?_; rintro e w8 ⟨rfl, hw⟩; obtain rfl := hw.symm; clear hw) | (go_at_call 8; refine (unhide HA _).mono ?_; rintro e w9 ⟨rfl, hb9⟩; have HB9 := hide (below0 (unhide HW7) hb9); clear hb9))
          go_ret
          exact ⟨rfl, unhide HB9⟩
end Go.Proofs.Ytmodllifgdhmiaa
