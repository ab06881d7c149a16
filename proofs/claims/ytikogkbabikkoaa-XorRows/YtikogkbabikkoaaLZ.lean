/-
  The walk of the law XorRows: for every input it tells true and writes nothing that was there.
-/
import Derived.Test.YtikogkbabikkoaaLY
import Derived.Test.YtikogkbabikkoaaXI
namespace Go.Proofs.Ytikogkbabikkoaa
open Go.RowKit Go.Sort
set_option linter.unusedVariables false
set_option maxRecDepth 4000

theorem same_row (v : List Nat) (s : ByteArray) : (decide (cnt (xorL v v) = 0) && decide (s = s)) = true := by
  rw [cnt_of_zero _ (xorL_self_zero v)]
  simp

set_option maxHeartbeats 1000000 in
theorem rows_walk (l : Option Addr) (n c : Nat) (ss : List ByteArray) (a' : Option Addr) (m c' : Nat) (rs : List RV) (w : World) (h : TextsAt w l n ss) (hn : n ≤ 9223372036854775807) (h' : RowsAt w a' m rs) (hm : m ≤ 9223372036854775807) (hmc : m ≤ c') (hcc : c' ≤ 9223372036854775807)
    (hbig : ∀ i, (rs.getD i .dflt).n ≤ 9223372036854775807 ∧ (rs.getD i .dflt).s.size ≤ 9223372036854775807) :
    Calls Try.prog 5 #[.slice l n c, .slice a' m c'] w fun e w' => e = .returned (.bool true) ∧ Below w.heap.size w w' := by
  have H := hide h
  have H' := hide h'
  have HBG := hide hbig
  clear h h' hbig
  go_enter Try.func5, Try.ntmps5
  go_wp2_with fail
  refine (few_any _ _ _ ss _ (unhide H) hn).mono ?_
  rintro e w0 ⟨⟨bf, rfl, hf⟩, hw⟩
  subst hw
  cases bf
  · clear hf
    go_wp2_with fail
    refine (awake_any _).mono ?_
    rintro e w1 ⟨rfl, hb1⟩
    go_wp2
    go_ret
    exact ⟨rfl, hb1⟩
  have F := hide (hf.1 rfl)
  have hn1 : n ≤ 1048576 := by rw [← (unhide H).1]; have := (unhide F).1; omega
  clear hf
  go_wp2_with fail
  refine (fewR_any _ _ _ rs _ (unhide H') hm (unhide HBG)).mono ?_
  rintro e w0 ⟨hf, hw⟩
  subst hw
  rcases hf with ⟨rfl, hf⟩ | ⟨rfl, hf⟩
  rotate_left
  · clear hf
    go_wp2_with fail
    refine (awake_any _).mono ?_
    rintro e w1 ⟨rfl, hb1⟩
    go_wp2
    go_ret
    exact ⟨rfl, hb1⟩
  have G := hide hf
  have hm1 : m ≤ 1048576 := by rw [← (unhide H').1]; have := (unhide G).1; omega
  clear hf HBG
  go_wp2
  go_loopw [5] (fun i wr => ∃ k : Nat, k ≤ m ∧ i = .int .i64 k ∧ Hid (Below w0.heap.size w0 wr)) (fun i _ => m - (intOf i).toNat)
  case atStart => exact ⟨0, Nat.zero_le _, rfl, hide (Below.refl _ _)⟩
  case round =>
    obtain ⟨k, hk, rfl, HB⟩ := hrel
    by_cases hlt : k < m
    · have HR := hide ((unhide H').below (unhide HB))
      obtain ⟨b, off, rfl, hcl⟩ := (unhide HR).at hlt
      obtain ⟨hc0, hc1⟩ := hcl k hlt
      have hlt' : (k : Int) < (m : Int) := by omega
      have hsr := (unhide G).2.len k
      have hrow := (unhide HR).2.1 k hlt
      have ht := (unhide H).below (unhide HB)
      have cA := quietB (W := wr) (fun w' hb => holds_any l n c ss _ _ (rs.getD k .dflt).c _ (rs.getD k .dflt).s w' (ht.below hb) (unhide F).shorts hn1 (hrow.below hb) hsr.1 hsr.2)
      have cB := quietB (W := wr) (fun w' hb => rholds_any l n c ss _ _ (rs.getD k .dflt).c _ (rs.getD k .dflt).s w' (ht.below hb) (unhide F).shorts hn1 (hrow.below hb) hsr.1 hsr.2)
      have k0 := cell_regrown hc0
      have k1 := cell_regrown hc1
      clear hcl HR hsr hrow ht hc0 hc1
      generalize holdsB ss (rs.getD k .dflt).xs (rs.getD k .dflt).s = z at *
      generalize rs.getD k .dflt = r at *
      go_wp2_with fail
      cases z
      all_goals
        refine wp_region_quiet_below (by kernel_rfl) (by kernel_rfl) ?_
        repeat (with_reducible refine wpQuiet_step (fun K hK => ?_); go_simp; first | (with_reducible refine hK _ ?_; clear hK K) | (apply Exists.intro; apply And.intro; (intro _; first | (go_at_call 17; exact cA _ _) | (go_at_call 18; exact cB _ _)); with_reducible refine hK _ ?_; clear hK K))
        refine wpQuiet_nil ?_
        intro _ hw'
        obtain ⟨⟨dq, osq⟩, hw''⟩ := hw'
        subst hw''
        have HB1 := hide (below0 (unhide HB) (below_regrown wr dq osq))
        clear cA cB k0 k1 HB
        generalize grow (redrawn wr dq) osq = wq at *
        go_wp2
        go_roundw
        case rel => exact ⟨k + 1, by omega, by go_num, HB1⟩
        case measure => simp [intOf]; omega
    · have hke : k = m := by omega
      subst hke
      have HR := hide ((unhide H').below (unhide HB))
      have hvl := hide (vecL_short (unhide H') (unhide G).2)
      clear H H'
      go_wp2_with fail
      refine (row_any _ _ _ rs _ (unhide HR) (unhide G).2 hm1 hmc hcc).mono ?_
      rintro e w1 ⟨v, rfl, ho, hb1⟩
      obtain ⟨a1, c1, rfl, hr1⟩ := ho.row
      have HO := hide hr1
      have HR1 := hide ((unhide HR).below hb1)
      have HB1 := hide (below0 (unhide HB) hb1)
      clear ho hr1 hb1 HB HR
      go_wp2_with fail
      refine (rrow_any _ _ _ rs _ (unhide HR1) (unhide G).2 hm1).mono ?_
      rintro e w2 ⟨v2, rfl, ho2, hb2⟩
      obtain ⟨a2, c2, rfl, hr2⟩ := ho2.row
      have HO2 := hide hr2
      have HO1 := hide ((unhide HO).below hb2)
      have HB2 := hide (below0 (unhide HB1) hb2)
      clear ho2 hr2 hb2 HB1 HR1 HO
      go_wp2_with fail
      refine (rsame2_any _ _ _ _ _ _ _ _ _ _ _ (unhide HO1) (unhide HO2) (unhide hvl) (unhide hvl)).mono ?_
      rintro e w3 ⟨rfl, hb3⟩
      rw [same_row]
      have HB3 := hide (below0 (unhide HB2) hb3)
      clear hb3 HB2 HO1 HO2
      go_wp2_with fail
      refine (awake_any _).mono ?_
      rintro e w4 ⟨rfl, hb4⟩
      have HB4 := hide (below0 (unhide HB3) hb4)
      clear hb4 HB3
      go_wp2
      go_ret
      exact ⟨rfl, unhide HB4⟩
end Go.Proofs.Ytikogkbabikkoaa
