/-
  Walks of RecodeDegrees and RecodeChooses: for every input they tell true.
-/
import Derived.Test.YtfimbbiholllhaaDoorVP
import Derived.Test.YtfimbbiholllhaaDoorMp
namespace Go.Proofs.YtfimbbiholllhaaDoor
open Go.RowKit Go.Sort
set_option linter.unusedVariables false
set_option maxRecDepth 4000

set_option maxHeartbeats 4000000 in
theorem degrees_walk (a : Option Addr) (n c : Nat) (rs : List RV) (a' : Option Addr) (m c' : Nat) (ws : List Int) (w : World) (ht : Tab w) (h : RowsAt w a n rs) (hn : n ≤ 9223372036854775807) (hcap : CapR rs) (hbig : ∀ i, (rs.getD i .dflt).n ≤ 9223372036854775807 ∧ (rs.getD i .dflt).s.size ≤ 9223372036854775807) (hw : IntzAt w a' m ws) (hm : m ≤ 9223372036854775807) :
    Calls Tryd.prog 4 #[.slice a n c, .slice a' m c'] w fun e w' => e = .returned (.bool true) ∧ Below w.heap.size w w' := by
  have HAW := hide (fun (w1 : World) (hb : Below w.heap.size w w1) => awake_any w1 (ht.below hb))
  have HF := hide (fewR_any a n c rs w h hn hbig)
  by_cases hf : FewR rs
  · by_cases hm3 : 300 < m
    · have hm4 : (300 : Int) < (m : Int) := by omega
      clear h hw hbig hcap
      go_enter Tryd.func4, Tryd.ntmps4
      go_wp2_with (first
        | (go_at_call 8; refine (unhide HF).mono ?_; rintro e w1 ⟨he, hw1⟩; obtain rfl := hw1.symm; obtain rfl := retI_yes he hf; clear hw1 he HF)
        | (go_at_call 10; refine (unhide HAW _ (Below.refl _ _)).mono ?_; rintro e w2 ⟨rfl, hb2⟩; have HB2 := hide hb2; clear hb2))
      go_ret
      exact ⟨rfl, unhide HB2⟩
    · have hm4 : ¬ (300 : Int) < (m : Int) := by omega
      have hn3 : n ≤ 300 := by rw [← h.1]; exact hf.1
      have HD := hide (deg18_any a n c rs a' m c' ws w h hcap hf.2 hw hn3 (by omega))
      have HR := hide (fun wx (hb : Below w.heap.size w wx) => rdeg18_any a n c rs a' m c' ws wx (h.below hb) hcap hf.2 (hw.below hb) hn3 (by omega))
      clear h hw hbig hcap
      generalize degL18 rs ws = d at *
      go_enter Tryd.func4, Tryd.ntmps4
      go_wp2_with (first
        | (go_at_call 8; refine (unhide HF).mono ?_; rintro e w1 ⟨he, hw1⟩; obtain rfl := hw1.symm; obtain rfl := retI_yes he hf; clear hw1 he HF)
        | (go_at_call 14; refine (unhide HD).mono ?_; rintro e w2 ⟨rfl, hb2⟩; have HB2 := hide hb2; clear hb2 HD)
        | (go_at_call 15; refine (unhide HR _ (unhide HB2)).mono ?_; rintro e w3 ⟨rfl, hb3⟩; have HB3 := hide (below0 (unhide HB2) hb3); clear hb3)
        | (go_at_call 10; refine (unhide HAW _ (unhide HB3)).mono ?_; rintro e w4 ⟨rfl, hb4⟩; have HB4 := hide (below0 (unhide HB3) hb4); clear hb4))
      go_ret
      exact ⟨rfl, unhide HB4⟩
  · clear h hw hbig hcap
    go_enter Tryd.func4, Tryd.ntmps4
    go_wp2_with (first
      | (go_at_call 8; refine (unhide HF).mono ?_; rintro e w1 ⟨he, hw1⟩; obtain rfl := hw1.symm; obtain rfl := retI_no he hf; clear hw1 he HF)
      | (go_at_call 10; refine (unhide HAW _ (Below.refl _ _)).mono ?_; rintro e w2 ⟨rfl, hb2⟩; have HB2 := hide hb2; clear hb2))
    go_ret
    exact ⟨rfl, unhide HB2⟩

theorem farB_no {t : Int} (h : farB t = false) : -1099511627776 ≤ t ∧ t ≤ 1099511627776 := by
  unfold farB at h
  rw [Bool.or_eq_false_iff, decide_eq_false_iff_not, decide_eq_false_iff_not] at h
  omega
theorem chooseL_len (rs : List RV) (b t : Int) : (chooseL rs b t).length ≤ rs.length := by
  unfold chooseL
  split
  · exact Nat.zero_le _
  · rw [castZ_length]; exact places_le _ _
set_option maxHeartbeats 4000000 in
theorem chooses_walk (a : Option Addr) (n c : Nat) (rs : List RV) (b t : Int) (w : World) (ht : Tab w) (h : RowsAt w a n rs) (hn : n ≤ 9223372036854775807) (hbig : ∀ i, (rs.getD i .dflt).n ≤ 9223372036854775807 ∧ (rs.getD i .dflt).s.size ≤ 9223372036854775807) (hb : -9223372036854775808 ≤ b ∧ b ≤ 9223372036854775807) :
    Calls Tryd.prog 3 #[.slice a n c, .int .i64 b, .int .i64 t] w fun e w' => e = .returned (.bool true) ∧ Below w.heap.size w w' := by
  have HAW := hide (fun (w1 : World) (hb : Below w.heap.size w w1) => awake_any w1 (ht.below hb))
  have HF := hide (fewR_any a n c rs w h hn hbig)
  have HFR := hide (fun wx => lfar_any t wx)
  by_cases hf : FewR rs
  · cases hfar : farB t
    · rw [hfar] at HFR
      have hn3 : n ≤ 300 := by rw [← h.1]; exact hf.1
      have hl := chooseL_len rs b t
      have h1 := h.1
      have HD := hide (choose_any a n c rs b t w h hf.2 hn3 hb (farB_no hfar))
      have HR := hide (fun wx (hbx : Below w.heap.size w wx) => rchoose_any a n c rs b t wx (h.below hbx) hf.2 hn3 hb (farB_no hfar))
      have hl3 : (chooseL rs b t).length ≤ 1048576 := by omega
      clear h hbig hfar hl h1
      generalize chooseL rs b t = L at *
      go_enter Tryd.func3, Tryd.ntmps3
      go_wp2_with (first
        | (go_at_call 8; refine (unhide HF).mono ?_; rintro e w1 ⟨he, hw1⟩; obtain rfl := hw1.symm; obtain rfl := retI_yes he hf; clear hw1 he HF)
        | (go_at_call 9; refine (unhide HFR _).mono ?_; rintro e w1 ⟨rfl, hw1⟩; obtain rfl := hw1.symm; clear hw1)
        | (go_at_call 12; refine (unhide HD).mono ?_; rintro e w2 ⟨v2, rfl, ho2, hb2⟩; obtain ⟨a2, m2, c2, rfl, hi2, hm2⟩ : ∃ a m c, v2 = Value.slice a m c ∧ IntzAt w2 a m L ∧ m ≤ 1048576 := (by obtain ⟨a, c, e, hi⟩ := ho2.ints; exact ⟨a, _, c, e, hi, hl3⟩); have HI2 := hide hi2; have HB2 := hide hb2; clear ho2 hb2 hi2 HD)
        | (go_at_call 13; refine (unhide HR _ (unhide HB2)).mono ?_; rintro e w3 ⟨v3, rfl, ho3, hb3⟩; obtain ⟨a3, m3, c3, rfl, hi3⟩ : ∃ a m c, v3 = Value.slice a m c ∧ IntzAt w3 a m L := (by obtain ⟨a, c, e, hi⟩ := ho3.ints; exact ⟨a, _, c, e, hi⟩); have HI3 := hide hi3; have HJ3 := hide ((unhide HI2).below hb3); have HB3 := hide (below0 (unhide HB2) hb3); clear hb3 ho3 hi3)
        | (go_at_call 11; refine (intz_any a2 m2 c2 L a3 m3 c3 L _ (unhide HJ3) (unhide HI3) rfl hm2).mono ?_; rintro e w4 ⟨rfl, hb4⟩; have HB4 := hide (below0 (unhide HB3) hb4); clear hb4)
        | (go_at_call 10; refine (unhide HAW _ (unhide HB4)).mono ?_; rintro e w5 ⟨rfl, hb5⟩; have HB5 := hide (below0 (unhide HB4) hb5); clear hb5))
      go_ret
      exact ⟨rfl, unhide HB5⟩
    · rw [hfar] at HFR
      clear h hbig hfar
      go_enter Tryd.func3, Tryd.ntmps3
      go_wp2_with (first
        | (go_at_call 8; refine (unhide HF).mono ?_; rintro e w1 ⟨he, hw1⟩; obtain rfl := hw1.symm; obtain rfl := retI_yes he hf; clear hw1 he HF)
        | (go_at_call 9; refine (unhide HFR _).mono ?_; rintro e w1 ⟨rfl, hw1⟩; obtain rfl := hw1.symm; clear hw1)
        | (go_at_call 10; refine (unhide HAW _ (Below.refl _ _)).mono ?_; rintro e w2 ⟨rfl, hb2⟩; have HB2 := hide hb2; clear hb2))
      go_ret
      exact ⟨rfl, unhide HB2⟩
  · clear h hbig
    go_enter Tryd.func3, Tryd.ntmps3
    go_wp2_with (first
      | (go_at_call 8; refine (unhide HF).mono ?_; rintro e w1 ⟨he, hw1⟩; obtain rfl := hw1.symm; obtain rfl := retI_no he hf; clear hw1 he HF)
      | (go_at_call 10; refine (unhide HAW _ (Below.refl _ _)).mono ?_; rintro e w2 ⟨rfl, hb2⟩; have HB2 := hide hb2; clear hb2))
    go_ret
    exact ⟨rfl, unhide HB2⟩
end Go.Proofs.YtfimbbiholllhaaDoor
