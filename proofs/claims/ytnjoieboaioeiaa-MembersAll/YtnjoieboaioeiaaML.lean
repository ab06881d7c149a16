/-
  The walk of MembersAll: for every input it tells true and writes nothing that was there. No condition.
-/
import Derived.Test.YtnjoieboaioeiaaMK
namespace Go.Proofs.Ytnjoieboaioeiaa
open Go.RowKit Go.Sort
set_option linter.unusedVariables false
set_option maxRecDepth 4000

set_option maxHeartbeats 4000000 in
theorem mball_walk (T : Int) (a : Option Addr) (n c : Nat) (qs : List (Int × Int × Int)) (tn : Int) (w : World) (h : WdsAt w a n qs) (hn : n ≤ 9223372036854775807) :
    Calls Try.prog 6 #[.int .i64 T, .slice a n c, .int .i64 tn] w fun e w' => e = .returned (.bool true) ∧ Below w.heap.size w w' := by
  by_cases hl : 300 < n
  case pos =>
    have dl : decide ((300 : Int) < (n : Int)) = true := by rw [decide_eq_true_iff]; omega
    clear h
    go_enter Try.func6, Try.ntmps6
    go_wp2_with (go_at_call 8; refine (awake_any _).mono ?_; rintro e w1 ⟨rfl, hb1⟩)
    go_ret
    exact ⟨rfl, hb1⟩
  have dl : decide ((300 : Int) < (n : Int)) = false := by rw [decide_eq_false_iff_not]; omega
  have hl' : n ≤ 300 := by omega
  clear hl hn
  have HH := hide h
  clear h
  have HN := hide (mbnew_any T w)
  generalize tickZ T = T1 at *
  go_enter Try.func6, Try.ntmps6
  go_wp2_with (go_at_call 9; refine (unhide HN).mono ?_; rintro e w1 ⟨rfl, hm1, hb1⟩; have HM := hide (show MbL w w1 w.heap.size T1 (List.replicate 16 0) from ⟨hm1, hb1, Nat.le_refl _⟩); clear hm1 hb1)
  clear HN
  go_loopw [8] (fun i wr => ∃ (j : Nat) (Z : List Int), j ≤ n ∧ i = .int .i64 j ∧ Hid (MbL w wr w.heap.size T1 Z)) (fun i _ => n - (intOf i).toNat)
  case atStart => exact ⟨0, _, Nat.zero_le _, rfl, HM⟩
  case round =>
    obtain ⟨j, Z, hj, rfl, HJ⟩ := hrel
    clear HM
    by_cases hlt : j < n
    · obtain ⟨b, off, rfl, hc⟩ := (unhide HH).at hlt
      have hlt' : (j : Int) < (n : Int) := by omega
      generalize (qs.getD j default).1 = x at *
      generalize (qs.getD j default).2.1 = i at *
      generalize (qs.getD j default).2.2 = t at *
      have HC := hide hc
      obtain ⟨c0, c1, c2⟩ := hc wr (unhide HJ).2.1
      have HX := hide (fun (wx : World) (hm : MbAt wx w.heap.size T1 Z) => mbhear_any w.heap.size T1 Z x i t wx hm)
      clear hc HH
      go_wp2_with fail
      go_region_held3 (fun w' => w'.cell? ⟨b, off + j * 3, none⟩ = some (.int .i64 x) ∧ w'.cell? ⟨b, off + j * 3 + 1, none⟩ = some (.int .i64 i) ∧ w'.cell? ⟨b, off + j * 3 + 2, none⟩ = some (.int .i64 t)) (go_keep) (first
        | (go_at_call 12; refine (unhide HX _ ((unhide HJ).below (Below.refl _ _).drew).1).mono ?_; rintro e w3 ⟨rfl, hm3, ht3⟩; have hJ3 := ((unhide HJ).below (Below.refl _ _).drew).tu hm3 ht3; have HJ3 := hide hJ3; obtain ⟨g0, g1, g2⟩ := unhide HC w3 hJ3.2.1; clear hm3 ht3 hJ3)
        | fail)
      go_wp2_with fail
      go_roundw
      case rel => exact ⟨j + 1, _, by omega, by go_num, HJ3⟩
      case measure => simp [intOf]; omega
    · clear HH
      have HA := hide (fun (y : Int) (wx : World) (hm : MbAt wx w.heap.size T1 Z) => mbalive_any w.heap.size T1 Z y tn wx hm)
      obtain ⟨P, hP⟩ : ∃ P : Nat → Bool, P = fun k : Nat => aliveB T1 Z (k : Int) tn := ⟨_, rfl⟩
      have HP := hide hP
      clear hP
      go_wp2_with fail
      go_loopw [9, 10] (fun o i ws => ∃ (k : Int), -1 ≤ k ∧ k ≤ 9 ∧ i = .int .i64 k ∧ Hid (OwnZ ws (w.heap.size + 1) o (allTo P (min 8 k.toNat)) ∧ MbL w ws w.heap.size T1 Z)) (fun _ i _ => (9 - intOf i).toNat)
      case atStart => exact ⟨-1, by decide, by decide, rfl, hide ⟨OwnZ.nil _ _, unhide HJ⟩⟩
      case round =>
        obtain ⟨k, hk0, hk1, rfl, HR⟩ := hrel
        clear HJ
        obtain ⟨ho, hJ⟩ := unhide HR
        by_cases hk : k ≤ 8
        · have HO := hide ho
          have HJ := hide hJ
          obtain ⟨ao, co, rfl, -⟩ := ho.ints
          have HX := hide (unhide HA k wr hJ.1)
          have hwk : IntKind.i64.wrap (k + 1) = k + 1 := by rw [IntKind.wrap_i64]; omega
          clear ho hJ HR HA
          cases hp : aliveB T1 Z k tn
          · rw [hp] at HX
            have HE := hide (show allTo P (min 8 (k + 1).toNat) = allTo P (min 8 k.toNat) from by
              by_cases hx : nodeB k = true
              · obtain ⟨m, hm, rfl⟩ := node_nat hx
                rw [show min 8 ((m : Int) + 1).toNat = m + 1 by omega, show min 8 ((m : Int)).toNat = m by omega]
                exact allTo_no (by rw [unhide HP]; exact hp)
              · have hnn : ¬ (0 ≤ k ∧ k < 8) := fun e => hx (nodeB_iff.2 e)
                rw [show min 8 (k + 1).toNat = min 8 k.toNat by omega])
            clear hp
            generalize (allTo P (min 8 k.toNat)).length = M at *
            go_wp2_with (go_at_call 13; refine (unhide HX).mono ?_; rintro e w5 ⟨rfl, hb5⟩; have HB5 := hide hb5; clear hb5)
            go_roundw
            case rel => exact ⟨k + 1, by omega, by omega, rfl, hide ⟨by rw [unhide HE]; exact (unhide HO).below (unhide HB5), (unhide HJ).below (unhide HB5)⟩⟩
            case measure => simp [intOf]; omega
          · rw [hp] at HX
            have hx : nodeB k = true := by
              cases hx : nodeB k
              · rw [alive_out hx] at hp; cases hp
              · rfl
            obtain ⟨m, hm, rfl⟩ := node_nat hx
            have HE := hide (show allTo P (min 8 ((m : Int) + 1).toNat) = allTo P m ++ [(m : Int)] from by
              rw [show min 8 ((m : Int) + 1).toNat = m + 1 by omega]
              exact allTo_yes (by rw [unhide HP]; exact hp))
            rw [show min 8 ((m : Int)).toNat = m by omega] at HO
            clear hp hx
            have hml : (min 8 ((m : Int)).toNat) = m := by omega
            rw [hml]
            clear hml
            generalize (allTo P m).length = M at *
            go_wp2_with (first
              | (go_at_call 13; refine (unhide HX).mono ?_; rintro e w5 ⟨rfl, hb5⟩; have HJ5 := hide ((unhide HJ).below hb5); have HO5 := hide ((unhide HO).below hb5); clear hb5)
              | (at_builtin; refine wpList_pushZ rfl (.tmp 48) (.tmp 50) rfl (w.heap.size + 1) _ (allTo P m) (m : Int) rfl rfl (unhide HO5) ((unhide HJ5).1.blk.lt) (Nat.le_trans (allTo_len P m) (by omega)) ?_; intro s4 w4 ho4 hb4; rw [← unhide HE] at ho4; have HO4 := hide ho4; have HJ4 := hide (show MbL w w4 w.heap.size T1 Z from ⟨⟨(unhide HJ5).1.blk.belowB hb4 (Nat.lt_succ_self _), (unhide HJ5).1.inv, (unhide HJ5).1.tm⟩, (unhide HJ5).2.1.trans (hb4.mono (Nat.le_succ _)), Nat.le_refl _⟩); clear ho4 hb4)
              | fail)
            go_roundw
            case rel => exact ⟨(m : Int) + 1, by omega, by omega, rfl, hide ⟨unhide HO4, unhide HJ4⟩⟩
            case measure => simp [intOf]; omega
        · obtain rfl : k = 9 := by omega
          have ho8 : OwnZ wr (w.heap.size + 1) _ (allTo P 8) := ho
          have HJ := hide hJ
          have HAL := hide (mball_any w.heap.size T1 Z tn wr hJ.1)
          have HE := hide (show allTo P 8 = allZ T1 Z tn by rw [unhide HP]; rfl)
          obtain ⟨ao, co, rfl, hi8⟩ := ho8.ints
          have HI8 := hide hi8
          clear ho ho8 hi8 hJ HR HA
          go_wp2_with (first
            | (go_at_call 18; refine (unhide HAL).mono ?_; rintro e w5 ⟨o5, rfl, ho5, hb5⟩; obtain ⟨a5, c5, rfl, hi5⟩ := ho5.ints; have HI5 := hide hi5; have HI6 := hide ((unhide HI8).below hb5); have HJ5 := hide ((unhide HJ).below hb5); clear ho5 hb5 hi5)
            | (go_at_call 17; refine (intz_any a5 _ c5 _ _ _ _ _ _ (unhide HI5) (unhide HI6) (unhide HE).symm (Nat.le_trans (allTo_len _ 8) (by decide))).mono ?_; rintro e w6 ⟨rfl, hb6⟩; have HB6 := hide (below0 (unhide HJ5).2.1 hb6); clear hb6)
            | (go_at_call 8; refine (awake_any _).mono ?_; rintro e w7 ⟨rfl, hb7⟩; have HB7 := hide (below0 (unhide HB6) hb7); clear hb7)
            | fail)
          go_ret
          exact ⟨rfl, unhide HB7⟩
end Go.Proofs.Ytnjoieboaioeiaa
