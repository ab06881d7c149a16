/-
  Contract of bucketlineref20.All; the chapter's example (awake). No condition.
-/
import Derived.Test.YtnjoieboaioeiaaMG
import Derived.Test.YtnjoieboaioeiaaZI
namespace Go.Proofs.Ytnjoieboaioeiaa
open Go.RowKit Go.Sort
set_option linter.unusedVariables false
set_option maxRecDepth 4000

set_option maxHeartbeats 2000000 in
theorem rmall_any (T : Int) (Z : List Int) (H : List Bool) (I N : List Int) (t : Int) (w : World) (h : Rm Z H I N) :
    Calls Try.prog 19 #[.agg (rmC T H I N).toArray, .int .i64 t] w fun e w' => ∃ o, e = .returned o ∧ OwnZ w' w.heap.size o (allZ T Z t) ∧ Below w.heap.size w w' := by
  have HD := hide (rm_box T H I N w)
  have HLO := hide (alloc_low w (.cells (rmC T H I N).toArray 29))
  have HL8 := hide h.len
  have HA := hide (fun (n : Nat) (wx : World) => rmalive_any T Z H I N (n : Int) t wx h)
  clear h
  unfold allZ
  generalize hP : (fun n : Nat => aliveB T Z (n : Int) t) = P at *
  have HA' := hide (show ∀ (n : Nat) (wx : World), Calls Try.prog 14 #[.agg (rmC T H I N).toArray, .int .i64 (n : Int), .int .i64 t] wx fun e w' => e = .returned (.bool (P n)) ∧ Below wx.heap.size wx w' from fun n wx => by rw [← hP]; exact unhide HA n wx)
  clear HA hP
  generalize hW : w.alloc (.cells (rmC T H I N).toArray 29) = W at *
  go_enter Try.func19, Try.ntmps19
  go_wp2
  go_loopw [5, 6] (fun o i wr => ∃ k : Nat, k ≤ 8 ∧ i = .int .i64 k ∧ Hid (OwnZ wr (w.heap.size + 1) o (allTo P k) ∧ Below w.heap.size w wr ∧ BkA 29 wr w.heap.size (rmC T H I N))) (fun _ i _ => 8 - (intOf i).toNat)
  case atStart => exact ⟨0, Nat.zero_le _, rfl, hide ⟨OwnZ.nil _ _, unhide HLO, unhide HD⟩⟩
  case round =>
    obtain ⟨k, hk, rfl, HR⟩ := hrel
    obtain ⟨ho, hB, hD⟩ := unhide HR
    by_cases hlt : k < 8
    · have hlt' : (k : Int) < 8 := by omega
      have HX := hide (unhide HA' k wr)
      have HO := hide ho
      have HB := hide hB
      have HD1 := hide hD
      clear ho hB hD HR HA' HLO HD
      obtain ⟨ao, co, rfl, -⟩ := (unhide HO).ints
      cases hp : P k
      · rw [hp] at HX
        have HE := hide (allTo_no hp)
        clear hp
        go_wp2_with (first
          | ((with_reducible refine bw_load 29 Try.underlying29 rfl info_rm 2 w.heap.size (rmC T H I N) ?_ (unhide HD1) (rmC_len (unhide HL8)) ?_); (focus rfl))
          | (go_at_call 14; refine (unhide HX).mono ?_; rintro e w1 ⟨rfl, hb1⟩; have HB1 := hide hb1; clear hb1)
          | fail)
        go_roundw
        case rel => exact ⟨k + 1, by omega, by go_num, hide ⟨by rw [unhide HE]; exact (unhide HO).below (unhide HB1), below0 (unhide HB) (unhide HB1), (unhide HD1).below (unhide HB1)⟩⟩
        case measure => simp [intOf]; omega
      · rw [hp] at HX
        have HE := hide (allTo_yes hp)
        clear hp
        generalize (allTo P k).length = M at *
        go_wp2_with (first
          | ((with_reducible refine bw_load 29 Try.underlying29 rfl info_rm 2 w.heap.size (rmC T H I N) ?_ (unhide HD1) (rmC_len (unhide HL8)) ?_); (focus rfl))
          | (go_at_call 14; refine (unhide HX).mono ?_; rintro e w1 ⟨rfl, hb1⟩; have HB1 := hide (below0 (unhide HB) hb1); have HO1 := hide ((unhide HO).below hb1); have HD2 := hide ((unhide HD1).below hb1); clear hb1)
          | (at_builtin; refine wpList_pushZ rfl (.tmp 15) (.tmp 17) rfl (w.heap.size + 1) _ (allTo P k) (k : Int) rfl rfl (unhide HO1) ((unhide HD2).lt) (Nat.le_trans (allTo_len P k) (by omega)) ?_; intro s4 w4 ho4 hb4; rw [← unhide HE] at ho4; have HO4 := hide ho4; have HB4 := hide ((unhide HB1).trans (hb4.mono (Nat.le_succ _))); have HD4 := hide ((unhide HD2).belowB hb4 (Nat.lt_succ_self _)); clear ho4 hb4)
          | fail)
        go_roundw
        case rel => exact ⟨k + 1, by omega, by go_num, hide ⟨unhide HO4, unhide HB4, unhide HD4⟩⟩
        case measure => simp [intOf]; omega
    · obtain rfl : k = 8 := by omega
      have HRR := hide (show OwnZ wr w.heap.size _ (allTo P 8) ∧ Below w.heap.size w wr from ⟨(unhide HR).1.mono (Nat.le_succ _), (unhide HR).2.1⟩)
      clear ho hB hD HR HA' HLO HD
      go_wp2
      go_ret
      exact ⟨_, rfl, unhide HRR⟩
end Go.Proofs.Ytnjoieboaioeiaa
