/-
  Slices of words in memory ('WdsAt': three ints each); the walks of MembersRise and MembersAll: for every input they tell true and write nothing that was there. No condition.
-/
import Derived.Test.YtnjoieboaioeiaaMJ
namespace Go.Proofs.Ytnjoieboaioeiaa
open Go.RowKit Go.Sort
set_option linter.unusedVariables false
set_option maxRecDepth 4000

/-- A slice of n words that can be read. -/
def WdsAt (w : World) (a : Option Addr) (n : Nat) (qs : List (Int × Int × Int)) : Prop :=
  qs.length = n ∧ (n = 0 ∨ ∃ b off, a = some ⟨b, off, none⟩ ∧
    ∀ i, i < n → w.cell? ⟨b, off + i * 3, none⟩ = some (.int .i64 (qs.getD i default).1) ∧ w.cell? ⟨b, off + i * 3 + 1, none⟩ = some (.int .i64 (qs.getD i default).2.1) ∧ w.cell? ⟨b, off + i * 3 + 2, none⟩ = some (.int .i64 (qs.getD i default).2.2))
/-- Where the words lie, and what stands there wherever nothing of old has turned. -/
theorem WdsAt.at {w : World} {a : Option Addr} {n : Nat} {qs : List (Int × Int × Int)} (h : WdsAt w a n qs) {i : Nat} (hi : i < n) :
    ∃ b off, a = some ⟨b, off, none⟩ ∧ ∀ wx, Below w.heap.size w wx → wx.cell? ⟨b, off + i * 3, none⟩ = some (.int .i64 (qs.getD i default).1) ∧ wx.cell? ⟨b, off + i * 3 + 1, none⟩ = some (.int .i64 (qs.getD i default).2.1) ∧ wx.cell? ⟨b, off + i * 3 + 2, none⟩ = some (.int .i64 (qs.getD i default).2.2) := by
  rcases h.2 with h0 | ⟨b, off, ha, hc⟩
  · omega
  · obtain ⟨c0, c1, c2⟩ := hc i hi
    exact ⟨b, off, ha, fun wx hb => ⟨(hb.cell (World.block_lt_of_cell? w _ c0)).trans c0, (hb.cell (World.block_lt_of_cell? w _ c1)).trans c1, (hb.cell (World.block_lt_of_cell? w _ c2)).trans c2⟩⟩
theorem inc_rise {Z : List Int} (h : InvM Z) {x i t : Int} (hb : hearB Z x i t = true) : incO Z x ≤ i := by
  have h1 := (hearB_node hb).2.2
  have h2 := (h.mem x).1
  unfold incO incP
  split <;> omega
/-- Members behind words: at block g, all that was there is as it was. -/
def MbL (w wr : World) (g : Nat) (T : Int) (Z : List Int) : Prop := MbAt wr g T Z ∧ Below w.heap.size w wr ∧ w.heap.size ≤ g
theorem MbL.below {w wr wx : World} {g : Nat} {T : Int} {Z : List Int} (h : MbL w wr g T Z) (hb : Below wr.heap.size wr wx) : MbL w wx g T Z := ⟨h.1.below hb, below0 h.2.1 hb, h.2.2⟩
theorem MbL.tu {w wr wx : World} {g : Nat} {T : Int} {Z Z' : List Int} (h : MbL w wr g T Z) (hm : MbAt wx g T Z') (ht : Tu (fun j => j = g) wr wx) : MbL w wx g T Z' := ⟨hm, tu_low h.2.1 ht h.2.2, h.2.2⟩
set_option maxHeartbeats 4000000 in
theorem mbrise_walk (T : Int) (a : Option Addr) (n c : Nat) (qs : List (Int × Int × Int)) (w : World) (h : WdsAt w a n qs) (hn : n ≤ 9223372036854775807) :
    Calls Try.prog 5 #[.int .i64 T, .slice a n c] w fun e w' => e = .returned (.bool true) ∧ Below w.heap.size w w' := by
  by_cases hl : 300 < n
  case pos =>
    have dl : decide ((300 : Int) < (n : Int)) = true := by rw [decide_eq_true_iff]; omega
    clear h
    go_enter Try.func5, Try.ntmps5
    go_wp2_with (go_at_call 8; refine (awake_any _).mono ?_; rintro e w1 ⟨rfl, hb1⟩)
    go_ret
    exact ⟨rfl, hb1⟩
  have dl : decide ((300 : Int) < (n : Int)) = false := by rw [decide_eq_false_iff_not]; omega
  have hl' : n ≤ 300 := by omega
  clear hl hn
  have HH := hide h
  clear h
  have HN := hide (mbnew_any T w)
  generalize tickZ T = T1 at *
  go_enter Try.func5, Try.ntmps5
  go_wp2_with (go_at_call 9; refine (unhide HN).mono ?_; rintro e w1 ⟨rfl, hm1, hb1⟩; have HM := hide (show MbL w w1 w.heap.size T1 (List.replicate 16 0) from ⟨hm1, hb1, Nat.le_refl _⟩); clear hm1 hb1)
  clear HN
  go_loopw [6] (fun i wr => ∃ (j : Nat) (Z : List Int), j ≤ n ∧ i = .int .i64 j ∧ Hid (MbL w wr w.heap.size T1 Z)) (fun i _ => n - (intOf i).toNat)
  case atStart => exact ⟨0, _, Nat.zero_le _, rfl, HM⟩
  case round =>
    obtain ⟨j, Z, hj, rfl, HJ⟩ := hrel
    clear HM
    by_cases hlt : j < n
    · obtain ⟨b, off, rfl, hc⟩ := (unhide HH).at hlt
      have hlt' : (j : Int) < (n : Int) := by omega
      generalize (qs.getD j default).1 = x at *
      generalize (qs.getD j default).2.1 = i at *
      generalize (qs.getD j default).2.2 = t at *
      have HC := hide hc
      obtain ⟨c0, -, -⟩ := hc wr (unhide HJ).2.1
      have HX := hide (fun (wx : World) (hm : MbAt wx w.heap.size T1 Z) => mbhear_any w.heap.size T1 Z x i t wx hm)
      have HI1 := hide (mbinc_any w.heap.size T1 Z x wr (unhide HJ).1)
      have HI2 := hide (fun (wx : World) (hm : MbAt wx w.heap.size T1 (hearZ Z x i t)) => mbinc_any w.heap.size T1 (hearZ Z x i t) x wx hm)
      have HF1 : Hid True := hide trivial
      clear hc HH
      have hinv := (unhide HJ).1.inv
      cases hh : hearB Z x i t
      case false =>
        rw [hh, hearZ_no hh] at HX
        rw [hearZ_no hh] at HI2
        clear hh hinv
        generalize incO Z x = p at *
        go_wp2_with (first
          | (clear HF1; go_at_call 15; refine (unhide HI1).mono ?_; rintro e w2 ⟨rfl, hb2⟩; have hJ2 := (unhide HJ).below hb2; have HJ2 := hide hJ2; obtain ⟨e0, e1, e2⟩ := unhide HC w2 hJ2.2.1; clear hb2 hJ2 c0)
          | fail)
        go_region_held3 (fun w' => w'.cell? ⟨b, off + j * 3, none⟩ = some (.int .i64 x) ∧ w'.cell? ⟨b, off + j * 3 + 1, none⟩ = some (.int .i64 i) ∧ w'.cell? ⟨b, off + j * 3 + 2, none⟩ = some (.int .i64 t)) (go_keep) (first
          | (go_at_call 12; refine (unhide HX _ ((unhide HJ2).below (Below.refl _ _).drew).1).mono ?_; rintro e w3 ⟨rfl, hm3, ht3⟩; have hJ3 := ((unhide HJ2).below (Below.refl _ _).drew).tu hm3 ht3; have HJ3 := hide hJ3; obtain ⟨g0, g1, g2⟩ := unhide HC w3 hJ3.2.1; clear hm3 ht3 hJ3)
          | fail)
        go_wp2_with (first
          | (go_at_call 15; refine (unhide HI2 _ (unhide HJ3).1).mono ?_; rintro e w4 ⟨rfl, hb4⟩; have hJ4 := (unhide HJ3).below hb4; have HJ4 := hide hJ4; obtain ⟨m0, m1, m2⟩ := unhide HC w4 hJ4.2.1; clear hb4 hJ4)
          | fail)
        go_roundw
        case rel => exact ⟨j + 1, _, by omega, by go_num, HJ4⟩
        case measure => simp [intOf]; omega
      · have hle := inc_rise hinv hh
        have hin := heard_inc hinv hh
        rw [hh] at HX
        rw [hin] at HI2
        generalize hearZ Z x i t = Z' at *
        clear hh hinv hin
        generalize incO Z x = p at *
        have dle : decide (i < p) = false := by rw [decide_eq_false_iff_not]; omega
        clear hle
        go_wp2_with (first
          | (clear HF1; go_at_call 15; refine (unhide HI1).mono ?_; rintro e w2 ⟨rfl, hb2⟩; have hJ2 := (unhide HJ).below hb2; have HJ2 := hide hJ2; obtain ⟨e0, e1, e2⟩ := unhide HC w2 hJ2.2.1; clear hb2 hJ2 c0)
          | fail)
        go_region_held3 (fun w' => w'.cell? ⟨b, off + j * 3, none⟩ = some (.int .i64 x) ∧ w'.cell? ⟨b, off + j * 3 + 1, none⟩ = some (.int .i64 i) ∧ w'.cell? ⟨b, off + j * 3 + 2, none⟩ = some (.int .i64 t)) (go_keep) (first
          | (go_at_call 12; refine (unhide HX _ ((unhide HJ2).below (Below.refl _ _).drew).1).mono ?_; rintro e w3 ⟨rfl, hm3, ht3⟩; have hJ3 := ((unhide HJ2).below (Below.refl _ _).drew).tu hm3 ht3; have HJ3 := hide hJ3; obtain ⟨g0, g1, g2⟩ := unhide HC w3 hJ3.2.1; clear hm3 ht3 hJ3)
          | fail)
        go_wp2_with (first
          | (go_at_call 15; refine (unhide HI2 _ (unhide HJ3).1).mono ?_; rintro e w4 ⟨rfl, hb4⟩; have hJ4 := (unhide HJ3).below hb4; have HJ4 := hide hJ4; obtain ⟨m0, m1, m2⟩ := unhide HC w4 hJ4.2.1; clear hb4 hJ4)
          | fail)
        go_roundw
        case rel => exact ⟨j + 1, _, by omega, by go_num, HJ4⟩
        case measure => simp [intOf]; omega
    · clear HH
      go_wp2_with (go_at_call 8; refine (awake_any _).mono ?_; rintro e w6 ⟨rfl, hb6⟩; have HB6 := hide (below0 (unhide HJ).2.1 hb6); clear hb6)
      go_ret
      exact ⟨rfl, unhide HB6⟩
end Go.Proofs.Ytnjoieboaioeiaa
