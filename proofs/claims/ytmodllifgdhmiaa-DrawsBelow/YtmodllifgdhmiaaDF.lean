/-
  Contract of bucketlinelaw11.awake; the walks of the laws DrawsNone and DrawsBelow: for every input each tells true and writes nothing that was there. No condition.
-/
import Derived.Test.YtmodllifgdhmiaaDE
import Derived.Test.YtmodllifgdhmiaaZI
namespace Go.Proofs.Ytmodllifgdhmiaa
open Go.RowKit
set_option linter.unusedVariables false
set_option maxRecDepth 4000

theorem intz_lit1 (w : World) (x : Int) : IntzAt (w.alloc (.cells #[.int .i64 x] 3)) (some ⟨w.heap.size, 0, Option.none⟩) 1 [x] := by
  refine ⟨rfl, .inr ⟨w.heap.size, 0, rfl, fun i hi => ?_⟩⟩
  match i, hi with
  | 0, _ => simp
/-- Below B, behind a step that turned the block g, one's own. -/
theorem below_gb {w w1 w2 : World} {B g : Nat} (h : Below B w w1) (hg : w1.grownBy w2 (some g)) (hB : B ≤ w1.heap.size) (hgB : B ≤ g) : Below B w w2 :=
  h.trans (gb_below hg hB (fun k hk => by rw [← Option.some.inj hk]; exact hgB))
theorem aw_below (g B : Nat) (w : World) (h : DrAt w g B [5, 1] 0) :
    Calls Try.prog 10 #[.pointer (some ⟨g, 0, none⟩), .int .i64 3] w fun e w' => e = .returned (.int .i64 2) ∧ DrAt w' g B [5, 1] 1 ∧ w.grownBy w' (some g) := by
  have := below_any g B [5, 1] 0 3 w h (by omega) (by omega) (by omega)
  exact this
theorem aw_distinct (g B : Nat) (w : World) (h : DrAt w g B [5, 1] 1) (hB : B ≤ w.heap.size) :
    Calls Try.prog 13 #[.pointer (some ⟨g, 0, none⟩), .int .i64 2, .int .i64 1] w fun e w' => ∃ a c, e = .returned (.slice a 1 c) ∧ IntzAt w' a 1 [1] ∧ DrAt w' g B [5, 1] 2 ∧ w.grownBy w' (some g) := by
  have := distinct_any g B [5, 1] 1 2 1 w h hB (by omega) (by omega)
  refine this.mono ?_
  rintro e w' ⟨v, rfl, hO, hD, hG⟩
  have hd : castZ (distL [5, 1] 1 2 (min (1 : Int).toNat 2)) = [1] := by decide
  rw [hd] at hO
  obtain ⟨a, c, rfl, hI⟩ := hO.ints
  exact ⟨a, c, rfl, hI, hD, hG⟩
theorem aw_next (g B : Nat) (w : World) (h : DrAt w g B [5, 1] 2) :
    Calls Try.prog 16 #[.pointer (some ⟨g, 0, none⟩)] w fun e w' => e = .returned (.int .u64 15755400384260043839) ∧ DrAt w' g B [5, 1] 3 ∧ w.grownBy w' (some g) := by
  have := next_any g B [5, 1] 2 w h (by omega)
  exact this

set_option maxHeartbeats 1000000 in
theorem awake_any (w : World) : Calls Try.prog 8 #[] w fun e w' => e = .returned (.bool true) ∧ Below w.heap.size w w' := by
  have HN := hide (new_any (some ⟨w.heap.size, 0, none⟩) 2 2 [5, 1] (w.alloc (.cells #[.int .u64 5, .int .u64 1] 37)) (row_new2 w 5 1 (by omega) (by omega)) (by omega))
  have hb0 : Below w.heap.size w (w.alloc (.cells #[.int .u64 5, .int .u64 1] 37)) := (Below.refl _ _).alloc (Nat.le_refl _) _
  have HB0 := hide hb0
  clear hb0
  go_enter Try.func8, Try.ntmps8
  go_wp2_with (first | (go_at_call 9; refine (unhide HN).mono ?_; rintro e w1 ⟨g, rfl, hg, hD1, hb1⟩; have HD1 := hide hD1; have HB1 := hide ((unhide HB0).trans (hb1.mono (unhide HB0).size)); have HGG := hide (Nat.le_trans (unhide HB0).size hg); clear hD1 hb1 hg) | (go_at_call 10; refine (aw_below g w1.heap.size _ (unhide HD1)).mono ?_; rintro e w2 ⟨rfl, hD2, hG2⟩; have HD2 := hide hD2; have HB2 := hide (below_gb (unhide HB1) hG2 (unhide HB1).size (unhide HGG)); have HZ2 := hide hG2.size; clear hD2 hG2) | (go_at_call 13; refine (aw_distinct g w1.heap.size _ (unhide HD2) (unhide HZ2)).mono ?_; rintro e w3 ⟨a3, c3, rfl, hI3, hD3, hG3⟩; have HD3 := hide hD3; have HB3 := hide (below_gb (unhide HB2) hG3 (unhide HB2).size (unhide HGG)); have HI3 := hide hI3; have HZ3 := hide (Nat.le_trans (unhide HZ2) hG3.size); clear hD3 hG3 hI3) | (go_at_call 12; refine (intz_any a3 1 c3 [1] _ 1 1 [1] _ ((unhide HI3).below ((Below.refl _ _).alloc (Nat.le_refl _) _)) (intz_lit1 w3 1) rfl (by omega)).mono ?_; rintro e w4 ⟨rfl, hb4⟩; have hA4 := (Below.refl w3.heap.size w3).alloc (Nat.le_refl _) (.cells #[.int .i64 1] 3); have HB4 := hide (below1 (unhide HB3) hb4); have HD4 := hide ((unhide HD3).below ((hA4.trans (hb4.mono hA4.size)).mono (unhide HZ3))); clear hb4 hA4) | (go_at_call 15; refine (used_any g w1.heap.size [5, 1] 2 _ (unhide HD4)).mono ?_; rintro e w5 ⟨rfl, hw⟩; obtain rfl := hw.symm; clear hw) | (go_at_call 16; refine (aw_next g w1.heap.size _ (unhide HD4)).mono ?_; rintro e w6 ⟨rfl, hD6, hG6⟩; have HB6 := hide (below_gb (unhide HB4) hG6 (unhide HB4).size (unhide HGG)); clear hD6 hG6))
  go_ret
  exact ⟨rfl, unhide HB6⟩

set_option maxHeartbeats 1000000 in
theorem none_walk (n k : Int) (hn : n ≤ 9223372036854775807) (w : World) : Calls Try.prog 7 #[.int .i64 n, .int .i64 k] w fun e w' => e = .returned (.bool true) ∧ Below w.heap.size w w' := by
  have HA := hide (awake_any w)
  have HN := hide (next_nil w)
  have HB := hide (below_nil n hn w)
  have HD := hide (distinct_nil n k w)
  have HU := hide (used_nil w)
  go_enter Try.func7, Try.ntmps7
  go_wp2_with (first | (go_at_call 16; refine (unhide HN).mono ?_; rintro e w1 ⟨rfl, hw⟩; obtain rfl := hw.symm; clear hw) | (go_at_call 10; refine (unhide HB).mono ?_; rintro e w1 ⟨rfl, hw⟩; obtain rfl := hw.symm; clear hw) | (go_at_call 13; refine (unhide HD).mono ?_; rintro e w1 ⟨rfl, hw⟩; obtain rfl := hw.symm; clear hw) | (go_at_call 15; refine (unhide HU).mono ?_; rintro e w1 ⟨rfl, hw⟩; obtain rfl := hw.symm; clear hw) | (go_at_call 8; refine (unhide HA).mono ?_; rintro e w6 ⟨rfl, hb6⟩; have HB6 := hide hb6; clear hb6))
  go_ret
  exact ⟨rfl, unhide HB6⟩

set_option maxHeartbeats 1000000 in
theorem below_walk (a : Option Addr) (len cap : Nat) (xs : List Nat) (n : Int) (hn : n ≤ 9223372036854775807) (w : World) (h : RowAt w a len xs) (hm : len ≤ 9223372036854775807) : Calls Try.prog 5 #[.slice a len cap, .int .i64 n] w fun e w' => e = .returned (.bool true) ∧ Below w.heap.size w w' := by
  have HA := hide (fun wx => awake_any wx)
  by_cases hl : 1000 < len
  · clear h
    go_enter Try.func5, Try.ntmps5
    go_wp2_with (go_at_call 8; refine (unhide HA _).mono ?_; rintro e w6 ⟨rfl, hb6⟩)
    go_ret
    exact ⟨rfl, hb6⟩
  · have HN := hide (new_any a len cap xs w h (by omega))
    clear h
    by_cases h1 : n < 1
    · go_enter Try.func5, Try.ntmps5
      go_wp2_with (first | (go_at_call 9; refine (unhide HN).mono ?_; rintro e w1 ⟨g, rfl, hg, hD1, hb1⟩; have HD1 := hide hD1; have HB1 := hide hb1; clear hD1 hb1 hg) | (go_at_call 10; refine (below_no _ n h1 _).mono ?_; rintro e w2 ⟨rfl, hw⟩; obtain rfl := hw.symm; clear hw) | (go_at_call 15; refine (used_any _ _ _ _ _ (unhide HD1)).mono ?_; rintro e w2 ⟨rfl, hw⟩; obtain rfl := hw.symm; clear hw) | (go_at_call 8; refine (unhide HA _).mono ?_; rintro e w6 ⟨rfl, hb6⟩; have HB6 := hide (below0 (unhide HB1) hb6); clear hb6))
      go_ret
      exact ⟨rfl, unhide HB6⟩
    · obtain ⟨m, rfl⟩ : ∃ m : Nat, n = (m : Int) := ⟨n.toNat, by omega⟩
      have hlt : drawN xs (0 + 1) % m < m := Nat.mod_lt _ (by omega)
      have HX := hide (fun g B wx hd => below_any g B xs 0 m wx hd (by omega) (by omega) (by omega))
      generalize drawN xs (0 + 1) % m = x at *
      have hlt' : (x : Int) < (m : Int) := by omega
      have hx0 : (0 : Int) ≤ (x : Int) := by omega
      go_enter Try.func5, Try.ntmps5
      go_wp2_with (first | (go_at_call 9; refine (unhide HN).mono ?_; rintro e w1 ⟨g, rfl, hg, hD1, hb1⟩; have HD1 := hide hD1; have HB1 := hide hb1; have HG := hide hg; clear hD1 hb1 hg) | (go_at_call 10; refine (unhide HX g _ _ (unhide HD1)).mono ?_; rintro e w2 ⟨rfl, hD2, hG2⟩; have HD2 := hide hD2; have HB2 := hide (below_gb (unhide HB1) hG2 (unhide HB1).size (unhide HG)); clear hD2 hG2) | (go_at_call 15; refine (used_any _ _ _ _ _ (unhide HD2)).mono ?_; rintro e w3 ⟨rfl, hw⟩; obtain rfl := hw.symm; clear hw) | (go_at_call 8; refine (unhide HA _).mono ?_; rintro e w6 ⟨rfl, hb6⟩; have HB6 := hide (below0 (unhide HB2) hb6); clear hb6))
      go_ret
      exact ⟨rfl, unhide HB6⟩
end Go.Proofs.Ytmodllifgdhmiaa
