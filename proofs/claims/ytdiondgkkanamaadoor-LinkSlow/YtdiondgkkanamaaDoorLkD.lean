/-
  Contract of bucketlinelaw24.hello; the chapter's example (awake); the walk of LinkNone. No condition.
-/
import Derived.Test.YtdiondgkkanamaaDoorLkC
namespace Go.Proofs.YtdiondgkkanamaaDoor
open Go.RowKit Go.Conc
set_option linter.unusedVariables false
set_option maxRecDepth 4000

/-- Pump, and what is left. -/
theorem lkpump_is (g gb gq c lo t : Nat) (M q Lv Lv' : Int) (L L' : List ByteArray) (w : World) (h : LkAt w g gb gq c M q Lv L lo) (ht : pumpN L Lv = t) (h1 : Lv - 1000 * (t : Int) = Lv') (h2 : L.drop t = L') :
    Calls Tryd.prog 11 #[.pointer (some ⟨g, 0, none⟩)] w fun e w' => ∃ b cc, e = .returned (.slice b t cc) ∧ LkAt w' g gb gq c M q Lv' L' lo ∧ Tu (lkF g gb gq c) w w' := by
  subst h1 h2 ht
  exact (lkpump_any g gb gq c lo M q Lv L w h).mono fun e w' ⟨b, cc, he, hj⟩ => ⟨b, cc, he, hj.lk, hj.tu⟩
/-- A link of the call's own. -/
structure LkJ (W w : World) (g gb gq c : Nat) (M q Lv : Int) (L : List ByteArray) (lo : Nat) : Prop where
  lk : LkAt w g gb gq c M q Lv L lo
  low : Below W.heap.size W w
  own : W.heap.size ≤ g ∧ W.heap.size ≤ gb ∧ W.heap.size ≤ gq ∧ W.heap.size ≤ c
theorem LkJ.tu {W w w' : World} {g gb gq c lo lo' : Nat} {M q Lv Lv' : Int} {L L' : List ByteArray} (h : LkJ W w g gb gq c M q Lv L lo) (h' : LkAt w' g gb gq c M q Lv' L' lo') (ht : Tu (lkF g gb gq c) w w') : LkJ W w' g gb gq c M q Lv' L' lo' :=
  ⟨h', h.low.trans (ht.below h.low.size fun j hj e => by have := h.own; rcases e with e | e | e | e <;> omega), h.own⟩
theorem LkJ.below {W w w' : World} {g gb gq c lo : Nat} {M q Lv : Int} {L : List ByteArray} (h : LkJ W w g gb gq c M q Lv L lo) (hb : Below w.heap.size w w') : LkJ W w' g gb gq c M q Lv L lo :=
  ⟨h.lk.below hb, below0 h.low hb, h.own⟩

theorem hello_ok : FRV.ok ⟨1, 1, 0, .dflt⟩ := ⟨⟨by decide, by decide⟩, ⟨by decide, by decide⟩, .inl ⟨rfl, zero_none ⟨rfl, rfl, rfl, rfl, rfl, rfl, rfl⟩⟩⟩
theorem zero_bad : ¬ FRV.ok ⟨0, 0, 0, .dflt⟩ := fun h => by
  have := fit_not h.2.2
  rcases this with h | h <;> exact absurd h (by decide)
set_option maxHeartbeats 1000000 in
theorem hello24_any (w : World) : Calls Tryd.prog 14 #[] w fun e w' => e = .returned (.agg #[.int .i64 1, .int .i64 1, .int .i64 0, .int .i64 0, .int .i64 0, .int .i64 0, .int .i64 0, .int .i64 0, .slice none 0 0, .string ⟨#[]⟩]) ∧ Below w.heap.size w w' := by
  go_enter Tryd.func14, Tryd.ntmps14
  go_wp2
  exact bodyPost_ret (v := .agg #[.int .i64 1, .int .i64 1, .int .i64 0, .int .i64 0, .int .i64 0, .int .i64 0, .int .i64 0, .int .i64 0, .slice none 0 0, .string ⟨#[]⟩]) (by simp [results, Tryd.results14, go_sem]) rfl ⟨rfl, below_new _ _⟩
set_option maxHeartbeats 4000000 in
theorem awake_any (w : World) (ht : Tab w) : Calls Tryd.prog 7 #[] w fun e w' => e = .returned (.bool true) ∧ Below w.heap.size w w' := by
  have HN := hide (lknew_any 0 (by decide) 2 w)
  rw [show ((milZ 0 : Nat) : Int) = 0 by decide, show 1000 * wiZ 2 1 256 = 2000 by decide] at HN
  have HS1 := hide (fun g gb gq c wx (h : LkAt wx g gb gq c 0 2 2000 [] 0) (htx : Tab wx) => lksend_ok g gb gq c 0 0 2 2000 [] ⟨1, 1, 0, .dflt⟩ wx h htx (row_none _) (by decide) hello_ok (by decide))
  have HS2 := hide (fun g gb gq c wx (h : LkAt wx g gb gq c 0 2 2000 [FRV.enc ⟨1, 1, 0, .dflt⟩] 0) (htx : Tab wx) => lksend_ok g gb gq c 0 0 2 2000 _ ⟨1, 1, 0, .dflt⟩ wx h htx (row_none _) (by decide) hello_ok (by decide))
  have HS3 := hide (fun g gb gq c wx (h : LkAt wx g gb gq c 0 2 2000 [FRV.enc ⟨1, 1, 0, .dflt⟩, FRV.enc ⟨1, 1, 0, .dflt⟩] 0) (htx : Tab wx) => lksend_full g gb gq c 0 0 2 2000 _ ⟨1, 1, 0, .dflt⟩ wx h htx (row_none _) (by decide) hello_ok (by decide) (by decide))
  have HS4 := hide (fun g wx (htx : Tab wx) => lksend_bad g ⟨0, 0, 0, .dflt⟩ wx htx (row_none _) (by decide) zero_bad)
  have HS5 := hide (fun g gb gq c wx (h : LkAt wx g gb gq c 0 2 0 [] 1) (htx : Tab wx) => lksend_ok g gb gq c 1 0 2 0 [] ⟨1, 1, 0, .dflt⟩ wx h htx (row_none _) (by decide) hello_ok (by decide))
  have HT := hide ht
  simp only [FRV.val, PKV.dflt, RV.dflt, List.nil_append, List.cons_append] at HS1 HS2 HS3 HS4 HS5
  generalize FRV.enc ⟨1, 1, 0, ⟨0, 0, 0, 0, 0, ⟨none, 0, 0, [], ⟨#[]⟩⟩⟩⟩ = s at *
  have HQ1 := hide (fun g gb gq c wx (h : LkAt wx g gb gq c 0 2 2000 [s, s] 1) => lkqueued_any g gb gq c 1 2 0 2 2000 [s, s] wx h rfl)
  have HQ2 := hide (fun g gb gq c wx (h : LkAt wx g gb gq c 0 2 0 [s] 1) => lkqueued_any g gb gq c 1 1 0 2 0 [s] wx h rfl)
  have HP1 := hide (fun g gb gq c wx (h : LkAt wx g gb gq c 0 2 2000 [s, s] 1) => lkpump_is g gb gq c 1 2 0 2 2000 0 [s, s] [] wx h rfl rfl rfl)
  have HP2 := hide (fun g gb gq c wx (h : LkAt wx g gb gq c 0 2 0 [s] 1) => lkpump_is g gb gq c 1 0 0 2 0 0 [s] [s] wx h rfl rfl rfl)
  have HK := hide (fun g gb gq c wx (h : LkAt wx g gb gq c 0 2 0 [s] 1) => lktick_any g gb gq c 1 0 2 0 100 [s] wx h)
  rw [show tickL 0 (1000 * wiZ 2 1 256) 0 100 = 0 by decide] at HK
  clear ht
  go_enter Tryd.func7, Tryd.ntmps7
  go_wp2_with (first
    | (go_at_call 8; refine (unhide HN).mono ?_; rintro e w1 ⟨g, gb, gq, c, rfl, hg, hm1, hb1⟩; have HJ := hide (show LkJ w w1 g gb gq c 0 2 2000 [] 0 from ⟨hm1, hb1, hg⟩); clear hm1 hb1 hg HN)
    | (go_at_call 14; refine (hello24_any _).mono ?_; rintro e w2 ⟨rfl, hb2⟩; have HJ := hide ((unhide HJ).below hb2); clear hb2)
    | (go_at_call 9; refine (unhide HS1 _ _ _ _ _ (unhide HJ).lk ((unhide HT).below (unhide HJ).low)).mono ?_; rintro e w2 ⟨rfl, hm2, ht2⟩; have HJ := hide ((unhide HJ).tu hm2 ht2); clear hm2 ht2 HS1)
    | (go_at_call 9; refine (unhide HS2 _ _ _ _ _ (unhide HJ).lk ((unhide HT).below (unhide HJ).low)).mono ?_; rintro e w2 ⟨rfl, hm2, ht2⟩; have HJ := hide ((unhide HJ).tu hm2 ht2); clear hm2 ht2 HS2)
    | (go_at_call 9; refine (unhide HS3 _ _ _ _ _ (unhide HJ).lk ((unhide HT).below (unhide HJ).low)).mono ?_; rintro e w2 ⟨rfl, hm2, ht2⟩; have HJ := hide ((unhide HJ).tu hm2 ht2); clear hm2 ht2 HS3)
    | (go_at_call 9; refine (unhide HS4 _ _ ((unhide HT).below (unhide HJ).low)).mono ?_; rintro e w2 ⟨rfl, hb2⟩; have HJ := hide ((unhide HJ).below hb2); clear hb2 HS4)
    | (go_at_call 9; refine (unhide HS5 _ _ _ _ _ (unhide HJ).lk ((unhide HT).below (unhide HJ).low)).mono ?_; rintro e w2 ⟨rfl, hm2, ht2⟩; have HJ := hide ((unhide HJ).tu hm2 ht2); clear hm2 ht2 HS5)
    | (go_at_call 12; refine (unhide HQ1 _ _ _ _ _ (unhide HJ).lk).mono ?_; rintro e w2 ⟨rfl, hw2⟩; obtain rfl := hw2.symm; clear hw2 HQ1)
    | (go_at_call 12; refine (unhide HQ2 _ _ _ _ _ (unhide HJ).lk).mono ?_; rintro e w2 ⟨rfl, hw2⟩; obtain rfl := hw2.symm; clear hw2)
    | (go_at_call 11; refine (unhide HP1 _ _ _ _ _ (unhide HJ).lk).mono ?_; rintro e w2 ⟨b1, c1, rfl, hm2, ht2⟩; have HJ := hide ((unhide HJ).tu hm2 ht2); clear hm2 ht2 HP1)
    | (go_at_call 11; refine (unhide HP2 _ _ _ _ _ (unhide HJ).lk).mono ?_; rintro e w2 ⟨b2, c2, rfl, hm2, ht2⟩; have HJ := hide ((unhide HJ).tu hm2 ht2); clear hm2 ht2)
    | (go_at_call 10; refine (unhide HK _ _ _ _ _ (unhide HJ).lk).mono ?_; rintro e w2 ⟨rfl, hm2, ht2⟩; have HJ := hide ((unhide HJ).tu hm2 ht2); clear hm2 ht2 HK)
    | fail)
  go_ret
  exact ⟨rfl, (unhide HJ).low⟩
set_option maxHeartbeats 1000000 in
theorem lknone_walk (f : FRV) (w : World) (ht : Tab w) : Calls Tryd.prog 4 #[f.val] w fun e w' => e = .returned (.bool true) ∧ Below w.heap.size w w' := by
  have HA := hide (fun wx (hx : Below w.heap.size w wx) => awake_any wx (ht.below hx))
  have HS := hide (fun wx => lksend_nil f wx)
  simp only [FRV.val] at HS ⊢
  clear ht
  go_enter Tryd.func4, Tryd.ntmps4
  go_wp2_with (first
    | (go_at_call 13; refine (lkclear_nil _).mono ?_; rintro e w1 ⟨rfl, hw1⟩; obtain rfl := hw1.symm; clear hw1)
    | (go_at_call 10; refine (lktick_nil _ _).mono ?_; rintro e w1 ⟨rfl, hw1⟩; obtain rfl := hw1.symm; clear hw1)
    | (go_at_call 9; refine (unhide HS _).mono ?_; rintro e w2 ⟨rfl, hb2⟩; have HB := hide (below0 (below_new _ _) hb2); clear hb2)
    | (go_at_call 11; refine (lkpump_nil _).mono ?_; rintro e w1 ⟨rfl, hw1⟩; obtain rfl := hw1.symm; clear hw1)
    | (go_at_call 12; refine (lkqueued_nil _).mono ?_; rintro e w1 ⟨rfl, hw1⟩; obtain rfl := hw1.symm; clear hw1)
    | (go_at_call 7; refine (unhide HA _ (unhide HB)).mono ?_; rintro e w3 ⟨rfl, hb3⟩; have HC := hide (below0 (unhide HB) hb3); clear hb3)
    | fail)
  go_ret
  exact ⟨rfl, unhide HC⟩
end Go.Proofs.YtdiondgkkanamaaDoor
