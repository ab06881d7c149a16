/-
  A source in memory ('SrcAt'); slices of texts that are made and filled. Contracts of encoder.cut, New, Source.K, Source.Blocks: for every int and every text of at most 2^63 - 1 bytes.
-/
import Derived.Test.YtakoaadimhpclaaGreatDoorU15
import Derived.Test.YtakoaadimhpclaaGreatDoorU18
import Derived.Test.YtakoaadimhpclaaGreatDoorU16
import Derived.Test.YtakoaadimhpclaaGreatDoorU19
namespace Go.Proofs.YtakoaadimhpclaaGreatDoor
open Go.RowKit
set_option linter.unusedVariables false
set_option linter.unusedSimpArgs false
set_option maxRecDepth 4000

/-- A source at block g, that can be read. -/
def SrcAt (w : World) (g : Nat) (o l z : Int) (s : Nat) (ss : List ByteArray) : Prop :=
  ∃ a c, (w.cell? ⟨g, 0, none⟩ = some (.int .i64 o) ∧ w.cell? ⟨g, 1, none⟩ = some (.int .i64 l) ∧ w.cell? ⟨g, 2, none⟩ = some (.int .i64 z) ∧ w.cell? ⟨g, 3, none⟩ = some (.slice a ss.length c) ∧ w.cell? ⟨g, 4, none⟩ = some (.int .i64 (s : Int))) ∧ TextsAt w a ss.length ss
theorem SrcAt.below {w w' : World} {g : Nat} {o l z : Int} {s : Nat} {ss : List ByteArray} (h : SrcAt w g o l z s ss) (hb : Below w.heap.size w w') : SrcAt w' g o l z s ss := by
  obtain ⟨a, c, ⟨h0, h1, h2, h3, h4⟩, ht⟩ := h
  have e : ∀ o, w'.cell? ⟨g, o, none⟩ = w.cell? ⟨g, o, none⟩ := fun o => hb.cell (show g < w.heap.size from World.block_lt_of_cell? w ⟨g, 0, none⟩ h0)
  exact ⟨a, c, ⟨(e _).trans h0, (e _).trans h1, (e _).trans h2, (e _).trans h3, (e _).trans h4⟩, ht.below hb⟩
/-- Draws that are turned are no part of a source. -/
theorem SrcAt.kept {w w' : World} {g k : Nat} {o l z : Int} {s : Nat} {ss : List ByteArray} {T : TypeId} {a' : Option Addr} {n' c' : Nat} {i : Int} (h : SrcAt w g o l z s ss) (hg : w.grownBy w' (some k)) (hap : Bk2 T w k (.slice a' n' c') (.int .i64 i)) : SrcAt w' g o l z s ss := by
  obtain ⟨a, c, ⟨h0, h1, h2, h3, h4⟩, hl, ht⟩ := h
  have hne : g ≠ k := by
    rintro rfl
    rw [hap.at0] at h0
    simp at h0
  refine ⟨a, c, ⟨hg.cell h0 (fun e => hne (Option.some.inj e)), hg.cell h1 (fun e => hne (Option.some.inj e)), hg.cell h2 (fun e => hne (Option.some.inj e)), hg.cell h3 (fun e => hne (Option.some.inj e)), hg.cell h4 (fun e => hne (Option.some.inj e))⟩, hl, ?_⟩
  rcases ht with h0 | ⟨b, off, rfl, hc⟩
  · exact .inl h0
  · refine .inr ⟨b, off, rfl, fun j hj => hg.cell (hc j hj) (fun e => ?_)⟩
    have e : b = k := Option.some.inj e
    subst e
    have h0 := hc j hj
    unfold Bk2 at hap
    rw [cell_of_row w b _ _ _ _ hap] at h0
    match off + j, h0 with
    | 0, h0 => simp at h0
    | 1, h0 => simp at h0
    | q + 2, h0 => simp at h0

/-- The error's number of New. -/
def newE (o : Int) (n : Nat) (z p : Int) : Int := if o < 0 ∨ 4294967295 < o ∨ p < 0 then 1 else planE (n : Int) z
theorem newE_arg {o : Int} {n : Nat} {z p : Int} (h : o < 0 ∨ 4294967295 < o ∨ p < 0) : newE o n z p = 1 := if_pos h
theorem newE_plan {o : Int} {n : Nat} {z p : Int} (h : ¬ (o < 0 ∨ 4294967295 < o ∨ p < 0)) : newE o n z p = planE (n : Int) z := if_neg h
theorem newE_yes {o : Int} {n : Nat} {z p : Int} (h : newE o n z p = 0) : ∃ O Z Q : Nat, o = (O : Int) ∧ O ≤ 4294967295 ∧ p = (Q : Int) ∧ z = (Z : Int) ∧ 1 ≤ Z ∧ Z ≤ 64 ∧ kc n Z ≤ 128 := by
  by_cases h1 : o < 0 ∨ 4294967295 < o ∨ p < 0
  · rw [newE_arg h1] at h; cases h
  · rw [newE_plan h1] at h
    obtain ⟨Z, rfl, h2, h3, h4⟩ := plan_yes h
    exact ⟨o.toNat, Z, p.toNat, by omega, by omega, by omega, rfl, h2, h3, h4⟩

/-- A block that holds an object, none of it frozen. -/
def ObB (w : World) (g : Nat) (v0 v1 v2 v3 : Value) : Prop := w.heap[g]? = some (.cells #[v0, v1, v2, v3] 41 (0, 0))
theorem obb_new (w : World) (v0 v1 v2 v3 : Value) : ObB (w.alloc (.cells #[v0, v1, v2, v3] 41)) w.heap.size v0 v1 v2 v3 := by
  show (w.heap.push _)[w.heap.size]? = _
  simp
theorem ObB.lt {w : World} {g : Nat} {v0 v1 v2 v3 : Value} (h : ObB w g v0 v1 v2 v3) : g < w.heap.size := (Array.getElem?_eq_some_iff.1 h).1
theorem ObB.below {w w' : World} {g : Nat} {v0 v1 v2 v3 : Value} (h : ObB w g v0 v1 v2 v3) (hb : Below w.heap.size w w') : ObB w' g v0 v1 v2 v3 := (hb.block g h.lt).trans h
theorem ObB.cells {w : World} {g : Nat} {v0 v1 v2 v3 : Value} (h : ObB w g v0 v1 v2 v3) : w.cell? ⟨g, 0, none⟩ = some v0 ∧ w.cell? ⟨g, 1, none⟩ = some v1 ∧ w.cell? ⟨g, 2, none⟩ = some v2 ∧ w.cell? ⟨g, 3, none⟩ = some v3 := by
  unfold ObB at h
  refine ⟨?_, ?_, ?_, ?_⟩ <;> rw [cell_of_row w g _ _ _ _ h] <;> rfl
theorem ObB.frz {w : World} {g : Nat} {v0 v1 v2 v3 : Value} (h : ObB w g v0 v1 v2 v3) (i : Nat) : w.frozen? ⟨g, i, none⟩ = false := by
  unfold ObB at h
  simp [World.frozen?, h]
def set4 (w : World) (g : Nat) (u0 u1 u2 u3 : Value) : World := (((w.setCell ⟨g, 0, none⟩ u0).setCell ⟨g, 1, none⟩ u1).setCell ⟨g, 2, none⟩ u2).setCell ⟨g, 3, none⟩ u3
theorem ObB.set0 {w : World} {g : Nat} {v0 v1 v2 v3 : Value} (h : ObB w g v0 v1 v2 v3) (u : Value) : ObB (w.setCell ⟨g, 0, none⟩ u) g u v1 v2 v3 := heap_setCell_same w g 0 _ _ u h
theorem ObB.set1 {w : World} {g : Nat} {v0 v1 v2 v3 : Value} (h : ObB w g v0 v1 v2 v3) (u : Value) : ObB (w.setCell ⟨g, 1, none⟩ u) g v0 u v2 v3 := heap_setCell_same w g 1 _ _ u h
theorem ObB.set2 {w : World} {g : Nat} {v0 v1 v2 v3 : Value} (h : ObB w g v0 v1 v2 v3) (u : Value) : ObB (w.setCell ⟨g, 2, none⟩ u) g v0 v1 u v3 := heap_setCell_same w g 2 _ _ u h
theorem ObB.set3 {w : World} {g : Nat} {v0 v1 v2 v3 : Value} (h : ObB w g v0 v1 v2 v3) (u : Value) : ObB (w.setCell ⟨g, 3, none⟩ u) g v0 v1 v2 u := heap_setCell_same w g 3 _ _ u h
theorem ObB.sets {w : World} {g : Nat} {v0 v1 v2 v3 : Value} (h : ObB w g v0 v1 v2 v3) (u0 u1 u2 u3 : Value) : ObB (set4 w g u0 u1 u2 u3) g u0 u1 u2 u3 := (((h.set0 u0).set1 u1).set2 u2).set3 u3
theorem below4 {B : Nat} {a w : World} (h : Below B a w) {g : Nat} (hg : B ≤ g) (u0 u1 u2 u3 : Value) : Below B a (set4 w g u0 u1 u2 u3) :=
  (((h.setCell hg u0).setCell hg u1).setCell hg u2).setCell hg u3
theorem gb4 (w : World) (g : Nat) (u0 u1 u2 u3 : Value) : w.grownBy (set4 w g u0 u1 u2 u3) (some g) :=
  gb_trans (gb_trans (gb_trans (gb_setCell _ _ _ _) (gb_setCell _ _ _ _) (.inl rfl)) (gb_setCell _ _ _ _) (.inl rfl)) (gb_setCell _ _ _ _) (.inl rfl)
theorem OwnT.kept {w w' : World} {B : Nat} {v : Value} {ss : List ByteArray} {k : Nat} (h : OwnT w B v ss) (hg : w.grownBy w' (some k)) (hk : k < B) : OwnT w' B v ss := by
  refine ⟨h.1, ?_⟩
  rcases h.2 with h0 | ⟨g, cap, cur, h1, hb, hgg, r⟩
  · exact .inl h0
  · exact .inr ⟨g, cap, cur, h1, hb, (hg.block g (Array.getElem?_eq_some_iff.1 hgg).1 (fun e => by have := Option.some.inj e; omega)).trans hgg, r⟩
theorem OwnT.atB {w : World} {B : Nat} {a : Option Addr} {n c : Nat} {ss : List ByteArray} (h : OwnT w B (.slice a n c) ss) : TextsAt w a n ss := by
  obtain ⟨a1, c1, e, hi⟩ := h.texts
  simp only [Value.slice.injEq] at e
  obtain ⟨rfl, rfl, rfl⟩ := e
  exact hi
theorem results_cut {tmps : Array Value} {W : World} {g : Nat} {x : Int} {u0 u1 u2 u3 : Value} (h2 : tmps.getD 6 undef = .pointer (some ⟨g, 0, none⟩)) (h3 : tmps.getD 7 undef = .int .i64 x) (hq : ObB W g u0 u1 u2 u3) :
    (results Tryz.f12 tmps).run Tryz.prog W = .ok (.tuple #[.agg #[u0, u1, u2, u3], .int .i64 x]) W := by
  obtain ⟨k0, k1, k2, k3⟩ := hq.cells
  have h2' : tmps[6]?.getD undef = .pointer (some ⟨g, 0, none⟩) := by simpa using h2
  have h3' : tmps[7]?.getD undef = .int .i64 x := by simpa using h3
  simp [results, Tryz.results12, go_sem, h2', h3', k0, k1, k2, k3]

set_option maxHeartbeats 1000000 in
theorem ecut_no (o : Int) (s : ByteArray) (z : Int) (w : World) (hs : s.size ≤ 9223372036854775807) (h : planE (s.size : Int) z ≠ 0) :
    Calls Tryz.prog 12 #[.int .i64 o, .string s, .int .i64 z] w fun e w' => e = .returned (.tuple #[.agg #[.int .i64 0, .int .i64 0, .int .i64 0, .slice none 0 0], .int .i64 (planE (s.size : Int) z)]) ∧ Below w.heap.size w w' := by
  have X0 := hide (obb_new w (.int .i64 0) (.int .i64 0) (.int .i64 0) (.slice none 0 0))
  have HS := hide (split_no s z (w.alloc (.cells #[.int .i64 0, .int .i64 0, .int .i64 0, .slice none 0 0] 41)) hs h)
  have B0 := hide ((Below.refl _ w).alloc (Nat.le_refl _) (.cells #[.int .i64 0, .int .i64 0, .int .i64 0, .slice none 0 0] 41))
  have h' : (planE (s.size : Int) z != 0) = true := bne_iff_ne.2 h
  generalize planE (s.size : Int) z = E0 at *
  go_enter Tryz.func12, Tryz.ntmps12
  go_wp2_with (go_at_call 29; refine (unhide HS).mono ?_; rintro e w1 ⟨rfl, hw⟩; obtain rfl := hw.symm; clear hw)
  exact bodyPost_ret (results_cut rfl rfl (unhide X0)) rfl ⟨rfl, unhide B0⟩

set_option maxHeartbeats 1000000 in
theorem ecut_yes (o : Int) (s : ByteArray) (Z : Nat) (w : World) (hz1 : 1 ≤ Z) (hz2 : Z ≤ 64) (hk2 : kc s.size Z ≤ 128) :
    Calls Tryz.prog 12 #[.int .i64 o, .string s, .int .i64 (Z : Int)] w fun e w' => ∃ a c, e = .returned (.tuple #[.agg #[.int .i64 o, .int .i64 (s.size : Int), .int .i64 (Z : Int), .slice a (kc s.size Z) c], .int .i64 0]) ∧ OwnT w' w.heap.size (.slice a (kc s.size Z) c) (blocksL (tx s) Z (kc s.size Z)) ∧ Below w.heap.size w w' := by
  have hbl := blocksL_length (tx s) Z (kc s.size Z)
  have X0 := hide (obb_new w (.int .i64 0) (.int .i64 0) (.int .i64 0) (.slice none 0 0))
  have HS := hide (split_yes s Z (w.alloc (.cells #[.int .i64 0, .int .i64 0, .int .i64 0, .slice none 0 0] 41)) hz1 hz2 hk2)
  have B0 := hide ((Below.refl _ w).alloc (Nat.le_refl _) (.cells #[.int .i64 0, .int .i64 0, .int .i64 0, .slice none 0 0] 41))
  generalize kc s.size Z = k at *
  generalize blocksL (tx s) Z k = ss at *
  go_enter Tryz.func12, Tryz.ntmps12
  go_wp2_with fail
  refine (unhide HS).mono ?_
  rintro e w1 ⟨v, rfl, ho, hb⟩
  obtain ⟨a, c, rfl, ht⟩ := ho.texts
  rw [hbl] at ho ht ⊢
  have x1 := (unhide X0).below hb
  have B1 := hide (below0 (unhide B0) hb)
  have HO := hide ho
  have X1 := hide x1
  obtain ⟨k0, k1, k2, k3⟩ := x1.cells
  have f0 := x1.frz 0
  have f1 := x1.frz 1
  have f2 := x1.frz 2
  have f3 := x1.frz 3
  clear ht ho hb hbl x1
  go_wp2
  exact bodyPost_ret (results_cut rfl rfl ((unhide X1).sets (.int .i64 o) (.int .i64 (s.size : Int)) (.int .i64 (Z : Int)) (.slice a k c))) rfl
    ⟨a, c, rfl, ((unhide HO).kept (gb4 w1 w.heap.size _ _ _ _) (by rw [alloc_size]; omega)).mono (by rw [alloc_size]; omega), below4 (unhide B1) (Nat.le_refl _) _ _ _ _⟩

set_option maxHeartbeats 1000000 in
theorem new_bad (o : Int) (s : ByteArray) (z p : Int) (w : World) (hs : s.size ≤ 9223372036854775807) (h : newE o s.size z p ≠ 0) :
    Calls Tryz.prog 4 #[.int .i64 o, .string s, .int .i64 z, .int .i64 p] w fun e w' => e = .returned (.tuple #[.pointer none, .int .i64 (newE o s.size z p)]) ∧ Below w.heap.size w w' := by
  by_cases h1 : o < 0
  · rw [newE_arg (.inl h1)]
    clear h
    go_enter Tryz.func4, Tryz.ntmps4
    go_wp2
    go_ret2
    exact ⟨rfl, Below.refl _ _⟩
  by_cases h2 : 4294967295 < o
  · rw [newE_arg (.inr (.inl h2))]
    clear h
    go_enter Tryz.func4, Tryz.ntmps4
    go_wp2
    go_ret2
    exact ⟨rfl, Below.refl _ _⟩
  by_cases h3 : p < 0
  · rw [newE_arg (.inr (.inr h3))]
    clear h
    go_enter Tryz.func4, Tryz.ntmps4
    go_wp2
    go_ret2
    exact ⟨rfl, Below.refl _ _⟩
  rw [newE_plan (by omega)] at h ⊢
  have HC := hide (ecut_no o s z w hs h)
  have h' : (planE (s.size : Int) z != 0) = true := bne_iff_ne.2 h
  generalize planE (s.size : Int) z = E0 at *
  clear hs
  go_enter Tryz.func4, Tryz.ntmps4
  go_wp2_with (go_at_call 12; refine (unhide HC).mono ?_; rintro e w1 ⟨rfl, hb⟩; have HB := hide hb; clear hb)
  go_ret2
  exact ⟨rfl, (unhide HB).alloc (unhide HB).size _⟩

/-- A source of one's own: its block, its texts at v, all at B or behind. -/
structure SrcO (w : World) (g B : Nat) (v : Value) (o l z : Int) (s : Nat) (ss : List ByteArray) : Prop where
  blk : BkA 45 w g [.int .i64 o, .int .i64 l, .int .i64 z, v, .int .i64 (s : Int)]
  lo : B ≤ g
  own : OwnT w B v ss
theorem SrcO.src {w : World} {g B : Nat} {v : Value} {o l z : Int} {s : Nat} {ss : List ByteArray} (h : SrcO w g B v o l z s ss) : SrcAt w g o l z s ss := by
  obtain ⟨a, c, rfl, ht⟩ := h.own.texts
  exact ⟨a, c, ⟨h.blk.at 0 rfl, h.blk.at 1 rfl, h.blk.at 2 rfl, h.blk.at 3 rfl, h.blk.at 4 rfl⟩, ht⟩
theorem src_new {w : World} {B k c : Nat} {a : Option Addr} {ss : List ByteArray} (hB : B ≤ w.heap.size) (h : OwnT w B (.slice a k c) ss) (o l z : Int) (s : Nat) (ob : Obj) :
    SrcO ((w.alloc ob).alloc (.cells #[.int .i64 o, .int .i64 l, .int .i64 z, .slice a k c, .int .i64 (s : Int)] 45)) (w.heap.size + 1) B (.slice a k c) o l z s ss := by
  rw [← alloc_size w ob]
  exact ⟨bkA_new 45 (w.alloc ob) _, by rw [alloc_size]; omega, (h.below ((Below.refl _ _).alloc (Nat.le_refl _) _)).below ((Below.refl _ _).alloc (Nat.le_refl _) _)⟩

set_option maxHeartbeats 1000000 in
theorem new_own (O : Nat) (s : ByteArray) (Z Q : Nat) (w : World) (ho : O ≤ 4294967295) (hz1 : 1 ≤ Z) (hz2 : Z ≤ 64) (hk2 : kc s.size Z ≤ 128) :
    Calls Tryz.prog 4 #[.int .i64 (O : Int), .string s, .int .i64 (Z : Int), .int .i64 (Q : Int)] w fun e w' => ∃ g v, e = .returned (.tuple #[.pointer (some ⟨g, 0, none⟩), .int .i64 0]) ∧ SrcO w' g w.heap.size v (O : Int) (s.size : Int) (Z : Int) (min Q (kc s.size Z)) (blocksL (tx s) Z (kc s.size Z)) ∧ Below w.heap.size w w' := by
  have HC := hide (ecut_yes (O : Int) s Z w hz1 hz2 hk2)
  generalize kc s.size Z = k at *
  have hmin := min_run Q k
  generalize blocksL (tx s) Z k = ss at *
  generalize min Q k = M at *
  go_enter Tryz.func4, Tryz.ntmps4
  go_wp2_with (go_at_call 12; refine (unhide HC).mono ?_; rintro e w1 ⟨a, c, rfl, ht, hb⟩; have HB := hide hb; have HT := hide ht; clear hb ht)
  go_ret2
  have hB := unhide HB
  have h1 := hB.alloc hB.size (.cells #[.int .i64 (O : Int), .int .i64 (s.size : Int), .int .i64 (Z : Int), .slice a k c] 41)
  exact ⟨_, _, rfl, src_new hB.size (unhide HT) _ _ _ _ _, h1.alloc h1.size _⟩
theorem new_yes (O : Nat) (s : ByteArray) (Z Q : Nat) (w : World) (ho : O ≤ 4294967295) (hz1 : 1 ≤ Z) (hz2 : Z ≤ 64) (hk2 : kc s.size Z ≤ 128) :
    Calls Tryz.prog 4 #[.int .i64 (O : Int), .string s, .int .i64 (Z : Int), .int .i64 (Q : Int)] w fun e w' => ∃ g, e = .returned (.tuple #[.pointer (some ⟨g, 0, none⟩), .int .i64 0]) ∧ SrcAt w' g (O : Int) (s.size : Int) (Z : Int) (min Q (kc s.size Z)) (blocksL (tx s) Z (kc s.size Z)) ∧ Below w.heap.size w w' :=
  (new_own O s Z Q w ho hz1 hz2 hk2).mono fun e w' ⟨g, v, he, h1, h2⟩ => ⟨g, he, h1.src, h2⟩

theorem ek_any (g : Nat) (o l z : Int) (s : Nat) (ss : List ByteArray) (w : World) (h : SrcAt w g o l z s ss) :
    Calls Tryz.prog 6 #[.pointer (some ⟨g, 0, none⟩)] w fun e w' => e = .returned (.int .i64 (ss.length : Int)) ∧ w' = w := by
  obtain ⟨a, c, ⟨h0, h1, h2, h3, h4⟩, ht⟩ := h
  clear ht h0 h1 h2 h4
  generalize ss.length = n at *
  go_enter Tryz.func6, Tryz.ntmps6
  go_wp2
  go_ret
  exact ⟨rfl, rfl⟩

end Go.Proofs.YtakoaadimhpclaaGreatDoor
