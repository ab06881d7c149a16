/-
  Contracts of decoder.New, objectOf, must, begin, admit.
-/
import Derived.Test.YtnjdldbdkafnaaaGreatDoorU36
import Derived.Laws.StructEq
import Derived.WalkLawsBesides
namespace Go.Proofs.YtnjdldbdkafnaaaGreatDoor
open Go.RowKit Go.Sort
set_option linter.unusedVariables false
set_option linter.unusedSimpArgs false
set_option maxRecDepth 4000

theorem denew_any (M : Int) (w : World) :
    Calls Tryz.prog 8 #[.int .i64 M] w fun e w' => e = .returned (.pointer (some ⟨w.heap.size, 0, none⟩)) ∧ DcAt w' w.heap.size w.heap.size M zDS w.heap.size (.slice none 0 0) [] ∧ Below w.heap.size w w' := by
  go_enter Tryz.func8, Tryz.ntmps8
  go_wp2
  go_ret
  exact ⟨rfl, dc_new w M, (Below.refl _ _).alloc (Nat.le_refl _) _⟩
theorem must_yes (t : ByteArray) (w : World) : Calls Tryz.prog 45 #[.bool true, .string t] w fun e w' => e = .returned (.tuple #[]) ∧ w' = w := by
  go_enter Tryz.func45, Tryz.ntmps45
  go_wp2
  go_end0
  exact ⟨rfl, rfl⟩
theorem must_no (t : ByteArray) (w : World) : Calls Tryz.prog 45 #[.bool false, .string t] w fun e w' => e = .panicked [{ v := .iface 9 (.string t), recovered := false }] ∧ w' = w := by
  go_enter Tryz.func45, Tryz.ntmps45
  go_wp2
  exact ⟨rfl, rfl, rfl⟩

theorem obj_any (o l k z h : Int) (x y : Value) (w : World) :
    Calls Tryz.prog 48 #[.agg #[.int .i64 o, .int .i64 l, .int .i64 k, .int .i64 z, .int .i64 h, x, y]] w fun e w' => e = .returned (.agg #[.int .i64 o, .int .i64 l, .int .i64 k, .int .i64 z]) ∧ Below w.heap.size w w' := by
  go_enter Tryz.func48, Tryz.ntmps48
  go_wp2
  exact bodyPost_ret (v := .agg #[.int .i64 o, .int .i64 l, .int .i64 k, .int .i64 z]) (by simp [results, Tryz.results48, go_sem]) rfl ⟨rfl, ((Below.refl _ _).alloc (Nat.le_refl _) _).alloc (by simp) _⟩
set_option maxHeartbeats 1000000 in
theorem eq_obj (o l k z o' l' k' z' : Int) (W : World) :
    (binOp .eql 55 (.agg #[.int .i64 o, .int .i64 l, .int .i64 k, .int .i64 z]) (.agg #[.int .i64 o', .int .i64 l', .int .i64 k', .int .i64 z'])).run Tryz.prog W = .ok (.bool (decide (o = o' ∧ l = l' ∧ k = k' ∧ z = z'))) W := by
  rw [run_eql_struct, run_equalIn_struct (d := 9999) (ht := by kernel_rfl) (hp := by kernel_rfl)]
  simp only [Program.fieldsOf, Tryz.underlying55]
  by_cases h1 : o = o'
  · by_cases h2 : l = l'
    · by_cases h3 : k = k'
      · by_cases h4 : z = z'
        · simp [Op.eqFields, part, go_sem, Tryz.underlying3, h1, h2, h3, h4]
        · simp [Op.eqFields, part, go_sem, Tryz.underlying3, h1, h2, h3, h4]
      · simp [Op.eqFields, part, go_sem, Tryz.underlying3, h1, h2, h3]
    · simp [Op.eqFields, part, go_sem, Tryz.underlying3, h1, h2]
  · simp [Op.eqFields, part, go_sem, Tryz.underlying3, h1]

set_option maxHeartbeats 2000000 in
theorem dbegin_any (g B : Nat) (M : Int) (p : PKV) (w : World) (h : DcAt w g B M zDS g (.slice none 0 0) []) (hp : okB p = true) :
    Calls Tryz.prog 47 #[.pointer (some ⟨g, 0, none⟩), .agg #[.int .i64 p.o, .int .i64 p.l, .int .i64 p.k, .int .i64 p.z, .int .i64 p.h, .slice p.r.a p.r.n p.r.c, .string p.r.s]] w fun e w' =>
      e = .returned (.tuple #[]) ∧ ∃ gs, DcAt w' g B M (begS zDS p) gs (.slice none 0 0) [] ∧ Tu (fun j => j = g) w w' ∧ w.heap.size ≤ gs := by
  have hb0 := alloc_low w (.cells #[.int .i64 p.o, .int .i64 p.l, .int .i64 p.k, .int .i64 p.z, .int .i64 p.h, .slice p.r.a p.r.n p.r.c, .string p.r.s] 31)
  have hx := bkA_new 31 w [.int .i64 p.o, .int .i64 p.l, .int .i64 p.k, .int .i64 p.z, .int .i64 p.h, .slice p.r.a p.r.n p.r.c, .string p.r.s]
  have hq := h.blk.below hb0
  have hlo := h.lo
  have hgw := h.lt
  have hne : some w.heap.size ≠ some g := fun e => by have := Option.some.inj e; omega
  have HDI := hide (DInv.beg (s := zDS) (fun e => by cases e) hp)
  have hE : w.alloc (.cells [.int .i64 p.o, .int .i64 p.l, .int .i64 p.k, .int .i64 p.z, .int .i64 p.h, .slice p.r.a p.r.n p.r.c, .string p.r.s].toArray 31) = w.alloc (.cells #[.int .i64 p.o, .int .i64 p.l, .int .i64 p.k, .int .i64 p.z, .int .i64 p.h, .slice p.r.a p.r.n p.r.c, .string p.r.s] 31) := rfl
  rw [hE] at hx
  clear hE h
  generalize hW : w.alloc (.cells #[.int .i64 p.o, .int .i64 p.l, .int .i64 p.k, .int .i64 p.z, .int .i64 p.h, .slice p.r.a p.r.n p.r.c, .string p.r.s] 31) = W at *
  have q0 := hx.at 0 rfl
  have q1 := hx.at 1 rfl
  have q2 := hx.at 2 rfl
  have q3 := hx.at 3 rfl
  have q4 := hx.at 4 rfl
  have q5 := hx.at 5 rfl
  have q6 := hx.at 6 rfl
  have HOB := hide (obj_any p.o p.l p.k p.z p.h (.slice p.r.a p.r.n p.r.c) (.string p.r.s) W)
  have HX := hide hx
  have HK := hide hq
  have HB0 := hide hb0
  clear hx hq hb0
  go_enter Tryz.func47, Tryz.ntmps47
  go_wp2_with fail
  refine (unhide HOB).mono ?_
  rintro e w1 ⟨rfl, hb1⟩
  have hk1 := (unhide HK).below hb1
  have hx1 := (unhide HX).below hb1
  have d0 := hk1.at 0 rfl
  have d1 := hk1.at 1 rfl
  have d2 := hk1.at 2 rfl
  have d3 := hk1.at 3 rfl
  have d4 := hk1.at 4 rfl
  have d5 := hk1.at 5 rfl
  have f1 := hk1.frz 1
  have f2 := hk1.frz 2
  have f3 := hk1.frz 3
  have f4 := hk1.frz 4
  have HK1 := hide hk1
  have HX1 := hide hx1
  have HB1 := hide (below0 (unhide HB0) hb1)
  clear q0 q1 q2 q3 q4 q5 q6 HOB HX HK HB0 hb1 hk1 hx1
  go_wp2_with fail
  have hk2 := ((((unhide HK1).set 1 (.int .i64 p.o)).set 2 (.int .i64 p.l)).set 3 (.int .i64 p.k)).set 4 (.int .i64 p.z)
  have hgb : w1.grownBy ((((w1.setCell ⟨g, 1, none⟩ (.int .i64 p.o)).setCell ⟨g, 2, none⟩ (.int .i64 p.l)).setCell ⟨g, 3, none⟩ (.int .i64 p.k)).setCell ⟨g, 4, none⟩ (.int .i64 p.z)) (some g) :=
    gb_trans (gb_trans (gb_trans (gb_setCell _ _ _ _) (gb_setCell _ _ _ _) (.inl rfl)) (gb_setCell _ _ _ _) (.inl rfl)) (gb_setCell _ _ _ _) (.inl rfl)
  have hx2 := (unhide HX1).kept hgb hne
  have ht2 := Tu.after (unhide HB1) (Tu.of_gb (F := fun j => j = g) hgb fun j _ e => (Option.some.inj e).symm)
  clear d0 d1 d2 d3 d4 d5 f1 f2 f3 f4 HK1 HX1 HB1 hgb
  generalize (((w1.setCell ⟨g, 1, none⟩ (.int .i64 p.o)).setCell ⟨g, 2, none⟩ (.int .i64 p.l)).setCell ⟨g, 3, none⟩ (.int .i64 p.k)).setCell ⟨g, 4, none⟩ (.int .i64 p.z) = w2 at *
  have q2 := hx2.at 2 rfl
  have q3 := hx2.at 3 rfl
  have d0 := hk2.at 0 rfl
  have HK2 := hide hk2
  have HX2 := hide hx2
  have HT2 := hide ht2
  have HQ := hide (fun wx (hb : Below w2.heap.size w2 wx) => show _ ∧ _ from ⟨hk2.below hb, hx2.below hb⟩)
  clear hk2 hx2 ht2
  go_region_held3 (fun w' => w'.cell? ⟨w.heap.size, 2, none⟩ = some (.int .i64 p.k) ∧ w'.cell? ⟨w.heap.size, 3, none⟩ = some (.int .i64 p.z) ∧ w'.cell? ⟨g, 0, none⟩ = some (.int .i64 M)) (go_keep) (first
    | (go_at_call 63; refine (stnew_any p.k p.z M _).mono ?_; rintro e w3 ⟨rfl, hs3, hb3⟩; have D3 := hide (show Below w2.heap.size w2 w3 from below0 (Below.refl _ _).drew hb3); have HS3 := hide hs3; obtain ⟨y1, y2⟩ := unhide HQ w3 (unhide D3); have r2 := y2.at 2 rfl; have r3 := y2.at 3 rfl; have e0 := y1.at 0 rfl; have e5 := y1.at 5 rfl; have ef5 := y1.frz 5; have HK3 := hide y1; have s0 : ∀ u, (w3.setCell ⟨g, 5, none⟩ u).cell? ⟨g, 0, none⟩ = some (.int .i64 M) := fun u => (y1.set 5 u).at 0 rfl; have s2 : ∀ u, (w3.setCell ⟨g, 5, none⟩ u).cell? ⟨w.heap.size, 2, none⟩ = some (.int .i64 p.k) := fun u => (y2.kept (gb_setCell _ _ _ _) hne).at 2 rfl; have s3 : ∀ u, (w3.setCell ⟨g, 5, none⟩ u).cell? ⟨w.heap.size, 3, none⟩ = some (.int .i64 p.z) := fun u => (y2.kept (gb_setCell _ _ _ _) hne).at 3 rfl; clear hs3 hb3 y1 y2)
    | fail)
  all_goals go_wp2
  go_end0
  have ht4 := tu_set w3 g 5 (.pointer (some ⟨w2.heap.size, 0, none⟩))
  have hsz : B ≤ w2.heap.size := by have := (unhide HT2).size; omega
  refine ⟨rfl, w2.heap.size, ⟨(unhide HK3).set 5 _, hlo, fun _ => ⟨((unhide HS3).mono hsz).sets (unhide HK3) ht4 (by decide) (by decide) (by decide), unhide HDI⟩, (fun e => by cases e), rfl⟩, ?_, (unhide HT2).size⟩
  exact ((unhide HT2).then (unhide D3)).trans ht4 fun j _ e => e

/-- A panic with a text. -/
def PanP (e : Ending) : Prop := ∃ t, e = .panicked [{ v := .iface 9 (.string t), recovered := false }]
/-- It is let by, or given up for. -/
def AdmP (b : Bool) (e : Ending) : Prop := (b = true → e = .returned (.tuple #[])) ∧ (b = false → PanP e)
theorem AdmP.no {b : Bool} {e : Ending} (h : b = false) (he : PanP e) : AdmP b e := ⟨(fun h2 => by rw [h] at h2; cases h2), fun _ => he⟩
theorem AdmP.yes {b : Bool} {e : Ending} (h : b = true) (he : e = .returned (.tuple #[])) : AdmP b e := ⟨fun _ => he, fun h2 => by rw [h] at h2; cases h2⟩
theorem ck_no {p : PKV} (h : okB p = false) : CkP 1 (CheckP p.o p.l p.k p.z p.h p.r.xs p.r.s.size) := by
  have := okB_ck p
  rw [h] at this
  exact this
theorem ck_yes {p : PKV} (h : okB p = true) : CkP 0 (CheckP p.o p.l p.k p.z p.h p.r.xs p.r.s.size) := by
  have := okB_ck p
  rw [h] at this
  exact this
set_option maxHeartbeats 1000000 in
theorem admit_bad (g : Nat) (p : PKV) (w : World) (hr : RowAt w p.r.a p.r.n p.r.xs) (hp : okB p = false) :
    Calls Tryz.prog 27 #[.pointer (some ⟨g, 0, none⟩), .agg #[.int .i64 p.o, .int .i64 p.l, .int .i64 p.k, .int .i64 p.z, .int .i64 p.h, .slice p.r.a p.r.n p.r.c, .string p.r.s]] w fun e w' => PanP e ∧ Below w.heap.size w w' := by
  have hb0 := alloc_low w (.cells #[.int .i64 p.o, .int .i64 p.l, .int .i64 p.k, .int .i64 p.z, .int .i64 p.h, .slice p.r.a p.r.n p.r.c, .string p.r.s] 31)
  have HC := hide (check_any p.o p.l p.k p.z p.h p.r.a p.r.n p.r.c p.r.xs p.r.s _ (hr.below hb0) 1 (ck_no hp))
  have HB0 := hide hb0
  clear hb0 hr
  go_enter Tryz.func27, Tryz.ntmps27
  go_wp2_with fail
  refine (unhide HC).mono ?_
  rintro e w1 ⟨rfl, hb1⟩
  have HB1 := hide (below0 (unhide HB0) hb1)
  clear hb1 HC HB0
  go_wp2_with fail
  refine (must_no _ _).mono ?_
  rintro e w2 ⟨rfl, hw⟩
  obtain rfl := hw.symm
  go_wp2
  exact ⟨rfl, ⟨_, rfl⟩, unhide HB1⟩
set_option maxHeartbeats 2000000 in
theorem admit_beg (g B : Nat) (M : Int) (s : DS) (gs : Nat) (v : Value) (rs : List RV) (p : PKV) (w : World) (h : DcAt w g B M s gs v rs) (hg : s.bg = true) (hr : RowAt w p.r.a p.r.n p.r.xs) (hp : okB p = true) :
    Calls Tryz.prog 27 #[.pointer (some ⟨g, 0, none⟩), .agg #[.int .i64 p.o, .int .i64 p.l, .int .i64 p.k, .int .i64 p.z, .int .i64 p.h, .slice p.r.a p.r.n p.r.c, .string p.r.s]] w fun e w' => AdmP (alikeB s p) e ∧ Below w.heap.size w w' := by
  have hb0 := alloc_low w (.cells #[.int .i64 p.o, .int .i64 p.l, .int .i64 p.k, .int .i64 p.z, .int .i64 p.h, .slice p.r.a p.r.n p.r.c, .string p.r.s] 31)
  have hx := bkA_new 31 w [.int .i64 p.o, .int .i64 p.l, .int .i64 p.k, .int .i64 p.z, .int .i64 p.h, .slice p.r.a p.r.n p.r.c, .string p.r.s]
  have HC := hide (check_any p.o p.l p.k p.z p.h p.r.a p.r.n p.r.c p.r.xs p.r.s _ (hr.below hb0) 0 (ck_yes hp))
  have hq := h.blk.below hb0
  rw [hg, show ptrD true gs = some ⟨gs, 0, none⟩ from rfl] at hq
  have HAL := hide (show alikeB s p = decide (p.o = s.o ∧ p.l = s.l ∧ p.k = s.k ∧ p.z = s.z) from rfl)
  have heq := eq_obj p.o p.l p.k p.z s.o s.l s.k s.z
  have hE : w.alloc (.cells [.int .i64 p.o, .int .i64 p.l, .int .i64 p.k, .int .i64 p.z, .int .i64 p.h, .slice p.r.a p.r.n p.r.c, .string p.r.s].toArray 31) = w.alloc (.cells #[.int .i64 p.o, .int .i64 p.l, .int .i64 p.k, .int .i64 p.z, .int .i64 p.h, .slice p.r.a p.r.n p.r.c, .string p.r.s] 31) := rfl
  rw [hE] at hx
  clear hE h hr
  generalize hW : w.alloc (.cells #[.int .i64 p.o, .int .i64 p.l, .int .i64 p.k, .int .i64 p.z, .int .i64 p.h, .slice p.r.a p.r.n p.r.c, .string p.r.s] 31) = W at *
  have HX := hide hx
  have HK := hide hq
  have HB0 := hide hb0
  have q0 := hx.at 0 rfl
  have q1 := hx.at 1 rfl
  have q2 := hx.at 2 rfl
  have q3 := hx.at 3 rfl
  have q4 := hx.at 4 rfl
  have q5 := hx.at 5 rfl
  have q6 := hx.at 6 rfl
  clear hx hq hb0
  go_enter Tryz.func27, Tryz.ntmps27
  go_wp2_with fail
  refine (unhide HC).mono ?_
  rintro e w1 ⟨rfl, hb1⟩
  have hk1 := (unhide HK).below hb1
  have hx1 := (unhide HX).below hb1
  have d0 := hk1.at 0 rfl
  have d1 := hk1.at 1 rfl
  have d2 := hk1.at 2 rfl
  have d3 := hk1.at 3 rfl
  have d4 := hk1.at 4 rfl
  have d5 := hk1.at 5 rfl
  have HB1 := hide (below0 (unhide HB0) hb1)
  have HK1 := hide hk1
  have HX1 := hide hx1
  clear hb1 HC HB0 HX HK q0 q1 q2 q3 q4 q5 q6 hk1
  have q0 := hx1.at 0 rfl
  have q1 := hx1.at 1 rfl
  have q2 := hx1.at 2 rfl
  have q3 := hx1.at 3 rfl
  have q4 := hx1.at 4 rfl
  have q5 := hx1.at 5 rfl
  have q6 := hx1.at 6 rfl
  have HQ := hide (fun wx (hb : Below w1.heap.size w1 wx) => show _ ∧ _ from ⟨(unhide HK1).below hb, (unhide HX1).below hb⟩)
  clear hx1
  have hgq : Tryz.prog.eqGuardType Tryz.prog.depth 55 = false := by kernel_rfl
  go_wp2_with (go_at_call 45; refine (must_yes _ _).mono ?_; rintro e w2 ⟨rfl, hw⟩; obtain rfl := hw.symm; clear hw)
  cases hd : decide (p.o = s.o ∧ p.l = s.l ∧ p.k = s.k ∧ p.z = s.z)
  · rw [hd] at heq HAL
    refine wp_region_any (by kernel_rfl) ?_
    change wpAny _ _ _ _ _ _ _ (World.drew _)
    refine wpAny_take (i := 2) (v := ?_) rfl (by kernel_rfl) (by kernel_rfl) (by kernel_rfl) (fun _ _ _ h => h) (Or.inl ⟨by rfl, ?f2⟩) ?_
    case f2 => (intro w; go_simp; try with_reducible rfl)
    refine wpAny_take (i := 3) (v := ?_) rfl (by kernel_rfl) (by kernel_rfl) (by kernel_rfl) (fun _ _ _ h => h) (Or.inl ⟨by rfl, ?f3⟩) ?_
    case f3 => (intro w; go_simp; try with_reducible rfl)
    refine wpAny_take (i := 4) (v := ?_) rfl (by kernel_rfl) (by kernel_rfl) (by kernel_rfl) (fun _ _ _ h => h) (Or.inl ⟨by rfl, ?f4⟩) ?_
    case f4 => (intro w; go_simp; try with_reducible rfl)
    refine wpAny_ready (rs := [0, 5]) (by kernel_rfl) (by simp) ?_
    refine AllReady.cons rfl (fun K hK => ?r1) (AllReady.cons rfl (fun K hK => ?r2) AllReady.nil)
    case r1 =>
      go_simp
      refine hK _ _ ?_
      clear hK K
      refine wpAny_ready (rs := [1, 5]) (by kernel_rfl) (by simp) ?_
      refine AllReady.cons rfl (fun K hK => ?s1) (AllReady.cons rfl (fun K hK => ?s2) AllReady.nil)
      case s1 =>
        go_simp
        refine (obj_any p.o p.l p.k p.z p.h (.slice p.r.a p.r.n p.r.c) (.string p.r.s) _).mono ?_
        rintro e w3 ⟨rfl, hb3⟩
        have D3 := hide (show Below w1.heap.size w1 w3 from below0 (Below.refl _ _).drew hb3)
        obtain ⟨y1, y2⟩ := unhide HQ w3 (unhide D3)
        have e1 := y1.at 1 rfl
        have e2 := y1.at 2 rfl
        have e3 := y1.at 3 rfl
        have e4 := y1.at 4 rfl
        clear hb3 y1 y2
        refine hK _ _ ?_
        clear hK K
        refine wpAny_ready (rs := [5]) (by kernel_rfl) (by simp) ?_
        refine AllReady.cons rfl (fun K hK => ?_) AllReady.nil
        go_simp
        refine hK _ _ ?_
        clear hK K
        refine wpAny_ready (rs := [6]) (by kernel_rfl) (by simp) ?_
        refine AllReady.cons rfl (fun K hK => ?_) AllReady.nil
        go_simp
        refine hK _ _ ?_
        clear hK K
        refine wpAny_ready (rs := [7]) (by kernel_rfl) (by simp) ?_
        refine AllReady.cons rfl (fun K hK => ?_) AllReady.nil
        go_simp
        refine (must_no _ _).mono ?_
        rintro e w4 ⟨rfl, hw⟩
        obtain rfl := hw.symm
        exact ⟨rfl, AdmP.no (unhide HAL) ⟨_, rfl⟩, below0 (unhide HB1) (unhide D3)⟩
      case s2 =>
        go_simp
        refine hK _ _ ?_
        clear hK K
        refine wpAny_ready (rs := [1]) (by kernel_rfl) (by simp) ?_
        refine AllReady.cons rfl (fun K hK => ?_) AllReady.nil
        go_simp
        refine (obj_any p.o p.l p.k p.z p.h (.slice p.r.a p.r.n p.r.c) (.string p.r.s) _).mono ?_
        rintro e w3 ⟨rfl, hb3⟩
        have D3 := hide (show Below w1.heap.size w1 w3 from below0 (Below.refl _ _).drew hb3)
        obtain ⟨y1, y2⟩ := unhide HQ w3 (unhide D3)
        have e1 := y1.at 1 rfl
        have e2 := y1.at 2 rfl
        have e3 := y1.at 3 rfl
        have e4 := y1.at 4 rfl
        clear hb3 y1 y2
        refine hK _ _ ?_
        clear hK K
        refine wpAny_ready (rs := [6]) (by kernel_rfl) (by simp) ?_
        refine AllReady.cons rfl (fun K hK => ?_) AllReady.nil
        go_simp
        refine hK _ _ ?_
        clear hK K
        refine wpAny_ready (rs := [7]) (by kernel_rfl) (by simp) ?_
        refine AllReady.cons rfl (fun K hK => ?_) AllReady.nil
        go_simp
        refine (must_no _ _).mono ?_
        rintro e w4 ⟨rfl, hw⟩
        obtain rfl := hw.symm
        exact ⟨rfl, AdmP.no (unhide HAL) ⟨_, rfl⟩, below0 (unhide HB1) (unhide D3)⟩
    case r2 =>
      go_simp
      refine hK _ _ ?_
      clear hK K
      refine wpAny_ready (rs := [0]) (by kernel_rfl) (by simp) ?_
      refine AllReady.cons rfl (fun K hK => ?_) AllReady.nil
      go_simp
      refine hK _ _ ?_
      clear hK K
      refine wpAny_ready (rs := [1]) (by kernel_rfl) (by simp) ?_
      refine AllReady.cons rfl (fun K hK => ?_) AllReady.nil
      go_simp
      refine (obj_any p.o p.l p.k p.z p.h (.slice p.r.a p.r.n p.r.c) (.string p.r.s) _).mono ?_
      rintro e w3 ⟨rfl, hb3⟩
      have D3 := hide (show Below w1.heap.size w1 w3 from below0 (Below.refl _ _).drew hb3)
      obtain ⟨y1, y2⟩ := unhide HQ w3 (unhide D3)
      have e1 := y1.at 1 rfl
      have e2 := y1.at 2 rfl
      have e3 := y1.at 3 rfl
      have e4 := y1.at 4 rfl
      clear hb3 y1 y2
      refine hK _ _ ?_
      clear hK K
      refine wpAny_ready (rs := [6]) (by kernel_rfl) (by simp) ?_
      refine AllReady.cons rfl (fun K hK => ?_) AllReady.nil
      go_simp
      refine hK _ _ ?_
      clear hK K
      refine wpAny_ready (rs := [7]) (by kernel_rfl) (by simp) ?_
      refine AllReady.cons rfl (fun K hK => ?_) AllReady.nil
      go_simp
      refine (must_no _ _).mono ?_
      rintro e w4 ⟨rfl, hw⟩
      obtain rfl := hw.symm
      exact ⟨rfl, AdmP.no (unhide HAL) ⟨_, rfl⟩, below0 (unhide HB1) (unhide D3)⟩
  · rw [hd] at heq HAL
    go_region_held3 (fun w' => w'.cell? ⟨w.heap.size, 0, none⟩ = some (.int .i64 p.o) ∧ w'.cell? ⟨w.heap.size, 1, none⟩ = some (.int .i64 p.l) ∧ w'.cell? ⟨w.heap.size, 2, none⟩ = some (.int .i64 p.k) ∧ w'.cell? ⟨w.heap.size, 3, none⟩ = some (.int .i64 p.z) ∧ w'.cell? ⟨w.heap.size, 4, none⟩ = some (.int .i64 p.h) ∧ w'.cell? ⟨w.heap.size, 5, none⟩ = some (.slice p.r.a p.r.n p.r.c) ∧ w'.cell? ⟨w.heap.size, 6, none⟩ = some (.string p.r.s) ∧ w'.cell? ⟨g, 1, none⟩ = some (.int .i64 s.o) ∧ w'.cell? ⟨g, 2, none⟩ = some (.int .i64 s.l) ∧ w'.cell? ⟨g, 3, none⟩ = some (.int .i64 s.k) ∧ w'.cell? ⟨g, 4, none⟩ = some (.int .i64 s.z)) (go_keep) (first
      | (go_at_call 48; refine (obj_any p.o p.l p.k p.z p.h (.slice p.r.a p.r.n p.r.c) (.string p.r.s) _).mono ?_; rintro e w3 ⟨rfl, hb3⟩; have D3 := hide (show Below w1.heap.size w1 w3 from below0 (Below.refl _ _).drew hb3); obtain ⟨y1, y2⟩ := unhide HQ w3 (unhide D3); have r0 := y2.at 0 rfl; have r1 := y2.at 1 rfl; have r2 := y2.at 2 rfl; have r3 := y2.at 3 rfl; have r4 := y2.at 4 rfl; have r5 := y2.at 5 rfl; have r6 := y2.at 6 rfl; have e1 := y1.at 1 rfl; have e2 := y1.at 2 rfl; have e3 := y1.at 3 rfl; have e4 := y1.at 4 rfl; clear hb3 y1 y2)
      | (go_at_call 45; refine (must_yes _ _).mono ?_; rintro e w4 ⟨rfl, hw⟩; obtain rfl := hw.symm; clear hw)
      | fail)
    all_goals (try go_wp2)
    all_goals go_end0
    all_goals exact ⟨AdmP.yes (unhide HAL) rfl, below0 (unhide HB1) (unhide D3)⟩
end Go.Proofs.YtnjdldbdkafnaaaGreatDoor
