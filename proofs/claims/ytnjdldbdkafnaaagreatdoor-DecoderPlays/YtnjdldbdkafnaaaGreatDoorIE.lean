/-
  Contracts of bucketlineref15.Cap, New, Put.
-/
import Derived.Test.YtnjdldbdkafnaaaGreatDoorU34
import Derived.Laws.OwnMore
namespace Go.Proofs.YtnjdldbdkafnaaaGreatDoor
open Go.RowKit Go.Sort
set_option linter.unusedVariables false
set_option linter.unusedSimpArgs false
set_option maxRecDepth 4000

theorem below5 {B : Nat} {a w : World} (h : Below B a w) {g : Nat} (hg : B ≤ g) (u0 u1 u2 u3 u4 : Value) : Below B a (((((w.setCell ⟨g, 0, none⟩ u0).setCell ⟨g, 1, none⟩ u1).setCell ⟨g, 2, none⟩ u2).setCell ⟨g, 3, none⟩ u3).setCell ⟨g, 4, none⟩ u4) :=
  ((((h.setCell (p := ⟨g, 0, none⟩) hg u0).setCell (p := ⟨g, 1, none⟩) hg u1).setCell (p := ⟨g, 2, none⟩) hg u2).setCell (p := ⟨g, 3, none⟩) hg u3).setCell (p := ⟨g, 4, none⟩) hg u4
theorem results_rnew15 {tmps : Array Value} {W : World} {g : Nat} {u0 u1 u2 u3 u4 : Value} (h2 : tmps.getD 6 undef = .pointer (some ⟨g, 0, none⟩)) (hq : Bk5 34 W g u0 u1 u2 u3 u4) :
    (results Tryz.f22 tmps).run Tryz.prog W = .ok (.agg #[u0, u1, u2, u3, u4]) W := by
  obtain ⟨k0, k1, k2, k3, k4⟩ := hq.at
  have h2' : tmps[6]?.getD undef = .pointer (some ⟨g, 0, none⟩) := by simpa using h2
  simp [results, Tryz.results22, go_sem, h2', k0, k1, k2, k3, k4]
set_option maxHeartbeats 400000 in
theorem rnew15_any (k z n : Int) (w : World) :
    Calls Tryz.prog 22 #[.int .i64 k, .int .i64 z, .int .i64 n] w fun e w' => e = .returned (.agg #[.int .i64 k, .int .i64 z, .int .i64 (capN n : Int), .slice none 0 0, .bool false]) ∧ Below w.heap.size w w' := by
  have hx := bk5_new 34 w (.int .i64 0) (.int .i64 0) (.int .i64 0) (.slice none 0 0) (.bool false)
  have HX := hide hx
  obtain ⟨k0, k1, k2, k3, k4⟩ := hx.at
  have f0 := hx.frz 0
  have f1 := hx.frz 1
  have f2 := hx.frz 2
  have f3 := hx.frz 3
  have f4 := hx.frz 4
  have HC := hide (rcap_any n)
  clear hx
  go_enter Tryz.func22, Tryz.ntmps22
  go_wp2_with (go_at_call 42; refine (unhide HC _).mono ?_; rintro e w1 ⟨rfl, hw⟩; obtain rfl := hw.symm; clear hw)
  exact bodyPost_ret (results_rnew15 rfl (bk5_new _ _ _ _ _ _ _)) rfl ⟨rfl, (Below.refl _ _).alloc (Nat.le_refl _) _⟩

/-- What the reference keeps behind a put. -/
def rputR (k z : Int) (m : Nat) (ts : List RV) (r : RV) : List RV := if fitB k z (core r) = true ∧ ts.length < m then ts ++ [r] else ts
/-- A slice of rows of one's own: nil, if there is none. -/
def NilS (v : Value) (ts : List RV) : Prop := (ts = [] ∧ v = .slice none 0 0) ∨ ∃ g cap, v = .slice (some ⟨g, 0, none⟩) ts.length cap ∧ 0 < ts.length
theorem results_rput {tmps : Array Value} {W : World} {g : Nat} {x : Int} {u0 u1 u2 u3 u4 : Value} (h2 : tmps.getD 4 undef = .pointer (some ⟨g, 0, none⟩)) (h3 : tmps.getD 5 undef = .int .i64 x) (hq : Bk5 34 W g u0 u1 u2 u3 u4) :
    (results Tryz.f23 tmps).run Tryz.prog W = .ok (.tuple #[.agg #[u0, u1, u2, u3, u4], .int .i64 x]) W := by
  obtain ⟨k0, k1, k2, k3, k4⟩ := hq.at
  have h2' : tmps[4]?.getD undef = .pointer (some ⟨g, 0, none⟩) := by simpa using h2
  have h3' : tmps[5]?.getD undef = .int .i64 x := by simpa using h3
  simp [results, Tryz.results23, go_sem, h2', h3', k0, k1, k2, k3, k4]
/-- What is turned in a block that is not there yet is no slice of rows. -/
theorem OwnS.set5 {w : World} {B g : Nat} {v : Value} {rs : List RV} (h : OwnS w B v rs) (hv : v.ownBlock ≠ some g) (u0 u1 u2 u3 u4 : Value) : OwnS (((((w.setCell ⟨g, 0, none⟩ u0).setCell ⟨g, 1, none⟩ u1).setCell ⟨g, 2, none⟩ u2).setCell ⟨g, 3, none⟩ u3).setCell ⟨g, 4, none⟩ u4) B v rs := by
  have hk : ∀ (w1 : World) (i : Nat) (u : Value), OwnS w1 B v rs → OwnS (w1.setCell ⟨g, i, none⟩ u) B v rs := fun w1 i u h1 => World.ownsRow.kept h1 (gb_setCell w1 g i u) (.inr hv)
  exact hk _ _ _ (hk _ _ _ (hk _ _ _ (hk _ _ _ (hk _ _ _ h))))
def RputP (w w' : World) (B : Nat) (k z : Int) (m : Nat) (v : Value) (ts : List RV) (ov : Bool) (r : RV) (e : Ending) : Prop :=
  ∃ v', e = .returned (.tuple #[.agg #[.int .i64 k, .int .i64 z, .int .i64 (m : Int), v', .bool (putO k z m (ts.map core) ov (core r))], .int .i64 (putE k z m (ts.map core) (core r))]) ∧ NilS v' (rputR k z m ts r) ∧ OwnS w' B v' (rputR k z m ts r) ∧ Below w.heap.size w w' ∧ (v' = v ∨ ∀ j, v'.ownBlock = some j → w.heap.size ≤ j)
theorem rput_no {k z : Int} {m : Nat} {ts : List RV} {r : RV} (h : fitB k z (core r) = false) : rputR k z m ts r = ts := by unfold rputR; simp [h]
theorem rput_in {k z : Int} {m : Nat} {ts : List RV} {r : RV} (h : fitB k z (core r) = true) (hl : ts.length < m) : rputR k z m ts r = ts ++ [r] := by unfold rputR; simp [h, hl]
theorem rput_full {k z : Int} {m : Nat} {ts : List RV} {r : RV} (h : fitB k z (core r) = true) (hl : ¬ ts.length < m) : rputR k z m ts r = ts := by unfold rputR; rw [if_neg (fun q => hl q.2)]

theorem row_kept {W w1 : World} {o : Obj} (hg : (W.drew.alloc o).grownBy w1 none) : w1.heap[W.drew.heap.size]? = some o :=
  (hg.block W.drew.heap.size (by rw [alloc_size]; exact Nat.lt_succ_self _) (fun e => by cases e)).trans (heap_alloc_new _ _)
set_option maxHeartbeats 4000000 in
theorem rput_any (B : Nat) (k z : Int) (m : Nat) (v : Value) (ts : List RV) (ov : Bool) (r : RV) (w : World) (hv : NilS v ts) (ho : OwnS w B v ts) (hB : B ≤ w.heap.size) (hr : RowAt w r.a r.n r.xs) (hn : r.n ≤ 10) (hs : r.s.size ≤ 1000) (hl : ts.length ≤ 256) (hm : m ≤ 256) :
    Calls Tryz.prog 23 #[.agg #[.int .i64 k, .int .i64 z, .int .i64 (m : Int), v, .bool ov], .agg #[.slice r.a r.n r.c, .string r.s]] w fun e w' => RputP w w' B k z m v ts ov r e := by
  obtain ⟨av, cv, hve⟩ := ho.shape
  obtain rfl := hve
  have HNV := hide hv
  clear hv
  have hb1 : Below w.heap.size w (w.alloc (.cells #[.int .i64 k, .int .i64 z, .int .i64 (m : Int), .slice av ts.length cv, .bool ov] 34)) := (Below.refl _ _).alloc (Nat.le_refl _) _
  have hx1 := bk5_new 34 w (.int .i64 k) (.int .i64 z) (.int .i64 (m : Int)) (.slice av ts.length cv) (.bool ov)
  have hz1 := alloc_size w (.cells #[.int .i64 k, .int .i64 z, .int .i64 (m : Int), .slice av ts.length cv, .bool ov] 34)
  generalize hW1 : w.alloc (.cells #[.int .i64 k, .int .i64 z, .int .i64 (m : Int), .slice av ts.length cv, .bool ov] 34) = W1 at *
  have hb2 : Below W1.heap.size W1 (W1.alloc (.cells #[.slice r.a r.n r.c, .string r.s] 29)) := (Below.refl _ _).alloc (Nat.le_refl _) _
  have hx2 := box_new W1 (.slice r.a r.n r.c) (.string r.s)
  have hz2 := alloc_size W1 (.cells #[.slice r.a r.n r.c, .string r.s] 29)
  generalize hW2 : W1.alloc (.cells #[.slice r.a r.n r.c, .string r.s] 29) = W2 at *
  have hb3 : Below W2.heap.size W2 (W2.alloc (.cells #[.int .i64 0, .int .i64 0, .int .i64 0, .slice none 0 0, .bool false] 34)) := (Below.refl _ _).alloc (Nat.le_refl _) _
  have hx3 := bk5_new 34 W2 (.int .i64 0) (.int .i64 0) (.int .i64 0) (.slice none 0 0) (.bool false)
  have hz3 := alloc_size W2 (.cells #[.int .i64 0, .int .i64 0, .int .i64 0, .slice none 0 0, .bool false] 34)
  generalize hW3 : W2.alloc (.cells #[.int .i64 0, .int .i64 0, .int .i64 0, .slice none 0 0, .bool false] 34) = W at *
  have hb := below0 (below0 hb1 hb2) hb3
  have hy1 := (hx1.below hb2).below hb3
  have hy2 := hx2.below hb3
  have HZ := hide (show W1.heap.size = w.heap.size + 1 ∧ W2.heap.size = w.heap.size + 2 ∧ W.heap.size = w.heap.size + 3 from ⟨hz1, by rw [hz2, hz1], by rw [hz3, hz2, hz1]⟩)
  have hrr := hr.below hb
  have HV := hide (rvalid_any r.a r.n r.c r.xs k W hrr)
  have HCN := hide (rcount_any r.a r.n r.c r.xs W hrr (by omega))
  have HX1 := hide hy1
  have HX3 := hide hx3
  obtain ⟨k0, k1, k2, k3, k4⟩ := hy1.at
  obtain ⟨c0, c1⟩ := hy2
  obtain ⟨j0, j1, j2, j3, j4⟩ := hx3.at
  have f0 := hx3.frz 0
  have f1 := hx3.frz 1
  have f2 := hx3.frz 2
  have f3 := hx3.frz 3
  have f4 := hx3.frz 4
  have e4 := hy1.frz 4
  have HB := hide hb
  have HO := hide (ho.below hb)
  have HNB := hide (show (Value.slice av ts.length cv).ownBlock ≠ some W2.heap.size from fun e => by
    have := (World.ownsRow.lt ho _ e).2
    omega)
  have HNA := hide (show (Value.slice av ts.length cv).ownBlock ≠ some w.heap.size from fun e => by
    have := (World.ownsRow.lt ho _ e).2
    omega)
  have hfit : fitB k z (core r) = (validB k r.xs && decide (0 < cnt r.xs) && decide ((r.s.size : Int) = z)) := rfl
  clear hr hrr hb1 hb2 hb3 hx1 hx2 hx3 hy1 hb hz1 hz2 hz3 ho
  go_enter Tryz.func23, Tryz.ntmps23
  have V1 := hide (show ∀ e, RetB e (ValidP k r.xs) → e = .returned (.bool (validB k r.xs)) from fun e h => retV h)
  generalize validB k r.xs = VB at *
  generalize hNN : cnt r.xs = N at *
  cases hv0 : VB
  · have HF := hide (show fitB k z (core r) = false by rw [hfit, hv0]; rfl)
    subst hv0
    go_wp2_with (first | (go_at_call 37; refine (unhide HV).mono ?_; rintro e w1 ⟨he, hw⟩; obtain rfl := hw.symm; obtain rfl := unhide V1 _ he; clear hw he) | (go_at_call 38; refine (unhide HCN).mono ?_; rintro e w1 ⟨rfl, hw⟩; obtain rfl := hw.symm; clear hw))
    obtain ⟨p1, -, p3⟩ := put_no (m := m) (L := ts.map core) (unhide HF)
    refine bodyPost_ret (results_rput rfl rfl ((unhide HX3).sets (.int .i64 k) (.int .i64 z) (.int .i64 (m : Int)) (.slice av ts.length cv) (.bool ov))) rfl ?_
    refine ⟨.slice av ts.length cv, by rw [p1, p3], ?_, ?_, below5 (unhide HB) (by have := unhide HZ; omega) _ _ _ _ _, .inl rfl⟩
    · rw [rput_no (unhide HF)]; exact unhide HNV
    · rw [rput_no (unhide HF)]
      exact OwnS.set5 (unhide HO) (unhide HNB) _ _ _ _ _
  subst hv0
  by_cases h0 : N = 0
  · have HF := hide (show fitB k z (core r) = false by rw [hfit, h0]; rfl)
    subst h0
    go_wp2_with (first | (go_at_call 37; refine (unhide HV).mono ?_; rintro e w1 ⟨he, hw⟩; obtain rfl := hw.symm; obtain rfl := unhide V1 _ he; clear hw he) | (go_at_call 38; refine (unhide HCN).mono ?_; rintro e w1 ⟨rfl, hw⟩; obtain rfl := hw.symm; clear hw))
    obtain ⟨p1, -, p3⟩ := put_no (m := m) (L := ts.map core) (unhide HF)
    refine bodyPost_ret (results_rput rfl rfl ((unhide HX3).sets (.int .i64 k) (.int .i64 z) (.int .i64 (m : Int)) (.slice av ts.length cv) (.bool ov))) rfl ?_
    refine ⟨.slice av ts.length cv, by rw [p1, p3], ?_, ?_, below5 (unhide HB) (by have := unhide HZ; omega) _ _ _ _ _, .inl rfl⟩
    · rw [rput_no (unhide HF)]; exact unhide HNV
    · rw [rput_no (unhide HF)]
      exact OwnS.set5 (unhide HO) (unhide HNB) _ _ _ _ _
  have hd0 : ((N : Int) == 0) = false := by rw [beq_eq_false_iff_ne]; omega
  by_cases h1 : (r.s.size : Int) = z
  case neg =>
    have HF := hide (show fitB k z (core r) = false by rw [hfit, decide_eq_false h1, Bool.and_false])
    have d1 : ((r.s.size : Int) == z) = false := by rw [beq_eq_false_iff_ne]; exact h1
    have d2 : ((r.s.size : Int) != z) = true := by rw [bne, d1]; rfl
    have d3 : decide ((r.s.size : Int) = z) = false := decide_eq_false h1
    go_wp2_with (first | (go_at_call 37; refine (unhide HV).mono ?_; rintro e w1 ⟨he, hw⟩; obtain rfl := hw.symm; obtain rfl := unhide V1 _ he; clear hw he) | (go_at_call 38; refine (unhide HCN).mono ?_; rintro e w1 ⟨rfl, hw⟩; obtain rfl := hw.symm; clear hw))
    obtain ⟨p1, -, p3⟩ := put_no (m := m) (L := ts.map core) (unhide HF)
    refine bodyPost_ret (results_rput rfl rfl ((unhide HX3).sets (.int .i64 k) (.int .i64 z) (.int .i64 (m : Int)) (.slice av ts.length cv) (.bool ov))) rfl ?_
    refine ⟨.slice av ts.length cv, by rw [p1, p3], ?_, ?_, below5 (unhide HB) (by have := unhide HZ; omega) _ _ _ _ _, .inl rfl⟩
    · rw [rput_no (unhide HF)]; exact unhide HNV
    · rw [rput_no (unhide HF)]
      exact OwnS.set5 (unhide HO) (unhide HNB) _ _ _ _ _
  have HF := hide (show fitB k z (core r) = true by rw [hfit, decide_eq_true h1, decide_eq_true (show 0 < N by omega)]; rfl)
  have d1 : ((r.s.size : Int) == z) = true := by rw [beq_iff_eq]; exact h1
  have d2 : ((r.s.size : Int) != z) = false := by rw [bne, d1]; rfl
  have HLM := hide (show (ts.map core).length = ts.length from List.length_map core)
  by_cases hlm : ts.length < m
  case neg =>
    have d5 : decide ((m : Int) ≤ (ts.length : Int)) = true := by rw [decide_eq_true_iff]; omega
    have hXk := (unhide HX1).set4 (.bool true)
    have hXr := (unhide HX3).kept (gb_setCell W w.heap.size 4 (.bool true)) (fun e => by have := Option.some.inj e; have := unhide HZ; omega)
    have HOX := hide (World.ownsRow.kept (unhide HO) (gb_setCell W w.heap.size 4 (.bool true)) (.inr (unhide HNA)))
    have HBX := hide ((unhide HB).setCell (p := ⟨w.heap.size, 4, none⟩) (Nat.le_refl _) (.bool true))
    generalize hXe : W.setCell ⟨w.heap.size, 4, none⟩ (.bool true) = X at *
    have HXr := hide hXr
    obtain ⟨x0, x1, x2, x3, x4⟩ := hXk.at
    obtain ⟨y0, y1, y2, y3, y4⟩ := hXr.at
    have g0 := hXr.frz 0
    have g1 := hXr.frz 1
    have g2 := hXr.frz 2
    have g3 := hXr.frz 3
    have g4 := hXr.frz 4
    clear hXk hXr j0 j1 j2 j3 j4 f0 f1 f2 f3 f4 HX1 HX3
    go_wp2_with (first | (go_at_call 37; refine (unhide HV).mono ?_; rintro e w1 ⟨he, hw⟩; obtain rfl := hw.symm; obtain rfl := unhide V1 _ he; clear hw he) | (go_at_call 38; refine (unhide HCN).mono ?_; rintro e w1 ⟨rfl, hw⟩; obtain rfl := hw.symm; clear hw))
    obtain ⟨p1, -, p3⟩ := put_full (m := m) (L := ts.map core) (unhide HF) (by rw [unhide HLM]; exact hlm)
    refine bodyPost_ret (results_rput rfl rfl ((unhide HXr).sets (.int .i64 k) (.int .i64 z) (.int .i64 (m : Int)) (.slice av ts.length cv) (.bool true))) rfl ?_
    refine ⟨.slice av ts.length cv, by rw [p1, p3], ?_, ?_, below5 (unhide HBX) (by have := unhide HZ; omega) _ _ _ _ _, .inl rfl⟩
    · rw [rput_full (unhide HF) hlm]; exact unhide HNV
    · rw [rput_full (unhide HF) hlm]
      exact OwnS.set5 (unhide HOX) (unhide HNB) _ _ _ _ _
  have d5 : decide ((m : Int) ≤ (ts.length : Int)) = false := by rw [decide_eq_false_iff_not]; omega
  have HBA : Hid (Below W.heap.size W (W.drew.alloc (.cells #[.slice r.a r.n r.c, .string r.s] 29))) := hide ((Below.refl _ _).drew.alloc (Nat.le_refl _) _)
  clear j0 j1 j2 j3 j4 f0 f1 f2 f3 f4 e4
  rcases unhide HNV with ⟨hts, hnil⟩ | ⟨gv, cv', hnil, hpos⟩
  · subst hts
    simp only [Value.slice.injEq] at hnil
    obtain ⟨rfl, -, rfl⟩ := hnil
    simp only [List.length_nil] at *
    have hap : ∀ (ty : TypeId) (wx : World), (Builtin.append_ #[32, 32] ty #[.slice none 0 0, .slice none 0 0]).run Tryz.prog wx = .ok (.slice none 0 0) wx := fun ty wx => by
      obtain ⟨i0, hi, hz0, hz1, hz2⟩ := info_parts info_rowZ
      exact run_append_owned_none (P := Tryz.prog) (w := wx) 0 32 ty 29 i0 2 Tryz.underlying32 hi (.slice none 0 0) 0 [] (World.ownsRow_nil _ _ _ _)
    have ka3 := ((unhide HX1).below ((Below.refl _ W).alloc (Nat.le_refl _) (.cells #[.slice r.a r.n r.c, .string r.s] 29))).at.2.2.2.1
    have HRW := hide (heap_alloc_new W.drew (.cells #[.slice r.a r.n r.c, .string r.s] 29))
    go_wp2_with (first | (go_at_call 37; refine (unhide HV).mono ?_; rintro e w1 ⟨he, hw⟩; obtain rfl := hw.symm; obtain rfl := unhide V1 _ he; clear hw he) | (go_at_call 38; refine (unhide HCN).mono ?_; rintro e w1 ⟨rfl, hw⟩; obtain rfl := hw.symm; clear hw))
    go_region_law (first | (refine append_stepR (by rfl) (.tmp 37) (.tmp 39) (by rfl) W.heap.size (.slice none 0 0) [] r (by rfl) (OwnS.nil _ _) W.drew.heap.size (by rfl) (unhide HRW) (Nat.zero_le _) (unhide HBA).size ?_; intro g2 cap w2 ho2 hg2 hat; have D2 := hide (show Below W.heap.size W w2 from below0 (unhide HBA) (gb_below hg2 (Nat.le_refl _) (fun k hk => by cases hk))); have HO2 := hide ho2; have hk2 := (unhide HX1).below (unhide D2); obtain ⟨-, -, -, u3, -⟩ := hk2.at; have uf := hk2.frz 3; clear ho2 hg2 hat hk2) | fail)
    all_goals (have hYk := ((unhide HX1).below (unhide D2)).set3 (.slice (some ⟨g2, 0, none⟩) (0 + 1) cap); have hYr := ((unhide HX3).below (unhide D2)).kept (gb_setCell w2 w.heap.size 3 (.slice (some ⟨g2, 0, none⟩) (0 + 1) cap)) (fun e => by have := Option.some.inj e; have := unhide HZ; omega); have hg2W := (World.ownsRow.lt (unhide HO2) g2 rfl).1; have HNW2 : Hid ((Value.slice (some ⟨g2, 0, none⟩) (0 + 1) cap).ownBlock ≠ some W2.heap.size) := hide (fun e => by have : g2 = W2.heap.size := Option.some.inj e; have := unhide HZ; omega); have HOY := hide (World.ownsRow.kept (unhide HO2) (gb_setCell w2 w.heap.size 3 (.slice (some ⟨g2, 0, none⟩) (0 + 1) cap)) (.inr (fun e => by have : g2 = w.heap.size := Option.some.inj e; have := unhide HZ; omega))); have HBY := hide ((below0 (unhide HB) (unhide D2)).setCell (p := ⟨w.heap.size, 3, none⟩) (Nat.le_refl _) (.slice (some ⟨g2, 0, none⟩) (0 + 1) cap)); generalize hYe : w2.setCell ⟨w.heap.size, 3, none⟩ (.slice (some ⟨g2, 0, none⟩) (0 + 1) cap) = Y at *; have HYr := hide hYr; obtain ⟨x0, x1, x2, x3, x4⟩ := hYk.at; obtain ⟨y0, y1, y2, y3, y4⟩ := hYr.at; have g00 := hYr.frz 0; have g01 := hYr.frz 1; have g02 := hYr.frz 2; have g03 := hYr.frz 3; have g04 := hYr.frz 4; clear hYk hYr hg2W)
    all_goals go_wp2
    all_goals (obtain ⟨p1, -, p3⟩ := put_in (m := m) (L := ([]).map core) (unhide HF) (by rw [List.length_map]; exact hlm); refine bodyPost_ret (results_rput rfl rfl ((unhide HYr).sets (.int .i64 k) (.int .i64 z) (.int .i64 (m : Int)) (.slice (some ⟨g2, 0, none⟩) (0 + 1) cap) (.bool ov))) rfl ?_; refine ⟨.slice (some ⟨g2, 0, none⟩) (0 + 1) cap, by rw [p1, p3], ?_, ?_, below5 (unhide HBY) (by have := unhide HZ; omega) _ _ _ _ _, .inr (fun j hj => Nat.le_trans (unhide HB).size (World.ownsRow.lt (unhide HOY) j hj).1)⟩)
    all_goals rw [rput_in (unhide HF) hlm]
    all_goals first
      | exact .inr ⟨g2, cap, by rw [List.length_append]; rfl, by rw [List.length_append]; exact Nat.succ_pos _⟩
      | exact OwnS.mono (OwnS.set5 (unhide HOY) (unhide HNW2) _ _ _ _ _) (Nat.le_trans hB (unhide HB).size)
  · simp only [Value.slice.injEq, true_and] at hnil
    obtain ⟨rfl, rfl⟩ := hnil
    have ka3 := ((unhide HX1).below ((Below.refl _ W).alloc (Nat.le_refl _) (.cells #[.slice r.a r.n r.c, .string r.s] 29))).at.2.2.2.1
    have HRW := hide (heap_alloc_new W.drew (.cells #[.slice r.a r.n r.c, .string r.s] 29))
    have HLN : Hid (ts.length ≤ 1000000) := hide (by omega)
    have HL0 : Hid (([] : List RV).length + ts.length ≤ 1000000) := hide (by rw [List.length_nil]; omega)
    have HN1 := hide (show ∀ j u, (cellsR ts)[j]? = some u → W.drew.cell? ((⟨gv, 0, none⟩ : Addr).add j) = some u from fun j u hu => World.ownsRow.cells (unhide HO) (g := gv) rfl j u hu)
    have HN2 := hide (show ∀ j u, (cellsR ts)[j]? = some u → (W.drew.alloc (.cells #[.slice r.a r.n r.c, .string r.s] 29)).cell? ((⟨gv, 0, none⟩ : Addr).add j) = some u from fun j u hu => World.ownsRow.cells ((unhide HO).below (unhide HBA)) (g := gv) rfl j u hu)
    go_wp2_with (first | (go_at_call 37; refine (unhide HV).mono ?_; rintro e w1 ⟨he, hw⟩; obtain rfl := hw.symm; obtain rfl := unhide V1 _ he; clear hw he) | (go_at_call 38; refine (unhide HCN).mono ?_; rintro e w1 ⟨rfl, hw⟩; obtain rfl := hw.symm; clear hw))
    go_region_law (first | (refine append_regionR (by rfl) (.const (.slice none 0 0)) (.tmp 36) (by rfl) W.heap.size (.slice none 0 0) [] (by rfl) (OwnS.nil _ _) ⟨gv, 0, none⟩ ts.length cv ts (by rfl) rfl (by first | exact unhide HN1 | exact unhide HN2) (unhide HL0) (by first | exact Nat.le_refl _ | exact (unhide HBA).size) ?_; intro v1 w1 ho1 hg1; rw [List.nil_append] at ho1; have D1 := hide (show Below W.heap.size W w1 from below0 (by first | exact (Below.refl _ _).drew | exact unhide HBA) (gb_below hg1 (Nat.le_refl _) (fun k hk => by cases hk))); have HOB := hide ho1; have HOA := hide (ho1.below ((Below.refl _ w1).alloc (Nat.le_refl _) (.cells #[.slice r.a r.n r.c, .string r.s] 29))); have HRA := hide (heap_alloc_new w1 (.cells #[.slice r.a r.n r.c, .string r.s] 29)); have HDA := hide (show Below W.heap.size W (w1.alloc (.cells #[.slice r.a r.n r.c, .string r.s] 29)) from (unhide D1).alloc (unhide D1).size _); (first | (have HRB := hide (row_kept (W := W) (o := (.cells #[.slice r.a r.n r.c, .string r.s] 29)) hg1)) | skip); have t0 := ((unhide D1).cell (World.block_lt_of_cell? W _ c0)).trans c0; have t1 := ((unhide D1).cell (World.block_lt_of_cell? W _ c1)).trans c1; clear ho1 hg1) | (refine append_stepR (by rfl) (.tmp 37) (.tmp 39) (by rfl) W.heap.size v1 ts r (by rfl) (unhide HOA) w1.heap.size (by rfl) (unhide HRA) (unhide HLN) (unhide HDA).size ?_; intro g2 cap w2 ho2 hg2 hat; have D2 := hide (show Below W.heap.size W w2 from (unhide HDA).trans (gb_below hg2 (unhide HDA).size (fun k hk => (World.ownsRow.lt (unhide HOA) k hk).1))); have HO2 := hide ho2; have hk2 := (unhide HX1).below (unhide D2); obtain ⟨-, -, -, u3, -⟩ := hk2.at; have uf := hk2.frz 3; clear ho2 hg2 hat hk2) | (refine append_stepR (by rfl) (.tmp 37) (.tmp 39) (by rfl) W.heap.size v1 ts r (by rfl) (unhide HOB) W.drew.heap.size (by rfl) (unhide HRB) (unhide HLN) (unhide D1).size ?_; intro g2 cap w2 ho2 hg2 hat; have D2 := hide (show Below W.heap.size W w2 from (unhide D1).trans (gb_below hg2 (unhide D1).size (fun k hk => (World.ownsRow.lt (unhide HOB) k hk).1))); have HO2 := hide ho2; have hk2 := (unhide HX1).below (unhide D2); obtain ⟨-, -, -, u3, -⟩ := hk2.at; have uf := hk2.frz 3; clear ho2 hg2 hat hk2) | fail)
    all_goals (have hYk := ((unhide HX1).below (unhide D2)).set3 (.slice (some ⟨g2, 0, none⟩) (ts.length + 1) cap); have hYr := ((unhide HX3).below (unhide D2)).kept (gb_setCell w2 w.heap.size 3 (.slice (some ⟨g2, 0, none⟩) (ts.length + 1) cap)) (fun e => by have := Option.some.inj e; have := unhide HZ; omega); have hg2W := (World.ownsRow.lt (unhide HO2) g2 rfl).1; have HNW2 : Hid ((Value.slice (some ⟨g2, 0, none⟩) (ts.length + 1) cap).ownBlock ≠ some W2.heap.size) := hide (fun e => by have : g2 = W2.heap.size := Option.some.inj e; have := unhide HZ; omega); have HOY := hide (World.ownsRow.kept (unhide HO2) (gb_setCell w2 w.heap.size 3 (.slice (some ⟨g2, 0, none⟩) (ts.length + 1) cap)) (.inr (fun e => by have : g2 = w.heap.size := Option.some.inj e; have := unhide HZ; omega))); have HBY := hide ((below0 (unhide HB) (unhide D2)).setCell (p := ⟨w.heap.size, 3, none⟩) (Nat.le_refl _) (.slice (some ⟨g2, 0, none⟩) (ts.length + 1) cap)); generalize hYe : w2.setCell ⟨w.heap.size, 3, none⟩ (.slice (some ⟨g2, 0, none⟩) (ts.length + 1) cap) = Y at *; have HYr := hide hYr; obtain ⟨x0, x1, x2, x3, x4⟩ := hYk.at; obtain ⟨y0, y1, y2, y3, y4⟩ := hYr.at; have g00 := hYr.frz 0; have g01 := hYr.frz 1; have g02 := hYr.frz 2; have g03 := hYr.frz 3; have g04 := hYr.frz 4; clear hYk hYr hg2W)
    all_goals go_wp2
    all_goals (obtain ⟨p1, -, p3⟩ := put_in (m := m) (L := ts.map core) (unhide HF) (by rw [List.length_map]; exact hlm); refine bodyPost_ret (results_rput rfl rfl ((unhide HYr).sets (.int .i64 k) (.int .i64 z) (.int .i64 (m : Int)) (.slice (some ⟨g2, 0, none⟩) (ts.length + 1) cap) (.bool ov))) rfl ?_; refine ⟨.slice (some ⟨g2, 0, none⟩) (ts.length + 1) cap, by rw [p1, p3], ?_, ?_, below5 (unhide HBY) (by have := unhide HZ; omega) _ _ _ _ _, .inr (fun j hj => Nat.le_trans (unhide HB).size (World.ownsRow.lt (unhide HOY) j hj).1)⟩)
    all_goals rw [rput_in (unhide HF) hlm]
    all_goals first
      | exact .inr ⟨g2, cap, by rw [List.length_append]; rfl, by rw [List.length_append]; exact Nat.succ_pos _⟩
      | exact OwnS.mono (OwnS.set5 (unhide HOY) (unhide HNW2) _ _ _ _ _) (Nat.le_trans hB (unhide HB).size)
end Go.Proofs.YtnjdldbdkafnaaaGreatDoor
