/-
  Contracts of buffer.New, Len, Clear, copyOf, objectOf, rows, degrees.
-/
import Derived.Test.YtbcgiodgobmkaaaGreatDoorUD
namespace Go.Proofs.YtbcgiodgobmkaaaGreatDoor
open Go.RowKit Go.Sort
set_option linter.unusedVariables false
set_option linter.unusedSimpArgs false
set_option maxRecDepth 4000

theorem bunew_any (n : Int) (w : World) :
    Calls Tryz.prog 23 #[.int .i64 n] w fun e w' => e = .returned (.pointer (some ⟨w.heap.size, 0, none⟩)) ∧ BfAt w' w.heap.size w.heap.size (capN n) (.slice none 0 0) [] ∧ Below w.heap.size w w' := by
  have h1 := max_run n
  have h2 := cap_run n
  go_enter Tryz.func23, Tryz.ntmps23
  go_wp2
  go_ret
  exact ⟨rfl, bf_new w (capN n) (capN_le n), (Below.refl _ _).alloc (Nat.le_refl _) _⟩
theorem bulen_any (g B m : Nat) (v : Value) (ps : List PKV) (w : World) (h : BfAt w g B m v ps) :
    Calls Tryz.prog 126 #[.pointer (some ⟨g, 0, none⟩)] w fun e w' => e = .returned (.int .i64 (ps.length : Int)) ∧ w' = w := by
  obtain ⟨a, c, rfl, -, -, -⟩ := h.at
  obtain ⟨h0, h1⟩ := h.cells (Below.refl _ _)
  clear h
  go_enter Tryz.func126, Tryz.ntmps126
  go_wp2
  go_ret
  exact ⟨rfl, rfl⟩
theorem buclear_any (g B m : Nat) (v : Value) (ps : List PKV) (w : World) (h : BfAt w g B m v ps) :
    Calls Tryz.prog 125 #[.pointer (some ⟨g, 0, none⟩)] w fun e w' => e = .returned (.tuple #[]) ∧ BfAt w' g B m (.slice none 0 0) [] ∧ Tu (bfF g v) w w' := by
  obtain ⟨h0, h1⟩ := h.cells (Below.refl _ _)
  have f1 := h.blk.frz 1
  have HS := hide (h.puts (w1 := w) (v1 := .slice none 0 0) (ps1 := []) (Tu.refl _ _) (OwnP.nil _ _) (OwnKs.nil _ _) (BInv.nil _) (.inr fun j hj => by cases hj))
  clear h
  go_enter Tryz.func125, Tryz.ntmps125
  go_wp2
  go_end0
  exact ⟨rfl, unhide HS⟩
theorem bobj_any (p : PKV) (w : World) :
    Calls Tryz.prog 141 #[p.val] w fun e w' => e = .returned (.agg #[.int .i64 p.o, .int .i64 p.l, .int .i64 p.k, .int .i64 p.z]) ∧ Below w.heap.size w w' := by
  unfold PKV.val
  go_enter Tryz.func141, Tryz.ntmps141
  go_wp2
  exact bodyPost_ret (v := .agg #[.int .i64 p.o, .int .i64 p.l, .int .i64 p.k, .int .i64 p.z]) (by simp [results, Tryz.results141, go_sem]) rfl ⟨rfl, ((Below.refl _ _).alloc (Nat.le_refl _) _).alloc (by simp) _⟩
set_option maxHeartbeats 1000000 in
theorem eq_bobj (o l k z o' l' k' z' : Int) (W : World) :
    (binOp .eql 172 (.agg #[.int .i64 o, .int .i64 l, .int .i64 k, .int .i64 z]) (.agg #[.int .i64 o', .int .i64 l', .int .i64 k', .int .i64 z'])).run Tryz.prog W = .ok (.bool (decide (o = o' ∧ l = l' ∧ k = k' ∧ z = z'))) W := by
  rw [run_eql_struct, run_equalIn_struct (d := 9999) (ht := by kernel_rfl) (hp := by kernel_rfl)]
  simp only [Program.fieldsOf, Tryz.underlying172]
  by_cases h1 : o = o'
  · by_cases h2 : l = l'
    · by_cases h3 : k = k'
      · by_cases h4 : z = z'
        · simp [Op.eqFields, part, go_sem, Tryz.underlying3, h1, h2, h3, h4]
        · simp [Op.eqFields, part, go_sem, Tryz.underlying3, h1, h2, h3, h4]
      · simp [Op.eqFields, part, go_sem, Tryz.underlying3, h1, h2, h3]
    · simp [Op.eqFields, part, go_sem, Tryz.underlying3, h1, h2]
  · simp [Op.eqFields, part, go_sem, Tryz.underlying3, h1]

theorem Own.setB7 {w : World} {B g : Nat} {v : Value} {xs : List Nat} (h : Own w B v xs) (hg : g < B) (u0 u1 u2 u3 u4 u5 u6 : Value) : Own (set7 w g u0 u1 u2 u3 u4 u5 u6) B v xs :=
  ((((((h.other 0 u0 hg).other 1 u1 hg).other 2 u2 hg).other 3 u3 hg).other 4 u4 hg).other 5 u5 hg).other 6 u6 hg
/-- The copy, as it is returned. -/
theorem bcopy_res {wx : World} {tmps : Array Value} {b : Nat} {o l k z h : Int} {v5 u5 : Value} {s : ByteArray} {z0 z1 z2 z3 z4 z5 z6 : Value} (ht : tmps.getD 2 undef = .pointer (some ⟨b + 1, 0, none⟩)) (hq : PkB wx (b + 1) z0 z1 z2 z3 z4 z5 z6) :
    (results Tryz.f128 tmps).run Tryz.prog (set7 ((wx.setCell ⟨b, 5, none⟩ v5).setCell ⟨b, 6, none⟩ (.string s)) (b + 1) (.int .i64 o) (.int .i64 l) (.int .i64 k) (.int .i64 z) (.int .i64 h) u5 (.string s)) =
      .ok (.agg #[.int .i64 o, .int .i64 l, .int .i64 k, .int .i64 z, .int .i64 h, u5, .string s]) (set7 ((wx.setCell ⟨b, 5, none⟩ v5).setCell ⟨b, 6, none⟩ (.string s)) (b + 1) (.int .i64 o) (.int .i64 l) (.int .i64 k) (.int .i64 z) (.int .i64 h) u5 (.string s)) := by
  have hk := ((hq.other (a := ⟨b, 5, none⟩) (Nat.succ_ne_self b) v5).other (a := ⟨b, 6, none⟩) (Nat.succ_ne_self b) (.string s)).sets (.int .i64 o) (.int .i64 l) (.int .i64 k) (.int .i64 z) (.int .i64 h) u5 (.string s)
  obtain ⟨r0, r1, r2, r3, r4, r5, r6⟩ := hk.at
  have ht' : tmps[2]?.getD undef = .pointer (some ⟨b + 1, 0, none⟩) := by simpa using ht
  generalize set7 ((wx.setCell ⟨b, 5, none⟩ v5).setCell ⟨b, 6, none⟩ (.string s)) (b + 1) (.int .i64 o) (.int .i64 l) (.int .i64 k) (.int .i64 z) (.int .i64 h) u5 (.string s) = X at *
  simp [results, Tryz.results128, go_sem, ht', r0, r1, r2, r3, r4, r5, r6]
theorem bcopy_own {w wx : World} {a2 : Option Addr} {n c2 : Nat} {xs : List Nat} {o l k z h : Int} {s : ByteArray} (ho : Own wx (w.heap.size + 2) (.slice a2 n c2) xs) (hb : Below w.heap.size w wx) :
    Own (set7 ((wx.setCell ⟨w.heap.size, 5, none⟩ (.slice a2 n c2)).setCell ⟨w.heap.size, 6, none⟩ (.string s)) (w.heap.size + 1) (.int .i64 o) (.int .i64 l) (.int .i64 k) (.int .i64 z) (.int .i64 h) (.slice a2 n c2) (.string s)) w.heap.size (.slice a2 n c2) xs ∧
      Below w.heap.size w (set7 ((wx.setCell ⟨w.heap.size, 5, none⟩ (.slice a2 n c2)).setCell ⟨w.heap.size, 6, none⟩ (.string s)) (w.heap.size + 1) (.int .i64 o) (.int .i64 l) (.int .i64 k) (.int .i64 z) (.int .i64 h) (.slice a2 n c2) (.string s)) :=
  ⟨(((ho.other 5 _ (by omega)).other 6 _ (by omega)).setB7 (by omega) _ _ _ _ _ _ _).mono (Nat.le_add_right _ _), below7 ((hb.setCell (p := ⟨w.heap.size, 5, none⟩) (Nat.le_refl _) _).setCell (p := ⟨w.heap.size, 6, none⟩) (Nat.le_refl _) _) (Nat.le_succ _) _ _ _ _ _ _ _⟩
set_option maxHeartbeats 2000000 in
theorem bcopy_any (p : PKV) (w : World) (h : RowAt w p.r.a p.r.n p.r.xs) (hn : p.r.n ≤ 1048576) (hs : p.r.s.size ≤ 1048576) :
    Calls Tryz.prog 128 #[p.val] w fun e w' => ∃ a2 c2, e = .returned (PKV.val ⟨p.o, p.l, p.k, p.z, p.h, ⟨a2, p.r.n, c2, p.r.xs, p.r.s⟩⟩) ∧ Own w' w.heap.size (.slice a2 p.r.n c2) p.r.xs ∧ Below w.heap.size w w' := by
  obtain ⟨o, l, k, z, hp, a, n, c, xs, s⟩ := p
  unfold PKV.val
  dsimp only at h hn hs ⊢
  have hx1 := (pkb_new w (.int .i64 o) (.int .i64 l) (.int .i64 k) (.int .i64 z) (.int .i64 hp) (.slice a n c) (.string s)).below ((Below.refl _ _).alloc (Nat.le_refl _) (.cells #[.int .i64 0, .int .i64 0, .int .i64 0, .int .i64 0, .int .i64 0, .slice none 0 0, .string ⟨#[]⟩] 42))
  have hx2 := pkb_new (w.alloc (.cells #[.int .i64 o, .int .i64 l, .int .i64 k, .int .i64 z, .int .i64 hp, .slice a n c, .string s] 42)) (.int .i64 0) (.int .i64 0) (.int .i64 0) (.int .i64 0) (.int .i64 0) (.slice none 0 0) (.string ⟨#[]⟩)
  rw [alloc_size] at hx2
  have hb0 : Below w.heap.size w ((w.alloc (.cells #[.int .i64 o, .int .i64 l, .int .i64 k, .int .i64 z, .int .i64 hp, .slice a n c, .string s] 42)).alloc (.cells #[.int .i64 0, .int .i64 0, .int .i64 0, .int .i64 0, .int .i64 0, .slice none 0 0, .string ⟨#[]⟩] 42)) := below2 (Below.refl _ w) (Below.refl _ _)
  have hsz : ((w.alloc (.cells #[.int .i64 o, .int .i64 l, .int .i64 k, .int .i64 z, .int .i64 hp, .slice a n c, .string s] 42)).alloc (.cells #[.int .i64 0, .int .i64 0, .int .i64 0, .int .i64 0, .int .i64 0, .slice none 0 0, .string ⟨#[]⟩] 42)).heap.size = w.heap.size + 2 := by rw [alloc_size, alloc_size]
  have hr := h.below hb0
  have hnn := h.1
  generalize hW : (w.alloc (.cells #[.int .i64 o, .int .i64 l, .int .i64 k, .int .i64 z, .int .i64 hp, .slice a n c, .string s] 42)).alloc (.cells #[.int .i64 0, .int .i64 0, .int .i64 0, .int .i64 0, .int .i64 0, .slice none 0 0, .string ⟨#[]⟩] 42) = W at *
  have HCL := hide (fun wx (hb : Below W.heap.size W wx) => clone_any a n c xs wx (hr.below hb) (by omega))
  have HSC := hide (fun wx => sclone_any s wx hs)
  have HQ := hide (fun wx (hb : Below W.heap.size W wx) => show _ ∧ _ from ⟨hx1.below hb, hx2.below hb⟩)
  have HB0 := hide hb0
  have HN := hide hnn
  have HZ := hide hsz
  obtain ⟨-, -, -, -, -, c5, c6⟩ := hx1.at
  clear h hr hx1 hx2 hb0 hnn hsz
  go_enter Tryz.func128, Tryz.ntmps128
  go_wp2_with fail
  go_region_law (first
    | (go_simp; go_at_call 76; refine (unhide HCL _ (by first | exact unhide D2 | exact (Below.refl _ _).drew)).mono ?_; rintro e w1 ⟨v1, rfl, ho1, hb1⟩; obtain ⟨a2, c2, rfl, -⟩ := ho1.row; have D1 := hide (show Below W.heap.size W w1 from below0 (by first | exact unhide D2 | exact (Below.refl _ _).drew) hb1); rw [unhide HN] at ho1 ⊢; have HO1 := hide (ho1.mono (B' := w.heap.size + 2) (by rw [← unhide HZ]; first | exact (unhide D2).size | exact Nat.le_refl _)); obtain ⟨⟨q0, q1, q2, q3, q4, q5, q6⟩, ⟨y0, y1, y2, y3, y4, y5, y6⟩⟩ := And.intro (unhide HQ w1 (unhide D1)).1.at (unhide HQ w1 (unhide D1)).2.at; have f5 := (unhide HQ w1 (unhide D1)).1.frz 5; have f6 := (unhide HQ w1 (unhide D1)).1.frz 6; have gz := (unhide HQ w1 (unhide D1)).2.frz; clear ho1 hb1)
    | (go_simp; go_at_call 132; refine (unhide HSC _).mono ?_; rintro e w2 ⟨rfl, hb2⟩; have D2 := hide (show Below W.heap.size W w2 from below0 (by first | exact unhide D1 | exact (Below.refl _ _).drew) hb2); (first | (have HO1 := hide ((unhide HO1).below hb2)) | skip); obtain ⟨⟨q0, q1, q2, q3, q4, q5, q6⟩, ⟨y0, y1, y2, y3, y4, y5, y6⟩⟩ := And.intro (unhide HQ w2 (unhide D2)).1.at (unhide HQ w2 (unhide D2)).2.at; have f5 := (unhide HQ w2 (unhide D2)).1.frz 5; have f6 := (unhide HQ w2 (unhide D2)).1.frz 6; have gz := (unhide HQ w2 (unhide D2)).2.frz; clear hb2)
    | fail)
  all_goals go_wp2
  all_goals first
    | exact bodyPost_ret (bcopy_res (wx := w2) rfl (unhide HQ w2 (unhide D2)).2) rfl ⟨a2, c2, rfl, bcopy_own (unhide HO1) (below0 (unhide HB0) (unhide D2))⟩
    | exact bodyPost_ret (bcopy_res (wx := w1) rfl (unhide HQ w1 (unhide D1)).2) rfl ⟨a2, c2, rfl, bcopy_own (unhide HO1) (below0 (unhide HB0) (unhide D1))⟩
end Go.Proofs.YtbcgiodgobmkaaaGreatDoor
