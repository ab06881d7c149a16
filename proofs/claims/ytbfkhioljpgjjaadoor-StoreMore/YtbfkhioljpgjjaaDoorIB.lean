/-
  Contracts of store.New, Len, Over, Rank, copyOf, fits.
-/
import Derived.Test.YtbfkhioljpgjjaaDoorIA
import Derived.Test.YtbfkhioljpgjjaaDoorCp
namespace Go.Proofs.YtbfkhioljpgjjaaDoor
open Go.RowKit Go.Sort
set_option linter.unusedVariables false
set_option maxRecDepth 4000


theorem stnew_any (k z n : Int) (w : World) :
    Calls Tryd.prog 10 #[.int .i64 k, .int .i64 z, .int .i64 n] w fun e w' => e = .returned (.pointer (some ⟨w.heap.size, 0, none⟩)) ∧ StAt w' w.heap.size w.heap.size k z (capN n) (.slice none 0 0) [] false ∧ Below w.heap.size w w' := by
  have h1 := max_run n
  have h2 := cap_run n
  go_enter Tryd.func10, Tryd.ntmps10
  go_wp2
  go_ret
  exact ⟨rfl, ⟨bk5_new _ _ _ _ _ _ _, Nat.le_refl _, OwnS.nil _ _, OwnRs.nil _ _, Nat.zero_le _, capN_le n, short_nil⟩, (Below.refl _ _).alloc (Nat.le_refl _) _⟩

theorem len_any (g B : Nat) (k z : Int) (m : Nat) (v : Value) (rs : List RV) (ov : Bool) (w : World) (h : StAt w g B k z m v rs ov) :
    Calls Tryd.prog 14 #[.pointer (some ⟨g, 0, none⟩)] w fun e w' => e = .returned (.int .i64 (rs.length : Int)) ∧ w' = w := by
  obtain ⟨a, c, rfl, -, -, -⟩ := h.at
  obtain ⟨h0, h1, h2, h3, h4⟩ := h.blk.at
  clear h
  go_enter Tryd.func14, Tryd.ntmps14
  go_wp2
  go_ret
  exact ⟨rfl, rfl⟩
theorem len_nil (w : World) : Calls Tryd.prog 14 #[.pointer none] w fun e w' => e = .returned (.int .i64 0) ∧ w' = w := by
  go_enter Tryd.func14, Tryd.ntmps14
  go_wp2
  go_ret
  exact ⟨rfl, rfl⟩
theorem over_any (g B : Nat) (k z : Int) (m : Nat) (v : Value) (rs : List RV) (ov : Bool) (w : World) (h : StAt w g B k z m v rs ov) :
    Calls Tryd.prog 15 #[.pointer (some ⟨g, 0, none⟩)] w fun e w' => e = .returned (.bool ov) ∧ w' = w := by
  obtain ⟨h0, h1, h2, h3, h4⟩ := h.blk.at
  clear h
  go_enter Tryd.func15, Tryd.ntmps15
  go_wp2
  go_ret
  exact ⟨rfl, rfl⟩
theorem over_nil (w : World) : Calls Tryd.prog 15 #[.pointer none] w fun e w' => e = .returned (.bool false) ∧ w' = w := by
  go_enter Tryd.func15, Tryd.ntmps15
  go_wp2
  go_ret
  exact ⟨rfl, rfl⟩
/-- How many bring something anew. -/
def rankN (rs : List RV) : Nat := (keepL (vecsL rs) rs.length).length
theorem rank_any (g B : Nat) (k z : Int) (m : Nat) (v : Value) (rs : List RV) (ov : Bool) (w : World) (ht : Tab w) (h : StAt w g B k z m v rs ov) :
    Calls Tryd.prog 18 #[.pointer (some ⟨g, 0, none⟩)] w fun e w' => e = .returned (.int .i64 (rankN rs : Int)) ∧ Below w.heap.size w w' := by
  obtain ⟨a, c, rfl, hR, -, -⟩ := h.at
  obtain ⟨h0, h1, h2, h3, h4⟩ := h.blk.at
  have HK := hide (grank_any a rs.length c rs w ht hR h.rows.rows h.short (by have := h.le; have := h.most; omega))
  clear h hR ht
  go_enter Tryd.func18, Tryd.ntmps18
  go_wp2_with (go_at_call 26; refine (unhide HK).mono ?_; rintro e w1 ⟨rfl, hb1⟩)
  go_ret
  exact ⟨rfl, hb1⟩
theorem rank_nil (w : World) : Calls Tryd.prog 18 #[.pointer none] w fun e w' => e = .returned (.int .i64 0) ∧ w' = w := by
  go_enter Tryd.func18, Tryd.ntmps18
  go_wp2
  go_ret
  exact ⟨rfl, rfl⟩
theorem rows_nil15 (w : World) : Calls Tryd.prog 17 #[.pointer none] w fun e w' => e = .returned (.slice none 0 0) ∧ w' = w := by
  go_enter Tryd.func17, Tryd.ntmps17
  go_wp2
  go_ret
  exact ⟨rfl, rfl⟩
theorem put_nil (v0 v1 : Value) (w : World) : Calls Tryd.prog 13 #[.pointer none, .agg #[v0, v1]] w fun e w' => e = .returned (.int .i64 1) ∧ Below w.heap.size w w' := by
  go_enter Tryd.func13, Tryd.ntmps13
  go_wp2
  go_ret
  exact ⟨rfl, (Below.refl _ _).alloc (Nat.le_refl _) _⟩

theorem BoxW.belowB {w w' : World} {g B : Nat} {x y : Value} (h : BoxW w g x y) (hb : Below B w w') (hg : g < B) : BoxW w' g x y :=
  ⟨⟨(hb.cell (p := ⟨g, 0, none⟩) hg).trans h.1.1, (hb.cell (p := ⟨g, 1, none⟩) hg).trans h.1.2⟩, (hb.frozen (p := ⟨g, 0, none⟩) hg).trans h.2.1, (hb.frozen (p := ⟨g, 1, none⟩) hg).trans h.2.2⟩
set_option maxHeartbeats 1000000 in
theorem copyOf_any (a : Option Addr) (n c : Nat) (xs : List Nat) (s : ByteArray) (w : World) (h : RowAt w a n xs) (hn : n ≤ 1048576) (hs : s.size ≤ 1048576) :
    Calls Tryd.prog 25 #[.agg #[.slice a n c, .string s]] w fun e w' => ∃ a2 c2, e = .returned (.agg #[.slice a2 n c2, .string s]) ∧ Own w' w.heap.size (.slice a2 n c2) xs ∧ Below w.heap.size w w' := by
  have hx1 := (boxW_new w (.slice a n c) (.string s)).alloc (.cells #[.slice none 0 0, .string ⟨#[]⟩] 36)
  have hx2 := boxW_new (w.alloc (.cells #[.slice a n c, .string s] 36)) (.slice none 0 0) (.string ⟨#[]⟩)
  rw [alloc_size] at hx2
  have hb0 : Below w.heap.size w ((w.alloc (.cells #[.slice a n c, .string s] 36)).alloc (.cells #[.slice none 0 0, .string ⟨#[]⟩] 36)) := below2 (Below.refl _ w) (Below.refl _ _)
  have hsz : ((w.alloc (.cells #[.slice a n c, .string s] 36)).alloc (.cells #[.slice none 0 0, .string ⟨#[]⟩] 36)).heap.size = w.heap.size + 2 := by rw [alloc_size, alloc_size]
  have hr := h.below hb0
  have hnn := h.1
  generalize hW : (w.alloc (.cells #[.slice a n c, .string s] 36)).alloc (.cells #[.slice none 0 0, .string ⟨#[]⟩] 36) = W at *
  have HCL := hide (fun wx (hb : Below W.heap.size W wx) => clone_any a n c xs wx (hr.below hb) (by omega))
  have HSC := hide (fun wx => sclone_any s wx hs)
  have HQ := hide (fun wx (hb : Below W.heap.size W wx) => show _ ∧ _ from ⟨hx1.below hb, hx2.below hb⟩)
  have HB0 := hide hb0
  have HN := hide hnn
  have HZ := hide hsz
  obtain ⟨⟨c0, c1⟩, -, -⟩ := hx1
  clear h hr hx2 hb0 hnn hsz
  go_enter Tryd.func25, Tryd.ntmps25
  go_wp2_with fail
  go_region_held3 (fun w' => w'.cell? ⟨w.heap.size, 0, none⟩ = some (.slice a n c) ∧ w'.cell? ⟨w.heap.size, 1, none⟩ = some (.string s)) (go_keep) (first
    | (go_at_call 36; refine (unhide HCL _ (by first | exact unhide D2 | exact (Below.refl _ _).drew)).mono ?_; rintro e w1 ⟨v1, rfl, ho1, hb1⟩; obtain ⟨a2, c2, rfl, -⟩ := ho1.row; have D1 := hide (show Below W.heap.size W w1 from below0 (by first | exact unhide D2 | exact (Below.refl _ _).drew) hb1); rw [unhide HN] at ho1 ⊢; have HO1 := hide (ho1.mono (B' := w.heap.size + 2) (Nat.le_of_eq (unhide HZ).symm)); obtain ⟨⟨⟨q0, q1⟩, -, -⟩, ⟨⟨y0, y1⟩, f0, f1⟩⟩ := unhide HQ w1 (unhide D1); clear ho1 hb1)
    | (go_at_call 37; refine (unhide HSC _).mono ?_; rintro e w2 ⟨rfl, hb2⟩; have D2 := hide (show Below W.heap.size W w2 from below0 (by first | exact unhide D1 | exact (Below.refl _ _).drew) hb2); (first | (have HO1 := hide ((unhide HO1).below hb2)) | skip); obtain ⟨⟨⟨q0, q1⟩, -, -⟩, ⟨⟨y0, y1⟩, f0, f1⟩⟩ := unhide HQ w2 (unhide D2); clear hb2))
  all_goals go_wp2
  exact bodyPost_ret (v := .agg #[.slice a2 n c2, .string s]) (by simp [results, Tryd.results25, go_sem, y0, y1]) rfl
    ⟨a2, c2, rfl, (((unhide HO1).other 0 _ (Nat.lt_succ_self _)).other 1 _ (Nat.lt_succ_self _)).mono (Nat.le_add_right _ _), ((below0 (unhide HB0) (unhide D2)).setCell (p := ⟨w.heap.size + 1, 0, none⟩) (Nat.le_succ _) _).setCell (p := ⟨w.heap.size + 1, 1, none⟩) (Nat.le_succ _) _⟩

/-- A block of five cells of whatever world, as it is read. -/
theorem StAt.cells {w w' : World} {g B : Nat} {k z : Int} {m : Nat} {v : Value} {rs : List RV} {ov : Bool} (h : StAt w g B k z m v rs ov) (hb : Below w.heap.size w w') :
    w'.cell? ⟨g, 0, none⟩ = some (.int .i64 k) ∧ w'.cell? ⟨g, 1, none⟩ = some (.int .i64 z) ∧ w'.cell? ⟨g, 2, none⟩ = some (.int .i64 (m : Int)) ∧ w'.cell? ⟨g, 3, none⟩ = some v ∧ w'.cell? ⟨g, 4, none⟩ = some (.bool ov) := (h.blk.below hb).at
set_option maxHeartbeats 2000000 in
theorem fits_any (g B : Nat) (k z : Int) (m : Nat) (v : Value) (rs : List RV) (ov : Bool) (a : Option Addr) (n c : Nat) (xs : List Nat) (s : ByteArray) (w : World) (h : StAt w g B k z m v rs ov) (hr : RowAt w a n xs) (hn : n ≤ 1048576) (hs : s.size ≤ 1048576) :
    Calls Tryd.prog 32 #[.pointer (some ⟨g, 0, none⟩), .agg #[.slice a n c, .string s]] w fun e w' => e = .returned (.bool (fitB k z (xs, s))) ∧ Below w.heap.size w w' := by
  have hb0 : Below w.heap.size w (w.alloc (.cells #[.slice a n c, .string s] 36)) := (Below.refl _ _).alloc (Nat.le_refl _) _
  have hx := box_new w (.slice a n c) (.string s)
  have hst := h.below hb0
  have hrr := hr.below hb0
  generalize hW : w.alloc (.cells #[.slice a n c, .string s] 36) = W at *
  have cV := hide (quietB (W := W) (fun w' hb => (valid_any a n c xs k w' (hrr.below hb)).mono fun e w'' ⟨he, hb2⟩ => ⟨retV he, hb2⟩))
  have cC := hide (quietB (W := W) (fun w' hb => same_below (count_any a n c xs w' (hrr.below hb) hn)))
  obtain ⟨k0, k1, -, -, -⟩ := hst.blk.at
  obtain ⟨c0, c1⟩ := hx
  have r0 := cell_regrown k0
  have r1 := cell_regrown k1
  have r2 := cell_regrown c0
  have r3 := cell_regrown c1
  have HB0 := hide hb0
  have hfit : fitB k z (xs, s) = (validB k xs && decide (0 < cnt xs) && decide ((s.size : Int) = z)) := rfl
  rw [hfit]
  clear h hr hst hrr hb0 hfit k0 k1 c0 c1
  generalize cnt xs = N at *
  generalize validB k xs = V at *
  have hd2 : decide ((0 : Int) < (N : Int)) = decide (0 < N) := by by_cases h : 0 < N <;> simp [h]
  have hd3 : ((s.size : Int) == z) = decide ((s.size : Int) = z) := by by_cases h : (s.size : Int) = z <;> simp [h]
  go_enter Tryd.func32, Tryd.ntmps32
  cases hv : V <;> cases h0 : decide (0 < N) <;> cases h1 : decide ((s.size : Int) = z)
  all_goals (subst hv; rw [h0] at hd2; rw [h1] at hd3)
  all_goals go_wp2_with fail
  all_goals refine wp_region_quiet_below (by kernel_rfl) (by kernel_rfl) ?_
  all_goals (repeat (with_reducible refine wpQuiet_step (fun K hK => ?_); go_simp; first | (with_reducible refine hK _ ?_; clear hK K) | (apply Exists.intro; apply And.intro; (intro _; first | (go_at_call 42; exact unhide cV _ _) | (go_at_call 43; exact unhide cC _ _)); with_reducible refine hK _ ?_; clear hK K)))
  all_goals refine wpQuiet_nil ?_
  all_goals (intro _ hw'; obtain ⟨⟨dq, osq⟩, hw''⟩ := hw'; subst hw'')
  all_goals have C1 := hide (below_regrown W dq osq)
  all_goals clear cV cC r0 r1 r2 r3
  all_goals go_wp2
  all_goals go_ret
  all_goals exact ⟨rfl, below0 (unhide HB0) (unhide C1)⟩
end Go.Proofs.YtbfkhioljpgjjaaDoor
