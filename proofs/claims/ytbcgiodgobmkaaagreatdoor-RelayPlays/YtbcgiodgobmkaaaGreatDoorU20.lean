/-
  Contract of Buffer.takes.
  Contract of slices.Delete of one packet out of a slice of one's own.
-/
import Derived.Test.YtbcgiodgobmkaaaGreatDoorU19
import Derived.Deep.RegionLaw
import Derived.Lib.SliceRun
namespace Go.Proofs.YtbcgiodgobmkaaaGreatDoor
open Go.RowKit Go.Sort
set_option linter.unusedVariables false
set_option linter.unusedSimpArgs false
set_option maxRecDepth 4000

set_option maxHeartbeats 4000000 in
theorem butakes_any (g B m : Nat) (v : Value) (ps : List PKV) (p : PKV) (w : World) (ht : Tab w) (h : BfAt w g B m v ps) (hr : RowAt w p.r.a p.r.n p.r.xs) (hn : p.r.n ≤ 10) :
    Calls Tryz.prog 129 #[.pointer (some ⟨g, 0, none⟩), p.val] w fun e w' => e = .returned (.bool (takeD m (ps.map PKV.pd) p.pd)) ∧ Below w.heap.size w w' := by
  unfold PKV.val
  have hln := h.len.2
  have hb0 := pk_low w p
  have hB := h.below hb0
  have hrr := hr.below hb0
  have htt := ht.below hb0
  have hx := pk_new w (.int .i64 p.o) (.int .i64 p.l) (.int .i64 p.k) (.int .i64 p.z) (.int .i64 p.h) (.slice p.r.a p.r.n p.r.c) (.string p.r.s)
  generalize hW : w.alloc (.cells #[.int .i64 p.o, .int .i64 p.l, .int .i64 p.k, .int .i64 p.z, .int .i64 p.h, .slice p.r.a p.r.n p.r.c, .string p.r.s] 42) = W at *
  obtain ⟨q0, q1, q2, q3, q4, q5, q6⟩ := id hx
  obtain ⟨k0, -⟩ := hB.cells (Below.refl _ _)
  have HB0 := hide hb0
  have HTK : Hid (takeD m (ps.map PKV.pd) p.pd = (decide (0 < m) && okD p.pd && alkH (ps.map PKV.pd) p.pd && freshB (vecsD (ps.map PKV.pd)) p.r.xs)) := hide rfl
  by_cases hm : 0 < m
  · have hd : decide ((0 : Int) < (m : Int)) = true := by simp; omega
    cases hok : okD p.pd
    · have r0 := cell_regrown k0
      have s0 := cell_regrown q0
      have s1 := cell_regrown q1
      have s2 := cell_regrown q2
      have s3 := cell_regrown q3
      have s4 := cell_regrown q4
      have s5 := cell_regrown q5
      have s6 := cell_regrown q6
      have cC := hide (quietB (W := W) (fun w' hb => check_any p.o p.l p.k p.z p.h p.r.a p.r.n p.r.c p.r.xs p.r.s w' (hrr.below hb) 1 (ckD_no hok)))
      have HE : Hid (takeD m (ps.map PKV.pd) p.pd = false) := hide (by rw [unhide HTK, hok]; simp)
      clear h hr ht hB hrr htt hb0 hx q0 q1 q2 q3 q4 q5 q6 k0 hok HTK
      generalize takeD m (ps.map PKV.pd) p.pd = T at *
      go_enter Tryz.func129, Tryz.ntmps129
      go_wp2_with fail
      refine wp_region_quiet_below (by kernel_rfl) (by kernel_rfl) ?_
      repeat (with_reducible refine wpQuiet_step (fun K hK => ?_); go_simp; first | (with_reducible refine hK _ ?_; clear hK K) | (apply Exists.intro; apply And.intro; (intro _; (go_at_call 133; exact unhide cC _ _)); with_reducible refine hK _ ?_; clear hK K))
      refine wpQuiet_nil ?_
      intro w3 hw3
      obtain ⟨⟨dq, osq⟩, hw3⟩ := hw3
      have B3 := hide (below0 (unhide HB0) (show Below W.heap.size W w3 by rw [hw3]; exact below_regrown _ dq osq))
      clear hw3 dq osq
      go_wp2
      go_ret
      exact ⟨by rw [unhide HE]; rfl, unhide B3⟩
    · cases hal : alkH (ps.map PKV.pd) p.pd
      · have r0 := cell_regrown k0
        have s0 := cell_regrown q0
        have s1 := cell_regrown q1
        have s2 := cell_regrown q2
        have s3 := cell_regrown q3
        have s4 := cell_regrown q4
        have s5 := cell_regrown q5
        have s6 := cell_regrown q6
        have cC := hide (quietB (W := W) (fun w' hb => check_any p.o p.l p.k p.z p.h p.r.a p.r.n p.r.c p.r.xs p.r.s w' (hrr.below hb) 0 (ckD_yes hok)))
        have cA := quietB (W := W) (fun w' hb => bualike_any g B m v ps p w' (hB.below hb))
        rw [hal] at cA
        unfold PKV.val at cA
        have cA := hide cA
        have HE : Hid (takeD m (ps.map PKV.pd) p.pd = false) := hide (by rw [unhide HTK, hal]; simp)
        clear h hr ht hB hrr htt hb0 hx q0 q1 q2 q3 q4 q5 q6 k0 hok hal HTK
        generalize takeD m (ps.map PKV.pd) p.pd = T at *
        go_enter Tryz.func129, Tryz.ntmps129
        go_wp2_with fail
        refine wp_region_quiet_below (by kernel_rfl) (by kernel_rfl) ?_
        repeat (with_reducible refine wpQuiet_step (fun K hK => ?_); go_simp; first | (with_reducible refine hK _ ?_; clear hK K) | (apply Exists.intro; apply And.intro; (intro _; first | (go_at_call 133; exact unhide cC _ _) | (go_at_call 134; exact unhide cA _ _)); with_reducible refine hK _ ?_; clear hK K))
        refine wpQuiet_nil ?_
        intro w3 hw3
        obtain ⟨⟨dq, osq⟩, hw3⟩ := hw3
        have B3 := hide (below0 (unhide HB0) (show Below W.heap.size W w3 by rw [hw3]; exact below_regrown _ dq osq))
        clear hw3 dq osq
        go_wp2
        go_ret
        exact ⟨by rw [unhide HE]; rfl, unhide B3⟩
      · have HC := hide (fun wx (hb : Below W.heap.size W wx) => check_any p.o p.l p.k p.z p.h p.r.a p.r.n p.r.c p.r.xs p.r.s wx (hrr.below hb) 0 (ckD_yes hok))
        have HA := (fun wx (hb : Below W.heap.size W wx) => bualike_any g B m v ps p wx (hB.below hb))
        rw [hal] at HA
        unfold PKV.val at HA
        have HA := hide HA
        have HR := hide (fun wx (hb : Below W.heap.size W wx) => burows_any g B m v ps wx (hB.below hb))
        have HF := hide (fun wx a1 c1 (hb : Below W.heap.size W wx) (hv : VecsAt wx a1 ps.length (vecsD (ps.map PKV.pd))) => fresh_any a1 ps.length c1 (vecsD (ps.map PKV.pd)) p.r.a p.r.n p.r.c p.r.xs wx (htt.below hb) hv hB.inv.fit (hrr.below hb) (by omega) (by omega))
        have HV : Hid (∀ wx v1 B1, Below W.heap.size W wx → OwnW wx B1 v1 (ps.map PKV.r) → ∃ a1 c1, v1 = .slice a1 ps.length c1 ∧ VecsAt wx a1 ps.length (vecsD (ps.map PKV.pd))) := hide fun wx v1 B1 hb ho => by
          obtain ⟨a1, c1, e, hv⟩ := ho.vecs (rowsOf (hB.rows.ks.below hb))
          rw [List.length_map] at e hv
          rw [vecsOf] at hv
          exact ⟨a1, c1, e, hv⟩
        have HQ := hide (fun wx (hb : Below W.heap.size W wx) => show _ ∧ _ from ⟨(hB.cells hb).1, hx.below hb⟩)
        have HE : Hid (takeD m (ps.map PKV.pd) p.pd = freshB (vecsD (ps.map PKV.pd)) p.r.xs) := hide (by rw [unhide HTK, hal, hok, decide_eq_true hm]; rfl)
        clear h hr ht hB hrr htt hb0 hx hok hal HTK
        generalize takeD m (ps.map PKV.pd) p.pd = T at *
        generalize freshB (vecsD (ps.map PKV.pd)) p.r.xs = FR at *
        go_enter Tryz.func129, Tryz.ntmps129
        go_wp2_with fail
        go_region_held3 (fun w' => w'.cell? ⟨g, 0, none⟩ = some (.int .i64 (m : Int)) ∧ w'.cell? ⟨w.heap.size, 0, none⟩ = some (.int .i64 p.o) ∧ w'.cell? ⟨w.heap.size, 1, none⟩ = some (.int .i64 p.l) ∧ w'.cell? ⟨w.heap.size, 2, none⟩ = some (.int .i64 p.k) ∧ w'.cell? ⟨w.heap.size, 3, none⟩ = some (.int .i64 p.z) ∧ w'.cell? ⟨w.heap.size, 4, none⟩ = some (.int .i64 p.h) ∧ w'.cell? ⟨w.heap.size, 5, none⟩ = some (.slice p.r.a p.r.n p.r.c) ∧ w'.cell? ⟨w.heap.size, 6, none⟩ = some (.string p.r.s)) (go_keep) (first
          | (go_at_call 133; refine (unhide HC _ (Below.refl _ _).drew).mono ?_; rintro e w1 ⟨rfl, hb1⟩; have D1 := hide (show Below W.heap.size W w1 from below0 (Below.refl _ _).drew hb1); obtain ⟨u0, t0, t1, t2, t3, t4, t5, t6⟩ := unhide HQ w1 (unhide D1); clear hb1)
          | (go_at_call 134; refine (unhide HA _ (unhide D1)).mono ?_; rintro e w2 ⟨rfl, hb2⟩; have D2 := hide (below0 (unhide D1) hb2); obtain ⟨u0, t0, t1, t2, t3, t4, t5, t6⟩ := unhide HQ w2 (unhide D2); clear hb2)
          | (go_at_call 136; refine (unhide HR _ (unhide D2)).mono ?_; rintro e w3 ⟨v3, rfl, ho3, hb3⟩; have D3 := hide (below0 (unhide D2) hb3); obtain ⟨a3, c3, rfl, hv3⟩ := unhide HV w3 v3 _ (unhide D3) ho3; have HV3 := hide hv3; obtain ⟨u0, t0, t1, t2, t3, t4, t5, t6⟩ := unhide HQ w3 (unhide D3); clear hb3 ho3 hv3)
          | (go_at_call 135; refine (unhide HF _ a3 c3 (unhide D3) (unhide HV3)).mono ?_; rintro e w4 ⟨rfl, hb4⟩; have D4 := hide (below0 (unhide D3) hb4); obtain ⟨u0, t0, t1, t2, t3, t4, t5, t6⟩ := unhide HQ w4 (unhide D4); clear hb4))
        all_goals go_wp2
        all_goals go_ret
        all_goals exact ⟨by rw [unhide HE]; rfl, below0 (unhide HB0) (unhide D4)⟩
  · obtain rfl : m = 0 := by omega
    have r0 := cell_regrown k0
    have HE : Hid (takeD 0 (ps.map PKV.pd) p.pd = false) := hide (by rw [unhide HTK]; rfl)
    clear h hr ht hB hrr htt hb0 hx q0 q1 q2 q3 q4 q5 q6 k0 HTK
    generalize takeD 0 (ps.map PKV.pd) p.pd = T at *
    go_enter Tryz.func129, Tryz.ntmps129
    go_wp2_with fail
    refine wp_region_quiet_below (by kernel_rfl) (by kernel_rfl) ?_
    repeat (with_reducible refine wpQuiet_step (fun K hK => ?_); go_simp; first | (with_reducible refine hK _ ?_; clear hK K))
    refine wpQuiet_nil ?_
    intro w3 hw3
    obtain ⟨⟨dq, osq⟩, hw3⟩ := hw3
    have B3 := hide (below0 (unhide HB0) (show Below W.heap.size W w3 by rw [hw3]; exact below_regrown _ dq osq))
    clear hw3 dq osq
    go_wp2
    go_ret
    exact ⟨by rw [unhide HE]; rfl, unhide B3⟩
end Go.Proofs.YtbcgiodgobmkaaaGreatDoor
namespace Go.Proofs.YtbcgiodgobmkaaaGreatDoor
open Go.RowKit Go.Sort
set_option linter.unusedVariables false
set_option linter.unusedSimpArgs false
set_option maxRecDepth 4000

theorem run_clearK (w : World) (ty : TypeId) (g o c : Nat) (hc : ∀ j, j < 7 → (w.cell? ⟨g, o + j, none⟩).isSome = true) (hf : ∀ j, j < 7 → w.frozen? ⟨g, o + j, none⟩ = false) :
    (Builtin.clear_ #[30] ty #[.slice (some ⟨g, o, none⟩) 1 c]).run Tryz.prog w = .ok (.tuple #[]) (w.setCells g o zK.cells) := by
  have hst := run_storeCells_cells (P := Tryz.prog) g o zK.cells 0 w (fun j hj => by rw [Nat.add_zero]; exact hc j hj) (fun j hj => by rw [Nat.add_zero]; exact hf j hj) (pcells_one zK)
  simp only [Nat.add_zero] at hst
  have hzc : (Builtin.zeroCells (Value.agg #[.int .i64 0, .int .i64 0, .int .i64 0, .int .i64 0, .int .i64 0, .slice none 0 0, .string ⟨#[]⟩]).cells 1).toList = zK.cells := by
    simp [Builtin.zeroCells, Value.cells]
    rfl
  simp [Builtin.clear_, run_underlying Tryz.underlying30, hzc, hst]
theorem cellsK_drop (ps : List PKV) (i : Nat) (hi : i ≤ ps.length) : (cellsK ps).take (i * 7) = cellsK (ps.take i) ∧ (cellsK ps).drop (i * 7) = cellsK (ps.drop i) := by
  have e : cellsK ps = cellsK (ps.take i) ++ cellsK (ps.drop i) := by rw [← cellsK_append, List.take_append_drop]
  have hl : (cellsK (ps.take i)).length = i * 7 := by rw [cellsK_length, List.length_take, Nat.min_eq_left hi]
  rw [e]
  exact ⟨by rw [← hl]; exact List.take_left, by rw [← hl]; exact List.drop_left⟩
/-- What the block holds behind the packets' move and the clearing. -/
theorem del_own {w : World} {B g cap : Nat} {ps : List PKV} (h : OwnP w B (.slice (some ⟨g, 0, none⟩) ps.length cap) ps) {i : Nat} (hi : i < ps.length) :
    OwnP ((w.drew.setCells g (i * 7) (cellsK (ps.drop (i + 1)))).setCells g ((ps.length - 1) * 7) zK.cells) B (.slice (some ⟨g, 0, none⟩) (ps.length - 1) cap) (ps.eraseIdx i) ∧
      w.grownBy ((w.drew.setCells g (i * 7) (cellsK (ps.drop (i + 1)))).setCells g ((ps.length - 1) * 7) zK.cells) (some g) := by
  have hgb : w.grownBy ((w.drew.setCells g (i * 7) (cellsK (ps.drop (i + 1)))).setCells g ((ps.length - 1) * 7) zK.cells) (some g) :=
    gb_trans (gb_trans (gb_drew (gb_refl w _)) (setCells_gb g _ _ w.drew) (.inl rfl)) (setCells_gb g _ _ _) (.inl rfl)
  refine ⟨?_, hgb⟩
  rcases h.2 with ⟨e, _⟩ | ⟨g', cap', cur, e, hb, hg, hn, hm, hsz, ht⟩
  · cases e
  simp only [Value.slice.injEq, Option.some.injEq, Addr.mk.injEq, and_true, true_and] at e
  obtain ⟨rfl, rfl⟩ := e
  have hle := List.length_eraseIdx_of_lt hi
  obtain ⟨c1, h1, h2, h3⟩ := setCells_block g 42 (cellsK (ps.drop (i + 1))) (i * 7) w.drew cur hg
  obtain ⟨c2, j1, j2, j3⟩ := setCells_block g 42 zK.cells ((ps.length - 1) * 7) _ c1 h1
  refine ⟨by rw [cellsK_length], .inr ⟨g, cap, c2, by rw [hle], hb, j1, by omega, hm, by rw [j2, h2, hsz], ?_⟩⟩
  have hld : (cellsK (ps.drop (i + 1))).length = (ps.length - (i + 1)) * 7 := by rw [cellsK_length, List.length_drop]
  have hel : cellsK (ps.eraseIdx i) = (cellsK ps).take (i * 7) ++ cellsK (ps.drop (i + 1)) := by
    rw [List.eraseIdx_eq_take_drop_succ, cellsK_append, (cellsK_drop ps i (by omega)).1]
  have hlt : ((cellsK ps).take (i * 7)).length = i * 7 := by rw [List.length_take, cellsK_length]; omega
  rw [hel, hle]
  apply List.ext_getElem?
  intro j
  by_cases hj : j < (ps.length - 1) * 7
  · rw [List.getElem?_take, if_pos hj, Array.getElem?_toList, j3 j (by omega), if_neg (by omega), h3 j (by omega), hld]
    by_cases hji : j < i * 7
    · rw [if_neg (by omega), List.getElem?_append_left (by omega), List.getElem?_take, if_pos hji, ← ht, List.getElem?_take, if_pos (by omega), Array.getElem?_toList]
    · rw [if_pos (by omega), List.getElem?_append_right (by omega), hlt]
  · rw [List.getElem?_eq_none (by rw [List.length_take]; omega), List.getElem?_eq_none (by rw [List.length_append, hlt, hld]; omega)]
set_option maxHeartbeats 4000000 in
theorem budel_any (B g cap i : Nat) (ps : List PKV) (w : World) (h : OwnP w B (.slice (some ⟨g, 0, none⟩) ps.length cap) ps) (hi : i < ps.length) (hl : ps.length ≤ 256) :
    Calls Tryz.prog 131 #[.slice (some ⟨g, 0, none⟩) ps.length cap, .int .i64 (i : Int), .int .i64 ((i : Int) + 1)] w fun e w' => e = .returned (.slice (some ⟨g, 0, none⟩) (ps.length - 1) cap) ∧ OwnP w' B (.slice (some ⟨g, 0, none⟩) (ps.length - 1) cap) (ps.eraseIdx i) ∧ w.grownBy w' (some g) := by
  obtain ⟨i0, hi0, hz0, hz1, hz2⟩ := info_parts info_pktZ
  have HE := hide (del_own h hi)
  rcases h.2 with ⟨e, _⟩ | ⟨g', cap', cur, e, hb, hg, hn, hm, hsz, ht⟩
  · cases e
  simp only [Value.slice.injEq, Option.some.injEq, Addr.mk.injEq, and_true, true_and] at e
  obtain ⟨rfl, rfl⟩ := e
  have hm : cap ≤ 9223372036854775807 := by simpa [maxLen] using hm
  obtain ⟨news, hnews⟩ : ∃ news, news = cellsK (ps.drop (i + 1)) := ⟨_, rfl⟩
  have hlen : news.length = (ps.length - (i + 1)) * 7 := by rw [hnews, cellsK_length, List.length_drop]
  have hcl : ∀ t, t < cap * 7 → (w.cell? ⟨g, t, none⟩).isSome = true ∧ w.frozen? ⟨g, t, none⟩ = false := fun t hlt => by
    refine ⟨?_, by simp [World.frozen?, hg]⟩
    rw [cell_of_row w g _ _ _ _ hg, Array.getElem?_eq_getElem (by omega)]
    rfl
  have hget : ∀ t u, news[t]? = some u → w.cell? ⟨g, (i + 1) * 7 + t, none⟩ = some u := fun t u hu => by
    refine h.cellAt ?_
    rw [hnews, ← (cellsK_drop ps (i + 1) (by omega)).2, List.getElem?_drop] at hu
    exact hu
  obtain ⟨A, hA, hsrc⟩ : ∃ A : Addr, (if cap = i + 1 then some (⟨g, 0, none⟩ : Addr) else some ⟨g, (i + 1) * 7, none⟩) = some A ∧ Hid (∀ t u, news[t]? = some u → w.drew.cell? (A.add t) = some u) := by
    by_cases hc : cap = i + 1
    · refine ⟨⟨g, 0, none⟩, by simp [hc], fun t u hu => ?_⟩
      have h0 : news.length = 0 := by rw [hlen]; omega
      rw [List.length_eq_zero_iff.1 h0] at hu
      simp at hu
    · refine ⟨⟨g, (i + 1) * 7, none⟩, by simp [hc], fun t u hu => ?_⟩
      rw [Addr.add_lit]
      exact hget t u hu
  have s1 : Hid (news.length = (ps.length - (i + 1)) * 7) := hlen
  have s2 : Hid (∀ u ∈ news, u.oneCell' = true) := by rw [hnews]; exact cellsK_one _
  have s3 : Hid (∀ t, t < news.length → (w.drew.cell? ⟨g, 0 + i * 7 + t, none⟩).isSome = true ∧ w.drew.frozen? ⟨g, 0 + i * 7 + t, none⟩ = false) := by
    intro t hlt
    rw [hlen] at hlt
    rw [Nat.zero_add]
    exact hcl _ (by omega)
  obtain ⟨W1, hW1⟩ : ∃ W1, W1 = w.drew.setCells g (0 + i * 7) news := ⟨_, rfl⟩
  have hbl : ∃ c1, W1.heap[g]? = some (.cells c1 42 (0, 0)) ∧ c1.size = cur.size := by
    obtain ⟨c1, q1, q2, -⟩ := setCells_block g 42 news (0 + i * 7) w.drew cur hg
    exact ⟨c1, by rw [hW1]; exact q1, q2⟩
  obtain ⟨c1, q1, q2⟩ := hbl
  have hclr : ∀ ty, (Builtin.clear_ #[30] ty #[.slice (some ⟨g, (ps.length - 1) * 7, none⟩) 1 (cap - (ps.length - 1))]).run Tryz.prog W1 = .ok (.tuple #[]) (W1.setCells g ((ps.length - 1) * 7) zK.cells) := fun ty =>
    run_clearK W1 ty g _ _ (fun j hj => by rw [cell_of_row W1 g _ _ _ _ q1, Array.getElem?_eq_getElem (by omega)]; rfl) (fun j hj => by simp [World.frozen?, q1])
  have hE := unhide HE
  rw [← hnews, ← Nat.zero_add (i * 7), ← hW1] at hE
  have HE2 := hide hE
  have hW : Hid (W1 = w.drew.setCells g (0 + i * 7) news) := hide hW1
  clear hW1 hnews hlen hcl hget h hE HE hb hg hsz ht q1 q2 c1 cur hz0 hz2
  generalize ps.eraseIdx i = es at *
  generalize ps.length = n at *
  obtain ⟨N, rfl⟩ : ∃ N, n = N + 1 := ⟨n - 1, by omega⟩
  simp only [Nat.add_sub_cancel, Nat.add_sub_add_right] at *
  have hkk : i + (N - i) = N := by omega
  have hic : i ≤ cap := by omega
  have hjc : i + 1 ≤ cap := by omega
  have hp0 : (0 : Int) ≤ (i : Int) + 1 := by omega
  have hp1 : (i : Int) + 1 ≤ (N : Int) + 1 := by omega
  have hp2 : ((i : Int) + 1).toNat = i + 1 := by omega
  have hp3 : (i : Int) ≤ (i : Int) + 1 := by omega
  have hpe : ((i : Int) == (i : Int) + 1) = false := by rw [beq_eq_false_iff_ne]; omega
  have hcN : ¬ cap = N := by omega
  go_enter Tryz.func131, Tryz.ntmps131
  go_wp2_with fail
  go_region_law (refine step_append_room rfl (.tmp 22) (.tmp 25) 30 rfl 42 i0 7 Tryz.underlying30 hi0 hz1 g 0 i cap (by simp [Act.eval, Act.put]) A (N - i) (cap - (i + 1)) news (by simp [Act.eval, Act.put]) s1.out hsrc.out s2.out (by omega) s3.out ?_; rw [← hW.out])
  go_wp2
  go_ret
  exact ⟨rfl, unhide HE2⟩
end Go.Proofs.YtbcgiodgobmkaaaGreatDoor
