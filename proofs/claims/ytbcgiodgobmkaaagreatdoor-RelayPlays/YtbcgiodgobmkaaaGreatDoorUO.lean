/-
  Contract of bucketlineref17.Put.
-/
import Derived.Test.YtbcgiodgobmkaaaGreatDoorUN
namespace Go.Proofs.YtbcgiodgobmkaaaGreatDoor
open Go.RowKit Go.Sort
set_option linter.unusedVariables false
set_option linter.unusedSimpArgs false
set_option maxRecDepth 4000

theorem goesTo_one (L : List PD) : goesTo L 1 = 0 := by rw [goesTo_succ]; exact if_neg (Nat.lt_irrefl _)
set_option maxHeartbeats 8000000 in
theorem rbput_cons (b0 o0 c m : Nat) (cs : List PKV) (p : PKV) (w : World) (h : PksAt w (some ⟨b0, o0, none⟩) cs.length cs) (hk : KsIn w cs) (hi : BInv m (cs.map PKV.pd)) (hm : m ≤ 256) (hr : RowAt w p.r.a p.r.n p.r.xs) (hn : p.r.n ≤ 10) (hok : okD p.pd = true) (hm0 : 0 < m) (h0 : 0 < cs.length) (hab : alkD (cs.getD 0 .dflt).pd p.pd = true) :
    Calls Tryz.prog 36 #[.slice (some ⟨b0, o0, none⟩) cs.length c, .int .i64 (m : Int), p.val] w fun e w' => RputB w w' m (.slice (some ⟨b0, o0, none⟩) cs.length c) cs p e := by
  unfold PKV.val
  have hb0 := pk_low w p
  have hrr := hr.below hb0
  have hx := pk_new w (.int .i64 p.o) (.int .i64 p.l) (.int .i64 p.k) (.int .i64 p.z) (.int .i64 p.h) (.slice p.r.a p.r.n p.r.c) (.string p.r.s)
  have hP := h.below hb0
  have hkk := hk.below hb0
  have hln : cs.length ≤ m := by have := hi.le; rwa [List.length_map] at this
  generalize hW : w.alloc (.cells #[.int .i64 p.o, .int .i64 p.l, .int .i64 p.k, .int .i64 p.z, .int .i64 p.h, .slice p.r.a p.r.n p.r.c, .string p.r.s] 42) = W at *
  obtain ⟨q0, q1, q2, q3, q4, q5, q6⟩ := id hx
  have HB0 := hide hb0
  have HTK : Hid (takeD m (cs.map PKV.pd) p.pd = (decide (0 < m) && okD p.pd && alkH (cs.map PKV.pd) p.pd && freshB (vecsD (cs.map PKV.pd)) p.r.xs)) := hide rfl
  have hm1 : decide ((m : Int) < 1) = false := by simp only [decide_eq_false_iff_not]; omega
  have hal : alkH (cs.map PKV.pd) p.pd = alkD (cs.getD 0 .dflt).pd p.pd := by
    cases cs with
    | nil => simp at h0
    | cons q qs => rfl
  have HSZ : Hid (∀ i, i < cs.length → (cs.getD i .dflt).r.n ≤ 1048576) := hide fun i hi2 => by
    have h1 := (hi.get (i := i) (by rw [List.length_map]; exact hi2)).1
    rw [pdGet hi2] at h1
    have h2 := okD_len h1
    have h3 := (h.2.1 i hi2).1
    have h4 : (cs.getD i .dflt).r.xs.length ≤ 2 := h2
    omega
  have HC := hide (fun wx (hb : Below W.heap.size W wx) => rcheck_any p.o p.l p.k p.z p.h p.r.a p.r.n p.r.c p.r.xs p.r.s wx (hrr.below hb) 0 (ckD_yes hok))
  have HV := hide (fun wx (hb : Below W.heap.size W wx) => rpvecs_any (some ⟨b0, o0, none⟩) cs.length c cs wx (hP.below hb) (by omega))
  have HVV : Hid (∀ wx v1 B1, Below W.heap.size W wx → OwnW wx B1 v1 (cs.map PKV.r) → ∃ a1 c1, v1 = .slice a1 cs.length c1 ∧ VecsAt wx a1 cs.length (vecsD (cs.map PKV.pd))) := hide fun wx v1 B1 hb ho => by
    obtain ⟨a1, c1, e, hv⟩ := ho.vecs (rowsOf (hkk.below hb))
    rw [List.length_map] at e hv
    rw [vecsOf] at hv
    exact ⟨a1, c1, e, hv⟩
  have HF := hide (fun wx a1 c1 (hb : Below W.heap.size W wx) (hv : VecsAt wx a1 cs.length (vecsD (cs.map PKV.pd))) => rfresh_any a1 cs.length c1 (vecsD (cs.map PKV.pd)) p.r.a p.r.n p.r.c p.r.xs wx hv hi.fit (hrr.below hb) (by omega) (by omega))
  have HP := hide hP
  have HX := hide hx
  have h0' : (0 : Int) < (cs.length : Int) := by omega
  obtain ⟨b0', o0', e0, hcl⟩ := hP.at (i := 0) h0
  simp only [Option.some.injEq, Addr.mk.injEq, and_true] at e0
  obtain ⟨rfl, rfl⟩ := e0
  obtain ⟨f0, f1, f2, f3, f4, f5, f6⟩ := hcl 0 h0
  rw [Nat.zero_mul, Nat.add_zero] at f0 f1 f2 f3 f4 f5 f6
  have HQC : Hid (∀ wx, Below W.heap.size W wx → PkCells wx b0 o0 (cs.getD 0 .dflt)) := hide fun wx hb => by
    have := (hcl 0 h0).belowB hb (World.block_lt_of_cell? _ _ (hcl 0 h0).1)
    rwa [Nat.zero_mul, Nat.add_zero] at this
  have HE : Hid (takeD m (cs.map PKV.pd) p.pd = freshB (vecsD (cs.map PKV.pd)) p.r.xs) := hide (by rw [unhide HTK, hal, hab, hok, decide_eq_true hm0]; rfl)
  generalize hq : cs.getD 0 .dflt = q at *
  have HA := hide (fun wx => ralike_any q.o q.l q.k q.z q.h q.r.a q.r.n q.r.c q.r.s p.o p.l p.k p.z p.h p.r.a p.r.n p.r.c p.r.s wx true ⟨fun _ => by unfold alkD at hab; exact decide_eq_true_iff.1 hab, fun _ => rfl⟩)
  have HQ := hide (fun wx (hb : Below W.heap.size W wx) => show _ ∧ _ from ⟨unhide HQC wx hb, (unhide HX).below hb⟩)
  clear h hr hP hrr hb0 hx hok hkk hal hab HTK hi hq hcl hk
  generalize hFR : freshB (vecsD (cs.map PKV.pd)) p.r.xs = FR at *
  go_enter Tryz.func36, Tryz.ntmps36
  go_wp2_with fail
  go_region_held3 (fun w' => w'.cell? ⟨w.heap.size, 0, none⟩ = some (.int .i64 p.o) ∧ w'.cell? ⟨w.heap.size, 1, none⟩ = some (.int .i64 p.l) ∧ w'.cell? ⟨w.heap.size, 2, none⟩ = some (.int .i64 p.k) ∧ w'.cell? ⟨w.heap.size, 3, none⟩ = some (.int .i64 p.z) ∧ w'.cell? ⟨w.heap.size, 4, none⟩ = some (.int .i64 p.h) ∧ w'.cell? ⟨w.heap.size, 5, none⟩ = some (.slice p.r.a p.r.n p.r.c) ∧ w'.cell? ⟨w.heap.size, 6, none⟩ = some (.string p.r.s) ∧ w'.cell? ⟨b0, o0, none⟩ = some (.int .i64 q.o) ∧ w'.cell? ⟨b0, o0 + 1, none⟩ = some (.int .i64 q.l) ∧ w'.cell? ⟨b0, o0 + 2, none⟩ = some (.int .i64 q.k) ∧ w'.cell? ⟨b0, o0 + 3, none⟩ = some (.int .i64 q.z) ∧ w'.cell? ⟨b0, o0 + 4, none⟩ = some (.int .i64 q.h) ∧ w'.cell? ⟨b0, o0 + 5, none⟩ = some (.slice q.r.a q.r.n q.r.c) ∧ w'.cell? ⟨b0, o0 + 6, none⟩ = some (.string q.r.s)) (go_keep) (first
    | (go_at_call 22; refine (unhide HC _ (Below.refl _ _).drew).mono ?_; rintro e w1 ⟨rfl, hb1⟩; have D1 := hide (show Below W.heap.size W w1 from below0 (Below.refl _ _).drew hb1); obtain ⟨⟨u0, u1, u2, u3, u4, u5, u6⟩, ⟨t0, t1, t2, t3, t4, t5, t6⟩⟩ := unhide HQ w1 (unhide D1); clear hb1)
    | (go_at_call 33; refine (unhide HA _).mono ?_; rintro e w2 ⟨rfl, hb2⟩; clear u0 u1 u2 u3 u4 u5 u6 t0 t1 t2 t3 t4 t5 t6; have D2 := hide (below0 (unhide D1) hb2); obtain ⟨⟨u0, u1, u2, u3, u4, u5, u6⟩, ⟨t0, t1, t2, t3, t4, t5, t6⟩⟩ := unhide HQ w2 (unhide D2); clear hb2)
    | (go_at_call 60; refine (unhide HV _ (unhide D2)).mono ?_; rintro e w3 ⟨v3, rfl, ho3, hb3⟩; clear u0 u1 u2 u3 u4 u5 u6 t0 t1 t2 t3 t4 t5 t6; have D3 := hide (below0 (unhide D2) hb3); obtain ⟨a3, c3, rfl, hv3⟩ := unhide HVV w3 v3 _ (unhide D3) ho3; have HV3 := hide hv3; obtain ⟨⟨u0, u1, u2, u3, u4, u5, u6⟩, ⟨t0, t1, t2, t3, t4, t5, t6⟩⟩ := unhide HQ w3 (unhide D3); clear hb3 ho3 hv3)
    | (go_at_call 59; refine (unhide HF _ a3 c3 (unhide D3) (unhide HV3)).mono ?_; rintro e w4 ⟨rfl, hb4⟩; clear u0 u1 u2 u3 u4 u5 u6 t0 t1 t2 t3 t4 t5 t6; have D4 := hide (below0 (unhide D3) hb4); obtain ⟨⟨u0, u1, u2, u3, u4, u5, u6⟩, ⟨t0, t1, t2, t3, t4, t5, t6⟩⟩ := unhide HQ w4 (unhide D4); clear hb4))
  cases FR
  · go_wp2
    go_ret2
    exact RputB.no (unhide HE) (below0 (unhide HB0) (unhide D4))
  simp only [Bool.not_true]
  have HT : Hid (takeD m (cs.map PKV.pd) p.pd = true) := hide (unhide HE)
  have HBW := hide (below0 (unhide HB0) (unhide D4))
  have HZ : Hid (w.heap.size + 1 ≤ w4.heap.size) := hide (by have h1 := (unhide D4).size; have h2 : W.heap.size = w.heap.size + 1 := (by rw [← hW, alloc_size]); omega)
  have HPA : Hid (∀ wr, Below (w.heap.size + 1) w4 wr → ∀ i, i < cs.length → PkCells wr b0 (o0 + i * 7) (cs.getD i .dflt) ∧ RowAt wr (cs.getD i .dflt).r.a (cs.getD i .dflt).r.n (cs.getD i .dflt).r.xs) := hide fun wr hb i hi => by
    have h2 : Below W.heap.size W wr := (unhide D4).trans (hb.mono (Nat.le_of_eq (by rw [← hW, alloc_size])))
    have h1 := (unhide HP).below h2
    obtain ⟨b, off, eb, hcl⟩ := h1.at hi
    simp only [Option.some.injEq, Addr.mk.injEq, and_true] at eb
    rw [eb.1, eb.2]
    exact ⟨hcl i hi, h1.2.1 i hi⟩
  have HBOX : Hid (∀ wr, Below (w.heap.size + 1) w4 wr → PkAt wr w.heap.size (.int .i64 p.o) (.int .i64 p.l) (.int .i64 p.k) (.int .i64 p.z) (.int .i64 p.h) (.slice p.r.a p.r.n p.r.c) (.string p.r.s)) := hide fun wr hb => by
    have h2 : Below W.heap.size W wr := (unhide D4).trans (hb.mono (Nat.le_of_eq (by rw [← hW, alloc_size])))
    exact (unhide HX).below h2
  clear HC HV HVV HF HA HQ HQC HV3 D1 D2 D3 f0 f1 f2 f3 f4 f5 f6 q0 q1 q2 q3 q4 q5 q6 u0 u1 u2 u3 u4 u5 u6 t0 t1 t2 t3 t4 t5 t6
  by_cases hful : m ≤ cs.length
  · have hfd : decide ((m : Int) ≤ (cs.length : Int)) = true := by simp only [decide_eq_true_eq]; omega
    have hcp : 0 < cs.length := by omega
    have HLF : Hid ((cs.eraseIdx (goesTo (cs.map PKV.pd) cs.length)).map PKV.pd = leftD m (cs.map PKV.pd)) := hide (by unfold leftD; rw [List.length_map, if_pos hful, erase_map])
    have hGL := (goesTo_spec (cs.map PKV.pd) cs.length hcp).1
    go_wp2
    go_loopw [8, 9] (fun gg i wr => ∃ k : Nat, 1 ≤ k ∧ k ≤ cs.length ∧ i = .int .i64 k ∧ gg = .int .i64 (goesTo (cs.map PKV.pd) k : Int) ∧ Hid (Below w4.heap.size w4 wr)) (fun _ i _ => cs.length - (intOf i).toNat)
    case atStart => exact ⟨1, Nat.le_refl _, by omega, rfl, by rw [goesTo_one]; rfl, hide (Below.refl _ _)⟩
    case round =>
      obtain ⟨k, hk1, hkn, rfl, rfl, HB⟩ := hrel
      by_cases hlt : k < cs.length
      · have hlt' : (k : Int) < (cs.length : Int) := by omega
        have hgk := (goesTo_spec (cs.map PKV.pd) k (by omega)).1
        have hPr := unhide HPA wr ((unhide HB).mono (unhide HZ))
        have hrk := (hPr k hlt).2
        have hrg := (hPr (goesTo (cs.map PKV.pd) k) (by omega)).2
        have hnk := unhide HSZ k hlt
        have hng := unhide HSZ (goesTo (cs.map PKV.pd) k) (by omega)
        have hsu := goesTo_succ (cs.map PKV.pd) k
        unfold degD at hsu
        rw [pdGet hlt, pdGet (i := goesTo (cs.map PKV.pd) k) (by omega)] at hsu
        have hsu : goesTo (cs.map PKV.pd) (k + 1) = if cnt (cs.getD (goesTo (cs.map PKV.pd) k) .dflt).r.xs < cnt (cs.getD k .dflt).r.xs then k else goesTo (cs.map PKV.pd) k := hsu
        obtain ⟨-, -, -, -, -, x5, -⟩ := (hPr k hlt).1
        obtain ⟨-, -, -, -, -, y5, -⟩ := (hPr (goesTo (cs.map PKV.pd) k) (by omega)).1
        have HSU := hide hsu
        clear hsu hPr
        generalize goesTo (cs.map PKV.pd) k = gk at *
        have hgl : (gk : Int) < (cs.length : Int) := by omega
        generalize cs.getD k .dflt = y at *
        generalize cs.getD gk .dflt = z at *
        have c1 := hide (quietB (W := wr) (fun w' hb => same_below (rcount_any y.r.a y.r.n y.r.c y.r.xs w' (hrk.below hb) hnk)))
        have c2 := hide (quietB (W := wr) (fun w' hb => same_below (rcount_any z.r.a z.r.n z.r.c z.r.xs w' (hrg.below hb) hng)))
        have r5 := cell_regrown x5
        have s5 := cell_regrown y5
        generalize cnt y.r.xs = ny at *
        generalize cnt z.r.xs = nz at *
        clear hrk hrg hnk hng x5 y5
        by_cases hgt : nz < ny
        · have hdg : decide ((nz : Int) < (ny : Int)) = true := by simp only [decide_eq_true_eq]; omega
          have HG2 : Hid (IsN (goesTo (cs.map PKV.pd) (k + 1)) k) := hide (by have h1 := unhide HSU; rwa [if_pos hgt] at h1)
          clear HSU
          go_wp2_with fail
          refine wp_region_quiet_below (by kernel_rfl) (by kernel_rfl) ?_
          repeat (with_reducible refine wpQuiet_step (fun K hK => ?_); go_simp; first | (with_reducible refine hK _ ?_; clear hK K) | (apply Exists.intro; apply And.intro; (intro _; (go_at_call 42; first | with_reducible exact unhide c1 _ _ | with_reducible exact unhide c2 _ _)); with_reducible refine hK _ ?_; clear hK K))
          refine wpQuiet_nil ?_
          intro w3 hw3
          obtain ⟨⟨dq, osq⟩, hw3⟩ := hw3
          have B3 := hide (below0 (unhide HB) (show Below wr.heap.size wr w3 by rw [hw3]; exact below_regrown _ dq osq))
          clear hw3 dq osq r5 s5 c1 c2 HB
          go_wp2
          go_roundw
          case rel => exact ⟨k + 1, by omega, by omega, by go_num, by rw [show goesTo (cs.map PKV.pd) (k + 1) = k from unhide HG2], B3⟩
          case measure => simp [intOf]; omega
        · have hdg : decide ((nz : Int) < (ny : Int)) = false := by simp only [decide_eq_false_iff_not]; omega
          have HG2 : Hid (IsN (goesTo (cs.map PKV.pd) (k + 1)) gk) := hide (by have h1 := unhide HSU; rwa [if_neg hgt] at h1)
          clear HSU
          go_wp2_with fail
          refine wp_region_quiet_below (by kernel_rfl) (by kernel_rfl) ?_
          repeat (with_reducible refine wpQuiet_step (fun K hK => ?_); go_simp; first | (with_reducible refine hK _ ?_; clear hK K) | (apply Exists.intro; apply And.intro; (intro _; (go_at_call 42; first | with_reducible exact unhide c1 _ _ | with_reducible exact unhide c2 _ _)); with_reducible refine hK _ ?_; clear hK K))
          refine wpQuiet_nil ?_
          intro w3 hw3
          obtain ⟨⟨dq, osq⟩, hw3⟩ := hw3
          have B3 := hide (below0 (unhide HB) (show Below wr.heap.size wr w3 by rw [hw3]; exact below_regrown _ dq osq))
          clear hw3 dq osq r5 s5 c1 c2 HB
          go_wp2
          go_roundw
          case rel => exact ⟨k + 1, by omega, by omega, by go_num, by rw [show goesTo (cs.map PKV.pd) (k + 1) = gk from unhide HG2], B3⟩
          case measure => simp [intOf]; omega
      · obtain rfl : k = cs.length := by omega
        generalize hG : goesTo (cs.map PKV.pd) cs.length = G at *
        have HNE : Hid (∀ k, k < cs.length → ((k : Int) != (G : Int)) = decide (k ≠ G)) := hide fun k _ => by
          by_cases e : k = G
          · subst e; simp
          · have e2 : ¬ (k : Int) = (G : Int) := by omega
            simp [e, e2]
        have HBQ := hide (unhide HB)
        have HPA2 := hide (fun wx (hb : Below (w.heap.size + 1) wr wx) => unhide HPA wx (((unhide HB).mono (unhide HZ)).trans hb))
        have HBOX2 := hide (fun wx (hb : Below (w.heap.size + 1) wr wx) => unhide HBOX wx (((unhide HB).mono (unhide HZ)).trans hb))
        have HZ2 := hide (Nat.le_trans (unhide HZ) (unhide HB).size)
        have HBW2 := hide (below0 (unhide HBW) (unhide HB))
        clear HPA HBOX HZ HBW
        have HPA := HPA2
        have HBOX := HBOX2
        have HZ := HZ2
        have HBW := HBW2
        clear HB hG HPA2 HBOX2 HZ2 HBW2 HBQ
        go_wp2
        go_loopw [10, 11] (fun o i wq => ∃ (k : Nat) (a1 : Option Addr) (m1 c1 : Nat) (us : List PKV), k ≤ cs.length ∧ i = .int .i64 k ∧ o = .slice a1 m1 c1 ∧ Hid (OwnP wq (w.heap.size + 1) (.slice a1 m1 c1) us) ∧ Hid (IsK us ((cs.take k).eraseIdx G)) ∧ Hid (us.length ≤ 256) ∧ Hid (Below (w.heap.size + 1) wr wq)) (fun _ i _ => cs.length - (intOf i).toNat)
        case atStart => exact ⟨0, none, 0, 0, [], Nat.zero_le _, rfl, rfl, hide (OwnP.nil _ _), hide (by unfold IsK; rw [List.take_zero]; rfl), hide (Nat.zero_le _), hide (Below.refl _ _)⟩
        case round =>
          obtain ⟨k, a1, m1, c1, us, hkn, rfl, rfl, HO, HU, HUL, HB⟩ := hrel
          by_cases hlt : k < cs.length
          · have hlt' : (k : Int) < (cs.length : Int) := by omega
            have hne := unhide HNE k hlt
            have HER := hide (erase_take cs G k hlt)
            obtain ⟨x0, x1, x2, x3, x4, x5, x6⟩ := (unhide HPA wr (unhide HB) k hlt).1
            generalize cs.getD k .dflt = y at *
            by_cases hkG : k = G
            · have hne2 : ((k : Int) != (G : Int)) = false := by rw [hne, decide_eq_false (by simpa using hkG)]
              have HU2 : Hid (IsK us ((cs.take (k + 1)).eraseIdx G)) := hide (by have h1 := unhide HER; rw [if_pos hkG] at h1; unfold IsK; rw [h1]; exact unhide HU)
              clear hne HER HU hkG
              go_wp2
              go_roundw
              case rel => exact ⟨k + 1, a1, m1, c1, us, by omega, by go_num, rfl, HO, HU2, HUL, HB⟩
              case measure => simp [intOf]; omega
            · have hne2 : ((k : Int) != (G : Int)) = true := by rw [hne, decide_eq_true (by simpa using hkG)]
              have HU2 : Hid (IsK (us ++ [y]) ((cs.take (k + 1)).eraseIdx G)) := hide (by have h1 := unhide HER; rw [if_neg hkG] at h1; unfold IsK; rw [h1, show us = _ from unhide HU])
              have HUL2 : Hid ((us ++ [y]).length ≤ 256) := hide (by rw [show us ++ [y] = _ from unhide HU2, List.length_eraseIdx]; have := List.length_take_le (k + 1) cs; split <;> omega)
              have hul : us.length ≤ 1000000 := by have := unhide HUL; omega
              have hszr : w.heap.size + 1 ≤ wr.heap.size := Nat.le_trans (unhide HZ) (unhide HB).size
              clear hne HER HU hkG HUL
              go_wp2_with (first | (at_builtin; refine wpList_pushP rfl (.tmp 77) (.tmp 82) rfl (w.heap.size + 1) (.slice a1 m1 c1) us y rfl rfl (unhide HO) hszr hul ?_; intro g3 cap3 w3 ho3 hg3 hat3; have HO3 := hide ho3; have HB3 := hide ((unhide HB).trans ((unhide HO).grownB hg3 hszr)); clear ho3 hg3 hat3))
              go_roundw
              case rel => exact ⟨k + 1, _, _, _, us ++ [y], by omega, by go_num, rfl, HO3, HU2, HUL2, HB3⟩
              case measure => simp [intOf]; omega
          · have hke : cs.take k = cs := List.take_of_length_le (by omega)
            have HU2 : Hid (IsK us (cs.eraseIdx G)) := hide (by have h1 := unhide HU; rwa [hke] at h1)
            have hul : us.length ≤ 1000000 := by have := unhide HUL; omega
            have hszr : w.heap.size + 1 ≤ wr.heap.size := Nat.le_trans (unhide HZ) (unhide HB).size
            obtain ⟨x0, x1, x2, x3, x4, x5, x6⟩ := unhide HBOX wr (unhide HB)
            clear HU hke HUL
            go_wp2_with (first | (at_builtin; refine wpList_pushP rfl (.tmp 84) (.tmp 86) rfl (w.heap.size + 1) (.slice a1 m1 c1) us p rfl rfl (unhide HO) hszr hul ?_; intro g3 cap3 w3 ho3 hg3 hat3; have HO3 := hide ho3; have HB3 := hide ((unhide HB).trans ((unhide HO).grownB hg3 hszr)); clear ho3 hg3 hat3))
            go_ret2
            refine RputB.yes (unhide HT) (G := G) (unhide HLF) ?_ ((unhide HBW).trans ((unhide HB3).mono (Nat.le_succ _)))
            rw [← show us = _ from unhide HU2]
            exact (unhide HO3).mono (Nat.le_succ _)
  · have hfd : decide ((m : Int) ≤ (cs.length : Int)) = false := by simp only [decide_eq_false_iff_not]; omega
    obtain ⟨G, hG⟩ : ∃ G, G = cs.length := ⟨_, rfl⟩
    have HLF : Hid ((cs.eraseIdx G).map PKV.pd = leftD m (cs.map PKV.pd)) := hide (by unfold leftD; rw [List.length_map, if_neg hful, hG, List.eraseIdx_of_length_le (Nat.le_refl _)])
    have HNE : Hid (∀ k, k < cs.length → ((k : Int) != (-1 : Int)) = decide (k ≠ G)) := hide fun k hk => by
      have e1 : ¬ k = G := by omega
      have e2 : ¬ (k : Int) = -1 := by omega
      simp [e1, e2]
    clear hG
    go_wp2
    go_loopw [10, 11] (fun o i wr => ∃ (k : Nat) (a1 : Option Addr) (m1 c1 : Nat) (us : List PKV), k ≤ cs.length ∧ i = .int .i64 k ∧ o = .slice a1 m1 c1 ∧ Hid (OwnP wr (w.heap.size + 1) (.slice a1 m1 c1) us) ∧ Hid (IsK us ((cs.take k).eraseIdx G)) ∧ Hid (us.length ≤ 256) ∧ Hid (Below (w.heap.size + 1) w4 wr)) (fun _ i _ => cs.length - (intOf i).toNat)
    case atStart => exact ⟨0, none, 0, 0, [], Nat.zero_le _, rfl, rfl, hide (OwnP.nil _ _), hide (by unfold IsK; rw [List.take_zero]; rfl), hide (Nat.zero_le _), hide (Below.refl _ _)⟩
    case round =>
      obtain ⟨k, a1, m1, c1, us, hkn, rfl, rfl, HO, HU, HUL, HB⟩ := hrel
      by_cases hlt : k < cs.length
      · have hlt' : (k : Int) < (cs.length : Int) := by omega
        have hne := unhide HNE k hlt
        have HER := hide (erase_take cs G k hlt)
        obtain ⟨x0, x1, x2, x3, x4, x5, x6⟩ := (unhide HPA wr (unhide HB) k hlt).1
        generalize cs.getD k .dflt = y at *
        by_cases hkG : k = G
        · have hne2 : ((k : Int) != (-1 : Int)) = false := by rw [hne, decide_eq_false (by simpa using hkG)]
          have HU2 : Hid (IsK us ((cs.take (k + 1)).eraseIdx G)) := hide (by have h1 := unhide HER; rw [if_pos hkG] at h1; unfold IsK; rw [h1]; exact unhide HU)
          clear hne HER HU hkG
          go_wp2
          go_roundw
          case rel => exact ⟨k + 1, a1, m1, c1, us, by omega, by go_num, rfl, HO, HU2, HUL, HB⟩
          case measure => simp [intOf]; omega
        · have hne2 : ((k : Int) != (-1 : Int)) = true := by rw [hne, decide_eq_true (by simpa using hkG)]
          have HU2 : Hid (IsK (us ++ [y]) ((cs.take (k + 1)).eraseIdx G)) := hide (by have h1 := unhide HER; rw [if_neg hkG] at h1; unfold IsK; rw [h1, show us = _ from unhide HU])
          have HUL2 : Hid ((us ++ [y]).length ≤ 256) := hide (by rw [show us ++ [y] = _ from unhide HU2, List.length_eraseIdx]; have := List.length_take_le (k + 1) cs; split <;> omega)
          have hul : us.length ≤ 1000000 := by have := unhide HUL; omega
          have hszr : w.heap.size + 1 ≤ wr.heap.size := Nat.le_trans (unhide HZ) (unhide HB).size
          clear hne HER HU hkG HUL
          go_wp2_with (first | (at_builtin; refine wpList_pushP rfl (.tmp 77) (.tmp 82) rfl (w.heap.size + 1) (.slice a1 m1 c1) us y rfl rfl (unhide HO) hszr hul ?_; intro g3 cap3 w3 ho3 hg3 hat3; have HO3 := hide ho3; have HB3 := hide ((unhide HB).trans ((unhide HO).grownB hg3 hszr)); clear ho3 hg3 hat3))
          go_roundw
          case rel => exact ⟨k + 1, _, _, _, us ++ [y], by omega, by go_num, rfl, HO3, HU2, HUL2, HB3⟩
          case measure => simp [intOf]; omega
      · have hke : cs.take k = cs := List.take_of_length_le (by omega)
        have HU2 : Hid (IsK us (cs.eraseIdx G)) := hide (by have h1 := unhide HU; rwa [hke] at h1)
        have hul : us.length ≤ 1000000 := by have := unhide HUL; omega
        have hszr : w.heap.size + 1 ≤ wr.heap.size := Nat.le_trans (unhide HZ) (unhide HB).size
        obtain ⟨x0, x1, x2, x3, x4, x5, x6⟩ := unhide HBOX wr (unhide HB)
        clear HU hke HUL
        go_wp2_with (first | (at_builtin; refine wpList_pushP rfl (.tmp 84) (.tmp 86) rfl (w.heap.size + 1) (.slice a1 m1 c1) us p rfl rfl (unhide HO) hszr hul ?_; intro g3 cap3 w3 ho3 hg3 hat3; have HO3 := hide ho3; have HB3 := hide ((unhide HB).trans ((unhide HO).grownB hg3 hszr)); clear ho3 hg3 hat3))
        go_ret2
        refine RputB.yes (unhide HT) (G := G) (unhide HLF) ?_ ((unhide HBW).trans ((unhide HB3).mono (Nat.le_succ _)))
        rw [← show us = _ from unhide HU2]
        exact (unhide HO3).mono (Nat.le_succ _)
theorem rbput_any (a : Option Addr) (c m : Nat) (cs : List PKV) (p : PKV) (w : World) (h : PksAt w a cs.length cs) (hk : KsIn w cs) (hi : BInv m (cs.map PKV.pd)) (hm : m ≤ 256) (hr : RowAt w p.r.a p.r.n p.r.xs) (hn : p.r.n ≤ 10) :
    Calls Tryz.prog 36 #[.slice a cs.length c, .int .i64 (m : Int), p.val] w fun e w' => RputB w w' m (.slice a cs.length c) cs p e := by
  cases hok : okD p.pd
  · exact rbput_bad a c m cs p w hr hok
  by_cases hm0 : 0 < m
  · by_cases h0 : 0 < cs.length
    · cases hab : alkD (cs.getD 0 .dflt).pd p.pd
      · exact rbput_other a c m cs p w h hr hok hm0 hm h0 hab
      · obtain ⟨b0, o0, rfl, _⟩ := h.at (i := 0) h0
        exact rbput_cons b0 o0 c m cs p w h hk hi hm hr hn hok hm0 h0 hab
    · obtain rfl : cs = [] := List.length_eq_zero_iff.1 (by omega)
      exact rbput_nil a c m p w hr hn hok hm0 hm
  · obtain rfl : m = 0 := by omega
    exact rbput_none a c cs p w hr hok
end Go.Proofs.YtbcgiodgobmkaaaGreatDoor
