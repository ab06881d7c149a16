/-
  Contracts of Buffer.rows, degrees, toGo.
  Contract of Buffer.toGo: the first of the greatest degree.
  Contracts of Buffer.alike, takes.
-/
import Derived.Test.YtbcgiodgobmkaaaGreatDoorU18
import Derived.Test.YtbcgiodgobmkaaaGreatDoorU6
import Derived.WalkMore
import Derived.Deep.LoopGhost
namespace Go.Proofs.YtbcgiodgobmkaaaGreatDoor
open Go.RowKit Go.Sort
set_option linter.unusedVariables false
set_option linter.unusedSimpArgs false
set_option maxRecDepth 4000

theorem rowsOf {w : World} {ps : List PKV} (h : KsIn w ps) : RowsIn w (ps.map PKV.r) := fun r hr => by
  obtain ⟨p, hp, rfl⟩ := List.mem_map.1 hr
  exact h p hp
theorem vecsOf (ps : List PKV) : vecsL (ps.map PKV.r) = vecsD (ps.map PKV.pd) := by
  unfold vecsL vecsD
  rw [List.map_map, List.map_map]
  rfl
theorem rGet {ps : List PKV} {i : Nat} (hi : i < ps.length) : (ps.map PKV.r).getD i .dflt = (ps.getD i .dflt).r := by
  rw [List.getD_eq_getElem?_getD, List.getElem?_map, List.getElem?_eq_getElem hi, List.getD_eq_getElem?_getD, List.getElem?_eq_getElem hi]
  rfl
set_option maxHeartbeats 2000000 in
theorem burows_any (g B m : Nat) (v : Value) (ps : List PKV) (w : World) (h : BfAt w g B m v ps) :
    Calls Tryz.prog 136 #[.pointer (some ⟨g, 0, none⟩)] w fun e w' => ∃ v', e = .returned v' ∧ OwnW w' w.heap.size v' (ps.map PKV.r) ∧ Below w.heap.size w w' := by
  have hln := h.len.2
  obtain ⟨a, c, rfl, hP, -, -⟩ := h.at
  have hmk := make_v ps.length (by omega)
  have hbm : Below w.heap.size w (w.alloc (.cells (madeCells #[.slice none 0 0] ps.length) 25)) := (Below.refl _ _).alloc (Nat.le_refl _) _
  obtain ⟨k0, k1⟩ := h.cells (Below.refl _ _)
  obtain ⟨j0, j1⟩ := h.cells hbm
  have Hh := hide hP
  obtain ⟨ts, hts⟩ : ∃ ts, ts = ps.map PKV.r := ⟨_, rfl⟩
  have htl : ts.length = ps.length := by rw [hts, List.length_map]
  have HM := made_v w ps.length (by omega)
  rw [← htl, ← fillW_zero, htl] at HM
  have HM := hide HM
  have HBM := hide hbm
  have HT := hide hts
  have HTL := hide htl
  rw [← hts]
  clear h hP hbm hts htl
  go_enter Tryz.func136, Tryz.ntmps136
  go_wp2
  go_loopw [17] (fun i wr => ∃ k : Nat, k ≤ ps.length ∧ i = .int .i64 k ∧ Hid (wr.ownsRow w.heap.size 25 1 (.slice (some ⟨w.heap.size, 0, none⟩) ps.length ps.length) ps.length (fillW ts k)) ∧ Hid (Below w.heap.size w wr)) (fun i _ => ps.length - (intOf i).toNat)
  case atStart => exact ⟨0, Nat.zero_le _, rfl, HM, HBM⟩
  case round =>
    obtain ⟨k, hk, rfl, HI, HB⟩ := hrel
    clear HM HBM
    by_cases hlt : k < ps.length
    · obtain ⟨b, off, rfl, hcl⟩ := ((unhide Hh).below (unhide HB)).at hlt
      obtain ⟨hc0, hc1, hc2, hc3, hc4, hc5, hc6⟩ := hcl k hlt
      have hlt' : (k : Int) < (ps.length : Int) := by omega
      have htlen := unhide HTL
      have hS := fillW_succ ts k (by omega)
      rw [show ts.getD k .dflt = (ps.getD k .dflt).r from by rw [unhide HT]; exact rGet hlt] at hS
      have hfk : (fillW ts k)[k]? = some (.slice none 0 0) := by
        unfold fillW
        have hl : ((ts.take k).map fun r => Value.slice r.a r.n r.c).length = k := by simp; omega
        rw [List.getElem?_append_right (by omega), hl, Nat.sub_self, List.getElem?_replicate, if_pos (by omega)]
      clear htlen
      generalize ps.getD k .dflt = p at *
      have hb1 : Below wr.heap.size wr (wr.alloc (.cells #[.int .i64 p.o, .int .i64 p.l, .int .i64 p.k, .int .i64 p.z, .int .i64 p.h, .slice p.r.a p.r.n p.r.c, .string p.r.s] 42)) := (Below.refl _ _).alloc (Nat.le_refl _) _
      have hI := ownsRow_below (unhide HI) hb1
      have hcell := hI.cellAt k (by omega)
      rw [hfk] at hcell
      have hfz := hI.frozenAt k
      have hs2 := (hI.stored k (.slice p.r.a p.r.n p.r.c)).1
      rw [hS] at hs2
      have hB2 := (below0 (unhide HB) hb1).setCell (p := ⟨w.heap.size, k, none⟩) (Nat.le_refl _) (.slice p.r.a p.r.n p.r.c)
      obtain ⟨hx0, hx1, hx2, hx3, hx4, hx5, hx6⟩ := pk_new wr (.int .i64 p.o) (.int .i64 p.l) (.int .i64 p.k) (.int .i64 p.z) (.int .i64 p.h) (.slice p.r.a p.r.n p.r.c) (.string p.r.s)
      have HS := hide hs2
      have HB2 := hide hB2
      clear hcl hI hs2 hB2 hb1 hS hfk HI HB
      go_wp2
      go_roundw
      case rel => exact ⟨k + 1, by omega, by go_num, HS, HB2⟩
      case measure => simp [intOf]; omega
    · obtain rfl : k = ps.length := by omega
      have hI := unhide HI
      rw [← unhide HTL, fillW_all] at hI
      have HI2 := hide hI
      clear hI HI
      go_wp2
      go_ret
      exact ⟨_, rfl, by rw [← unhide HTL]; exact unhide HI2, unhide HB⟩
/-- How many blocks each is made of. -/
def degsZ (ps : List PKV) : List Int := ps.map fun p => (cnt p.r.xs : Int)
theorem degsZ_len (ps : List PKV) : (degsZ ps).length = ps.length := by simp [degsZ]
theorem degsZ_get {ps : List PKV} {i : Nat} (hi : i < ps.length) : (degsZ ps).getD i 0 = (cnt (ps.getD i .dflt).r.xs : Int) := by
  unfold degsZ
  rw [List.getD_eq_getElem?_getD, List.getElem?_map, List.getElem?_eq_getElem hi, List.getD_eq_getElem?_getD, List.getElem?_eq_getElem hi]
  rfl
theorem degsZ_deg {ps : List PKV} {i : Nat} (hi : i < ps.length) : (degsZ ps).getD i 0 = (degD (ps.map PKV.pd) i : Int) := by
  rw [degsZ_get hi]
  unfold degD
  rw [pdGet hi]
  rfl
set_option maxHeartbeats 2000000 in
theorem budegs_any (g B m : Nat) (v : Value) (ps : List PKV) (w : World) (h : BfAt w g B m v ps) :
    Calls Tryz.prog 137 #[.pointer (some ⟨g, 0, none⟩)] w fun e w' => ∃ v', e = .returned v' ∧ OwnZ w' w.heap.size v' (degsZ ps) ∧ Below w.heap.size w w' := by
  have hln := h.len.2
  obtain ⟨a, c, rfl, hP, -, -⟩ := h.at
  have hmk := make_intz ps.length (by omega)
  have hbm : Below w.heap.size w (w.alloc (.cells (madeCells #[.int .i64 0] ps.length) 3)) := (Below.refl _ _).alloc (Nat.le_refl _) _
  obtain ⟨k0, k1⟩ := h.cells (Below.refl _ _)
  obtain ⟨j0, j1⟩ := h.cells hbm
  have Hh := hide hP
  have HM := hide (made_intz w ps.length (by omega) (filledZ (degsZ ps) 0) (by rw [filledZ_zero, degsZ_len]))
  have HBM := hide hbm
  have HSH : Hid (∀ i, i < ps.length → (ps.getD i .dflt).r.n ≤ 1048576) := hide fun i hi => by
    have h1 := (h.inv.get (i := i) (by rw [List.length_map]; exact hi)).1
    rw [pdGet hi] at h1
    have h2 := okD_len h1
    have h3 := (hP.2.1 i hi).1
    have h4 : (ps.getD i .dflt).r.xs.length ≤ 2 := h2
    omega
  clear h hP hbm
  go_enter Tryz.func137, Tryz.ntmps137
  go_wp2
  go_loopw [17] (fun i wr => ∃ k : Nat, k ≤ ps.length ∧ i = .int .i64 k ∧ Hid (OwnZ wr w.heap.size (.slice (some ⟨w.heap.size, 0, none⟩) ps.length ps.length) (filledZ (degsZ ps) k)) ∧ Hid (Below w.heap.size w wr)) (fun i _ => ps.length - (intOf i).toNat)
  case atStart => exact ⟨0, Nat.zero_le _, rfl, HM, HBM⟩
  case round =>
    obtain ⟨k, hk, rfl, HI, HB⟩ := hrel
    clear HM HBM
    by_cases hlt : k < ps.length
    · obtain ⟨b, off, rfl, hcl⟩ := ((unhide Hh).below (unhide HB)).at hlt
      obtain ⟨hc0, hc1, hc2, hc3, hc4, hc5, hc6⟩ := hcl k hlt
      have hrow := ((unhide Hh).below (unhide HB)).2.1 k hlt
      have hrn := unhide HSH k hlt
      have hlt' : (k : Int) < (ps.length : Int) := by omega
      have hS := filledZ_succ (degsZ ps) k (by rw [degsZ_len]; exact hlt)
      rw [degsZ_get hlt] at hS
      have hfl := filledZ_length (degsZ ps) k (by rw [degsZ_len]; omega)
      rw [degsZ_len] at hfl
      generalize ps.getD k .dflt = p at *
      have hb1 : Below wr.heap.size wr (wr.alloc (.cells #[.int .i64 p.o, .int .i64 p.l, .int .i64 p.k, .int .i64 p.z, .int .i64 p.h, .slice p.r.a p.r.n p.r.c, .string p.r.s] 42)) := (Below.refl _ _).alloc (Nat.le_refl _) _
      have HCO := hide (count_any p.r.a p.r.n p.r.c p.r.xs _ (hrow.below hb1) hrn)
      have hI := (unhide HI).below hb1
      obtain ⟨g1, cap1, e1, hg1, -, hcell, hfz⟩ := hI.at (by omega)
      rw [hfl] at e1
      simp only [Value.slice.injEq, Option.some.injEq, Addr.mk.injEq, and_true, true_and] at e1
      obtain ⟨rfl, rfl⟩ := e1
      have hcell := hcell k (by omega)
      have hfz := hfz k
      have hs2 := hI.stored k (cnt p.r.xs : Int)
      rw [hS] at hs2
      have hB2 := (below0 (unhide HB) hb1).setCell (p := ⟨w.heap.size, k, none⟩) (Nat.le_refl _) (.int .i64 (cnt p.r.xs : Int))
      obtain ⟨hx0, hx1, hx2, hx3, hx4, hx5, hx6⟩ := pk_new wr (.int .i64 p.o) (.int .i64 p.l) (.int .i64 p.k) (.int .i64 p.z) (.int .i64 p.h) (.slice p.r.a p.r.n p.r.c) (.string p.r.s)
      have HS := hide hs2
      have HB2 := hide hB2
      clear hcl hI hs2 hB2 hb1 hS hfl HI HB hrow hrn hg1
      generalize (filledZ (degsZ ps) k).getD k 0 = zz at *
      go_wp2_with (go_at_call 52; refine (unhide HCO).mono ?_; rintro e w2 ⟨rfl, hw2⟩; subst hw2)
      go_roundw
      case rel => exact ⟨k + 1, by omega, by go_num, HS, HB2⟩
      case measure => simp [intOf]; omega
    · obtain rfl : k = ps.length := by omega
      have hI := unhide HI
      rw [show filledZ (degsZ ps) ps.length = degsZ ps from by rw [← degsZ_len ps, filledZ_all]] at hI
      have HI2 := hide hI
      clear hI HI
      go_wp2
      go_ret
      exact ⟨_, rfl, unhide HI2, unhide HB⟩
end Go.Proofs.YtbcgiodgobmkaaaGreatDoor
namespace Go.Proofs.YtbcgiodgobmkaaaGreatDoor
open Go.RowKit Go.Sort
set_option linter.unusedVariables false
set_option linter.unusedSimpArgs false
set_option maxRecDepth 4000

set_option maxHeartbeats 2000000 in
theorem butogo_any (g B m : Nat) (v : Value) (ps : List PKV) (w : World) (h : BfAt w g B m v ps) (h0 : 0 < ps.length) :
    Calls Tryz.prog 130 #[.pointer (some ⟨g, 0, none⟩)] w fun e w' => e = .returned (.int .i64 (goesTo (ps.map PKV.pd) ps.length : Int)) ∧ Below w.heap.size w w' := by
  have hln := h.len.2
  obtain ⟨a, c, rfl, hP, -, -⟩ := h.at
  have HD := hide (budegs_any g B m _ ps w h)
  have HC := hide (fun (w' : World) (hb : Below w.heap.size w w') => h.cells hb)
  have HP := hide hP
  have HL : Hid (∀ i, i < ps.length → (degD (ps.map PKV.pd) i : Int) ≤ (ps.getD 0 .dflt).k ∧ (ps.getD 0 .dflt).k ≤ 128) := hide fun i hi => by
    have := h.inv.deg (i := i) (by rw [List.length_map]; exact hi)
    rw [pdGet h0] at this
    exact this
  have HW : Hid (∀ (w1 : World) (v1 : Value), OwnZ w1 w.heap.size v1 (degsZ ps) → ∃ g1 cap1, v1 = .slice (some ⟨g1, 0, none⟩) ps.length cap1 ∧ ∀ i, i < ps.length → w1.cell? ⟨g1, i, none⟩ = some (.int .i64 (degD (ps.map PKV.pd) i : Int))) := hide fun w1 v1 ho1 => by
    obtain ⟨g1, cap1, e1, -, -, hcw, -⟩ := ho1.at (by rw [degsZ_len]; exact h0)
    rw [degsZ_len] at hcw e1
    exact ⟨g1, cap1, e1, fun i hi => by rw [hcw i hi, degsZ_deg hi]⟩
  clear h hP
  generalize ps.map PKV.pd = L at *
  generalize ps.length = n at *
  go_enter Tryz.func130, Tryz.ntmps130
  go_wp2_with fail
  go_step3
  go_wp2_with fail
  refine (unhide HD).mono ?_
  rintro e w1 ⟨v1, rfl, ho1, hb1⟩
  obtain ⟨g1, cap1, rfl, hcz⟩ := unhide HW w1 v1 ho1
  obtain ⟨k0, k1⟩ := unhide HC w1 hb1
  obtain ⟨b, off, rfl, hcl⟩ := ((unhide HP).below hb1).at h0
  obtain ⟨-, -, hk, -, -, -, -⟩ := hcl 0 h0
  rw [Nat.zero_mul, Nat.add_zero] at hk
  have HB1 := hide hb1
  have HCZ := hide hcz
  have h0' : (0 : Int) < (n : Int) := by omega
  obtain ⟨hk0, hk1⟩ := unhide HL 0 h0
  obtain ⟨D, hD⟩ : ∃ D : Nat, (ps.getD 0 .dflt).k = (D : Int) := ⟨(ps.getD 0 .dflt).k.toNat, by omega⟩
  have hDb : D ≤ 128 := by omega
  have HL2 : Hid (∀ j, j < n → degD L j ≤ D) := hide fun j hj => by have := (unhide HL j hj).1; omega
  rw [hD] at hk
  clear hcl HD HC HP HL ho1 hb1 hcz hk0 hk1 hD HW
  go_wp2
  go_step3
  go_wp2
  go_loop [4, 5] (fun pl i => ∃ d : Nat, d ≤ 128 ∧ pl = .int .i64 0 ∧ i = .int .i64 d ∧ Hid (∀ j, j < n → degD L j ≤ d)) (fun _ i => (intOf i).toNat)
  case atStart => exact ⟨D, hDb, rfl, rfl, HL2⟩
  case round =>
    obtain ⟨d, hd, rfl, rfl, HLd⟩ := hrel
    clear HL2
    by_cases hd0 : 0 < d
    · have hd0' : (0 : Int) < (d : Int) := by omega
      go_wp2
      go_loop [4, 22] (fun pl i => ∃ k : Nat, k ≤ n ∧ pl = .int .i64 0 ∧ i = .int .i64 k ∧ Hid (∀ j, j < k → degD L j ≠ d)) (fun _ i => n - (intOf i).toNat)
      case atStart => exact ⟨0, Nat.zero_le _, rfl, rfl, hide (fun j hj => by omega)⟩
      case round =>
        obtain ⟨k, hkn, rfl, rfl, HN⟩ := hrel
        by_cases hlt : k < n
        · have hlt' : (k : Int) < (n : Int) := by omega
          have hc := unhide HCZ k hlt
          by_cases he : degD L k = d
          · have hde : ((degD L k : Int) == (d : Int)) = true := by rw [beq_iff_eq]; omega
            have HG : Hid (goesTo L n = k) := hide (goesTo_uniq hlt (fun j hj => by rw [he]; exact unhide HLd j hj) fun j hj => by
              have h1 := unhide HLd j (by omega)
              have h2 := unhide HN j hj
              omega)
            clear he HLd HN
            go_wp2
            (try rw [Exit.noGoto_ret])
            go_ret
            exact ⟨by rw [unhide HG]; rfl, unhide HB1⟩
          · have hde : ((degD L k : Int) == (d : Int)) = false := by rw [beq_eq_false_iff_ne]; omega
            have HN2 : Hid (∀ j, j < k + 1 → degD L j ≠ d) := hide fun j hj => by
              by_cases e : j = k
              · rw [e]; exact he
              · exact unhide HN j (by omega)
            clear he HN
            go_wp2
            go_round
            case rel => exact ⟨k + 1, by omega, rfl, by go_num, HN2⟩
            case measure => simp [intOf]; omega
        · have HL3 : Hid (∀ j, j < n → degD L j ≤ d - 1) := hide fun j hj => by
            have h1 := unhide HLd j hj
            have h2 := unhide HN j (by omega)
            omega
          clear HLd HN
          go_wp2
          go_round
          case rel => exact ⟨d - 1, by omega, rfl, by go_num, HL3⟩
          case measure => simp [intOf]; omega
    · obtain rfl : d = 0 := by omega
      have HG : Hid (goesTo L n = 0) := hide (goesTo_uniq h0 (fun j hj => by have := unhide HLd j hj; omega) fun j hj => by omega)
      clear HLd
      go_wp2
      (try rw [Exit.noGoto_ret])
      go_ret
      exact ⟨by rw [unhide HG]; rfl, unhide HB1⟩
end Go.Proofs.YtbcgiodgobmkaaaGreatDoor
namespace Go.Proofs.YtbcgiodgobmkaaaGreatDoor
open Go.RowKit Go.Sort
set_option linter.unusedVariables false
set_option linter.unusedSimpArgs false
set_option maxRecDepth 4000

theorem pk_low (w : World) (p : PKV) : Below w.heap.size w (w.alloc (.cells #[.int .i64 p.o, .int .i64 p.l, .int .i64 p.k, .int .i64 p.z, .int .i64 p.h, .slice p.r.a p.r.n p.r.c, .string p.r.s] 42)) := (Below.refl _ _).alloc (Nat.le_refl _) _
set_option maxHeartbeats 2000000 in
theorem bualike_any (g B m : Nat) (v : Value) (ps : List PKV) (p : PKV) (w : World) (h : BfAt w g B m v ps) :
    Calls Tryz.prog 134 #[.pointer (some ⟨g, 0, none⟩), p.val] w fun e w' => e = .returned (.bool (alkH (ps.map PKV.pd) p.pd)) ∧ Below w.heap.size w w' := by
  unfold PKV.val
  have hln := h.len.2
  have hb0 := pk_low w p
  have hB := h.below hb0
  obtain ⟨q0, q1, q2, q3, q4, q5, q6⟩ := pk_new w (.int .i64 p.o) (.int .i64 p.l) (.int .i64 p.k) (.int .i64 p.z) (.int .i64 p.h) (.slice p.r.a p.r.n p.r.c) (.string p.r.s)
  generalize hW : w.alloc (.cells #[.int .i64 p.o, .int .i64 p.l, .int .i64 p.k, .int .i64 p.z, .int .i64 p.h, .slice p.r.a p.r.n p.r.c, .string p.r.s] 42) = W at *
  obtain ⟨a, c, rfl, hP, -, -⟩ := hB.at
  obtain ⟨k0, k1⟩ := hB.cells (Below.refl _ _)
  have r1 := cell_regrown k1
  have s0 := cell_regrown q0
  have s1 := cell_regrown q1
  have s2 := cell_regrown q2
  have s3 := cell_regrown q3
  have s4 := cell_regrown q4
  have s5 := cell_regrown q5
  have s6 := cell_regrown q6
  have HB0 := hide hb0
  have hgq : Tryz.prog.eqGuardType Tryz.prog.depth 172 = false := by kernel_rfl
  have cP := hide (quietB (W := W) (fun w' hb => bobj_any p w'))
  unfold PKV.val at cP
  cases ps with
  | nil =>
    clear h hB hb0 hP k0 k1 q0 q1 q2 q3 q4 q5 q6 cP
    go_enter Tryz.func134, Tryz.ntmps134
    go_wp2_with fail
    refine wp_region_quiet_below (by kernel_rfl) (by kernel_rfl) ?_
    repeat (with_reducible refine wpQuiet_step (fun K hK => ?_); go_simp; first | (with_reducible refine hK _ ?_; clear hK K))
    refine wpQuiet_nil ?_
    intro w3 hw3
    obtain ⟨⟨dq, osq⟩, hw3⟩ := hw3
    have B3 := hide (below0 (unhide HB0) (show Below W.heap.size W w3 by rw [hw3]; exact below_regrown _ dq osq))
    clear hw3 dq osq
    go_wp2
    go_ret
    exact ⟨rfl, unhide B3⟩
  | cons q qs =>
    obtain ⟨b, off, rfl, hcl⟩ := hP.at (i := 0) (by simp)
    obtain ⟨d0, d1, d2, d3, d4, d5, d6⟩ := hcl 0 (by simp)
    simp only [Nat.zero_mul, Nat.add_zero, List.getD_cons_zero] at d0 d1 d2 d3 d4 d5 d6
    have y0 := cell_regrown d0
    have y1 := cell_regrown d1
    have y2 := cell_regrown d2
    have y3 := cell_regrown d3
    have y4 := cell_regrown d4
    have y5 := cell_regrown d5
    have y6 := cell_regrown d6
    have cQ := hide (quietB (W := W) (fun w' hb => bobj_any q w'))
    unfold PKV.val at cQ
    have heq := eq_bobj p.o p.l p.k p.z q.o q.l q.k q.z
    have hal : decide (p.o = q.o ∧ p.l = q.l ∧ p.k = q.k ∧ p.z = q.z) = alkH ((q :: qs).map PKV.pd) p.pd := by
      show _ = alkD q.pd p.pd
      unfold alkD
      rw [decide_eq_decide]
      exact ⟨fun h => ⟨h.1.symm, h.2.1.symm, h.2.2.1.symm, h.2.2.2.symm⟩, fun h => ⟨h.1.symm, h.2.1.symm, h.2.2.1.symm, h.2.2.2.symm⟩⟩
    rw [hal] at heq
    generalize alkH ((q :: qs).map PKV.pd) p.pd = AL at *
    have hn0 : 0 < (q :: qs).length := Nat.succ_pos _
    clear h hB hb0 hP k0 k1 q0 q1 q2 q3 q4 q5 q6 hcl d0 d1 d2 d3 d4 d5 d6 hal
    generalize (q :: qs).length = n at *
    have hn1 : (0 : Int) < (n : Int) := by omega
    have hd : ((n : Int) == 0) = false := by rw [beq_eq_false_iff_ne]; omega
    go_enter Tryz.func134, Tryz.ntmps134
    go_wp2_with fail
    refine wp_region_quiet_below (by kernel_rfl) (by kernel_rfl) ?_
    repeat (with_reducible refine wpQuiet_step (fun K hK => ?_); go_simp; first | (with_reducible refine hK _ ?_; clear hK K) | (apply Exists.intro; apply And.intro; (intro _; (go_at_call 141; first | with_reducible exact unhide cP _ _ | with_reducible exact unhide cQ _ _)); with_reducible refine hK _ ?_; clear hK K))
    refine wpQuiet_nil ?_
    intro w3 hw3
    obtain ⟨⟨dq, osq⟩, hw3⟩ := hw3
    have B3 := hide (below0 (unhide HB0) (show Below W.heap.size W w3 by rw [hw3]; exact below_regrown _ dq osq))
    clear hw3 dq osq
    go_wp2
    go_ret
    exact ⟨rfl, unhide B3⟩
end Go.Proofs.YtbcgiodgobmkaaaGreatDoor
