/-
  Contracts of Buffer.rows, degrees, toGo.
-/
import Derived.Test.YtbppanebpfpioaaDoorUE
import Derived.Test.YtbppanebpfpioaaDoorM14
namespace Go.Proofs.YtbppanebpfpioaaDoor
open Go.RowKit Go.Sort
set_option linter.unusedVariables false
set_option maxRecDepth 4000

theorem rowsOf {w : World} {ps : List PKV} (h : KsIn w ps) : RowsIn w (ps.map PKV.r) := fun r hr => by
  obtain ⟨p, hp, rfl⟩ := List.mem_map.1 hr
  exact h p hp
theorem vecsOf (ps : List PKV) : vecsL (ps.map PKV.r) = vecsD (ps.map PKV.pd) := by
  unfold vecsL vecsD
  rw [List.map_map, List.map_map]
  rfl
theorem rGet {ps : List PKV} {i : Nat} (hi : i < ps.length) : (ps.map PKV.r).getD i .dflt = (ps.getD i .dflt).r := by
  rw [List.getD_eq_getElem?_getD, List.getElem?_map, List.getElem?_eq_getElem hi, List.getD_eq_getElem?_getD, List.getElem?_eq_getElem hi]
  rfl
set_option maxHeartbeats 2000000 in
theorem burows_any (g B m : Nat) (v : Value) (ps : List PKV) (w : World) (h : BfAt w g B m v ps) :
    Calls Tryd.prog 39 #[.pointer (some ⟨g, 0, none⟩)] w fun e w' => ∃ v', e = .returned v' ∧ OwnW w' w.heap.size v' (ps.map PKV.r) ∧ Below w.heap.size w w' := by
  have hln := h.len.2
  obtain ⟨a, c, rfl, hP, -, -⟩ := h.at
  have hmk := make_v ps.length (by omega)
  have hbm : Below w.heap.size w (w.alloc (.cells (madeCells #[.slice none 0 0] ps.length) 30)) := (Below.refl _ _).alloc (Nat.le_refl _) _
  obtain ⟨k0, k1⟩ := h.cells (Below.refl _ _)
  obtain ⟨j0, j1⟩ := h.cells hbm
  have Hh := hide hP
  obtain ⟨ts, hts⟩ : ∃ ts, ts = ps.map PKV.r := ⟨_, rfl⟩
  have htl : ts.length = ps.length := by rw [hts, List.length_map]
  have HM := made_v w ps.length (by omega)
  rw [← htl, ← fillW_zero, htl] at HM
  have HM := hide HM
  have HBM := hide hbm
  have HT := hide hts
  have HTL := hide htl
  rw [← hts]
  clear h hP hbm hts htl
  go_enter Tryd.func39, Tryd.ntmps39
  go_wp2
  go_loopw [17] (fun i wr => ∃ k : Nat, k ≤ ps.length ∧ i = .int .i64 k ∧ Hid (wr.ownsRow w.heap.size 30 1 (.slice (some ⟨w.heap.size, 0, none⟩) ps.length ps.length) ps.length (fillW ts k)) ∧ Hid (Below w.heap.size w wr)) (fun i _ => ps.length - (intOf i).toNat)
  case atStart => exact ⟨0, Nat.zero_le _, rfl, HM, HBM⟩
  case round =>
    obtain ⟨k, hk, rfl, HI, HB⟩ := hrel
    clear HM HBM
    by_cases hlt : k < ps.length
    · obtain ⟨b, off, rfl, hcl⟩ := ((unhide Hh).below (unhide HB)).at hlt
      obtain ⟨hc0, hc1, hc2, hc3, hc4, hc5, hc6⟩ := hcl k hlt
      have hlt' : (k : Int) < (ps.length : Int) := by omega
      have htlen := unhide HTL
      have hS := fillW_succ ts k (by omega)
      rw [show ts.getD k .dflt = (ps.getD k .dflt).r from by rw [unhide HT]; exact rGet hlt] at hS
      have hfk : (fillW ts k)[k]? = some (.slice none 0 0) := by
        unfold fillW
        have hl : ((ts.take k).map fun r => Value.slice r.a r.n r.c).length = k := by simp; omega
        rw [List.getElem?_append_right (by omega), hl, Nat.sub_self, List.getElem?_replicate, if_pos (by omega)]
      clear htlen
      generalize ps.getD k .dflt = p at *
      have hb1 : Below wr.heap.size wr (wr.alloc (.cells #[.int .i64 p.o, .int .i64 p.l, .int .i64 p.k, .int .i64 p.z, .int .i64 p.h, .slice p.r.a p.r.n p.r.c, .string p.r.s] 34)) := (Below.refl _ _).alloc (Nat.le_refl _) _
      have hI := ownsRow_below (unhide HI) hb1
      have hcell := hI.cellAt k (by omega)
      rw [hfk] at hcell
      have hfz := hI.frozenAt k
      have hs2 := (hI.stored k (.slice p.r.a p.r.n p.r.c)).1
      rw [hS] at hs2
      have hB2 := (below0 (unhide HB) hb1).setCell (p := ⟨w.heap.size, k, none⟩) (Nat.le_refl _) (.slice p.r.a p.r.n p.r.c)
      obtain ⟨hx0, hx1, hx2, hx3, hx4, hx5, hx6⟩ := pk_new wr (.int .i64 p.o) (.int .i64 p.l) (.int .i64 p.k) (.int .i64 p.z) (.int .i64 p.h) (.slice p.r.a p.r.n p.r.c) (.string p.r.s)
      have HS := hide hs2
      have HB2 := hide hB2
      clear hcl hI hs2 hB2 hb1 hS hfk HI HB
      go_wp2
      go_roundw
      case rel => exact ⟨k + 1, by omega, by go_num, HS, HB2⟩
      case measure => simp [intOf]; omega
    · obtain rfl : k = ps.length := by omega
      have hI := unhide HI
      rw [← unhide HTL, fillW_all] at hI
      have HI2 := hide hI
      clear hI HI
      go_wp2
      go_ret
      exact ⟨_, rfl, by rw [← unhide HTL]; exact unhide HI2, unhide HB⟩
/-- How many blocks each is made of. -/
def degsZ (ps : List PKV) : List Int := ps.map fun p => (cnt p.r.xs : Int)
theorem degsZ_len (ps : List PKV) : (degsZ ps).length = ps.length := by simp [degsZ]
theorem degsZ_get {ps : List PKV} {i : Nat} (hi : i < ps.length) : (degsZ ps).getD i 0 = (cnt (ps.getD i .dflt).r.xs : Int) := by
  unfold degsZ
  rw [List.getD_eq_getElem?_getD, List.getElem?_map, List.getElem?_eq_getElem hi, List.getD_eq_getElem?_getD, List.getElem?_eq_getElem hi]
  rfl
theorem degsZ_deg {ps : List PKV} {i : Nat} (hi : i < ps.length) : (degsZ ps).getD i 0 = (degD (ps.map PKV.pd) i : Int) := by
  rw [degsZ_get hi]
  unfold degD
  rw [pdGet hi]
  rfl
set_option maxHeartbeats 2000000 in
theorem budegs_any (g B m : Nat) (v : Value) (ps : List PKV) (w : World) (h : BfAt w g B m v ps) :
    Calls Tryd.prog 40 #[.pointer (some ⟨g, 0, none⟩)] w fun e w' => ∃ v', e = .returned v' ∧ OwnZ w' w.heap.size v' (degsZ ps) ∧ Below w.heap.size w w' := by
  have hln := h.len.2
  obtain ⟨a, c, rfl, hP, -, -⟩ := h.at
  have hmk := make_intz ps.length (by omega)
  have hbm : Below w.heap.size w (w.alloc (.cells (madeCells #[.int .i64 0] ps.length) 3)) := (Below.refl _ _).alloc (Nat.le_refl _) _
  obtain ⟨k0, k1⟩ := h.cells (Below.refl _ _)
  obtain ⟨j0, j1⟩ := h.cells hbm
  have Hh := hide hP
  have HM := hide (made_intz w ps.length (by omega) (filledZ (degsZ ps) 0) (by rw [filledZ_zero, degsZ_len]))
  have HBM := hide hbm
  have HSH : Hid (∀ i, i < ps.length → (ps.getD i .dflt).r.n ≤ 1048576) := hide fun i hi => by
    have h1 := (h.inv.get (i := i) (by rw [List.length_map]; exact hi)).1
    rw [pdGet hi] at h1
    have h2 := okD_len h1
    have h3 := (hP.2.1 i hi).1
    have h4 : (ps.getD i .dflt).r.xs.length ≤ 2 := h2
    omega
  clear h hP hbm
  go_enter Tryd.func40, Tryd.ntmps40
  go_wp2
  go_loopw [17] (fun i wr => ∃ k : Nat, k ≤ ps.length ∧ i = .int .i64 k ∧ Hid (OwnZ wr w.heap.size (.slice (some ⟨w.heap.size, 0, none⟩) ps.length ps.length) (filledZ (degsZ ps) k)) ∧ Hid (Below w.heap.size w wr)) (fun i _ => ps.length - (intOf i).toNat)
  case atStart => exact ⟨0, Nat.zero_le _, rfl, HM, HBM⟩
  case round =>
    obtain ⟨k, hk, rfl, HI, HB⟩ := hrel
    clear HM HBM
    by_cases hlt : k < ps.length
    · obtain ⟨b, off, rfl, hcl⟩ := ((unhide Hh).below (unhide HB)).at hlt
      obtain ⟨hc0, hc1, hc2, hc3, hc4, hc5, hc6⟩ := hcl k hlt
      have hrow := ((unhide Hh).below (unhide HB)).2.1 k hlt
      have hrn := unhide HSH k hlt
      have hlt' : (k : Int) < (ps.length : Int) := by omega
      have hS := filledZ_succ (degsZ ps) k (by rw [degsZ_len]; exact hlt)
      rw [degsZ_get hlt] at hS
      have hfl := filledZ_length (degsZ ps) k (by rw [degsZ_len]; omega)
      rw [degsZ_len] at hfl
      generalize ps.getD k .dflt = p at *
      have hb1 : Below wr.heap.size wr (wr.alloc (.cells #[.int .i64 p.o, .int .i64 p.l, .int .i64 p.k, .int .i64 p.z, .int .i64 p.h, .slice p.r.a p.r.n p.r.c, .string p.r.s] 34)) := (Below.refl _ _).alloc (Nat.le_refl _) _
      have HCO := hide (count_any p.r.a p.r.n p.r.c p.r.xs _ (hrow.below hb1) hrn)
      have hI := (unhide HI).below hb1
      obtain ⟨g1, cap1, e1, hg1, -, hcell, hfz⟩ := hI.at (by omega)
      rw [hfl] at e1
      simp only [Value.slice.injEq, Option.some.injEq, Addr.mk.injEq, and_true, true_and] at e1
      obtain ⟨rfl, rfl⟩ := e1
      have hcell := hcell k (by omega)
      have hfz := hfz k
      have hs2 := hI.stored k (cnt p.r.xs : Int)
      rw [hS] at hs2
      have hB2 := (below0 (unhide HB) hb1).setCell (p := ⟨w.heap.size, k, none⟩) (Nat.le_refl _) (.int .i64 (cnt p.r.xs : Int))
      obtain ⟨hx0, hx1, hx2, hx3, hx4, hx5, hx6⟩ := pk_new wr (.int .i64 p.o) (.int .i64 p.l) (.int .i64 p.k) (.int .i64 p.z) (.int .i64 p.h) (.slice p.r.a p.r.n p.r.c) (.string p.r.s)
      have HS := hide hs2
      have HB2 := hide hB2
      clear hcl hI hs2 hB2 hb1 hS hfl HI HB hrow hrn hg1
      generalize (filledZ (degsZ ps) k).getD k 0 = zz at *
      go_wp2_with (go_at_call 53; refine (unhide HCO).mono ?_; rintro e w2 ⟨rfl, hw2⟩; subst hw2)
      go_roundw
      case rel => exact ⟨k + 1, by omega, by go_num, HS, HB2⟩
      case measure => simp [intOf]; omega
    · obtain rfl : k = ps.length := by omega
      have hI := unhide HI
      rw [show filledZ (degsZ ps) ps.length = degsZ ps from by rw [← degsZ_len ps, filledZ_all]] at hI
      have HI2 := hide hI
      clear hI HI
      go_wp2
      go_ret
      exact ⟨_, rfl, unhide HI2, unhide HB⟩
end Go.Proofs.YtbppanebpfpioaaDoor
