/-
  Contracts of Relay.Emit in one form; a relay and draws side by side. Conditions: at most 2^40 draws used.
  Contract of bucketlinelaw19.awake.
-/
import Derived.Test.YtbcgiodgobmkaaaGreatDoorU39
import Derived.Test.YtbcgiodgobmkaaaGreatDoorUN
namespace Go.Proofs.YtbcgiodgobmkaaaGreatDoor
open Go.RowKit Go.Sort
set_option linter.unusedVariables false
set_option linter.unusedSimpArgs false
set_option maxRecDepth 4000

theorem emitO_yes {L : List PD} (D : List Nat) (N : Nat) (t : Int) (h : 0 < L.length) : emitO L D N t = emitD L (drawN D (N + 1) % L.length) t := if_neg (by omega)
theorem usedO_yes {L : List PD} (N : Nat) (h : 0 < L.length) : usedO L N = N + 1 := if_neg (by omega)
theorem usedO_le (L : List PD) (N : Nat) : usedO L N ≤ N + 1 := by
  unfold usedO
  split <;> omega
theorem rlemit_any (g gb B m : Nat) (t i : Int) (v : Value) (ps : List PKV) (gd Bd : Nat) (D : List Nat) (N : Nat) (w : World) (ht : Tab w) (h : RlAt w g gb B m t i v ps) (hd : DrAt w gd Bd D N) (hB : Bd ≤ w.heap.size) (hN : N ≤ 1099511627776) (htt : -1099511627776 ≤ t ∧ t ≤ 1099511627776) :
    Calls Tryz.prog 10 #[.pointer (some ⟨g, 0, none⟩), .pointer (some ⟨gd, 0, none⟩)] w fun e w' => EmitR w w' (emitO (ps.map PKV.pd) D N t) e ∧ DrAt w' gd Bd D (usedO (ps.map PKV.pd) N) ∧ w.grownBy w' (some gd) := by
  by_cases h0 : 0 < ps.length
  · have h1 : 0 < (ps.map PKV.pd).length := by rw [List.length_map]; exact h0
    rw [emitO_yes D N t h1, usedO_yes N h1, List.length_map]
    exact rlemit_at g gb B m t i v ps gd Bd D N w ht h hd hB hN htt h0
  · obtain rfl : ps = [] := List.eq_nil_of_length_eq_zero (by omega)
    refine (rlemit_no g gb B m t i v _ w h).mono fun e w' he => ?_
    exact ⟨he.1, hd.below (he.2.mono hB), gb_of_below he.2 _⟩
/-- The row of a packet of one's own stands where a relay turns. -/
theorem rl_row_tu {w : World} {g gb B m B2 : Nat} {t i : Int} {v : Value} {ps : List PKV} {a : Option Addr} {n c : Nat} {xs : List Nat} (h : RlAt w g gb B m t i v ps) (ho : Own w B2 (.slice a n c) xs) : ∀ w', Tu (rlF g gb v) w w' → RowAt w' a n xs := fun w' ht => by
  have h1 := ho.tu ht fun j hj => by
    obtain ⟨cur, hc⟩ := ho.blkU hj
    exact h.words j cur hc
  obtain ⟨a', c', e, hr⟩ := h1.row
  simp only [Value.slice.injEq] at e
  rw [e.1, e.2.1]
  exact hr
/-- Put of a packet that came in, in a relay that lies behind all that came in. -/
theorem rlput_in {W w : World} {g gb m : Nat} {t i : Int} {v : Value} {ps : List PKV} (ht : Tab W) (h : RlAt w g gb W.heap.size m t i v ps) (hb : Below W.heap.size W w) (p : PKV) (hr : RowAt W p.r.a p.r.n p.r.xs) (hn : p.r.n ≤ 10) (hs : p.r.s.size ≤ 1000) :
    Calls Tryz.prog 15 #[.pointer (some ⟨g, 0, none⟩), .agg #[.int .i64 p.o, .int .i64 p.l, .int .i64 p.k, .int .i64 p.z, .int .i64 p.h, .slice p.r.a p.r.n p.r.c, .string p.r.s]] w fun e w' => PutL w w' g gb W.heap.size m t i v ps p e :=
  rlput_any g gb W.heap.size m t i v ps p w (ht.below hb) h (fun w' htu => hr.below (h.step hb htu)) hn hs
theorem EmitR.row {w w' : World} {o : Option PD} {e : Ending} (h : EmitR w w' o e) : ∃ q : PKV, e = .returned (.tuple #[q.val, .bool o.isSome]) ∧ q.pd = o.getD zPK.pd ∧ RowAt w' q.r.a q.r.n q.r.xs := by
  obtain ⟨q, he, hq, ho⟩ := h
  refine ⟨q, he, hq, ?_⟩
  obtain ⟨_, _, e2, hr⟩ := ho.row
  simp only [Value.slice.injEq] at e2
  obtain ⟨rfl, h2, rfl⟩ := e2
  rw [h2]
  exact hr
theorem gb_low {w w' : World} {g B : Nat} (h : w.grownBy w' (some g)) (hB : B ≤ w.heap.size) (hg : B ≤ g) : Below B w w' := gb_below h hB fun k hk => by rw [← Option.some.inj hk]; exact hg
theorem emitO_mix {L : List PD} {D : List Nat} {N : Nat} {t : Int} {d : PD} (h : emitO L D N t = some d) : ∃ ws, mixD L ws = some d := by
  unfold emitO at h
  split at h
  · cases h
  · exact ⟨_, h⟩
end Go.Proofs.YtbcgiodgobmkaaaGreatDoor
namespace Go.Proofs.YtbcgiodgobmkaaaGreatDoor
open Go.RowKit Go.Sort
set_option linter.unusedVariables false
set_option linter.unusedSimpArgs false
set_option maxRecDepth 4000

def exD : PD := ⟨0, 0, 1, 1, 0, [1], ⟨#[97]⟩⟩
def exB (b : Nat) : PKV := ⟨0, 0, 1, 1, 0, ⟨some ⟨b, 0, none⟩, 1, 1, [1], ⟨#[97]⟩⟩⟩
theorem exB_pd (b : Nat) : (exB b).pd = exD := rfl
theorem exr1 : takeD 4 [] exD = true ∧ bput 4 [] exD = [exD] := by
  have h : takeD 4 [] exD = true := by kernel_rfl
  exact ⟨h, by unfold bput; rw [if_pos h]; rfl⟩
theorem exr2 : takeD 4 [exD] exD = false ∧ bput 4 [exD] exD = [exD] := by
  have h : takeD 4 [exD] exD = false := by kernel_rfl
  exact ⟨h, by unfold bput; rw [if_neg (by rw [h]; decide)]⟩
theorem exr3 : emitO [exD] [] 0 1 = some ⟨0, 0, 1, 1, 1, [1], ⟨#[97]⟩⟩ := by
  have h : (nearTo [[1]] (chTo [[1]] 1 0 0).ch (chTo [[1]] 1 0 0).v 1 1).1 = none := by kernel_rfl
  have e : chTo [[1]] 1 0 31 = chTo [[1]] 1 0 0 := (chTo_last (V := [[1]]) (t := 1) (p := 0) (k := 0) (by omega) h).symm
  have r : mixD [exD] (castZ (placesCh (chTo [[1]] 1 0 0).ch 1)) = some ⟨0, 0, 1, 1, 1, [1], ⟨#[97]⟩⟩ := by kernel_rfl
  rw [emitO_yes [] 0 1 (by decide), show drawN [] (0 + 1) % [exD].length = 0 from Nat.mod_one _]
  show mixD [exD] (castZ (placesCh (chTo [[1]] 1 0 31).ch 1)) = _
  rw [e]
  exact r
/-- A packet's block stands where a relay turns that keeps its packets elsewhere. -/
theorem RlAt.pk {w w' : World} {g gb B m : Nat} {t i : Int} {v : Value} {ps : List PKV} {b : Nat} {u0 u1 u2 u3 u4 u5 u6 : Value} (h : RlAt w g gb B m t i v ps) (hk : PkB w b u0 u1 u2 u3 u4 u5 u6) (hv : v.ownBlock ≠ some b) (ht : Tu (rlF g gb v) w w') : PkB w' b u0 u1 u2 u3 u4 u5 u6 := by
  refine (ht.block b hk.lt fun hf => ?_).trans hk
  rcases hf with e | e | e
  · exact h.blk.ne hk (by decide) e.symm
  · exact h.buf.blk.ne hk (by decide) e.symm
  · exact hv e
theorem aw_lit (w2 : World) (c0 : Obj) : Below w2.heap.size w2 (((w2.alloc c0).alloc (.cells #[.int .u64 1] 59)).alloc (.cells #[.int .i64 0, .int .i64 0, .int .i64 1, .int .i64 1, .int .i64 0, .slice (some ⟨w2.heap.size + 1, 0, none⟩) 1 1, .string ⟨#[97]⟩] 42)) ∧
    Own (((w2.alloc c0).alloc (.cells #[.int .u64 1] 59)).alloc (.cells #[.int .i64 0, .int .i64 0, .int .i64 1, .int .i64 1, .int .i64 0, .slice (some ⟨w2.heap.size + 1, 0, none⟩) 1 1, .string ⟨#[97]⟩] 42)) (w2.heap.size + 1) (.slice (some ⟨w2.heap.size + 1, 0, none⟩) 1 1) [1] ∧
    PkB (((w2.alloc c0).alloc (.cells #[.int .u64 1] 59)).alloc (.cells #[.int .i64 0, .int .i64 0, .int .i64 1, .int .i64 1, .int .i64 0, .slice (some ⟨w2.heap.size + 1, 0, none⟩) 1 1, .string ⟨#[97]⟩] 42)) (w2.heap.size + 1 + 1) (.int .i64 0) (.int .i64 0) (.int .i64 1) (.int .i64 1) (.int .i64 0) (.slice (some ⟨w2.heap.size + 1, 0, none⟩) 1 1) (.string ⟨#[97]⟩) := by
  have n0 : ∀ (X : World) (o : Obj), Below X.heap.size X (X.alloc o) := fun X o => (Below.refl _ _).alloc (Nat.le_refl _) _
  have s1 : (w2.alloc c0).heap.size = w2.heap.size + 1 := alloc_size _ _
  have s2 : ((w2.alloc c0).alloc (.cells #[.int .u64 1] 59)).heap.size = w2.heap.size + 1 + 1 := by rw [alloc_size, s1]
  have o1 := own_lit (w2.alloc c0) 1 (by decide)
  rw [s1] at o1
  have k1 := pkb_new ((w2.alloc c0).alloc (.cells #[.int .u64 1] 59)) (.int .i64 0) (.int .i64 0) (.int .i64 1) (.int .i64 1) (.int .i64 0) (.slice (some ⟨w2.heap.size + 1, 0, none⟩) 1 1) (.string ⟨#[97]⟩)
  rw [s2] at k1
  exact ⟨below0 (below0 (n0 _ _) (n0 _ _)) (n0 _ _), o1.below (n0 _ _), k1⟩
theorem EmitR.no {w w' : World} {e : Ending} (h : EmitR w w' none e) : ∃ q : PKV, e = .returned (.tuple #[q.val, .bool false]) := by
  obtain ⟨q, he, _⟩ := h
  exact ⟨q, he⟩
set_option maxHeartbeats 8000000 in
theorem awake_any (w : World) (ht : Tab w) : Calls Tryz.prog 6 #[] w fun e w' => e = .returned (.bool true) ∧ Below w.heap.size w w' := by
  have HT := hide ht
  have HN := rlnew_any 4 1 w
  rw [show capN 4 = 4 from by decide, show clampT 1 = 1 from by decide] at HN
  have HNW := hide HN
  clear ht HN
  go_enter Tryz.func6, Tryz.ntmps6
  go_wp2_with fail
  refine (unhide HNW).mono ?_
  rintro e w0 ⟨g, gb, rfl, hr0, hb0⟩
  have HR0 := hide hr0
  have HB0 := hide hb0
  clear hr0 hb0 HNW
  go_wp2_with fail
  refine (new_any none 0 0 [] w0 (row_none w0) (by decide)).mono ?_
  rintro e w1 ⟨gd, rfl, hg1, hd1, hb1⟩
  have HR1 := hide ((unhide HR0).below hb1)
  have HD1 := hide hd1
  have HG1 := hide hg1
  have HB1 := hide (below0 (unhide HB0) hb1)
  have HL1 := hide (Nat.le_refl w1.heap.size)
  clear hg1 hd1 hb1 HR0
  go_wp2_with fail
  refine (rlemit_no g gb _ 4 1 0 _ _ w1 (unhide HR1)).mono ?_
  rintro e w2 ⟨he, hb2⟩
  obtain ⟨q0, rfl⟩ := he.no
  have HR2 := hide ((unhide HR1).below hb2)
  have HD2 := hide ((unhide HD1).below hb2)
  have HB2 := hide (below0 (unhide HB1) hb2)
  have HL2 := hide hb2.size
  unfold PKV.val
  clear he hb2 HR1 HD1
  go_wp2_with fail
  obtain ⟨hbx, hox, hkx⟩ := aw_lit w2 (.cells #[.int .i64 q0.o, .int .i64 q0.l, .int .i64 q0.k, .int .i64 q0.z, .int .i64 q0.h, .slice q0.r.a q0.r.n q0.r.c, .string q0.r.s] 42)
  generalize hX : ((w2.alloc (.cells #[.int .i64 q0.o, .int .i64 q0.l, .int .i64 q0.k, .int .i64 q0.z, .int .i64 q0.h, .slice q0.r.a q0.r.n q0.r.c, .string q0.r.s] 42)).alloc (.cells #[.int .u64 1] 59)).alloc (.cells #[.int .i64 0, .int .i64 0, .int .i64 1, .int .i64 1, .int .i64 0, .slice (some ⟨w2.heap.size + 1, 0, none⟩) 1 1, .string ⟨#[97]⟩] 42) = X at *
  have hrx := (unhide HR2).below hbx
  have hdx := (unhide HD2).below (hbx.mono (unhide HL2))
  have HRX := hide hrx
  have HDX := hide hdx
  have HBX := hide (below0 (unhide HB2) hbx)
  have HLX := hide (Nat.le_trans (unhide HL2) hbx.size)
  have HOX := hide hox
  have HKX := hide hkx
  obtain ⟨x0, x1, x2, x3, x4, x5, x6⟩ := hkx.at
  have HLT := hide hkx.lt
  have hP0 := rlput_any g gb w.heap.size 4 1 0 _ [] (exB (w2.heap.size + 1)) X ((unhide HT).below (unhide HBX)) hrx (rl_row_tu hrx hox) (show 1 ≤ 10 by decide) (show 1 ≤ 1000 by decide)
  have HP0 := hide hP0
  clear hbx hox hkx hrx hdx hX hP0 HR2 HD2 HB2
  refine (used_any gd _ [] 0 X (unhide HDX)).mono ?_
  rintro e X0 ⟨rfl, hx0⟩
  obtain rfl := hx0.symm
  clear hx0
  go_wp2_with fail
  refine (unhide HP0).mono ?_
  rintro e X1 ⟨he, v1, ps1, hr1, hp1, ht1, hm1⟩
  rw [exB_pd, show ([] : List PKV).map PKV.pd = [] from rfl, exr1.1] at he
  rw [exB_pd, show ([] : List PKV).map PKV.pd = [] from rfl, exr1.2] at hp1
  subst he
  have HR1 := hide hr1
  have HP1 := hide hp1
  have HT1 := hide ht1
  have HM1 := hide hm1
  have HB3 := hide ((unhide HRX).step (unhide HBX) ht1)
  have HD3 := hide ((unhide HRX).draws (unhide HDX) ht1)
  have hk1 := (unhide HRX).pk (unhide HKX) (by simp [Value.ownBlock]) ht1
  have HK1 := hide hk1
  have HV1 : Hid (v1.ownBlock ≠ some (w2.heap.size + 1 + 1)) := hide fun e => by
    rcases hm1 with q | q
    · rw [q] at e; cases e
    · have := q _ e; have := unhide HLT; omega
  have HL3 := hide (Nat.le_trans (unhide HLX) ht1.size)
  have ho1 := (unhide HOX).tu ht1 fun j hj => by
    obtain ⟨cur, hc⟩ := (unhide HOX).blkU hj
    exact (unhide HRX).words j cur hc
  obtain ⟨y0, y1, y2, y3, y4, y5, y6⟩ := hk1.at
  have HP2 := hide (rlput_any g gb w.heap.size 4 1 0 v1 ps1 (exB (w2.heap.size + 1)) X1 ((unhide HT).below (unhide HB3)) hr1 (rl_row_tu hr1 ho1) (show 1 ≤ 10 by decide) (show 1 ≤ 1000 by decide))
  clear hr1 hp1 ht1 hm1 hk1 ho1 HP0 HRX HDX HKX x0 x1 x2 x3 x4 x5 x6 HT1 HM1
  go_wp2_with fail
  refine (unhide HP2).mono ?_
  rintro e X2 ⟨he, v2, ps2, hr2, hp2, ht2, hm2⟩
  rw [exB_pd, unhide HP1, exr2.1] at he
  rw [exB_pd, unhide HP1, exr2.2] at hp2
  subst he
  have HR2 := hide hr2
  have HB4 := hide ((unhide HR1).step (unhide HB3) ht2)
  have HD4 := hide ((unhide HR1).draws (unhide HD3) ht2)
  have HL4 := hide (Nat.le_trans (unhide HL3) ht2.size)
  have HE0 := rlemit_any g gb w.heap.size 4 1 0 v2 ps2 gd w1.heap.size [] 0 X2 ((unhide HT).below (unhide HB4)) hr2 (unhide HD4) (unhide HL4) (by decide) (by decide)
  rw [hp2, exr3, show usedO [exD] 0 = 1 from rfl] at HE0
  have HE := hide HE0
  clear hr2 hp2 ht2 hm2 HE0 HP2 HR1 HD3 HB3 HK1 HV1 y0 y1 y2 y3 y4 y5 y6
  go_wp2_with fail
  refine (unhide HE).mono ?_
  rintro e X3 ⟨he, hd3, hg3⟩
  obtain ⟨q, rfl, hq, -⟩ := he.row
  obtain ⟨qo, ql, qk, qz, qh, qa, qn, qc, qxs, qs⟩ := q
  simp only [PKV.pd, Option.getD_some, PD.mk.injEq] at hq
  obtain ⟨rfl, rfl, rfl, rfl, rfl, rfl, rfl⟩ := hq
  unfold PKV.val
  dsimp only
  obtain ⟨da, dn, dc, hdk⟩ := (unhide HD4).bk
  have hr3 := (unhide HR2).drawn hdk (by decide) (by decide) (by decide) (by decide) hg3
  have hB3 : Below w.heap.size w X3 := (unhide HB4).trans (gb_low hg3 (unhide HB4).size (Nat.le_trans (unhide HB0).size (unhide HG1)))
  have hb4 := (Below.refl X3.heap.size X3).alloc (Nat.le_refl _) (.cells #[.int .i64 0, .int .i64 0, .int .i64 1, .int .i64 1, .int .i64 1, .slice qa qn qc, .string ⟨#[97]⟩] 42)
  have hk4 := pkb_new X3 (.int .i64 0) (.int .i64 0) (.int .i64 1) (.int .i64 1) (.int .i64 1) (.slice qa qn qc) (.string ⟨#[97]⟩)
  have HNV : Hid (v2.ownBlock ≠ some X3.heap.size) := hide fun e => by have := (World.ownsRow.lt hr3.buf.own _ e).2; omega
  have HK4 := hide hk4
  have HR4 := hide (hr3.below hb4)
  have HB5 := hide (below0 hB3 hb4)
  have HD5 := hide (hd3.below (hb4.mono (Nat.le_trans (unhide HL4) hg3.size)))
  have HCR := hide (rlcrash_any g gb w.heap.size 4 1 0 v2 ps2 _ (hr3.below hb4) (by decide))
  clear hr3 hB3 hb4 hk4 hdk hd3 hg3 he HE
  go_wp2_with fail
  generalize hX4 : X3.alloc (.cells #[.int .i64 0, .int .i64 0, .int .i64 1, .int .i64 1, .int .i64 1, .slice qa qn qc, .string ⟨#[97]⟩] 42) = X4 at *
  refine (unhide HCR).mono ?_
  rintro e X5 ⟨rfl, hr5, ht5⟩
  have HR5 := hide hr5
  have HB6 := hide ((unhide HR4).step (unhide HB5) ht5)
  have HD6 := hide ((unhide HR4).draws (unhide HD5) ht5)
  obtain ⟨z0, z1, z2, z3, z4, z5, z6⟩ := ((unhide HR4).pk (unhide HK4) (unhide HNV) ht5).at
  have HT6 := hide ((unhide HT).below (unhide HB6))
  clear hr5 ht5 hX4 HCR HR4 HD5 HK4
  go_wp2_with (first
    | (go_at_call 19; refine (used_any gd _ [] 1 X5 (unhide HD6)).mono ?_; rintro e x ⟨rfl, hx⟩; obtain rfl := hx.symm; clear hx)
    | (go_at_call 18; refine (rlinc_any g gb _ 4 1 (0 + 1) _ [] _ (unhide HR5)).mono ?_; rintro e x ⟨rfl, hx⟩; obtain rfl := hx.symm; clear hx)
    | (go_at_call 16; refine (rlkept_any g gb _ 4 1 (0 + 1) _ [] _ (unhide HR5)).mono ?_; rintro e x ⟨rfl, hx⟩; obtain rfl := hx.symm; clear hx)
    | (go_at_call 17; refine (rlrank_any g gb _ 4 1 (0 + 1) _ [] _ (unhide HR5)).mono ?_; rintro e x ⟨rfl, hx⟩; obtain rfl := hx.symm; clear hx))
  go_ret
  exact ⟨rfl, unhide HB6⟩
end Go.Proofs.YtbcgiodgobmkaaaGreatDoor
