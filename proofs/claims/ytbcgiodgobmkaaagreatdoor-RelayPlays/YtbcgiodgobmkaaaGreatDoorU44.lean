/-
  The reference's draws in memory ('RfAt'). Contracts of bucketlineref11's Next and Below. Conditions: at most 2^40 draws used.
  Contracts of bucketlineref11's Next and Below where they lie; of bucketlineref19's New, Put and Emit. Conditions: at most 2^40 draws used.
-/
import Derived.Test.YtbcgiodgobmkaaaGreatDoorDA
import Derived.Test.YtbcgiodgobmkaaaGreatDoorU41
import Derived.Test.YtbcgiodgobmkaaaGreatDoorUO
import Derived.Test.YtbcgiodgobmkaaaGreatDoorVO
namespace Go.Proofs.YtbcgiodgobmkaaaGreatDoor
open Go.RowKit
set_option linter.unusedVariables false
set_option linter.unusedSimpArgs false
set_option maxRecDepth 4000

theorem gb_drewN {w w' : World} {r : Option Nat} (h : w.grownBy w' r) (n : Nat) : w.grownBy (w'.drewN n) r := ⟨h.os, h.tape, h.output, h.size, h.block⟩
end Go.Proofs.YtbcgiodgobmkaaaGreatDoor
namespace Go.Proofs.YtbcgiodgobmkaaaGreatDoor
open Go.RowKit Go.Sort
set_option linter.unusedVariables false
set_option linter.unusedSimpArgs false
set_option maxRecDepth 4000

set_option maxHeartbeats 1000000 in
theorem rnext_at (g : Nat) (a : Option Addr) (c : Nat) (L : List Nat) (N : Nat) (w : World) (h3 : Bk2 38 w g (.slice a L.length c) (.int .i64 (N : Int))) (h4 : L.length ≤ 1048576) (h6 : RowAt w a L.length L) (hN : N ≤ 1099511627776) :
    Calls Tryz.prog 54 #[.pointer (some ⟨g, 0, none⟩)] w fun e w' => e = .returned (.int .u64 ((drawN L (N + 1) : Nat) : Int)) ∧ Bk2 38 w' g (.slice a L.length c) (.int .i64 ((N + 1 : Nat) : Int)) ∧ w.grownBy w' (some g) := by
  have hcast : ((N + 1 : Nat) : Int) = (N : Int) + 1 := by omega
  have hset := h3.set1 (.int .i64 ((N + 1 : Nat) : Int))
  have hrow : RowAt (w.setCell ⟨g, 1, none⟩ (.int .i64 ((N + 1 : Nat) : Int))) a L.length L := h6.kept (gb_setCell _ _ _ _) (h3.apart h6)
  have k1 := h3.at1
  have kf := h3.frz 1
  have m0 := (h3.set1 (.int .i64 ((N + 1 : Nat) : Int))).at0
  have m1 := (h3.set1 (.int .i64 ((N + 1 : Nat) : Int))).at1
  rw [hcast] at hset hrow m0 m1 ⊢
  have HD := hide hset
  clear hcast
  clear hset h6 h3
  by_cases hlt : N < L.length
  · obtain ⟨b, off, rfl, hc⟩ := hrow.at hlt
    have hcell := hc N hlt
    rw [← drawN_in hlt] at hcell
    clear hc hrow
    generalize drawN L (N + 1) = x at *
    go_enter Tryz.func54, Tryz.ntmps54
    go_wp2_with fail
    go_quiet (fail)
    go_wp2_with fail
    go_quiet (fail)
    go_wp2
    go_ret
    exact ⟨rfl, unhide HD, gb_drewN (gb_drewN (gb_setCell _ _ _ _) _) _⟩
  · have HE := hide (drawN_out (L := L) (n := N + 1) (by omega))
    clear hrow
    go_enter Tryz.func54, Tryz.ntmps54
    go_wp2_with fail
    go_quiet (fail)
    go_wp2
    go_ret
    refine ⟨ret_int ?_, unhide HD, gb_drewN (gb_setCell _ _ _ _) _⟩
    rw [unhide HE, IntKind.wrap_u64]
    omega
set_option maxHeartbeats 400000 in
theorem rbelow_at (g : Nat) (a : Option Addr) (c : Nat) (L : List Nat) (N n : Nat) (w : World) (h : Bk2 38 w g (.slice a L.length c) (.int .i64 (N : Int))) (h4 : L.length ≤ 1048576) (h6 : RowAt w a L.length L) (hN : N ≤ 1099511627776) (h1 : 1 ≤ n) (h2 : n ≤ 9223372036854775807) :
    Calls Tryz.prog 29 #[.pointer (some ⟨g, 0, none⟩), .int .i64 (n : Int)] w fun e w' => e = .returned (.int .i64 ((drawN L (N + 1) % n : Nat) : Int)) ∧ Bk2 38 w' g (.slice a L.length c) (.int .i64 ((N + 1 : Nat) : Int)) ∧ w.grownBy w' (some g) := by
  have HX := hide (rnext_at g a c L N w h h4 h6 hN)
  have hx := drawN_lt h6.2.1 (N + 1)
  clear h h6
  generalize drawN L (N + 1) = x at *
  obtain ⟨hr, hl⟩ := rem_draw x n h1 h2
  generalize x % n = y at *
  go_enter Tryz.func29, Tryz.ntmps29
  go_wp2_with (go_at_call 54; refine (unhide HX).mono ?_; rintro e w1 ⟨rfl, hD, hG⟩)
  go_ret
  exact ⟨rfl, hD, hG⟩

/-- A reference's relay, by value. -/
def rrV (m : Nat) (t i : Int) (v : Value) : Value := .agg #[.int .i64 (m : Int), .int .i64 t, .int .i64 i, v]
def rrC (m : Nat) (t i : Int) (v : Value) : List Value := [.int .i64 (m : Int), .int .i64 t, .int .i64 i, v]
theorem rrnew_res {X : World} {tmps : Array Value} {g m : Nat} {t i : Int} {v : Value} (ht : tmps.getD 4 undef = .pointer (some ⟨g, 0, none⟩)) (hk : BkA 32 X g (rrC m t i v)) :
    (results Tryz.f8 tmps).run Tryz.prog X = .ok (rrV m t i v) X := by
  have r0 := hk.at 0 rfl
  have r1 := hk.at 1 rfl
  have r2 := hk.at 2 rfl
  have r3 := hk.at 3 rfl
  have ht' : tmps[4]?.getD undef = .pointer (some ⟨g, 0, none⟩) := by simpa using ht
  simp [results, Tryz.results8, go_sem, ht', r0, r1, r2, r3, rrV]
set_option maxHeartbeats 1000000 in
theorem rrnew_any (n t : Int) (w : World) :
    Calls Tryz.prog 8 #[.int .i64 n, .int .i64 t] w fun e w' => e = .returned (rrV (capN n) (clampT t) 0 (.slice none 0 0)) ∧ Below w.heap.size w w' := by
  have hmx := max_runZ t (-1099511627776)
  have hmn := min_runZ (max t (-1099511627776)) 1099511627776
  have hcl : min (max t (-1099511627776)) 1099511627776 = clampT t := rfl
  rw [hcl] at hmn
  clear hcl
  generalize max t (-1099511627776) = t1 at *
  have hb0 : Below w.heap.size w (w.alloc (.cells #[.int .i64 0, .int .i64 0, .int .i64 0, .slice none 0 0] 32)) := (Below.refl _ _).alloc (Nat.le_refl _) _
  have hk0 : BkA 32 (w.alloc (.cells #[.int .i64 0, .int .i64 0, .int .i64 0, .slice none 0 0] 32)) w.heap.size [.int .i64 0, .int .i64 0, .int .i64 0, .slice none 0 0] := bkA_new 32 w _
  have HB0 := hide hb0
  have HK0 := hide hk0
  have x0 := hk0.at 0 rfl
  have x1 := hk0.at 1 rfl
  have x2 := hk0.at 2 rfl
  have x3 := hk0.at 3 rfl
  have xf := hk0.frz
  generalize hWW : w.alloc (.cells #[.int .i64 0, .int .i64 0, .int .i64 0, .slice none 0 0] 32) = W at *
  clear hb0 hk0
  go_enter Tryz.func8, Tryz.ntmps8
  go_wp2_with (go_at_call 24; refine (rcap_any n _).mono ?_; rintro e y0 ⟨rfl, hy0⟩; obtain rfl := hy0.symm; clear hy0)
  have hk1 := ((((unhide HK0).set 0 (.int .i64 (capN n : Int))).set 1 (.int .i64 (clampT t))).set 2 (.int .i64 0)).set 3 (.slice none 0 0)
  exact bodyPost_ret (rrnew_res (m := capN n) (t := clampT t) (i := 0) (v := .slice none 0 0) rfl hk1) rfl ⟨rfl, ((((unhide HB0).setCell (p := ⟨w.heap.size, 0, none⟩) (Nat.le_refl _) _).setCell (p := ⟨w.heap.size, 1, none⟩) (Nat.le_refl _) _).setCell (p := ⟨w.heap.size, 2, none⟩) (Nat.le_refl _) _).setCell (p := ⟨w.heap.size, 3, none⟩) (Nat.le_refl _) _⟩
/-- What the reference's put gives. -/
def RrP (w w' : World) (m : Nat) (t i : Int) (vl : Value) (cs : List PKV) (p : PKV) (e : Ending) : Prop :=
  ∃ v' cs', e = .returned (.tuple #[rrV m t i v', .bool (takeD m (cs.map PKV.pd) p.pd)]) ∧ cs'.map PKV.pd = bput m (cs.map PKV.pd) p.pd ∧ ((v' = vl ∧ cs' = cs) ∨ OwnP w' w.heap.size v' cs') ∧ (∀ q ∈ cs', q ∈ cs ∨ q = p) ∧ Below w.heap.size w w'
theorem OwnP.setOld {w : World} {B g k : Nat} {v u : Value} {ps : List PKV} (h : OwnP w B v ps) (hg : g < B) : OwnP (w.setCell ⟨g, k, none⟩ u) B v ps := h.tu (tu_set w g k u) fun j hj e => by
  have := (World.ownsRow.lt h j hj).1
  omega
theorem rrput_res {X : World} {tmps : Array Value} {g m : Nat} {t i : Int} {v : Value} {b : Bool} (ht : tmps.getD 4 undef = .pointer (some ⟨g, 0, none⟩)) (h5 : tmps.getD 5 undef = .bool b) (hk : BkA 32 X g (rrC m t i v)) :
    (results Tryz.f14 tmps).run Tryz.prog X = .ok (.tuple #[rrV m t i v, .bool b]) X := by
  have r0 := hk.at 0 rfl
  have r1 := hk.at 1 rfl
  have r2 := hk.at 2 rfl
  have r3 := hk.at 3 rfl
  have ht' : tmps[4]?.getD undef = .pointer (some ⟨g, 0, none⟩) := by simpa using ht
  have h5' : tmps[5]?.getD undef = .bool b := by simpa using h5
  simp [results, Tryz.results14, go_sem, ht', h5', r0, r1, r2, r3, rrV]
set_option maxHeartbeats 4000000 in
theorem rrput_any (a : Option Addr) (c m : Nat) (t i : Int) (cs : List PKV) (p : PKV) (w : World) (h : PksAt w a cs.length cs) (hk : KsIn w cs) (hi : BInv m (cs.map PKV.pd)) (hm : m ≤ 256) (hr : RowAt w p.r.a p.r.n p.r.xs) (hn : p.r.n ≤ 10) :
    Calls Tryz.prog 14 #[rrV m t i (.slice a cs.length c), p.val] w fun e w' => RrP w w' m t i (.slice a cs.length c) cs p e := by
  have n0 : ∀ (X : World) (o : Obj), Below X.heap.size X (X.alloc o) := fun X o => (Below.refl _ _).alloc (Nat.le_refl _) _
  have s1 : (w.alloc (.cells #[.int .i64 (m : Int), .int .i64 t, .int .i64 i, .slice a cs.length c] 32)).heap.size = w.heap.size + 1 := alloc_size _ _
  have s2 : ((w.alloc (.cells #[.int .i64 (m : Int), .int .i64 t, .int .i64 i, .slice a cs.length c] 32)).alloc (.cells #[.int .i64 p.o, .int .i64 p.l, .int .i64 p.k, .int .i64 p.z, .int .i64 p.h, .slice p.r.a p.r.n p.r.c, .string p.r.s] 42)).heap.size = w.heap.size + 1 + 1 := by rw [alloc_size, s1]
  have s3 : (((w.alloc (.cells #[.int .i64 (m : Int), .int .i64 t, .int .i64 i, .slice a cs.length c] 32)).alloc (.cells #[.int .i64 p.o, .int .i64 p.l, .int .i64 p.k, .int .i64 p.z, .int .i64 p.h, .slice p.r.a p.r.n p.r.c, .string p.r.s] 42)).alloc (.cells #[.int .i64 0, .int .i64 0, .int .i64 0, .slice none 0 0] 32)).heap.size = w.heap.size + 1 + 1 + 1 := by rw [alloc_size, s2]
  have hb0 : Below w.heap.size w (((w.alloc (.cells #[.int .i64 (m : Int), .int .i64 t, .int .i64 i, .slice a cs.length c] 32)).alloc (.cells #[.int .i64 p.o, .int .i64 p.l, .int .i64 p.k, .int .i64 p.z, .int .i64 p.h, .slice p.r.a p.r.n p.r.c, .string p.r.s] 42)).alloc (.cells #[.int .i64 0, .int .i64 0, .int .i64 0, .slice none 0 0] 32)) := below0 (below0 (n0 _ _) (n0 _ _)) (n0 _ _)
  have k0 : BkA 32 (((w.alloc (.cells #[.int .i64 (m : Int), .int .i64 t, .int .i64 i, .slice a cs.length c] 32)).alloc (.cells #[.int .i64 p.o, .int .i64 p.l, .int .i64 p.k, .int .i64 p.z, .int .i64 p.h, .slice p.r.a p.r.n p.r.c, .string p.r.s] 42)).alloc (.cells #[.int .i64 0, .int .i64 0, .int .i64 0, .slice none 0 0] 32)) w.heap.size (rrC m t i (.slice a cs.length c)) := ((bkA_new 32 w (rrC m t i (.slice a cs.length c))).below (n0 _ _)).below (n0 _ _)
  have k1 : BkA 42 (((w.alloc (.cells #[.int .i64 (m : Int), .int .i64 t, .int .i64 i, .slice a cs.length c] 32)).alloc (.cells #[.int .i64 p.o, .int .i64 p.l, .int .i64 p.k, .int .i64 p.z, .int .i64 p.h, .slice p.r.a p.r.n p.r.c, .string p.r.s] 42)).alloc (.cells #[.int .i64 0, .int .i64 0, .int .i64 0, .slice none 0 0] 32)) (w.heap.size + 1) p.cells := by
    have := (bkA_new 42 (w.alloc (.cells #[.int .i64 (m : Int), .int .i64 t, .int .i64 i, .slice a cs.length c] 32)) p.cells).below (n0 _ (.cells #[.int .i64 0, .int .i64 0, .int .i64 0, .slice none 0 0] 32))
    rw [s1] at this
    exact this
  have k2 : BkA 32 (((w.alloc (.cells #[.int .i64 (m : Int), .int .i64 t, .int .i64 i, .slice a cs.length c] 32)).alloc (.cells #[.int .i64 p.o, .int .i64 p.l, .int .i64 p.k, .int .i64 p.z, .int .i64 p.h, .slice p.r.a p.r.n p.r.c, .string p.r.s] 42)).alloc (.cells #[.int .i64 0, .int .i64 0, .int .i64 0, .slice none 0 0] 32)) (w.heap.size + 1 + 1) [.int .i64 0, .int .i64 0, .int .i64 0, .slice none 0 0] := by
    have := bkA_new 32 ((w.alloc (.cells #[.int .i64 (m : Int), .int .i64 t, .int .i64 i, .slice a cs.length c] 32)).alloc (.cells #[.int .i64 p.o, .int .i64 p.l, .int .i64 p.k, .int .i64 p.z, .int .i64 p.h, .slice p.r.a p.r.n p.r.c, .string p.r.s] 42)) [.int .i64 0, .int .i64 0, .int .i64 0, .slice none 0 0]
    rw [s2] at this
    exact this
  unfold rrV PKV.val
  generalize hWW : ((w.alloc (.cells #[.int .i64 (m : Int), .int .i64 t, .int .i64 i, .slice a cs.length c] 32)).alloc (.cells #[.int .i64 p.o, .int .i64 p.l, .int .i64 p.k, .int .i64 p.z, .int .i64 p.h, .slice p.r.a p.r.n p.r.c, .string p.r.s] 42)).alloc (.cells #[.int .i64 0, .int .i64 0, .int .i64 0, .slice none 0 0] 32) = W at *
  have HRP0 := rbput_any a c m cs p W (h.below hb0) (hk.below hb0) hi hm (hr.below hb0) hn
  unfold PKV.val at HRP0
  have HRP := hide HRP0
  have HB0 := hide hb0
  have HK0 := hide k0
  have HK2 := hide k2
  have HS3 := hide s3
  have z0 := k0.at 0 rfl
  have z1 := k0.at 1 rfl
  have z2 := k0.at 2 rfl
  have z3 := k0.at 3 rfl
  obtain ⟨q0, q1, q2, q3, q4, q5, q6⟩ : PkAt W (w.heap.size + 1) (.int .i64 p.o) (.int .i64 p.l) (.int .i64 p.k) (.int .i64 p.z) (.int .i64 p.h) (.slice p.r.a p.r.n p.r.c) (.string p.r.s) := ⟨k1.at 0 rfl, k1.at 1 rfl, k1.at 2 rfl, k1.at 3 rfl, k1.at 4 rfl, k1.at 5 rfl, k1.at 6 rfl⟩
  clear h hk hi hr hb0 k0 k1 k2 s1 s2 s3 HRP0 n0
  go_enter Tryz.func14, Tryz.ntmps14
  go_wp2_with fail
  refine (unhide HRP).mono ?_
  rintro e w1 ⟨v1, cs1, rfl, hp1, ho1, hs1, hb1⟩
  obtain ⟨a1, n1, c1, rfl⟩ : ∃ a1 n1 c1, v1 = Value.slice a1 n1 c1 := by
    rcases ho1 with ⟨e, _⟩ | ho1
    · exact ⟨_, _, _, e⟩
    · obtain ⟨a1, c1, e⟩ := ho1.shape
      exact ⟨_, _, _, e⟩
  have j0 := (unhide HK0).below hb1
  have j2 := (unhide HK2).below hb1
  have y0 := j0.at 0 rfl
  have y1 := j0.at 1 rfl
  have y2 := j0.at 2 rfl
  have y3 := j0.at 3 rfl
  have yf := j0.frz
  have x0 := j2.at 0 rfl
  have x1 := j2.at 1 rfl
  have x2 := j2.at 2 rfl
  have x3 := j2.at 3 rfl
  have xf := j2.frz
  have HJ0 := hide (j0.set 3 (.slice a1 n1 c1))
  have HJ2 := hide (j2.tu (tu_set w1 w.heap.size 3 (.slice a1 n1 c1)) (fun e => by omega))
  have HBE := hide (show Below w.heap.size w w1 from below0 (unhide HB0) hb1)
  have HP1 := hide hp1
  have HO1 := hide ho1
  have HS1 := hide hs1
  clear hp1 ho1 hs1 hb1 j0 j2 z0 z1 z2 z3 q0 q1 q2 q3 q4 q5 q6 HRP HK0 HK2
  obtain ⟨TK, hTK⟩ : ∃ TK, takeD m (cs.map PKV.pd) p.pd = TK := ⟨_, rfl⟩
  rw [hTK]
  have HTK := hide hTK
  clear hTK
  go_wp2
  have hk1 := ((((unhide HJ2).set 0 (.int .i64 (m : Int))).set 1 (.int .i64 t)).set 2 (.int .i64 i)).set 3 (.slice a1 n1 c1)
  refine bodyPost_ret (rrput_res (m := m) (t := t) (i := i) (v := .slice a1 n1 c1) rfl rfl hk1) rfl ⟨_, cs1, by rw [unhide HTK], unhide HP1, ?_, unhide HS1, ?_⟩
  · rcases unhide HO1 with e | ho
    · exact .inl e
    · have hs3 := unhide HS3
      exact .inr (((((ho.setOld (g := w.heap.size) (by omega)).setOld (g := w.heap.size + 1 + 1) (by omega)).setOld (g := w.heap.size + 1 + 1) (by omega)).setOld (g := w.heap.size + 1 + 1) (by omega)).setOld (g := w.heap.size + 1 + 1) (by omega) |>.mono (by omega))
  · have h1 : w.heap.size ≤ w.heap.size + 1 + 1 := by omega
    exact (((((unhide HBE).setCell (p := ⟨w.heap.size, 3, none⟩) (Nat.le_refl _) _).setCell (p := ⟨w.heap.size + 1 + 1, 0, none⟩) h1 _).setCell (p := ⟨w.heap.size + 1 + 1, 1, none⟩) h1 _).setCell (p := ⟨w.heap.size + 1 + 1, 2, none⟩) h1 _).setCell (p := ⟨w.heap.size + 1 + 1, 3, none⟩) h1 _
/-- A packet lies in no block of a slice and an int. -/
theorem Bk2.apartK {T : TypeId} {w : World} {g : Nat} {a : Option Addr} {n c : Nat} {i : Int} (h : Bk2 T w g (.slice a n c) (.int .i64 i)) {b off : Nat} {p : PKV} (hp : PkCells w b off p) : b ≠ g := fun e => by
  subst e
  obtain ⟨h0, h1, -⟩ := hp
  unfold Bk2 at h
  rw [cell_of_row w b _ _ _ _ h] at h0 h1
  match off, h0, h1 with
  | 0, h0, _ => simp at h0
  | 1, _, h1 => simp at h1
  | k + 2, h0, _ => simp at h0
theorem PkCells.kept {w w' : World} {b off g : Nat} {p : PKV} (h : PkCells w b off p) (hg : w.grownBy w' (some g)) (hne : b ≠ g) : PkCells w' b off p := by
  have e : ∀ (k : Nat) (v : Value), w.cell? ⟨b, k, none⟩ = some v → w'.cell? ⟨b, k, none⟩ = some v := fun k v hv => hg.cell hv (fun e => hne (Option.some.inj e))
  exact ⟨e _ _ h.1, e _ _ h.2.1, e _ _ h.2.2.1, e _ _ h.2.2.2.1, e _ _ h.2.2.2.2.1, e _ _ h.2.2.2.2.2.1, e _ _ h.2.2.2.2.2.2⟩
theorem PksAt.drawn {T : TypeId} {w w' : World} {g : Nat} {a a2 : Option Addr} {n n2 c2 : Nat} {i : Int} {ps : List PKV} (h : PksAt w a n ps) (hd : Bk2 T w g (.slice a2 n2 c2) (.int .i64 i)) (hg : w.grownBy w' (some g)) : PksAt w' a n ps := by
  refine ⟨h.1, fun i hi => (h.2.1 i hi).kept hg (hd.apart (h.2.1 i hi)), ?_⟩
  rcases h.2.2 with h0 | ⟨b, off, rfl, hc⟩
  · exact .inl h0
  · exact .inr ⟨b, off, rfl, fun i hi => (hc i hi).kept hg (hd.apartK (hc i hi))⟩
theorem KsIn.drawn {T : TypeId} {w w' : World} {g : Nat} {a2 : Option Addr} {n2 c2 : Nat} {i : Int} {ps : List PKV} (h : KsIn w ps) (hd : Bk2 T w g (.slice a2 n2 c2) (.int .i64 i)) (hg : w.grownBy w' (some g)) : KsIn w' ps := fun p hp => ⟨(h p hp).1.kept hg (hd.apart (h p hp).1), (h p hp).2⟩
/-- Within the reference's Emit. -/
structure EmF (w wx : World) (m : Nat) (t i : Int) (a : Option Addr) (n c : Nat) (cs : List PKV) (gr : Nat) (a' : Option Addr) (c' : Nat) (D : List Nat) (N : Nat) : Prop where
  rb : BkA 32 wx w.heap.size (rrC m t i (.slice a n c))
  pz : PkB wx (w.heap.size + 1) (.int .i64 0) (.int .i64 0) (.int .i64 0) (.int .i64 0) (.int .i64 0) (.slice none 0 0) (.string ⟨#[]⟩)
  pk : PksAt wx a n cs
  ks : KsIn wx cs
  f : Bk2 38 wx gr (.slice a' D.length c') (.int .i64 (N : Int))
  row : RowAt wx a' D.length D
  gr : w.grownBy wx (some gr)
theorem EmF.below {w wx wy : World} {m : Nat} {t i : Int} {a : Option Addr} {n c : Nat} {cs : List PKV} {gr : Nat} {a' : Option Addr} {c' : Nat} {D : List Nat} {N : Nat} (h : EmF w wx m t i a n c cs gr a' c' D N) (hb : Below wx.heap.size wx wy) : EmF w wy m t i a n c cs gr a' c' D N :=
  ⟨h.rb.below hb, h.pz.below hb, h.pk.below hb, h.ks.below hb, h.f.below hb, h.row.below hb, gb_trans h.gr (gb_of_below hb (some gr)) (.inl rfl)⟩
theorem EmF.drawn {w wx wy : World} {m : Nat} {t i : Int} {a : Option Addr} {n c : Nat} {cs : List PKV} {gr : Nat} {a' : Option Addr} {c' : Nat} {D : List Nat} {N N' : Nat} (h : EmF w wx m t i a n c cs gr a' c' D N) (hf : Bk2 38 wy gr (.slice a' D.length c') (.int .i64 (N' : Int))) (hg : wx.grownBy wy (some gr)) : EmF w wy m t i a n c cs gr a' c' D N' :=
  ⟨h.rb.kept hg (fun e => h.f.not h.rb (by decide) (Option.some.inj e)), (hg.block _ h.pz.lt fun e => h.f.not h.pz (by decide) (Option.some.inj e)).trans h.pz, h.pk.drawn h.f hg, h.ks.drawn h.f hg, hf, h.row.kept hg (h.f.apart h.row), gb_trans h.gr hg (.inl rfl)⟩
theorem rrem_res {X : World} {tmps : Array Value} {g : Nat} {o l k z h : Int} {a : Option Addr} {n c : Nat} {s : ByteArray} {b : Bool} (ht : tmps.getD 4 undef = .pointer (some ⟨g, 0, none⟩)) (h5 : tmps.getD 5 undef = .bool b) (hk : PkB X g (.int .i64 o) (.int .i64 l) (.int .i64 k) (.int .i64 z) (.int .i64 h) (.slice a n c) (.string s)) :
    (results Tryz.f11 tmps).run Tryz.prog X = .ok (.tuple #[.agg #[.int .i64 o, .int .i64 l, .int .i64 k, .int .i64 z, .int .i64 h, .slice a n c, .string s], .bool b]) X := by
  obtain ⟨r0, r1, r2, r3, r4, r5, r6⟩ := hk.at
  have ht' : tmps[4]?.getD undef = .pointer (some ⟨g, 0, none⟩) := by simpa using ht
  have h5' : tmps[5]?.getD undef = .bool b := by simpa using h5
  simp [results, Tryz.results11, go_sem, ht', h5', r0, r1, r2, r3, r4, r5, r6]
theorem rremit_end {w w4 w5 : World} {m : Nat} {t i : Int} {a : Option Addr} {n c : Nat} {cs : List PKV} {gr : Nat} {a' : Option Addr} {c' : Nat} {D : List Nat} {N : Nat} {q : PKV} (h : EmF w w4 m t i a n c cs gr a' c' D N) (hb : Below w4.heap.size w4 w5) (ho : Own w5 w4.heap.size (.slice q.r.a q.r.n q.r.c) q.r.xs) :
    Own (set7 w5 (w.heap.size + 1) (.int .i64 q.o) (.int .i64 q.l) (.int .i64 q.k) (.int .i64 q.z) (.int .i64 q.h) (.slice q.r.a q.r.n q.r.c) (.string q.r.s)) w.heap.size (.slice q.r.a q.r.n q.r.c) q.r.xs ∧ Bk2 38 (set7 w5 (w.heap.size + 1) (.int .i64 q.o) (.int .i64 q.l) (.int .i64 q.k) (.int .i64 q.z) (.int .i64 q.h) (.slice q.r.a q.r.n q.r.c) (.string q.r.s)) gr (.slice a' D.length c') (.int .i64 (N : Int)) ∧ w.grownBy (set7 w5 (w.heap.size + 1) (.int .i64 q.o) (.int .i64 q.l) (.int .i64 q.k) (.int .i64 q.z) (.int .i64 q.h) (.slice q.r.a q.r.n q.r.c) (.string q.r.s)) (some gr) := by
  have h5 := h.below hb
  have hlt := h.pz.lt
  have hg7 := gb_set7 w5 (w.heap.size + 1) (.int .i64 q.o) (.int .i64 q.l) (.int .i64 q.k) (.int .i64 q.z) (.int .i64 q.h) (.slice q.r.a q.r.n q.r.c) (.string q.r.s)
  exact ⟨(ho.all7 hlt _ _ _ _ _ _ _).mono (by omega), h5.f.kept hg7 (fun e => h5.f.not h5.pz (by decide) (Option.some.inj e).symm), gb_trans h5.gr hg7 (.inr fun j hj => by rw [← Option.some.inj hj]; omega)⟩
set_option maxHeartbeats 8000000 in
theorem rremit_any (a : Option Addr) (c m : Nat) (t i : Int) (cs : List PKV) (gr : Nat) (a' : Option Addr) (c' : Nat) (D : List Nat) (N : Nat) (w : World) (h : PksAt w a cs.length cs) (hk : KsIn w cs) (hs : shortP cs) (hc : cs.length ≤ 256) (hf : Bk2 38 w gr (.slice a' D.length c') (.int .i64 (N : Int))) (hD : D.length ≤ 1048576) (hrow : RowAt w a' D.length D) (hN : N ≤ 1099511627776) (htt : -1099511627776 ≤ t ∧ t ≤ 1099511627776) :
    Calls Tryz.prog 11 #[rrV m t i (.slice a cs.length c), .pointer (some ⟨gr, 0, none⟩)] w fun e w' => EmitR w w' (emitO (cs.map PKV.pd) D N t) e ∧ Bk2 38 w' gr (.slice a' D.length c') (.int .i64 ((usedO (cs.map PKV.pd) N : Nat) : Int)) ∧ w.grownBy w' (some gr) := by
  obtain ⟨n, hnn⟩ : ∃ n, cs.length = n := ⟨_, rfl⟩
  rw [hnn] at h hc ⊢
  have n0 : ∀ (X : World) (o : Obj), Below X.heap.size X (X.alloc o) := fun X o => (Below.refl _ _).alloc (Nat.le_refl _) _
  have hb0 : Below w.heap.size w ((w.alloc (.cells #[.int .i64 (m : Int), .int .i64 t, .int .i64 i, .slice a n c] 32)).alloc (.cells #[.int .i64 0, .int .i64 0, .int .i64 0, .int .i64 0, .int .i64 0, .slice none 0 0, .string ⟨#[]⟩] 42)) := below0 (n0 _ _) (n0 _ _)
  have hq0 : EmF w ((w.alloc (.cells #[.int .i64 (m : Int), .int .i64 t, .int .i64 i, .slice a n c] 32)).alloc (.cells #[.int .i64 0, .int .i64 0, .int .i64 0, .int .i64 0, .int .i64 0, .slice none 0 0, .string ⟨#[]⟩] 42)) m t i a n c cs gr a' c' D N := ⟨(bkA_new 32 w (rrC m t i (.slice a n c))).below (n0 _ _), by have := pkb_new (w.alloc (.cells #[.int .i64 (m : Int), .int .i64 t, .int .i64 i, .slice a n c] 32)) (.int .i64 0) (.int .i64 0) (.int .i64 0) (.int .i64 0) (.int .i64 0) (.slice none 0 0) (.string ⟨#[]⟩); rw [alloc_size] at this; exact this, h.below hb0, hk.below hb0, hf.below hb0, hrow.below hb0, gb_of_below hb0 _⟩
  unfold rrV
  generalize hWW : (w.alloc (.cells #[.int .i64 (m : Int), .int .i64 t, .int .i64 i, .slice a n c] 32)).alloc (.cells #[.int .i64 0, .int .i64 0, .int .i64 0, .int .i64 0, .int .i64 0, .slice none 0 0, .string ⟨#[]⟩] 42) = W at *
  have HQ0 := hide hq0
  have HB0 := hide hb0
  have HNN := hide hnn
  have z1 := hq0.rb.at 1 rfl
  have z3 := hq0.rb.at 3 rfl
  obtain ⟨x0, x1, x2, x3, x4, x5, x6⟩ := hq0.pz.at
  have xf := hq0.pz.frz
  by_cases h0 : n = 0
  · subst h0
    obtain rfl : cs = [] := List.eq_nil_of_length_eq_zero hnn
    have HPZ := hide hq0.pz
    have HFF := hide hq0.f
    clear h hk hf hrow hb0 hq0 hnn HNN n0 HQ0
    go_enter Tryz.func11, Tryz.ntmps11
    go_wp2
    exact bodyPost_ret (rrem_res (X := set7 W (w.heap.size + 1) (.int .i64 0) (.int .i64 0) (.int .i64 0) (.int .i64 0) (.int .i64 0) (.slice none 0 0) (.string ⟨#[]⟩)) rfl rfl ((unhide HPZ).sets (.int .i64 0) (.int .i64 0) (.int .i64 0) (.int .i64 0) (.int .i64 0) (.slice none 0 0) (.string ⟨#[]⟩))) rfl ⟨⟨zPK, rfl, rfl, Own.nil _ _⟩, (unhide HFF).kept (gb_set7 _ _ _ _ _ _ _ _ _) (fun e => (unhide HFF).not (unhide HPZ) (by decide) (Option.some.inj e).symm), gb_of_below (below7 (unhide HB0) (Nat.le_succ _) _ _ _ _ _ _ _) _⟩
  · have hn0 : ¬ ((n : Int) = 0) := by omega
    have hn1 : ((n : Int) == 0) = false := by rw [beq_eq_false_iff_ne]; exact hn0
    have hml : 0 < (cs.map PKV.pd).length := by rw [List.length_map]; omega
    rw [emitO_yes D N t hml, usedO_yes N hml, List.length_map, hnn]
    have HBE := hide (rbelow_at gr a' c' D N n W hq0.f hD hq0.row hN (by omega) (by omega))
    have HMO := hide (show drawN D (N + 1) % n < n from Nat.mod_lt _ (by omega))
    have HSH := hide hs
    have HSR : Hid (shortR (rowsK cs)) := hide (shortP_rows fun p hp => shortP_mem hs hp)
    obtain ⟨bb, hbb⟩ : ∃ bb, drawN D (N + 1) % n = bb := ⟨_, rfl⟩
    rw [hbb] at HBE HMO ⊢
    clear h hk hf hrow hb0 hq0 hnn n0 hs hbb hml
    go_enter Tryz.func11, Tryz.ntmps11
    go_wp2_with (go_at_call 29; refine (unhide HBE).mono ?_; rintro e w3 ⟨rfl, hf3, hg3⟩; have hq3 := (unhide HQ0).drawn hf3 hg3; have HQ3 := hide hq3; have y1 := hq3.rb.at 1 rfl; have y3 := hq3.rb.at 3 rfl; clear hf3 hg3 hq3 HBE)
    have HRO := hide (fun wx (hq : EmF w wx m t i a n c cs gr a' c' D (N + 1)) => rrows_any a n c cs wx hq.pk (by omega))
    go_region_law (first
      | (go_simp; go_at_call 32; refine (unhide HRO _ ((unhide HQ3).below (Below.refl _ _).drew)).mono ?_; rintro e w4 ⟨v4, rfl, ho4, hb4⟩; have hq4 := ((unhide HQ3).below (Below.refl _ _).drew).below hb4; have HQ4 := hide hq4; obtain ⟨a4, d4, rfl⟩ := ho4.shape; rw [rowsK_len, unhide HNN] at ho4 ⊢; have HO4 := hide ho4; have u1 := hq4.rb.at 1 rfl; have u3 := hq4.rb.at 3 rfl; clear ho4 hb4 hq4)
      | (go_simp; go_at_call 31; refine (rchoose_any a4 n d4 (rowsK cs) (bb : Int) t w4 (((unhide HO4).at' (KsIn.rows (unhide HQ4).ks)).1) (unhide HSR) (by omega) (by have := unhide HMO; omega) htt).mono ?_; rintro e w5 ⟨v5, rfl, ho5, hb5⟩; have hq5 := (unhide HQ4).below hb5; have HQ5 := hide hq5; obtain ⟨a5, d5, rfl, hz5⟩ := ho5.ints; have HZ5 := hide hz5; have t1 := hq5.rb.at 1 rfl; have t3 := hq5.rb.at 3 rfl; have HMX0 := rmix18_any a n c cs a5 (chooseL (rowsK cs) (bb : Int) t).length d5 (chooseL (rowsK cs) (bb : Int) t) w5 hq5.pk hq5.ks (unhide HSH) hz5 (by omega) (choose_len (by rw [rowsK_len, unhide HNN]; omega)); rw [emit_is (by rw [unhide HNN]; exact unhide HMO)] at HMX0; have HMX := hide HMX0; clear ho5 hb5 hq5 hz5 HMX0)
      | (go_simp; go_at_call 30; refine (unhide HMX).mono ?_; rintro e w6 hM; obtain ⟨hb6, q, rfl, hq6, ho6⟩ := hM.own; have HE6 := hide (rremit_end (unhide HQ5) hb6 ho6); have HQ6 := hide hq6; have hz6 := (unhide HQ5).pz.below hb6; obtain ⟨p0, p1, p2, p3, p4, p5, p6⟩ := hz6.at; have pf := hz6.frz; have HZ6 := hide hz6; unfold PKV.val; clear hb6 hq6 ho6 hM hz6)
      | fail)
    all_goals go_wp2
    all_goals exact bodyPost_ret (rrem_res (X := set7 w6 (w.heap.size + 1) (.int .i64 q.o) (.int .i64 q.l) (.int .i64 q.k) (.int .i64 q.z) (.int .i64 q.h) (.slice q.r.a q.r.n q.r.c) (.string q.r.s)) rfl rfl ((unhide HZ6).sets (.int .i64 q.o) (.int .i64 q.l) (.int .i64 q.k) (.int .i64 q.z) (.int .i64 q.h) (.slice q.r.a q.r.n q.r.c) (.string q.r.s))) rfl ⟨⟨q, rfl, unhide HQ6, (unhide HE6).1⟩, (unhide HE6).2⟩
end Go.Proofs.YtbcgiodgobmkaaaGreatDoor
