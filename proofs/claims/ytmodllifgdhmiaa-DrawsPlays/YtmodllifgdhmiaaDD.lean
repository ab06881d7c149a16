/-
  The reference's draws in memory ('RfAt'); slices of bools of the call's own ('OwnF'). Contracts of bucketlineref11's Next, Below and Distinct. Conditions: at most 128 numbers, at most 2^39 draws used.
-/
import Derived.Test.YtmodllifgdhmiaaDC
namespace Go.Proofs.Ytmodllifgdhmiaa
open Go.RowKit
set_option linter.unusedVariables false
set_option maxRecDepth 4000

/-- The reference's draws at block h: L's, of which N were used; all of it lies below B. -/
def RfAt (w : World) (h B : Nat) (L : List Nat) (N : Nat) : Prop :=
  h < B ∧ ∃ a n c, Bk2 29 w h (.slice a n c) (.int .i64 (N : Int)) ∧ n ≤ 1048576 ∧ RowAt w a n L ∧ (n = 0 ∨ ∀ ad, a = some ad → ad.block < B)
theorem RfAt.below {w w' : World} {g B : Nat} {L : List Nat} {N : Nat} (h : RfAt w g B L N) (hb : Below B w w') : RfAt w' g B L N := by
  obtain ⟨h1, a, n, c, h3, h4, h6, h7⟩ := h
  exact ⟨h1, a, n, c, h3.belowB hb h1, h4, h6.belowB hb h7, h7⟩
theorem RfAt.kept {w w' : World} {g B k : Nat} {L : List Nat} {N : Nat} {T : TypeId} {a' : Option Addr} {n' c' : Nat} {i : Int} (h : RfAt w g B L N) (hg : w.grownBy w' (some k)) (hk : g ≠ k) (hap : Bk2 T w k (.slice a' n' c') (.int .i64 i)) : RfAt w' g B L N := by
  obtain ⟨h1, a, n, c, h3, h4, h6, h7⟩ := h
  exact ⟨h1, a, n, c, h3.kept hg (fun e => hk (Option.some.inj e)), h4, h6.kept hg (hap.apart h6), h7⟩
theorem RfAt.drew {w : World} {g B : Nat} {L : List Nat} {N : Nat} (h : RfAt w g B L N) : RfAt w.drew g B L N := h.below (Below.refl _ _).drew
theorem gb_drewN {w w' : World} {r : Option Nat} (h : w.grownBy w' r) (n : Nat) : w.grownBy (w'.drewN n) r := ⟨h.os, h.tape, h.output, h.size, h.block⟩

set_option maxHeartbeats 1000000 in
theorem rnext_any (g B : Nat) (L : List Nat) (N : Nat) (w : World) (h : RfAt w g B L N) (hN : N ≤ 1099511627776) :
    Calls Try.prog 17 #[.pointer (some ⟨g, 0, none⟩)] w fun e w' => e = .returned (.int .u64 ((drawN L (N + 1) : Nat) : Int)) ∧ RfAt w' g B L (N + 1) ∧ w.grownBy w' (some g) := by
  obtain ⟨h1, a, n, c, h3, h4, h6, h7⟩ := h
  obtain rfl : n = L.length := h6.1.symm
  have hcast : ((N + 1 : Nat) : Int) = (N : Int) + 1 := by omega
  have hset : RfAt (w.setCell ⟨g, 1, none⟩ (.int .i64 ((N + 1 : Nat) : Int))) g B L (N + 1) := ⟨h1, a, L.length, c, h3.set1 _, h4, h6.kept (gb_setCell _ _ _ _) (h3.apart h6), h7⟩
  have hrow : RowAt (w.setCell ⟨g, 1, none⟩ (.int .i64 ((N + 1 : Nat) : Int))) a L.length L := h6.kept (gb_setCell _ _ _ _) (h3.apart h6)
  have k1 := h3.at1
  have kf := h3.frz 1
  have m0 := (h3.set1 (.int .i64 ((N + 1 : Nat) : Int))).at0
  have m1 := (h3.set1 (.int .i64 ((N + 1 : Nat) : Int))).at1
  rw [hcast] at hset hrow m0 m1
  have HD := hide hset
  clear hcast
  clear hset h6 h7 h3
  by_cases hlt : N < L.length
  · obtain ⟨b, off, rfl, hc⟩ := hrow.at hlt
    have hcell := hc N hlt
    rw [← drawN_in hlt] at hcell
    clear hc hrow
    generalize drawN L (N + 1) = x at *
    go_enter Try.func17, Try.ntmps17
    go_wp2_with fail
    go_quiet (fail)
    go_wp2_with fail
    go_quiet (fail)
    go_wp2
    go_ret
    exact ⟨rfl, (unhide HD).below (below_drewN (below_drewN (Below.refl _ _) _) _), gb_drewN (gb_drewN (gb_setCell _ _ _ _) _) _⟩
  · have HE := hide (drawN_out (L := L) (n := N + 1) (by omega))
    clear hrow
    go_enter Try.func17, Try.ntmps17
    go_wp2_with fail
    go_quiet (fail)
    go_wp2
    go_ret
    refine ⟨ret_int ?_, (unhide HD).below (below_drewN (Below.refl _ _) _), gb_drewN (gb_setCell _ _ _ _) _⟩
    rw [unhide HE, IntKind.wrap_u64]
    omega

set_option maxHeartbeats 400000 in
theorem rbelow_any (g B : Nat) (L : List Nat) (N n : Nat) (m : Int) (hm : m = (n : Int)) (w : World) (h : RfAt w g B L N) (hL : smalls L) (hN : N ≤ 1099511627776) (h1 : 1 ≤ n) (h2 : n ≤ 9223372036854775807) :
    Calls Try.prog 11 #[.pointer (some ⟨g, 0, none⟩), .int .i64 m] w fun e w' => e = .returned (.int .i64 ((drawN L (N + 1) % n : Nat) : Int)) ∧ RfAt w' g B L (N + 1) ∧ w.grownBy w' (some g) := by
  subst hm
  have HX := hide (rnext_any g B L N w h hN)
  have hx := drawN_lt hL (N + 1)
  clear h
  generalize drawN L (N + 1) = x at *
  obtain ⟨hr, hl⟩ := rem_draw x n h1 h2
  generalize x % n = y at *
  go_enter Try.func11, Try.ntmps11
  go_wp2_with (go_at_call 17; refine (unhide HX).mono ?_; rintro e w1 ⟨rfl, hD, hG⟩)
  go_ret
  exact ⟨rfl, hD, hG⟩
theorem rbelow_no (p : Value) (n : Int) (hn : n < 1) (w : World) :
    Calls Try.prog 11 #[p, .int .i64 n] w fun e w' => e = .returned (.int .i64 0) ∧ w' = w := by
  go_enter Try.func11, Try.ntmps11
  go_wp2
  go_ret
  exact ⟨rfl, rfl⟩

/-- A slice of bools of the call's own. -/
def cellsF (bs : List Bool) : List Value := bs.map Value.bool
theorem cellsF_length (bs : List Bool) : (cellsF bs).length = bs.length := by simp [cellsF]
theorem cellsF_get (bs : List Bool) (i : Nat) (h : i < bs.length) : (cellsF bs)[i]? = some (.bool (bs.getD i false)) := by
  simp [cellsF, List.getElem?_eq_getElem h, List.getD_eq_getElem?_getD]
def OwnF (w : World) (B : Nat) (v : Value) (bs : List Bool) : Prop := w.ownsRow B 4 1 v bs.length (cellsF bs)
theorem OwnF.below {w w' : World} {B B' : Nat} {v : Value} {bs : List Bool} (h : OwnF w B v bs) (hb : Below B' w w') (hs : ∀ k, v.ownBlock = some k → k < B') : OwnF w' B v bs := by
  refine ⟨h.1, ?_⟩
  rcases h.2 with h0 | ⟨g, cap, cur, h1, hg, hgg, r⟩
  · exact .inl h0
  · exact .inr ⟨g, cap, cur, h1, hg, (hb.block g (hs g (by rw [h1]; rfl))).trans hgg, r⟩
theorem OwnF.kept {w w' : World} {B : Nat} {v : Value} {bs : List Bool} {k : Nat} (h : OwnF w B v bs) (hg : w.grownBy w' (some k)) (hk : k < B) : OwnF w' B v bs := by
  refine ⟨h.1, ?_⟩
  rcases h.2 with h0 | ⟨g, cap, cur, h1, hg1, hgg, r⟩
  · exact .inl h0
  · exact .inr ⟨g, cap, cur, h1, hg1, (hg.block g (Array.getElem?_eq_some_iff.1 hgg).1 (fun e => by have := Option.some.inj e; omega)).trans hgg, r⟩
theorem OwnF.at {w : World} {B g n c : Nat} {bs : List Bool} (h : OwnF w B (.slice (some ⟨g, 0, none⟩) n c) bs) : B ≤ g ∧ g < w.heap.size ∧ (∀ i, i < bs.length → w.cell? ⟨g, i, none⟩ = some (.bool (bs.getD i false))) ∧ ∀ i, w.frozen? ⟨g, i, none⟩ = false := by
  have ho' : w.ownsRow B 4 1 (.slice (some ⟨g, 0, none⟩) n c) bs.length (cellsF bs) := h
  rcases h.2 with ⟨e, h0⟩ | ⟨g', cap, cur, e, hb, hg, hn, hm, hsz, ht⟩
  · simp at e
  · simp only [Value.slice.injEq, Option.some.injEq, Addr.mk.injEq, and_true] at e
    obtain ⟨rfl, rfl, rfl⟩ := e
    refine ⟨hb, (Array.getElem?_eq_some_iff.1 hg).1, fun i hi => ?_, fun i => ho'.frozenAt i⟩
    rw [ho'.cellAt i (by omega), cellsF_get bs i hi]
theorem OwnF.stored {w : World} {B g n c : Nat} {bs : List Bool} (h : OwnF w B (.slice (some ⟨g, 0, none⟩) n c) bs) (i : Nat) (x : Bool) :
    OwnF (w.setCell ⟨g, i, none⟩ (.bool x)) B (.slice (some ⟨g, 0, none⟩) n c) (bs.set i x) := by
  have ho : w.ownsRow B 4 1 (.slice (some ⟨g, 0, none⟩) n c) bs.length (cellsF bs) := h
  obtain rfl : n = bs.length := by
    rcases h.2 with ⟨e, h0⟩ | ⟨g', cap, cur, e, _⟩
    · simp at e
    · simp only [Value.slice.injEq] at e
      exact e.2.1
  have := (ho.stored i (.bool x)).1
  rw [show (cellsF bs).set i (.bool x) = cellsF (bs.set i x) by simp [cellsF, List.map_set]] at this
  show World.ownsRow _ B 4 1 _ (bs.set i x).length _
  rw [List.length_set]
  exact this
theorem info_f : (Try.prog.info? 4).map (fun i => (i.zero, i.size, i.bytes)) = some (some (.bool false), 1, 1) := by kernel_rfl
theorem make_f (n : Nat) (hn : n ≤ 1048576) (wx : World) : (Instr.makeSlice 52 (.int .i64 (n : Int)) (.int .i64 (n : Int))).run Try.prog wx = .ok (.slice (some ⟨wx.heap.size, 0, none⟩) n n) (wx.alloc (.cells (madeCells #[.bool false] n) 4)) := by
  obtain ⟨i0, hi0, hz0, hzs, hzb⟩ := info_parts info_f
  have := run_make (P := Try.prog) wx 52 4 i0 (.bool false) Try.underlying52 hi0 hz0 .i64 .i64 (n : Int) (n : Int) (by omega) (Int.le_refl _) (by rw [hzb]; omega) (by omega)
  rw [hzs] at this
  simpa [Value.cells] using this
theorem made_f (w : World) (n : Nat) (hn : n ≤ 1048576) :
    OwnF (w.alloc (.cells (madeCells #[.bool false] n) 4)) w.heap.size (.slice (some ⟨w.heap.size, 0, none⟩) n n) (List.replicate n false) := by
  refine ⟨by simp [cellsF], .inr ⟨w.heap.size, n, madeCells #[.bool false] n, by simp, Nat.le_refl _, heap_alloc_new w _, by simp, by unfold maxLen; omega, by simp [size_madeCells], ?_⟩⟩
  rw [toList_madeCells_one, List.take_of_length_le (by simp)]
  simp [cellsF]
end Go.Proofs.Ytmodllifgdhmiaa
