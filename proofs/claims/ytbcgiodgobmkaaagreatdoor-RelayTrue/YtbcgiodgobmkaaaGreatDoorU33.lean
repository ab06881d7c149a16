/-
  What is chosen, in memory ('CcAt': thirty-two places, how many, the xor, its degree); contracts of choice.has, degreeWith, add. Conditions: at most 10 words.
  Contracts of choice.degreeWith and add. Conditions: at most 10 words.
-/
import Derived.Test.YtbcgiodgobmkaaaGreatDoorU32
import Derived.Test.YtbcgiodgobmkaaaGreatDoorU11
import Derived.Test.YtbcgiodgobmkaaaGreatDoorU5
import Derived.Test.YtbcgiodgobmkaaaGreatDoorU3
import Derived.Test.YtbcgiodgobmkaaaGreatDoorTx
import Derived.Test.YtbcgiodgobmkaaaGreatDoorU6
import Derived.Test.YtbcgiodgobmkaaaGreatDoorU14
import Derived.Deep.RegionHeld3
namespace Go.Proofs.YtbcgiodgobmkaaaGreatDoor
open Go.RowKit
set_option linter.unusedVariables false
set_option linter.unusedSimpArgs false
set_option maxRecDepth 4000

/-- The cells of a choice. -/
def ccL (L : List Int) (k : Nat) (sv : Value) (d : Nat) : List Value := cellsZ L ++ [.int .i64 (k : Int), sv, .int .i64 (d : Int)]
theorem ccL_low {L : List Int} {k : Nat} {sv : Value} {d : Nat} (hl : L.length = 32) {i : Nat} (hi : i < 32) : (ccL L k sv d)[i]? = some (.int .i64 (L.getD i 0)) := by
  unfold ccL
  rw [List.getElem?_append_left (by rw [cellsZ_length]; omega), cellsZ_get L i (by omega)]
theorem ccL_hi {L : List Int} {k : Nat} {sv : Value} {d : Nat} (hl : L.length = 32) (j : Nat) : (ccL L k sv d)[32 + j]? = [Value.int .i64 (k : Int), sv, .int .i64 (d : Int)][j]? := by
  unfold ccL
  rw [List.getElem?_append_right (by rw [cellsZ_length]; omega), cellsZ_length, hl, Nat.add_sub_cancel_left]
theorem ccL_set {L : List Int} {k : Nat} {sv : Value} {d : Nat} (hl : L.length = 32) {i : Nat} (hi : i < 32) (x : Int) : (ccL L k sv d).set i (.int .i64 x) = ccL (L.set i x) k sv d := by
  unfold ccL
  rw [List.set_append_left _ _ (by rw [cellsZ_length]; omega), cellsZ_set]
theorem ccL_setH {L : List Int} {k : Nat} {sv : Value} {d : Nat} (hl : L.length = 32) (j : Nat) (x : Value) : (ccL L k sv d).set (32 + j) x = cellsZ L ++ [Value.int .i64 (k : Int), sv, .int .i64 (d : Int)].set j x := by
  unfold ccL
  rw [List.set_append_right _ _ (by rw [cellsZ_length]; omega), cellsZ_length, hl, Nat.add_sub_cancel_left]
/-- A choice at block g: its xor lies behind it. -/
structure CcAt (w : World) (g : Nat) (L : List Int) (k : Nat) (sv : Value) (xs : List Nat) (d : Nat) : Prop where
  blk : BkA 90 w g (ccL L k sv d)
  len : L.length = 32
  own : Own w (g + 1) sv xs
theorem CcAt.below {w w' : World} {g : Nat} {L : List Int} {k : Nat} {sv : Value} {xs : List Nat} {d : Nat} (h : CcAt w g L k sv xs d) (hb : Below w.heap.size w w') : CcAt w' g L k sv xs d := ⟨h.blk.below hb, h.len, h.own.below hb⟩
theorem CcAt.at {w : World} {g : Nat} {L : List Int} {k : Nat} {sv : Value} {xs : List Nat} {d : Nat} (h : CcAt w g L k sv xs d) : w.cell? ⟨g, 32, none⟩ = some (.int .i64 (k : Int)) ∧ w.cell? ⟨g, 33, none⟩ = some sv ∧ w.cell? ⟨g, 34, none⟩ = some (.int .i64 (d : Int)) :=
  ⟨h.blk.at 32 (ccL_hi h.len 0), h.blk.at 33 (ccL_hi h.len 1), h.blk.at 34 (ccL_hi h.len 2)⟩
theorem CcAt.ints {w : World} {g : Nat} {L : List Int} {k : Nat} {sv : Value} {xs : List Nat} {d : Nat} (h : CcAt w g L k sv xs d) (hk : k ≤ 32) : IntzAt w (some ⟨g, 0, none⟩) k (L.take k) := by
  refine ⟨by rw [List.length_take, h.len]; omega, .inr ⟨g, 0, rfl, fun i hi => ?_⟩⟩
  rw [Nat.zero_add, h.blk.at i (ccL_low h.len (by omega)), List.getD_eq_getElem?_getD, List.getD_eq_getElem?_getD, List.getElem?_take, if_pos hi]
theorem CcAt.new (w : World) : CcAt (w.alloc (.cells (ccL (List.replicate 32 0) 0 (.slice none 0 0) 0).toArray 90)) w.heap.size (List.replicate 32 0) 0 (.slice none 0 0) [] 0 :=
  ⟨bkA_new _ _ _, by simp, Own.nil _ _⟩
theorem CcAt.place {w : World} {g : Nat} {L : List Int} {k : Nat} {sv : Value} {xs : List Nat} {d : Nat} (h : CcAt w g L k sv xs d) {i : Nat} (hi : i < 32) (x : Int) : CcAt (w.setCell ⟨g, i, none⟩ (.int .i64 x)) g (L.set i x) k sv xs d := by
  refine ⟨?_, by rw [List.length_set]; exact h.len, h.own.other _ _ (Nat.lt_succ_self _)⟩
  have := h.blk.set i (.int .i64 x)
  rwa [ccL_set h.len hi] at this
theorem CcAt.count {w : World} {g : Nat} {L : List Int} {k : Nat} {sv : Value} {xs : List Nat} {d : Nat} (h : CcAt w g L k sv xs d) (k' : Nat) : CcAt (w.setCell ⟨g, 32, none⟩ (.int .i64 (k' : Int))) g L k' sv xs d := by
  refine ⟨?_, h.len, h.own.other _ _ (Nat.lt_succ_self _)⟩
  have := h.blk.set 32 (.int .i64 (k' : Int))
  rwa [show (32 : Nat) = 32 + 0 from rfl, ccL_setH h.len 0] at this
theorem CcAt.sum {w : World} {g : Nat} {L : List Int} {k : Nat} {sv : Value} {xs : List Nat} {d : Nat} (h : CcAt w g L k sv xs d) {u : Value} {ys : List Nat} (ho : Own w (g + 1) u ys) : CcAt (w.setCell ⟨g, 33, none⟩ u) g L k u ys d := by
  refine ⟨?_, h.len, ho.other _ _ (Nat.lt_succ_self _)⟩
  have := h.blk.set 33 u
  rwa [show (33 : Nat) = 32 + 1 from rfl, ccL_setH h.len 1] at this
theorem CcAt.deg {w : World} {g : Nat} {L : List Int} {k : Nat} {sv : Value} {xs : List Nat} {d : Nat} (h : CcAt w g L k sv xs d) (d' : Nat) : CcAt (w.setCell ⟨g, 34, none⟩ (.int .i64 (d' : Int))) g L k sv xs d' := by
  refine ⟨?_, h.len, h.own.other _ _ (Nat.lt_succ_self _)⟩
  have := h.blk.set 34 (.int .i64 (d' : Int))
  rwa [show (34 : Nat) = 32 + 2 from rfl, ccL_setH h.len 2] at this

set_option maxHeartbeats 1000000 in
theorem has_any (g : Nat) (L : List Int) (k : Nat) (sv : Value) (xs : List Nat) (d : Nat) (x : Int) (w : World) (h : CcAt w g L k sv xs d) (hk : k ≤ 32) :
    Calls Tryz.prog 63 #[.pointer (some ⟨g, 0, none⟩), .int .i64 x] w fun e w' => e = .returned (.bool (decide (x ∈ L.take k))) ∧ Below w.heap.size w w' := by
  have hk' : (k : Int) ≤ 32 := by omega
  have k0 := cell_regrown h.at.1
  have cC := quietB (W := w) (fun w' hb => same_below (containsI_any (some ⟨g, 0, none⟩) k 32 (L.take k) x w' ((h.below hb).ints hk) (by omega)))
  generalize decide (x ∈ L.take k) = b at *
  clear h
  go_enter Tryz.func63, Tryz.ntmps63
  go_wp2_with fail
  refine wp_region_quiet_below (by kernel_rfl) (by kernel_rfl) ?_
  repeat (with_reducible refine wpQuiet_step (fun K hK => ?_); go_simp; first | (with_reducible refine hK _ ?_; clear hK K) | (apply Exists.intro; apply And.intro; (intro _; first | (go_at_call 75; exact cC _ _)); with_reducible refine hK _ ?_; clear hK K))
  refine wpQuiet_nil ?_
  intro _ hw'
  obtain ⟨⟨dq, osq⟩, hw''⟩ := hw'
  subst hw''
  go_wp2
  go_ret
  exact ⟨rfl, below_regrown _ dq osq⟩
end Go.Proofs.YtbcgiodgobmkaaaGreatDoor
namespace Go.Proofs.YtbcgiodgobmkaaaGreatDoor
open Go.RowKit Go.Sort
set_option linter.unusedVariables false
set_option linter.unusedSimpArgs false
set_option maxRecDepth 4000

set_option maxHeartbeats 4000000 in
theorem degWith_any (g : Nat) (L : List Int) (k : Nat) (sv : Value) (xs : List Nat) (a : Option Addr) (m c : Nat) (ys : List Nat) (w : World) (h : CcAt w g L k sv xs (cnt xs)) (hr : RowAt w a m ys) (hx : xs.length ≤ 10) (hm : m ≤ 10) :
    Calls Tryz.prog 64 #[.pointer (some ⟨g, 0, none⟩), .slice a m c] w fun e w' => e = .returned (.int .i64 ((cnt (xorL xs ys) : Nat) : Int)) ∧ Below w.heap.size w w' := by
  obtain rfl := hr.1
  obtain ⟨sa, sc, rfl, hs⟩ := h.own.row
  have hcap := h.own.cap
  have hmin := min_run xs.length ys.length
  have hsl := uslice_hi sa xs.length sc (min xs.length ys.length) (by omega)
  obtain ⟨hd1, hd2⟩ := deg_with xs ys
  have hmx : min xs.length ys.length ≤ xs.length := Nat.min_le_left _ _
  have htk := List.length_take_le (min xs.length ys.length) xs
  have hrt := hs.take hmx
  generalize min xs.length ys.length = mn at *
  have k1 := cell_regrown h.at.2.1
  have Hh := hide h
  have HR := hide hr
  have hc1 := cnt_le xs
  have hc3 := cnt_le (xorL (xs.take mn) ys)
  have hzl := xorL_length (xs.take mn) ys
  have htl : (xs.take mn).length = mn := hrt.1
  have HXO := hide (fun wx (h1 : RowAt wx sa mn (xs.take mn)) (h2 : RowAt wx a ys.length ys) => xor_any sa mn sc (xs.take mn) a ys.length c ys wx h1 h2 (by omega) (by omega))
  generalize xorL (xs.take mn) ys = zs at *
  generalize xs.take mn = ts at *
  have hzl' : zs.length ≤ 10 := by omega
  have HT := hide hrt
  have HC2 := hide hd2
  generalize cnt (xorL xs ys) = R at *
  generalize ys.length = ym at *
  generalize xs.length = xm at *
  clear hd2 htk hzl htl
  clear h hr hs hrt
  go_enter Tryz.func64, Tryz.ntmps64
  go_wp2_with fail
  refine wp_region_quiet_below (by kernel_rfl) (by kernel_rfl) ?_
  repeat (with_reducible refine wpQuiet_step (fun K hK => ?_); go_simp; first | (with_reducible refine hK _ ?_; clear hK K))
  refine wpQuiet_nil ?_
  intro _ hw'
  obtain ⟨⟨dq, osq⟩, hw''⟩ := hw'
  subst hw''
  have hb := below_regrown w dq osq
  generalize grow (redrawn w dq) osq = W at *
  have hcc := (unhide Hh).below hb
  have htt := (unhide HT).below hb
  have hyy := (unhide HR).below hb
  have HB := hide hb
  have HCT := hide (fun wx (hbx : Below W.heap.size W wx) => count_any sa mn sc ts wx (htt.below hbx) (by omega))
  have HXP := hide (fun wx (hbx : Below W.heap.size W wx) => unhide HXO wx (htt.below hbx) (hyy.below hbx))
  have HQ := hide (fun wx (hbx : Below W.heap.size W wx) => (hcc.below hbx).at.2.2)
  have q0 := hcc.at.2.2
  clear hcc htt hyy hb Hh HT HR k1 hsl hmin
  go_wp2_with fail
  go_region_held3 (fun w' => w'.cell? ⟨g, 34, none⟩ = some (.int .i64 (cnt xs : Int))) (go_keep) (first
    | (go_at_call 65; refine (unhide HXP _ (by first | exact unhide D1 | exact (Below.refl _ _).drew)).mono ?_; rintro e w1 ⟨v1, rfl, ho1, hb1⟩; obtain ⟨a2, m2, c2, rfl, hr2, hm2⟩ : ∃ a m c, v1 = Value.slice a m c ∧ RowAt w1 a m zs ∧ m ≤ 10 := (by obtain ⟨a, c, e, hr⟩ := ho1.row; exact ⟨a, _, c, e, hr, hzl'⟩); have D3 := hide (show Below W.heap.size W w1 from below0 (by first | exact unhide D1 | exact (Below.refl _ _).drew) hb1); have HR2 := hide hr2; have q0 := unhide HQ w1 (unhide D3); clear ho1 hb1 hr2)
    | (go_at_call 52; refine (count_any a2 m2 c2 zs _ (unhide HR2) (by omega)).mono ?_; rintro e w1 ⟨rfl, hw1⟩; have D4 := hide (show Below W.heap.size W w1 from by rw [hw1]; first | exact unhide D1 | exact unhide D3); have q0 := unhide HQ w1 (unhide D4); clear hw1)
    | (go_at_call 52; refine (unhide HCT _ (by first | exact unhide D4 | exact unhide D3 | exact (Below.refl _ _).drew)).mono ?_; rintro e w1 ⟨rfl, hw1⟩; have D1 := hide (show Below W.heap.size W w1 from by rw [hw1]; first | exact unhide D4 | exact unhide D3 | exact (Below.refl _ _).drew); have q0 := unhide HQ w1 (unhide D1); clear hw1))
  have hwr : IntKind.i64.wrap (IntKind.i64.wrap (((cnt xs : Nat) : Int) - ((cnt ts : Nat) : Int)) + ((cnt zs : Nat) : Int)) = ((R : Nat) : Int) := by
    have h2 := unhide HC2
    rw [IntKind.wrap_i64, IntKind.wrap_i64]
    omega
  rw [hwr]
  have HD : Hid (Below W.heap.size W w1) := by first | exact D4 | exact D1
  go_wp2
  go_ret
  exact ⟨rfl, below0 (unhide HB) (unhide HD)⟩

set_option maxHeartbeats 4000000 in
theorem cadd_any (W : World) (L : List Int) (k : Nat) (sv : Value) (xs : List Nat) (d : Nat) (p : Nat) (a : Option Addr) (m c : Nat) (ys : List Nat) (w : World) (h : CcAt w W.heap.size L k sv xs d) (hb : Below W.heap.size W w) (hr : RowAt W a m ys) (hk : k < 32) (hx : xs.length ≤ 10) (hm : m ≤ 10) :
    Calls Tryz.prog 45 #[.pointer (some ⟨W.heap.size, 0, none⟩), .int .i64 (p : Int), .slice a m c] w fun e w' => e = .returned (.tuple #[]) ∧ (∃ u, CcAt w' W.heap.size (L.set k (p : Int)) (k + 1) u (xorL xs ys) (cnt (xorL xs ys))) ∧ Below W.heap.size W w' := by
  obtain rfl := hr.1
  have hk' : (k : Int) < 32 := by omega
  obtain ⟨sa, sc, rfl, _⟩ := h.own.row
  obtain ⟨q0, q1, q2⟩ := h.at
  have f0 := h.blk.frz k
  have qk := h.blk.at k (ccL_low h.len hk)
  have Hh := hide h
  have HB := hide hb
  have HR := hide hr
  clear h hr hb
  go_enter Tryz.func45, Tryz.ntmps45
  go_wp2_with fail
  go_region
  have h1 := ((unhide Hh).place hk (p : Int)).below (Below.refl _ _).drew
  have hb1 := ((unhide HB).setCell (p := ⟨W.heap.size, k, none⟩) (Nat.le_refl _) (.int .i64 (p : Int))).trans ((Below.refl _ _).drew)
  generalize (w.setCell ⟨W.heap.size, k, none⟩ (.int .i64 (p : Int))).drew = w1 at *
  clear q0 q1 q2 f0 qk Hh HB
  have f1 := h1.blk.frz 32
  obtain ⟨q0, q1, q2⟩ := h1.at
  obtain ⟨j, hj, hjk⟩ : ∃ j : Nat, (k : Int) + 1 = (j : Int) ∧ j = k + 1 := ⟨k + 1, by omega, rfl⟩
  have HJ := hide hjk
  have H2 := hide (h1.count j)
  have HB2 := hide (hb1.setCell (p := ⟨W.heap.size, 32, none⟩) (Nat.le_refl _) (.int .i64 (j : Int)))
  obtain ⟨_, r1, _⟩ := (h1.count j).at
  have hgl := (h1.count j).blk.lt
  have f3 := fun (wx : World) (hbx : Below (w1.setCell ⟨W.heap.size, 32, none⟩ (.int .i64 (j : Int))).heap.size (w1.setCell ⟨W.heap.size, 32, none⟩ (.int .i64 (j : Int))) wx) => ((h1.count j).below hbx).blk.frz 33
  clear h1 hb1 hjk
  generalize hw2 : w1.setCell ⟨W.heap.size, 32, none⟩ (.int .i64 (j : Int)) = w2 at *
  have HXO := hide (xor_any sa xs.length sc xs a ys.length c ys w2 (by obtain ⟨_, _, e, hrr⟩ := (unhide H2).own.row; simp only [Value.slice.injEq, true_and] at e; obtain ⟨rfl, rfl⟩ := e; exact hrr) ((unhide HR).below (unhide HB2)) (by omega) (by omega))
  have hzl : (xorL xs ys).length ≤ 10 := by rw [xorL_length]; omega
  have HFZ := hide f3
  clear f3
  go_wp2_with (first
    | (go_at_call 65; refine (unhide HXO).mono ?_; rintro e w3 ⟨v3, rfl, ho3, hb3⟩; obtain ⟨a3, m3, c3, rfl⟩ : ∃ a m c, v3 = Value.slice a m c := (by obtain ⟨a, c, e, _⟩ := ho3.row; exact ⟨a, _, c, e⟩); have h4 := ((unhide H2).below hb3).sum (ho3.mono (show W.heap.size + 1 ≤ _ from hgl)); have HB4 := hide (((unhide HB2).trans (hb3.mono (Nat.le_of_lt hgl))).setCell (p := ⟨W.heap.size, 33, none⟩) (Nat.le_refl _) (.slice a3 m3 c3)); have f3 := unhide HFZ w3 hb3; have s1 := ((unhide H2).below hb3).at.2.1; have s2 := h4.at.2.1; have s3 := h4.at.2.2; have f4 := h4.blk.frz 34; have H4 := hide h4; clear ho3 hb3 h4 HXO H2 HB2)
    | (go_at_call 52; refine (count_any a3 m3 c3 (xorL xs ys) _ (by obtain ⟨_, _, e, hrr⟩ := (unhide H4).own.row; simp only [Value.slice.injEq] at e; obtain ⟨rfl, rfl, rfl⟩ := e; exact hrr) (by have h5 := (unhide H4).own.row; obtain ⟨_, _, e, hrr⟩ := h5; simp only [Value.slice.injEq] at e; omega)).mono ?_; rintro e w5 ⟨rfl, hw5⟩; obtain rfl := hw5.symm; clear hw5))
  go_end0
  obtain rfl := unhide HJ
  exact ⟨rfl, ⟨_, (unhide H4).deg _⟩, (unhide HB4).setCell (p := ⟨W.heap.size, 34, none⟩) (Nat.le_refl _) _⟩
end Go.Proofs.YtbcgiodgobmkaaaGreatDoor
