/-
  The reference's members as a list of cells ('rmC'), and what ties them to the program's ('Rm'). No condition.
-/
import Derived.Test.YtnjoieboaioeiaaMA
import Derived.Test.YtnjoieboaioeiaaBw
namespace Go.Proofs.Ytnjoieboaioeiaa
open Go.RowKit
set_option linter.unusedVariables false
set_option maxRecDepth 4000

def cellsBo (H : List Bool) : List Value := H.map fun b => Value.bool b
theorem cellsBo_length (H : List Bool) : (cellsBo H).length = H.length := by simp [cellsBo]
theorem cellsBo_get (H : List Bool) (i : Nat) (h : i < H.length) : (cellsBo H)[i]? = some (.bool (H.getD i false)) := by
  simp [cellsBo, List.getElem?_eq_getElem h, List.getD_eq_getElem?_getD]
theorem cellsBo_set (H : List Bool) (i : Nat) (x : Bool) : (cellsBo H).set i (.bool x) = cellsBo (H.set i x) := by
  simp [cellsBo, List.map_set]
/-- The cells of the reference's members. -/
def rmC (T : Int) (H : List Bool) (I N : List Int) : List Value := .int .i64 T :: (cellsBo H ++ (cellsZ I ++ cellsZ N))
structure Len8 (H : List Bool) (I N : List Int) : Prop where
  h : H.length = 8
  i : I.length = 8
  n : N.length = 8
theorem rmC_len {T : Int} {H : List Bool} {I N : List Int} (h : Len8 H I N) : (rmC T H I N).length = 25 := by
  unfold rmC
  rw [List.length_cons, List.length_append, List.length_append, cellsBo_length, cellsZ_length, cellsZ_length, h.h, h.i, h.n]
theorem rmC_h {T : Int} {H : List Bool} {I N : List Int} (h : Len8 H I N) {n : Nat} (hn : n < 8) : (rmC T H I N)[1 + n]? = some (.bool (H.getD n false)) := by
  unfold rmC
  rw [Nat.add_comm, List.getElem?_cons_succ, List.getElem?_append_left (by rw [cellsBo_length, h.h]; omega), cellsBo_get H n (by rw [h.h]; omega)]
theorem rmC_i {T : Int} {H : List Bool} {I N : List Int} (h : Len8 H I N) {n : Nat} (hn : n < 8) : (rmC T H I N)[9 + n]? = some (.int .i64 (I.getD n 0)) := by
  unfold rmC
  rw [show 9 + n = (8 + n) + 1 by omega, List.getElem?_cons_succ, List.getElem?_append_right (by rw [cellsBo_length, h.h]; omega), cellsBo_length, h.h, Nat.add_sub_cancel_left, List.getElem?_append_left (by rw [cellsZ_length, h.i]; omega), cellsZ_get I n (by rw [h.i]; omega)]
theorem rmC_n {T : Int} {H : List Bool} {I N : List Int} (h : Len8 H I N) {n : Nat} (hn : n < 8) : (rmC T H I N)[17 + n]? = some (.int .i64 (N.getD n 0)) := by
  unfold rmC
  rw [show 17 + n = (8 + (8 + n)) + 1 by omega, List.getElem?_cons_succ, List.getElem?_append_right (by rw [cellsBo_length, h.h]; omega), cellsBo_length, h.h, Nat.add_sub_cancel_left, List.getElem?_append_right (by rw [cellsZ_length, h.i]; omega), cellsZ_length, h.i, Nat.add_sub_cancel_left, cellsZ_get N n (by rw [h.n]; omega)]
theorem rmC_seth {T : Int} {H : List Bool} {I N : List Int} (h : Len8 H I N) {n : Nat} (hn : n < 8) (b : Bool) : (rmC T H I N).set (1 + n) (.bool b) = rmC T (H.set n b) I N := by
  unfold rmC
  rw [Nat.add_comm, List.set_cons_succ, List.set_append_left _ _ (by rw [cellsBo_length, h.h]; omega), cellsBo_set]
theorem rmC_seti {T : Int} {H : List Bool} {I N : List Int} (h : Len8 H I N) {n : Nat} (hn : n < 8) (x : Int) : (rmC T H I N).set (9 + n) (.int .i64 x) = rmC T H (I.set n x) N := by
  unfold rmC
  rw [show 9 + n = (8 + n) + 1 by omega, List.set_cons_succ, List.set_append_right _ _ (by rw [cellsBo_length, h.h]; omega), cellsBo_length, h.h, Nat.add_sub_cancel_left, List.set_append_left _ _ (by rw [cellsZ_length, h.i]; omega), cellsZ_set]
theorem rmC_setn {T : Int} {H : List Bool} {I N : List Int} (h : Len8 H I N) {n : Nat} (hn : n < 8) (x : Int) : (rmC T H I N).set (17 + n) (.int .i64 x) = rmC T H I (N.set n x) := by
  unfold rmC
  rw [show 17 + n = (8 + (8 + n)) + 1 by omega, List.set_cons_succ, List.set_append_right _ _ (by rw [cellsBo_length, h.h]; omega), cellsBo_length, h.h, Nat.add_sub_cancel_left, List.set_append_right _ _ (by rw [cellsZ_length, h.i]; omega), cellsZ_length, h.i, Nat.add_sub_cancel_left, cellsZ_set]
theorem rmC_one (T : Int) (H : List Bool) (I N : List Int) : ∀ u ∈ rmC T H I N, u.oneCell' = true := fun u hu => by
  unfold rmC at hu
  simp only [List.mem_cons, List.mem_append] at hu
  rcases hu with rfl | hu | hu | hu
  · rfl
  · obtain ⟨_, _, rfl⟩ := List.mem_map.1 hu; rfl
  · obtain ⟨_, _, rfl⟩ := List.mem_map.1 hu; rfl
  · obtain ⟨_, _, rfl⟩ := List.mem_map.1 hu; rfl
/-- What both have noted is the same. -/
structure Rm (Z : List Int) (H : List Bool) (I N : List Int) : Prop where
  len : Len8 H I N
  inv : InvM Z
  hd : ∀ n : Nat, n < 8 → H.getD n false = hdB (memO Z (n : Int))
  at' : ∀ n : Nat, n < 8 → hdB (memO Z (n : Int)) = true → I.getD n 0 = (memO Z (n : Int)).1 ∧ N.getD n 0 = (memO Z (n : Int)).2 - 1
theorem Len8.set {H : List Bool} {I N : List Int} (h : Len8 H I N) (n : Nat) (b : Bool) (i t : Int) : Len8 (H.set n b) (I.set n i) (N.set n t) := ⟨by rw [List.length_set]; exact h.h, by rw [List.length_set]; exact h.i, by rw [List.length_set]; exact h.n⟩
theorem setBo {Z : List Bool} {i j : Nat} {x : Bool} (hi : i < Z.length) : (Z.set i x).getD j false = if i = j then x else Z.getD j false := by
  rw [List.getD_eq_getElem?_getD, List.getElem?_set]
  by_cases e : i = j
  · subst e; simp [hi]
  · simp [e, List.getD_eq_getElem?_getD]
theorem hd_new {i t : Int} (ht : 0 ≤ t) : hdB (i, t + 1) = true := by
  have : ¬ (t + 1 = 0) := by omega
  simp [hdB, this]
theorem Rm.hear {Z : List Int} {H : List Bool} {I N : List Int} (h : Rm Z H I N) {n : Nat} {i t : Int} (hn : n < 8) (hb : hearB Z (n : Int) i t = true) : Rm (hearZ Z (n : Int) i t) (H.set n true) (I.set n i) (N.set n t) := by
  have ht := timeB_iff.1 (hearB_node hb).2.1
  have hm : ∀ m : Nat, m < 8 → memO (hearZ Z (n : Int) i t) (m : Int) = if n = m then (i, t + 1) else memO Z (m : Int) := fun m hm => by
    rw [hearZ_yes hb, memO_set h.inv.1 hn hm]
  refine ⟨h.len.set _ _ _ _, h.inv.hear _ _ _, fun m hm' => ?_, fun m hm' hd => ?_⟩
  · rw [hm m hm', setBo (by rw [h.len.h]; omega)]
    by_cases e : n = m
    · rw [if_pos e, if_pos e, hd_new ht.1]
    · rw [if_neg e, if_neg e, h.hd m hm']
  · rw [hm m hm'] at hd ⊢
    rw [setZ (by rw [h.len.i]; omega), setZ (by rw [h.len.n]; omega)]
    by_cases e : n = m
    · rw [if_pos e, if_pos e, if_pos e]
      exact ⟨rfl, by show t = t + 1 - 1; omega⟩
    · rw [if_neg e] at hd
      rw [if_neg e, if_neg e, if_neg e]
      exact h.at' m hm' hd
theorem Rm.zero : Rm (List.replicate 16 0) (List.replicate 8 false) (List.replicate 8 0) (List.replicate 8 0) := by
  have h0 : ∀ n : Nat, n < 8 → memO (List.replicate 16 0) (n : Int) = (0, 0) := fun n hn => by
    have : ∀ j, (List.replicate 16 (0 : Int)).getD j 0 = 0 := fun j => by
      rw [List.getD_eq_getElem?_getD, List.getElem?_replicate]; split <;> rfl
    rw [memO_in _ hn, this, this]
  refine ⟨⟨rfl, rfl, rfl⟩, InvM.zero, fun n hn => ?_, fun n hn hd => ?_⟩
  · rw [h0 n hn, List.getD_eq_getElem?_getD, List.getElem?_replicate]
    split <;> rfl
  · rw [h0 n hn] at hd
    cases hd
/-- The reference's answers. -/
theorem Rm.hearB {Z : List Int} {H : List Bool} {I N : List Int} (h : Rm Z H I N) {n : Nat} {i t : Int} (hn : n < 8) (ht : timeB t = true) (hi : 0 ≤ i) : hearB Z (n : Int) i t = !(H.getD n false && decide (i < I.getD n 0)) := by
  unfold Go.Proofs.Ytnjoieboaioeiaa.hearB
  rw [node_of hn, ht, h.hd n hn]
  cases hd : hdB (memO Z (n : Int))
  · have h1 := h.inv.mem (n : Int)
    rw [h1.hd] at hd
    have h2 : (memO Z (n : Int)).2 = 0 := by have := h1.2.1; have := of_decide_eq_false hd; omega
    have h3 := h1.2.2.2 h2
    simp [h3, hi]
  · rw [(h.at' n hn hd).1]
    by_cases e : (memO Z (n : Int)).1 ≤ i
    · have : ¬ i < (memO Z (n : Int)).1 := by omega
      simp [e]
    · have : i < (memO Z (n : Int)).1 := by omega
      simp [e, this]
theorem Rm.alive {Z : List Int} {H : List Bool} {I N : List Int} (h : Rm Z H I N) {n : Nat} (T t : Int) (hn : n < 8) (ht : timeB t = true) : aliveB T Z (n : Int) t = (H.getD n false && (decide (N.getD n 0 ≤ t) && decide (t - N.getD n 0 ≤ T))) := by
  unfold aliveB aliveP
  rw [ht, h.hd n hn]
  cases hd : hdB (memO Z (n : Int))
  · rfl
  · rw [(h.at' n hn hd).2]
    simp only [Bool.true_and]
    congr 1
    apply decide_eq_decide.2
    omega
theorem Rm.inc {Z : List Int} {H : List Bool} {I N : List Int} (h : Rm Z H I N) {n : Nat} (hn : n < 8) : incO Z (n : Int) = if H.getD n false = true then I.getD n 0 else -1 := by
  unfold incO incP
  rw [h.hd n hn]
  cases hd : hdB (memO Z (n : Int))
  · rfl
  · rw [if_pos rfl, if_pos rfl, (h.at' n hn hd).1]
theorem inc_out {Z : List Int} {x : Int} (hx : nodeB x = false) : incO Z x = -1 := by unfold incO; rw [memO_out Z hx]; rfl
theorem alive_out {T : Int} {Z : List Int} {x t : Int} (hx : nodeB x = false) : aliveB T Z x t = false := by unfold aliveB; rw [memO_out Z hx]; rfl
theorem alive_time {T : Int} {Z : List Int} {x t : Int} (ht : timeB t = false) : aliveB T Z x t = false := by unfold aliveB aliveP; rw [ht, Bool.and_false]; rfl
theorem hear_out {Z : List Int} {x i t : Int} (hx : nodeB x = false) : Go.Proofs.Ytnjoieboaioeiaa.hearB Z x i t = false := by unfold Go.Proofs.Ytnjoieboaioeiaa.hearB; rw [hx]; rfl
theorem hear_time {Z : List Int} {x i t : Int} (ht : timeB t = false) : Go.Proofs.Ytnjoieboaioeiaa.hearB Z x i t = false := by unfold Go.Proofs.Ytnjoieboaioeiaa.hearB; rw [ht, Bool.and_false]; rfl
theorem hear_neg {Z : List Int} (h : InvM Z) {x i t : Int} (hi : i < 0) : Go.Proofs.Ytnjoieboaioeiaa.hearB Z x i t = false := by
  unfold Go.Proofs.Ytnjoieboaioeiaa.hearB
  have := (h.mem x).1
  rw [decide_eq_false (show ¬ (memO Z x).1 ≤ i by omega), Bool.and_false]
/-- What the reference has noted of a node, as it is read. -/
theorem Rm.bound {Z : List Int} {H : List Bool} {I N : List Int} (h : Rm Z H I N) {n : Nat} (hn : n < 8) (hd : H.getD n false = true) : 0 ≤ N.getD n 0 ∧ N.getD n 0 ≤ 1099511627776 := by
  rw [h.hd n hn] at hd
  rw [(h.at' n hn hd).2]
  have h1 := h.inv.mem (n : Int)
  rw [h1.hd] at hd
  have := of_decide_eq_true hd
  have := h1.2.2.1
  omega
end Go.Proofs.Ytnjoieboaioeiaa
