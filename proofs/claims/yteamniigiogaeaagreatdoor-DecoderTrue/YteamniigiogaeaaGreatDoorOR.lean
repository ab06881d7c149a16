/-
  Packets that are true of an object's blocks: what a decoder tells of them is that object. No condition.
-/
import Derived.Test.YteamniigiogaeaaGreatDoorOL
import Derived.Test.YteamniigiogaeaaGreatDoorM19
namespace Go.Proofs.YteamniigiogaeaaGreatDoor
open Go.RowKit Go.Sort
set_option linter.unusedVariables false
set_option maxRecDepth 4000

/-- An object's blocks. -/
def blkS (t : ByteArray) (Z : Nat) : List ByteArray := blocksL (tx t) Z (kc t.size Z)
theorem blkS_len (t : ByteArray) (Z : Nat) : (blkS t Z).length = kc t.size Z := blocksL_length _ _ _
theorem blkS_get (t : ByteArray) (Z : Nat) : ∀ b, b < (blkS t Z).length → ((blkS t Z).getD b ByteArray.empty).size = Z := fun b hb => by
  rw [blkS_len] at hb
  unfold blkS
  rw [blocks_get _ _ _ _ hb, st_len, blk_length]
theorem blkS_join (t : ByteArray) (Z : Nat) (hz : 1 ≤ Z) : st ((joinL (blkS t Z)).take t.size) = t := by
  have hke := kc_enough t.size Z hz
  have hk1 := kc_pos t.size Z
  have h1 := join_back (tx_bytes t) Z (kc t.size Z) hk1 (by rw [tx_length]; exact hke) (by
    rw [tx_length]
    by_cases e : kc t.size Z = 1
    · exact .inl e
    · exact .inr ((kc_great t.size Z (kc t.size Z - 1) hz (by omega)).1 (by omega)))
  rw [tx_length] at h1
  unfold blkS
  rw [h1, st_tx]
/-- A packet that is true of the object t in blocks of Z bytes. -/
structure TruP (t : ByteArray) (Z : Nat) (p : PKV) : Prop where
  ok : okB p = true
  l : p.l = (t.size : Int)
  k : p.k = (kc t.size Z : Int)
  z : p.z = (Z : Int)
  h : holdsB (blkS t Z) p.r.xs p.r.s = true
/-- A decoder of such packets. -/
structure TrS (t : ByteArray) (Z : Nat) (s : DS) : Prop where
  same : s.bg = true → s.l = (t.size : Int) ∧ s.k = (kc t.size Z : Int) ∧ s.z = (Z : Int)
  hold : ∀ x ∈ s.L, holdsB (blkS t Z) x.1 x.2 = true ∧ smalls x.1 ∧ x.2.size ≤ 1000 ∧ x.1.length ≤ 10
  told : s.dn = true → s.ob = t
theorem TrS.zero (t : ByteArray) (Z : Nat) : TrS t Z zDS := ⟨(fun e => by cases e), (fun x hx => by cases hx), fun e => by cases e⟩
theorem TrS.beg {t : ByteArray} {Z : Nat} {s : DS} {p : PKV} (h : TrS t Z s) (hp : TruP t Z p) : TrS t Z (begS s p) := by
  unfold begS
  split
  · exact h
  · exact ⟨fun _ => ⟨hp.l, hp.k, hp.z⟩, (fun x hx => by cases hx), fun e => by cases e⟩
theorem TrS.keep {t : ByteArray} {Z : Nat} {M : Int} {s : DS} {x : List Nat × ByteArray} {ob : ByteArray} (h : TrS t Z s) (hi : DInv s) (hz : 1 ≤ Z) (hf : fitB s.k s.z x = true) (hx : holdsB (blkS t Z) x.1 x.2 = true ∧ smalls x.1 ∧ x.2.size ≤ 1000 ∧ x.1.length ≤ 10) (hT : TellsP M s x ob) : TrS t Z (keepS M s x ob) := by
  have hhold : ∀ y ∈ s.L ++ [x], holdsB (blkS t Z) y.1 y.2 = true ∧ smalls y.1 ∧ y.2.size ≤ 1000 ∧ y.1.length ≤ 10 := fun y hy => by
    rcases List.mem_append.1 hy with hy | hy
    · exact h.hold y hy
    · rw [List.mem_singleton.1 hy]; exact hx
  have hfit : ∀ y ∈ s.L ++ [x], fitB s.k s.z y = true := fun y hy => by
    rcases List.mem_append.1 hy with hy | hy
    · exact hi.fit y hy
    · rw [List.mem_singleton.1 hy]; exact hf
  cases hd : s.dn
  · by_cases hl : s.L.length < capN M
    · by_cases hr : (rankC (s.L ++ [x]) : Int) = s.k
      · have ho := hT (keepS_new (ob := ob) hd hl hr).2.2
        obtain ⟨e1, e2, e3⟩ := h.same hi.bg
        rw [(keepS_new hd hl hr).1]
        refine ⟨h.same, hhold, fun _ => ?_⟩
        show ob = t
        have hkk : s.k = ((blkS t Z).length : Int) := by rw [blkS_len]; exact e2
        rw [hkk, e1] at ho
        have hlen : (s.L ++ [x]).length ≤ 300 := by
          rw [List.length_append, List.length_singleton]
          have := capN_le M
          exact Nat.le_trans (Nat.succ_le_of_lt hl) (Nat.le_trans this (by decide))
        have hvv : ∀ y ∈ s.L ++ [x], validB ((blkS t Z).length : Int) y.1 = true ∧ y.2.size = Z := fun y hy => by
          have := hfit y hy
          unfold fitB at this
          rw [Bool.and_eq_true, Bool.and_eq_true] at this
          have h2 := decide_eq_true_iff.1 this.2
          rw [e3] at h2
          exact ⟨by rw [← hkk]; exact this.1.1, Int.ofNat.inj h2⟩
        have hrr : rankC (s.L ++ [x]) = (blkS t Z).length := by
          rw [hkk] at hr
          exact Int.ofNat.inj hr
        have hsz : 0 < sizeOfK ((blkS t Z).length : Int) := (valid_size (hvv x (List.mem_append.2 (.inr List.mem_cons_self))).1).1
        have := obj_true (m := Z) ho hsz (fun y hy => (hhold y hy).2) hlen (fun y hy => (hvv y hy).1) (fun y hy => (hhold y hy).1) (fun y hy => (hvv y hy).2) (blkS_get t Z) hrr
        rw [Int.toNat_natCast, blkS_join t Z hz] at this
        exact this
      · rw [(keepS_in hd hl hr).1]
        exact ⟨h.same, hhold, fun e => by have e' : s.dn = true := e; rw [hd] at e'; cases e'⟩
    · rw [(keepS_full hd hl).1]
      exact ⟨h.same, h.hold, h.told⟩
  · rw [(keepS_dn hd).1]; exact h
theorem TrS.put {t : ByteArray} {Z : Nat} {M : Int} {s : DS} {p : PKV} {ob : ByteArray} (h : TrS t Z s) (hi : s.bg = true → DInv s) (hz : 1 ≤ Z) (hp : TruP t Z p) (hx : smalls p.r.xs ∧ p.r.s.size ≤ 1000 ∧ p.r.xs.length ≤ 10) (hT : admB s p = true → TellsP M (begS s p) (p.r.xs, p.r.s) ob) : TrS t Z (dput M s p ob) := by
  cases ha : admB s p
  · rw [(dput_no ha).1]; exact h
  · rw [(dput_yes ha).1]
    exact (h.beg hp).keep (DInv.beg hi hp.ok) hz (adm_fit ha).2.1 ⟨hp.h, hx⟩ (hT ha)
end Go.Proofs.YteamniigiogaeaaGreatDoor
