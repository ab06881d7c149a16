/-
  Contracts of packet.within, shaped, bounded, rowed, Check, of bucketlineref07.sizes, Check, and of bucketlinelaw07.few: for every packet.
  Blocks that hold packets, none of them frozen (PkB); all of one written (set7). No condition.
-/
import Derived.Test.YtakoaadimhpclaaGreatDoorU10
import Derived.Test.YtakoaadimhpclaaGreatDoorU12
import Derived.Laws.Rows
namespace Go.Proofs.YtakoaadimhpclaaGreatDoor
open Go.RowKit
set_option linter.unusedVariables false
set_option linter.unusedSimpArgs false
set_option maxRecDepth 4000

/-- A block that holds a packet. -/
def PkAt (w : World) (g : Nat) (v0 v1 v2 v3 v4 v5 v6 : Value) : Prop :=
  w.cell? ⟨g, 0, none⟩ = some v0 ∧ w.cell? ⟨g, 1, none⟩ = some v1 ∧ w.cell? ⟨g, 2, none⟩ = some v2 ∧ w.cell? ⟨g, 3, none⟩ = some v3 ∧ w.cell? ⟨g, 4, none⟩ = some v4 ∧ w.cell? ⟨g, 5, none⟩ = some v5 ∧ w.cell? ⟨g, 6, none⟩ = some v6
theorem PkAt.below {w w' : World} {g : Nat} {v0 v1 v2 v3 v4 v5 v6 : Value} (h : PkAt w g v0 v1 v2 v3 v4 v5 v6) (hb : Below w.heap.size w w') : PkAt w' g v0 v1 v2 v3 v4 v5 v6 := by
  obtain ⟨h0, h1, h2, h3, h4, h5, h6⟩ := h
  have e : ∀ o, w'.cell? ⟨g, o, none⟩ = w.cell? ⟨g, o, none⟩ := fun o => hb.cell (show g < w.heap.size from World.block_lt_of_cell? w ⟨g, 0, none⟩ h0)
  exact ⟨(e _).trans h0, (e _).trans h1, (e _).trans h2, (e _).trans h3, (e _).trans h4, (e _).trans h5, (e _).trans h6⟩
theorem PkAt.alloc {w : World} {g : Nat} {v0 v1 v2 v3 v4 v5 v6 : Value} (h : PkAt w g v0 v1 v2 v3 v4 v5 v6) (o : Obj) : PkAt (w.alloc o) g v0 v1 v2 v3 v4 v5 v6 := h.below ((Below.refl _ _).alloc (Nat.le_refl _) _)
theorem below_new (w : World) (o : Obj) : Below w.heap.size w (w.alloc o) := (Below.refl _ _).alloc (Nat.le_refl _) _

end Go.Proofs.YtakoaadimhpclaaGreatDoor
namespace Go.Proofs.YtakoaadimhpclaaGreatDoor
open Go.RowKit Go.Sort
set_option linter.unusedVariables false
set_option linter.unusedSimpArgs false
set_option maxRecDepth 4000

/-- A block that holds a packet, none of it frozen. -/
def PkB (w : World) (g : Nat) (v0 v1 v2 v3 v4 v5 v6 : Value) : Prop := w.heap[g]? = some (.cells #[v0, v1, v2, v3, v4, v5, v6] 32 (0, 0))
theorem pkb_new (w : World) (v0 v1 v2 v3 v4 v5 v6 : Value) : PkB (w.alloc (.cells #[v0, v1, v2, v3, v4, v5, v6] 32)) w.heap.size v0 v1 v2 v3 v4 v5 v6 := by
  show (w.heap.push _)[w.heap.size]? = _
  simp
theorem PkB.lt {w : World} {g : Nat} {v0 v1 v2 v3 v4 v5 v6 : Value} (h : PkB w g v0 v1 v2 v3 v4 v5 v6) : g < w.heap.size := (Array.getElem?_eq_some_iff.1 h).1
theorem PkB.below {w w' : World} {g : Nat} {v0 v1 v2 v3 v4 v5 v6 : Value} (h : PkB w g v0 v1 v2 v3 v4 v5 v6) (hb : Below w.heap.size w w') : PkB w' g v0 v1 v2 v3 v4 v5 v6 := (hb.block g h.lt).trans h
theorem PkB.at {w : World} {g : Nat} {v0 v1 v2 v3 v4 v5 v6 : Value} (h : PkB w g v0 v1 v2 v3 v4 v5 v6) : PkAt w g v0 v1 v2 v3 v4 v5 v6 := by
  unfold PkB at h
  refine ⟨?_, ?_, ?_, ?_, ?_, ?_, ?_⟩ <;> rw [cell_of_row w g _ _ _ _ h] <;> rfl
theorem PkB.frz {w : World} {g : Nat} {v0 v1 v2 v3 v4 v5 v6 : Value} (h : PkB w g v0 v1 v2 v3 v4 v5 v6) (i : Nat) : w.frozen? ⟨g, i, none⟩ = false := by
  unfold PkB at h
  simp [World.frozen?, h]
theorem PkB.other {w : World} {g : Nat} {v0 v1 v2 v3 v4 v5 v6 : Value} (h : PkB w g v0 v1 v2 v3 v4 v5 v6) {a : Addr} (ha : g ≠ a.block) (u : Value) : PkB (w.setCell a u) g v0 v1 v2 v3 v4 v5 v6 :=
  (Below.heap_setCell w a u g ha).trans h
theorem PkB.set0 {w : World} {g : Nat} {v0 v1 v2 v3 v4 v5 v6 : Value} (h : PkB w g v0 v1 v2 v3 v4 v5 v6) (u : Value) : PkB (w.setCell ⟨g, 0, none⟩ u) g u v1 v2 v3 v4 v5 v6 := heap_setCell_same w g 0 _ _ u h
theorem PkB.set1 {w : World} {g : Nat} {v0 v1 v2 v3 v4 v5 v6 : Value} (h : PkB w g v0 v1 v2 v3 v4 v5 v6) (u : Value) : PkB (w.setCell ⟨g, 1, none⟩ u) g v0 u v2 v3 v4 v5 v6 := heap_setCell_same w g 1 _ _ u h
theorem PkB.set2 {w : World} {g : Nat} {v0 v1 v2 v3 v4 v5 v6 : Value} (h : PkB w g v0 v1 v2 v3 v4 v5 v6) (u : Value) : PkB (w.setCell ⟨g, 2, none⟩ u) g v0 v1 u v3 v4 v5 v6 := heap_setCell_same w g 2 _ _ u h
theorem PkB.set3 {w : World} {g : Nat} {v0 v1 v2 v3 v4 v5 v6 : Value} (h : PkB w g v0 v1 v2 v3 v4 v5 v6) (u : Value) : PkB (w.setCell ⟨g, 3, none⟩ u) g v0 v1 v2 u v4 v5 v6 := heap_setCell_same w g 3 _ _ u h
theorem PkB.set4 {w : World} {g : Nat} {v0 v1 v2 v3 v4 v5 v6 : Value} (h : PkB w g v0 v1 v2 v3 v4 v5 v6) (u : Value) : PkB (w.setCell ⟨g, 4, none⟩ u) g v0 v1 v2 v3 u v5 v6 := heap_setCell_same w g 4 _ _ u h
theorem PkB.set5 {w : World} {g : Nat} {v0 v1 v2 v3 v4 v5 v6 : Value} (h : PkB w g v0 v1 v2 v3 v4 v5 v6) (u : Value) : PkB (w.setCell ⟨g, 5, none⟩ u) g v0 v1 v2 v3 v4 u v6 := heap_setCell_same w g 5 _ _ u h
theorem PkB.set6 {w : World} {g : Nat} {v0 v1 v2 v3 v4 v5 v6 : Value} (h : PkB w g v0 v1 v2 v3 v4 v5 v6) (u : Value) : PkB (w.setCell ⟨g, 6, none⟩ u) g v0 v1 v2 v3 v4 v5 u := heap_setCell_same w g 6 _ _ u h
/-- All cells of a packet's block are written. -/
def set7 (w : World) (g : Nat) (u0 u1 u2 u3 u4 u5 u6 : Value) : World := ((((((w.setCell ⟨g, 0, none⟩ u0).setCell ⟨g, 1, none⟩ u1).setCell ⟨g, 2, none⟩ u2).setCell ⟨g, 3, none⟩ u3).setCell ⟨g, 4, none⟩ u4).setCell ⟨g, 5, none⟩ u5).setCell ⟨g, 6, none⟩ u6
theorem PkB.sets {w : World} {g : Nat} {v0 v1 v2 v3 v4 v5 v6 : Value} (h : PkB w g v0 v1 v2 v3 v4 v5 v6) (u0 u1 u2 u3 u4 u5 u6 : Value) : PkB (set7 w g u0 u1 u2 u3 u4 u5 u6) g u0 u1 u2 u3 u4 u5 u6 :=
  ((((((h.set0 u0).set1 u1).set2 u2).set3 u3).set4 u4).set5 u5).set6 u6
theorem below7 {B : Nat} {a w : World} (h : Below B a w) {g : Nat} (hg : B ≤ g) (u0 u1 u2 u3 u4 u5 u6 : Value) : Below B a (set7 w g u0 u1 u2 u3 u4 u5 u6) :=
  ((((((h.setCell hg u0).setCell hg u1).setCell hg u2).setCell hg u3).setCell hg u4).setCell hg u5).setCell hg u6
theorem Own.apart {w : World} {B : Nat} {a : Option Addr} {n c : Nat} {xs : List Nat} (h : Own w B (.slice a n c) xs) : ∀ ad, a = some ad → n ≠ 0 → B ≤ ad.block := by
  intro ad ha hn
  obtain ⟨a', c', he, hr⟩ := h.row
  simp only [Value.slice.injEq] at he
  obtain ⟨rfl, rfl, rfl⟩ := he
  obtain ⟨g, cap, hv, hB, _⟩ := h.at (by omega)
  simp only [Value.slice.injEq] at hv
  rw [ha] at hv
  obtain rfl := Option.some.inj hv.1
  exact hB
theorem RowAt.other {w : World} {a : Option Addr} {n : Nat} {xs : List Nat} (h : RowAt w a n xs) {B : Nat} (hB : ∀ ad, a = some ad → n ≠ 0 → ad.block ≠ B) (i : Nat) (u : Value) : RowAt (w.setCell ⟨B, i, none⟩ u) a n xs := by
  refine ⟨h.1, h.2.1, ?_⟩
  rcases h.2.2 with h0 | ⟨b, off, rfl, hc⟩
  · exact .inl h0
  · by_cases hn : n = 0
    · exact .inl hn
    · exact .inr ⟨b, off, rfl, fun j hj => (World.cell?_setCell_other (h := fun e => hB _ rfl hn (congrArg Addr.block e).symm) ..).trans (hc j hj)⟩
theorem RowAt.other7 {w : World} {a : Option Addr} {n : Nat} {xs : List Nat} (h : RowAt w a n xs) {B : Nat} (hB : ∀ ad, a = some ad → n ≠ 0 → ad.block ≠ B) (u0 u1 u2 u3 u4 u5 u6 : Value) : RowAt (set7 w B u0 u1 u2 u3 u4 u5 u6) a n xs :=
  ((((((h.other hB 0 u0).other hB 1 u1).other hB 2 u2).other hB 3 u3).other hB 4 u4).other hB 5 u5).other hB 6 u6
end Go.Proofs.YtakoaadimhpclaaGreatDoor
