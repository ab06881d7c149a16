/-
  Rows of words in memory: what a slice of uint64 that can be read holds ('RowAt'), and what a slice of the call's own holds ('Own'). No condition.
-/
import Derived.Test.YtakoaadimhpclaaGreatDoorRows
import Derived.Test.YtakoaadimhpclaaGreatDoorU0
import Derived.WalkKit
import Derived.WalkSpells
import Derived.WalkLawsBesides
import Derived.Laws.AppendOwnNone
namespace Go.Proofs.YtakoaadimhpclaaGreatDoor
open Go.RowKit

theorem hide {p : Prop} (h : p) : Hid p := h
theorem unhide {p : Prop} (h : Hid p) : p := h

/-- The cells of a row of words. -/
def cellsU (xs : List Nat) : List Value := xs.map fun (x : Nat) => Value.int .u64 (x : Int)
theorem cellsU_length (xs : List Nat) : (cellsU xs).length = xs.length := by simp [cellsU]
theorem cellsU_get (xs : List Nat) (i : Nat) (h : i < xs.length) : (cellsU xs)[i]? = some (.int .u64 ((xs.getD i 0 : Nat) : Int)) := by
  simp [cellsU, List.getElem?_eq_getElem h, List.getD_eq_getElem?_getD]
theorem cellsU_one (xs : List Nat) : ∀ u ∈ cellsU xs, u.oneCell' = true := by
  intro u hu
  obtain ⟨_, _, rfl⟩ := List.mem_map.1 hu
  rfl
theorem cellsU_set (xs : List Nat) (i x : Nat) : (cellsU xs).set i (.int .u64 (x : Int)) = cellsU (xs.set i x) := by
  simp [cellsU, List.map_set]

def small (x : Nat) : Prop := x < 18446744073709551616
def smalls (xs : List Nat) : Prop := ∀ x ∈ xs, small x
theorem smalls.get {xs : List Nat} (h : smalls xs) (i : Nat) : xs.getD i 0 < 18446744073709551616 := by
  rw [List.getD_eq_getElem?_getD]
  cases hx : xs[i]? with
  | none => simp
  | some x => exact h x (List.mem_of_getElem? hx)
theorem smalls.set {xs : List Nat} (h : smalls xs) (i x : Nat) (hx : x < 18446744073709551616) : smalls (xs.set i x) := by
  intro y hy
  rcases List.mem_or_eq_of_mem_set hy with h1 | rfl
  · exact h y h1
  · exact hx

/-- A slice of n words that can be read: they are xs. -/
def RowAt (w : World) (a : Option Addr) (n : Nat) (xs : List Nat) : Prop :=
  xs.length = n ∧ smalls xs ∧ (n = 0 ∨ ∃ b off, a = some ⟨b, off, none⟩ ∧ ∀ i, i < n → w.cell? ⟨b, off + i, none⟩ = some (.int .u64 ((xs.getD i 0 : Nat) : Int)))

theorem RowAt.at {w : World} {a : Option Addr} {n : Nat} {xs : List Nat} (h : RowAt w a n xs) {i : Nat} (hi : i < n) :
    ∃ b off, a = some ⟨b, off, none⟩ ∧ ∀ i, i < n → w.cell? ⟨b, off + i, none⟩ = some (.int .u64 ((xs.getD i 0 : Nat) : Int)) := by
  rcases h.2.2 with h0 | h0
  · omega
  · exact h0
theorem RowAt.below {w w' : World} {a : Option Addr} {n : Nat} {xs : List Nat} (h : RowAt w a n xs) (hb : Below w.heap.size w w') : RowAt w' a n xs := by
  refine ⟨h.1, h.2.1, ?_⟩
  rcases h.2.2 with h0 | ⟨b, off, rfl, hc⟩
  · exact .inl h0
  · exact .inr ⟨b, off, rfl, fun i hi => (hb.cell (World.block_lt_of_cell? w _ (hc i hi))).trans (hc i hi)⟩
theorem RowAt.news {w : World} {ad : Addr} {n : Nat} {xs : List Nat} (h : RowAt w (some ad) n xs) : ∀ j u, (cellsU xs)[j]? = some u → w.cell? (ad.add j) = some u := by
  intro j u hj
  have hlt : j < xs.length := by
    have := (List.getElem?_eq_some_iff.1 hj).1
    rwa [cellsU_length] at this
  obtain ⟨b, off, he, hc⟩ := h.at (i := j) (by rw [← h.1]; exact hlt)
  simp only [Option.some.injEq] at he
  subst he
  rw [cellsU_get xs j hlt] at hj
  have := hc j (by rw [← h.1]; exact hlt)
  by_cases h0 : j = 0
  · subst h0; simpa [Addr.add] using this.trans hj
  · simpa [Addr.add, h0] using this.trans hj

/-- A new row: the call's own, its words are xs. -/
def Own (w : World) (B : Nat) (v : Value) (xs : List Nat) : Prop := smalls xs ∧ w.ownsRow B 53 1 v xs.length (cellsU xs)
theorem Own.row {w : World} {B : Nat} {v : Value} {xs : List Nat} (h : Own w B v xs) : ∃ a c, v = .slice a xs.length c ∧ RowAt w a xs.length xs := by
  obtain ⟨hs, ho⟩ := h
  have ho' := ho
  rcases ho.2 with ⟨rfl, h0⟩ | ⟨g, cap, cur, rfl, hb, hg, hn, hm, hsz, ht⟩
  · exact ⟨none, 0, by rw [h0], rfl, hs, .inl h0⟩
  · refine ⟨_, cap, rfl, rfl, hs, .inr ⟨g, 0, rfl, fun i hi => ?_⟩⟩
    rw [Nat.zero_add, ho'.cellAt i (by omega), cellsU_get xs i hi]
theorem Own.cap {w : World} {B : Nat} {a : Option Addr} {n c : Nat} {xs : List Nat} (h : Own w B (.slice a n c) xs) : n ≤ c := by
  rcases h.2.2 with ⟨e, h0⟩ | ⟨g, cap, cur, e, hb, hg, hn, hm, hsz, ht⟩
  · simp only [Value.slice.injEq] at e
    omega
  · simp only [Value.slice.injEq] at e
    omega
theorem Own.nil (w : World) (B : Nat) : Own w B (.slice none 0 0) [] := ⟨(fun _ h => by cases h), World.ownsRow_nil _ _ _ _⟩
theorem Own.mono {w : World} {B B' : Nat} {v : Value} {xs : List Nat} (h : Own w B v xs) (hB : B' ≤ B) : Own w B' v xs := by
  refine ⟨h.1, h.2.1, ?_⟩
  rcases h.2.2 with h0 | ⟨g, cap, cur, h1, hb, r⟩
  · exact .inl h0
  · exact .inr ⟨g, cap, cur, h1, Nat.le_trans hB hb, r⟩
/-- What another call leaves of a row of one's own. -/
theorem Own.below {w w' : World} {B : Nat} {v : Value} {xs : List Nat} (h : Own w B v xs) (hb : Below w.heap.size w w') : Own w' B v xs := by
  refine ⟨h.1, h.2.1, ?_⟩
  rcases h.2.2 with h0 | ⟨g, cap, cur, h1, hg, hgg, r⟩
  · exact .inl h0
  · exact .inr ⟨g, cap, cur, h1, hg, (hb.block g (Array.getElem?_eq_some_iff.1 hgg).1).trans hgg, r⟩
/-- A row of one's own, not empty: where it lies. -/
theorem Own.at {w : World} {B : Nat} {v : Value} {xs : List Nat} (h : Own w B v xs) (hn : 0 < xs.length) :
    ∃ g cap, v = .slice (some ⟨g, 0, none⟩) xs.length cap ∧ B ≤ g ∧ g < w.heap.size ∧ (∀ i, i < xs.length → w.cell? ⟨g, i, none⟩ = some (.int .u64 ((xs.getD i 0 : Nat) : Int))) ∧ ∀ i, w.frozen? ⟨g, i, none⟩ = false := by
  obtain ⟨hs, ho⟩ := h
  have ho' := ho
  rcases ho.2 with ⟨rfl, h0⟩ | ⟨g, cap, cur, rfl, hb, hg, hn, hm, hsz, ht⟩
  · omega
  · refine ⟨g, cap, rfl, hb, (Array.getElem?_eq_some_iff.1 hg).1, fun i hi => ?_, fun i => ho'.frozenAt i⟩
    rw [ho'.cellAt i (by omega), cellsU_get xs i hi]
/-- A word of it is written. -/
theorem Own.stored {w : World} {B g cap : Nat} {xs : List Nat} (h : Own w B (.slice (some ⟨g, 0, none⟩) xs.length cap) xs) (i x : Nat) (hx : x < 18446744073709551616) :
    Own (w.setCell ⟨g, i, none⟩ (.int .u64 (x : Int))) B (.slice (some ⟨g, 0, none⟩) xs.length cap) (xs.set i x) := by
  obtain ⟨hs, ho⟩ := h
  refine ⟨hs.set i x hx, ?_⟩
  have := (ho.stored i (.int .u64 (x : Int))).1
  rw [cellsU_set] at this
  simpa using this

theorem info_u64 : (Tryz.prog.info? 53).map (fun i => (i.zero, i.size, i.bytes)) = some (some (.int .u64 0), 1, 8) := by kernel_rfl

theorem ret_int {k : IntKind} {a b : Int} (h : a = b) : Ending.returned (.int k a) = .returned (.int k b) := by rw [h]
theorem ret_bool {a b : Bool} (h : a = b) : Ending.returned (.bool a) = .returned (.bool b) := by rw [h]

theorem bcell {W w1 : World} (hb : Below W.heap.size W w1) : (∀ b o, b < W.heap.size → w1.cell? ⟨b, o, none⟩ = W.cell? ⟨b, o, none⟩) ∧ (∀ b o, b < W.heap.size → w1.frozen? ⟨b, o, none⟩ = W.frozen? ⟨b, o, none⟩) :=
  ⟨fun b o h => hb.cell (p := ⟨b, o, none⟩) h, fun b o h => hb.frozen (p := ⟨b, o, none⟩) h⟩
theorem row_alloc {w : World} {a : Option Addr} {n : Nat} {xs : List Nat} (h : RowAt w a n xs) (o : Obj) : RowAt (w.alloc o) a n xs := h.below ((Below.refl _ _).alloc (Nat.le_refl _) _)
theorem below0 {w wk w' : World} (hB : Below w.heap.size w wk) (hb : Below wk.heap.size wk w') : Below w.heap.size w w' := hB.trans (hb.mono hB.size)
theorem alloc_size (w : World) (o : Obj) : (w.alloc o).heap.size = w.heap.size + 1 := by simp
theorem alloc_low (w : World) (o : Obj) : Below w.heap.size w (w.alloc o) := (Below.refl _ _).alloc (Nat.le_refl _) _
end Go.Proofs.YtakoaadimhpclaaGreatDoor
