/-
  Rows of words in memory: what a slice of uint64 that can be read holds ('RowAt'), and what a slice of the call's own holds ('Own'). No condition.
  Texts as lists of bytes; slices of bytes of the call's own ('OwnB'); '[]byte(s)', 'string(b)' and 'copy(b, s)' on them. No condition.
-/
import Derived.Test.YtnjdldbdkafnaaaDoorRows
import Derived.Test.YtnjdldbdkafnaaaDoorBits
import Derived.WalkKit
import Derived.WalkSpells
import Derived.WalkLawsBesides
import Derived.Laws.AppendOwnNone
import Derived.Laws.IdiomStrings
import Derived.Laws.CopyRow
import Derived.Laws.MakeOwn
namespace Go.Proofs.YtnjdldbdkafnaaaDoor
open Go.RowKit

theorem hide {p : Prop} (h : p) : Hid p := h
theorem unhide {p : Prop} (h : Hid p) : p := h

/-- The cells of a row of words. -/
def cellsU (xs : List Nat) : List Value := xs.map fun (x : Nat) => Value.int .u64 (x : Int)
theorem cellsU_length (xs : List Nat) : (cellsU xs).length = xs.length := by simp [cellsU]
theorem cellsU_get (xs : List Nat) (i : Nat) (h : i < xs.length) : (cellsU xs)[i]? = some (.int .u64 ((xs.getD i 0 : Nat) : Int)) := by
  simp [cellsU, List.getElem?_eq_getElem h, List.getD_eq_getElem?_getD]
theorem cellsU_one (xs : List Nat) : ∀ u ∈ cellsU xs, u.oneCell' = true := by
  intro u hu
  obtain ⟨_, _, rfl⟩ := List.mem_map.1 hu
  rfl
theorem cellsU_set (xs : List Nat) (i x : Nat) : (cellsU xs).set i (.int .u64 (x : Int)) = cellsU (xs.set i x) := by
  simp [cellsU, List.map_set]

def small (x : Nat) : Prop := x < 18446744073709551616
def smalls (xs : List Nat) : Prop := ∀ x ∈ xs, small x
theorem smalls.get {xs : List Nat} (h : smalls xs) (i : Nat) : xs.getD i 0 < 18446744073709551616 := by
  rw [List.getD_eq_getElem?_getD]
  cases hx : xs[i]? with
  | none => simp
  | some x => exact h x (List.mem_of_getElem? hx)
theorem smalls.set {xs : List Nat} (h : smalls xs) (i x : Nat) (hx : x < 18446744073709551616) : smalls (xs.set i x) := by
  intro y hy
  rcases List.mem_or_eq_of_mem_set hy with h1 | rfl
  · exact h y h1
  · exact hx

/-- A slice of n words that can be read: they are xs. -/
def RowAt (w : World) (a : Option Addr) (n : Nat) (xs : List Nat) : Prop :=
  xs.length = n ∧ smalls xs ∧ (n = 0 ∨ ∃ b off, a = some ⟨b, off, none⟩ ∧ ∀ i, i < n → w.cell? ⟨b, off + i, none⟩ = some (.int .u64 ((xs.getD i 0 : Nat) : Int)))

theorem RowAt.at {w : World} {a : Option Addr} {n : Nat} {xs : List Nat} (h : RowAt w a n xs) {i : Nat} (hi : i < n) :
    ∃ b off, a = some ⟨b, off, none⟩ ∧ ∀ i, i < n → w.cell? ⟨b, off + i, none⟩ = some (.int .u64 ((xs.getD i 0 : Nat) : Int)) := by
  rcases h.2.2 with h0 | h0
  · omega
  · exact h0
theorem RowAt.below {w w' : World} {a : Option Addr} {n : Nat} {xs : List Nat} (h : RowAt w a n xs) (hb : Below w.heap.size w w') : RowAt w' a n xs := by
  refine ⟨h.1, h.2.1, ?_⟩
  rcases h.2.2 with h0 | ⟨b, off, rfl, hc⟩
  · exact .inl h0
  · exact .inr ⟨b, off, rfl, fun i hi => (hb.cell (World.block_lt_of_cell? w _ (hc i hi))).trans (hc i hi)⟩
theorem RowAt.news {w : World} {ad : Addr} {n : Nat} {xs : List Nat} (h : RowAt w (some ad) n xs) : ∀ j u, (cellsU xs)[j]? = some u → w.cell? (ad.add j) = some u := by
  intro j u hj
  have hlt : j < xs.length := by
    have := (List.getElem?_eq_some_iff.1 hj).1
    rwa [cellsU_length] at this
  obtain ⟨b, off, he, hc⟩ := h.at (i := j) (by rw [← h.1]; exact hlt)
  simp only [Option.some.injEq] at he
  subst he
  rw [cellsU_get xs j hlt] at hj
  have := hc j (by rw [← h.1]; exact hlt)
  by_cases h0 : j = 0
  · subst h0; simpa [Addr.add] using this.trans hj
  · simpa [Addr.add, h0] using this.trans hj

/-- A new row: the call's own, its words are xs. -/
def Own (w : World) (B : Nat) (v : Value) (xs : List Nat) : Prop := smalls xs ∧ w.ownsRow B 38 1 v xs.length (cellsU xs)
theorem Own.row {w : World} {B : Nat} {v : Value} {xs : List Nat} (h : Own w B v xs) : ∃ a c, v = .slice a xs.length c ∧ RowAt w a xs.length xs := by
  obtain ⟨hs, ho⟩ := h
  have ho' := ho
  rcases ho.2 with ⟨rfl, h0⟩ | ⟨g, cap, cur, rfl, hb, hg, hn, hm, hsz, ht⟩
  · exact ⟨none, 0, by rw [h0], rfl, hs, .inl h0⟩
  · refine ⟨_, cap, rfl, rfl, hs, .inr ⟨g, 0, rfl, fun i hi => ?_⟩⟩
    rw [Nat.zero_add, ho'.cellAt i (by omega), cellsU_get xs i hi]
theorem Own.cap {w : World} {B : Nat} {a : Option Addr} {n c : Nat} {xs : List Nat} (h : Own w B (.slice a n c) xs) : n ≤ c := by
  rcases h.2.2 with ⟨e, h0⟩ | ⟨g, cap, cur, e, hb, hg, hn, hm, hsz, ht⟩
  · simp only [Value.slice.injEq] at e
    omega
  · simp only [Value.slice.injEq] at e
    omega
theorem Own.nil (w : World) (B : Nat) : Own w B (.slice none 0 0) [] := ⟨(fun _ h => by cases h), World.ownsRow_nil _ _ _ _⟩
theorem Own.mono {w : World} {B B' : Nat} {v : Value} {xs : List Nat} (h : Own w B v xs) (hB : B' ≤ B) : Own w B' v xs := by
  refine ⟨h.1, h.2.1, ?_⟩
  rcases h.2.2 with h0 | ⟨g, cap, cur, h1, hb, r⟩
  · exact .inl h0
  · exact .inr ⟨g, cap, cur, h1, Nat.le_trans hB hb, r⟩
/-- What another call leaves of a row of one's own. -/
theorem Own.below {w w' : World} {B : Nat} {v : Value} {xs : List Nat} (h : Own w B v xs) (hb : Below w.heap.size w w') : Own w' B v xs := by
  refine ⟨h.1, h.2.1, ?_⟩
  rcases h.2.2 with h0 | ⟨g, cap, cur, h1, hg, hgg, r⟩
  · exact .inl h0
  · exact .inr ⟨g, cap, cur, h1, hg, (hb.block g (Array.getElem?_eq_some_iff.1 hgg).1).trans hgg, r⟩
/-- A row of one's own, not empty: where it lies. -/
theorem Own.at {w : World} {B : Nat} {v : Value} {xs : List Nat} (h : Own w B v xs) (hn : 0 < xs.length) :
    ∃ g cap, v = .slice (some ⟨g, 0, none⟩) xs.length cap ∧ B ≤ g ∧ g < w.heap.size ∧ (∀ i, i < xs.length → w.cell? ⟨g, i, none⟩ = some (.int .u64 ((xs.getD i 0 : Nat) : Int))) ∧ ∀ i, w.frozen? ⟨g, i, none⟩ = false := by
  obtain ⟨hs, ho⟩ := h
  have ho' := ho
  rcases ho.2 with ⟨rfl, h0⟩ | ⟨g, cap, cur, rfl, hb, hg, hn, hm, hsz, ht⟩
  · omega
  · refine ⟨g, cap, rfl, hb, (Array.getElem?_eq_some_iff.1 hg).1, fun i hi => ?_, fun i => ho'.frozenAt i⟩
    rw [ho'.cellAt i (by omega), cellsU_get xs i hi]
/-- A word of it is written. -/
theorem Own.stored {w : World} {B g cap : Nat} {xs : List Nat} (h : Own w B (.slice (some ⟨g, 0, none⟩) xs.length cap) xs) (i x : Nat) (hx : x < 18446744073709551616) :
    Own (w.setCell ⟨g, i, none⟩ (.int .u64 (x : Int))) B (.slice (some ⟨g, 0, none⟩) xs.length cap) (xs.set i x) := by
  obtain ⟨hs, ho⟩ := h
  refine ⟨hs.set i x hx, ?_⟩
  have := (ho.stored i (.int .u64 (x : Int))).1
  rw [cellsU_set] at this
  simpa using this

theorem info_u64 : (Tryd.prog.info? 38).map (fun i => (i.zero, i.size, i.bytes)) = some (some (.int .u64 0), 1, 8) := by kernel_rfl

theorem ret_int {k : IntKind} {a b : Int} (h : a = b) : Ending.returned (.int k a) = .returned (.int k b) := by rw [h]
theorem ret_bool {a b : Bool} (h : a = b) : Ending.returned (.bool a) = .returned (.bool b) := by rw [h]

theorem bcell {W w1 : World} (hb : Below W.heap.size W w1) : (∀ b o, b < W.heap.size → w1.cell? ⟨b, o, none⟩ = W.cell? ⟨b, o, none⟩) ∧ (∀ b o, b < W.heap.size → w1.frozen? ⟨b, o, none⟩ = W.frozen? ⟨b, o, none⟩) :=
  ⟨fun b o h => hb.cell (p := ⟨b, o, none⟩) h, fun b o h => hb.frozen (p := ⟨b, o, none⟩) h⟩
theorem row_alloc {w : World} {a : Option Addr} {n : Nat} {xs : List Nat} (h : RowAt w a n xs) (o : Obj) : RowAt (w.alloc o) a n xs := h.below ((Below.refl _ _).alloc (Nat.le_refl _) _)
theorem below1 {w wk w' : World} {o : Obj} (hB : Below w.heap.size w wk) (hb : Below (wk.alloc o).heap.size (wk.alloc o) w') : Below w.heap.size w w' :=
  (hB.alloc hB.size o).trans (hb.mono (by have := hB.size; simp; omega))
theorem below2 {w wk w' : World} {o o' : Obj} (hB : Below w.heap.size w wk) (hb : Below ((wk.alloc o).alloc o').heap.size ((wk.alloc o).alloc o') w') : Below w.heap.size w w' :=
  below1 (hB.alloc hB.size o) hb
theorem below0 {w wk w' : World} (hB : Below w.heap.size w wk) (hb : Below wk.heap.size wk w') : Below w.heap.size w w' := hB.trans (hb.mono hB.size)
theorem alloc_size (w : World) (o : Obj) : (w.alloc o).heap.size = w.heap.size + 1 := by simp
theorem alloc_low (w : World) (o : Obj) : Below w.heap.size w (w.alloc o) := (Below.refl _ _).alloc (Nat.le_refl _) _
end Go.Proofs.YtnjdldbdkafnaaaDoor
namespace Go.Proofs.YtnjdldbdkafnaaaDoor
open Go.RowKit
set_option linter.unusedVariables false
set_option linter.unusedSimpArgs false
set_option maxRecDepth 4000

/-- The bytes of a text. -/
def tx (s : ByteArray) : List Nat := s.data.toList.map fun b => b.toNat
/-- The text of bytes. -/
def st (xs : List Nat) : ByteArray := ⟨(xs.map UInt8.ofNat).toArray⟩
def bytes (xs : List Nat) : Prop := ∀ x ∈ xs, x < 256
theorem tx_length (s : ByteArray) : (tx s).length = s.size := by cases s; simp [tx, ByteArray.size]
theorem tx_bytes (s : ByteArray) : bytes (tx s) := by
  intro x hx
  obtain ⟨b, _, rfl⟩ := List.mem_map.1 hx
  exact b.toNat_lt
theorem st_tx (s : ByteArray) : st (tx s) = s := by
  cases s with
  | mk d =>
    unfold st tx
    congr 1
    rw [List.map_map]
    have e : ((fun x => UInt8.ofNat x) ∘ fun b : UInt8 => b.toNat) = id := by funext b; simp
    rw [e]; simp
theorem tx_st {xs : List Nat} (h : bytes xs) : tx (st xs) = xs := by
  unfold tx st
  simp only [List.map_map]
  conv => rhs; rw [← List.map_id xs]
  apply List.map_congr_left
  intro x hx
  have := h x hx
  simp [Nat.mod_eq_of_lt this]
theorem tx_inj {a b : ByteArray} (h : tx a = tx b) : a = b := by rw [← st_tx a, ← st_tx b, h]
theorem bytes.get {xs : List Nat} (h : bytes xs) (i : Nat) : xs.getD i 0 < 256 := by
  rw [List.getD_eq_getElem?_getD]
  cases hx : xs[i]? with
  | none => simp
  | some x => exact h x (List.mem_of_getElem? hx)
theorem tx_get (s : ByteArray) (k : Nat) (h : k < s.size) : s[k].toNat = (tx s).getD k 0 := by
  cases s with
  | mk d =>
    have hd : k < d.size := h
    simp only [tx, List.getD_eq_getElem?_getD, List.getElem?_map, Array.getElem?_toList, Array.getElem?_eq_getElem hd]
    rfl
theorem bytes.set {xs : List Nat} (h : bytes xs) (i x : Nat) (hx : x < 256) : bytes (xs.set i x) := by
  intro y hy
  rcases List.mem_or_eq_of_mem_set hy with h1 | rfl
  · exact h y h1
  · exact hx
theorem xorB_lt {x y : Nat} (hx : x < 256) (hy : y < 256) : x ^^^ y < 256 := Nat.xor_lt_two_pow (n := 8) (by omega) (by omega)
theorem xorL_bytes {xs ys : List Nat} (hx : bytes xs) (hy : bytes ys) : bytes (xorL xs ys) := by
  intro z hz
  unfold xorL at hz
  obtain ⟨i, _, rfl⟩ := List.mem_map.1 hz
  exact xorB_lt (hx.get i) (hy.get i)
theorem bytes_nil : bytes [] := fun _ h => by cases h
/-- The xor of two texts. -/
def xorS (a b : ByteArray) : ByteArray := st (xorL (tx a) (tx b))
theorem tx_xorS (a b : ByteArray) : tx (xorS a b) = xorL (tx a) (tx b) := tx_st (xorL_bytes (tx_bytes a) (tx_bytes b))
theorem xorS_size (a b : ByteArray) : (xorS a b).size = max a.size b.size := by rw [← tx_length, tx_xorS, xorL_length, tx_length, tx_length]
theorem xorL_nil (a : List Nat) : xorL a [] = a := by
  apply ext_getD
  · rw [xorL_length]; simp
  · intro i hi; rw [xorL_getD]; simp
theorem nil_xorL (a : List Nat) : xorL [] a = a := by rw [xorL_comm, xorL_nil]

/-- A slice of bytes of the call's own. -/
def OwnB (w : World) (B : Nat) (v : Value) (xs : List Nat) : Prop :=
  bytes xs ∧ ((v = .slice none 0 0 ∧ xs = []) ∨ ∃ g cap, v = .slice (some ⟨g, 0, none⟩) xs.length cap ∧ B ≤ g ∧ g < w.heap.size ∧
    (∀ i, i < xs.length → w.cell? ⟨g, i, none⟩ = some (.int .u8 ((xs.getD i 0 : Nat) : Int))) ∧ ∀ i, i < xs.length → w.frozen? ⟨g, i, none⟩ = false)
theorem OwnB.nil (w : World) (B : Nat) : OwnB w B (.slice none 0 0) [] := ⟨bytes_nil, .inl ⟨rfl, rfl⟩⟩
theorem OwnB.slice {w : World} {B : Nat} {v : Value} {xs : List Nat} (h : OwnB w B v xs) : ∃ a c, v = .slice a xs.length c := by
  rcases h.2 with ⟨rfl, rfl⟩ | ⟨g, cap, rfl, _⟩
  · exact ⟨_, _, rfl⟩
  · exact ⟨_, _, rfl⟩
theorem OwnB.at {w : World} {B : Nat} {v : Value} {xs : List Nat} (h : OwnB w B v xs) (hn : 0 < xs.length) :
    ∃ g cap, v = .slice (some ⟨g, 0, none⟩) xs.length cap ∧ B ≤ g ∧ g < w.heap.size ∧ (∀ i, i < xs.length → w.cell? ⟨g, i, none⟩ = some (.int .u8 ((xs.getD i 0 : Nat) : Int))) ∧ ∀ i, i < xs.length → w.frozen? ⟨g, i, none⟩ = false := by
  rcases h.2 with ⟨_, rfl⟩ | h
  · simp at hn
  · exact h
theorem OwnB.mono {w : World} {B B' : Nat} {v : Value} {xs : List Nat} (h : OwnB w B v xs) (hB : B' ≤ B) : OwnB w B' v xs := by
  refine ⟨h.1, ?_⟩
  rcases h.2 with h0 | ⟨g, cap, h1, hb, r⟩
  · exact .inl h0
  · exact .inr ⟨g, cap, h1, Nat.le_trans hB hb, r⟩
theorem OwnB.below {w w' : World} {B : Nat} {v : Value} {xs : List Nat} (h : OwnB w B v xs) (hb : Below w.heap.size w w') : OwnB w' B v xs := by
  refine ⟨h.1, ?_⟩
  rcases h.2 with h0 | ⟨g, cap, h1, hg, hgg, hc, hf⟩
  · exact .inl h0
  · exact .inr ⟨g, cap, h1, hg, Nat.lt_of_lt_of_le hgg hb.size, fun i hi => ((bcell hb).1 g i hgg).trans (hc i hi), fun i hi => ((bcell hb).2 g i hgg).trans (hf i hi)⟩
theorem OwnB.stored {w : World} {B g cap : Nat} {xs : List Nat} (h : OwnB w B (.slice (some ⟨g, 0, none⟩) xs.length cap) xs) (i x : Nat) (hx : x < 256) :
    OwnB (w.setCell ⟨g, i, none⟩ (.int .u8 (x : Int))) B (.slice (some ⟨g, 0, none⟩) xs.length cap) (xs.set i x) := by
  refine ⟨h.1.set i x hx, .inr ?_⟩
  rcases h.2 with ⟨h1, _⟩ | ⟨g', cap', h1, hg, hgg, hc, hf⟩
  · cases h1
  · simp only [Value.slice.injEq, Option.some.injEq, Addr.mk.injEq, and_true, true_and] at h1
    obtain ⟨rfl, rfl⟩ := h1
    refine ⟨g, cap, by rw [List.length_set], hg, by simpa using hgg, fun j hj => ?_, fun j hj => by rw [World.frozen?_setCell]; exact hf j (by simpa using hj)⟩
    rw [List.length_set] at hj
    rw [getD_set]
    by_cases e : j = i
    · subst e
      rw [if_pos ⟨rfl, hj⟩]
      exact World.cell?_setCell_same _ _ _ (hc j hj)
    · rw [if_neg (fun h => e h.1)]
      have hne : (⟨g, i, none⟩ : Addr) ≠ ⟨g, j, none⟩ := fun h => e (by injection h with h1 h2; exact h2.symm)
      exact (World.cell?_setCell_other (h := hne) ..).trans (hc j hj)
theorem OwnB.drew {w : World} {B : Nat} {v : Value} {xs : List Nat} (h : OwnB w B v xs) : OwnB w.drew B v xs := by
  refine ⟨h.1, ?_⟩
  rcases h.2 with h0 | ⟨g, cap, h1, hg, hgg, hc, hf⟩
  · exact .inl h0
  · exact .inr ⟨g, cap, h1, hg, hgg, hc, hf⟩

theorem xb_round {w wr : World} {B g cap : Nat} {xs ys : List Nat} {k z : Nat} (hx : bytes xs) (hy : bytes ys) (hk : k < xs.length) (hB : B ≤ g)
    (ho : OwnB wr B (.slice (some ⟨g, 0, none⟩) xs.length cap) (xorTo xs ys k)) (hb : Below B w wr) (hz : z = xs.getD k 0 ^^^ ys.getD k 0) :
    OwnB (wr.setCell ⟨g, k, none⟩ (.int .u8 (z : Int))) B (.slice (some ⟨g, 0, none⟩) xs.length cap) (xorTo xs ys (k + 1)) ∧ Below B w (wr.setCell ⟨g, k, none⟩ (.int .u8 (z : Int))) := by
  have hl := xorTo_length xs ys k
  subst hz
  rw [← hl] at ho
  have h1 := ho.stored k (xs.getD k 0 ^^^ ys.getD k 0) (xorB_lt (hx.get k) (hy.get k))
  rw [xorTo_succ xs ys k hk, hl] at h1
  exact ⟨h1, hb.setCell (by exact hB) _⟩
theorem xb_roundd {w wr : World} {B g cap : Nat} {xs ys : List Nat} {k z : Nat} (hx : bytes xs) (hy : bytes ys) (hk : k < xs.length) (hB : B ≤ g)
    (ho : OwnB wr B (.slice (some ⟨g, 0, none⟩) xs.length cap) (xorTo xs ys k)) (hb : Below B w wr) (hz : z = xs.getD k 0 ^^^ ys.getD k 0) :
    OwnB (wr.setCell ⟨g, k, none⟩ (.int .u8 (z : Int))).drew B (.slice (some ⟨g, 0, none⟩) xs.length cap) (xorTo xs ys (k + 1)) ∧ Below B w (wr.setCell ⟨g, k, none⟩ (.int .u8 (z : Int))).drew := by
  obtain ⟨h1, h2⟩ := xb_round hx hy hk hB ho hb hz
  exact ⟨h1.drew, h2.drew⟩

/-- 'string(b)' of a slice of one's own. -/
theorem OwnB.text {w : World} {B : Nat} {v : Value} {xs : List Nat} (h : OwnB w B v xs) : (convert 61 9 v).run Tryd.prog w = .ok (.string (st xs)) w := by
  rcases h.2 with ⟨rfl, rfl⟩ | ⟨g, cap, rfl, hg, hgg, hc, hf⟩
  · rw [run_convert_bytes_string w 61 9 5 none 0 0 Tryd.underlying61 Tryd.underlying5 Tryd.underlying9]
    rfl
  · have := run_convert_bytes_back (P := Tryd.prog) w 61 9 5 ⟨g, 0, none⟩ cap (xs.map UInt8.ofNat) Tryd.underlying61 Tryd.underlying5 Tryd.underlying9 (fun j hj => by
      have hj' : j < xs.length := by simpa using hj
      have e : (⟨g, 0, none⟩ : Addr).add j = ⟨g, j, none⟩ := by unfold Addr.add; split <;> simp_all
      rw [e, hc j hj']
      have hb := h.1.get j
      simp only [List.getElem_map]
      rw [List.getD_eq_getElem?_getD, List.getElem?_eq_getElem hj'] at hb ⊢
      simp only [Option.getD_some] at hb ⊢
      rw [UInt8.toNat_ofNat_of_lt' hb])
    rw [List.length_map] at this
    exact this

theorem info_u8 : (Tryd.prog.info? 5).map (fun i => (i.zero, i.size, i.bytes)) = some (some (.int .u8 0), 1, 1) := by kernel_rfl
/-- 'copy(b, s)', b new and as long as s. -/
theorem run_copy_text_of {P : Program} (w : World) (dT sT ty elem : TypeId) (g n cap : Nat) (s : ByteArray) (cur : Array Value) (t : TypeId) (hu : P.underlying dT = some (.slice elem)) (hs : (P.info? elem).map (·.size) = some 1)
    (hg : w.heap[g]? = some (.cells cur t (0, 0))) (hc : cur.size = s.size) (hn : n = s.size) :
    (Builtin.copy_ #[dT, sT] ty #[.slice (some ⟨g, 0, none⟩) n cap, .string s]).run P w = .ok (goInt s.size) (w.setRow g (s.data.map fun b => Value.int .u8 (b.toNat : Int))) := by
  subst hn
  have hlen : (s.data.toList.map fun b => Value.int .u8 (b.toNat : Int)).length = s.size := by rw [List.length_map]; rfl
  have hst := run_storeCells_at P g 0 t (s.data.toList.map fun b => Value.int .u8 (b.toNat : Int)) 0 cur w hg (by rw [hlen, hc]; omega)
    (fun v hv => by obtain ⟨b, _, rfl⟩ := List.mem_map.1 hv; rfl)
  have hd : (List.take (0 + 0) cur.toList ++ (s.data.toList.map fun b => Value.int .u8 (b.toNat : Int)) ++ List.drop (0 + 0 + (s.data.toList.map fun b => Value.int .u8 (b.toNat : Int)).length) cur.toList).toArray = s.data.map fun b => Value.int .u8 (b.toNat : Int) := by
    rw [List.drop_eq_nil_of_le (by rw [hlen, Array.length_toList, hc]; omega)]
    apply Array.ext'
    simp
  rw [hd] at hst
  have hmin : Nat.min s.size s.size = s.size := Nat.min_self _
  have hex : List.take s.size (s.data.toList.map fun b => Value.int .u8 (b.toNat : Int)) = s.data.toList.map fun b => Value.int .u8 (b.toNat : Int) := List.take_of_length_le (by rw [hlen]; omega)
  cases hq : P.info? elem with
  | none => simp [hq] at hs
  | some i =>
    simp [Builtin.copy_, run_underlying hu, Builtin.lenOf, Builtin.firstCells, sizeOf, typeInfo, hq, hmin, hex, hst]

theorem st_len (xs : List Nat) : (st xs).size = xs.length := by simp [st, ByteArray.size]
theorem tx_cut (s : ByteArray) (a b : Nat) : tx (s.extract a b) = ((tx s).drop a).take (b - a) := by
  unfold tx
  rw [ByteArray.data_extract, Array.toList_extract, List.extract_eq_take_drop, List.map_take, List.map_drop]
theorem min_run (x y : Nat) (ts : Array TypeId) (t : TypeId) (w : World) : (Builtin.min_ ts t #[.int .i64 (x : Int), .int .i64 (y : Int)]).run Tryd.prog w = .ok (.int .i64 ((min x y : Nat) : Int)) w := by
  rw [run_min_int2]
  congr 2
  split <;> omega
end Go.Proofs.YtnjdldbdkafnaaaDoor
