/-
  Texts as lists of bytes; slices of bytes of the call's own ('OwnB'); '[]byte(s)', 'string(b)' and 'copy(b, s)' on them. No condition.
  Calls that leave what was there as it was, as steps of a quiet region. No condition.
  A row (a slice of words and a text) by value; contract of bucketlineref02.Same; callees in regions that draw their order.
  Slices of rows ('RowsAt'); contracts of bucketlinelaw02.Few, xor.vecs.
  Rows that can be read and have as much room as words ('RowsIn'). No condition.
  Memory in which one block is turned ('grownBy' with that block), rows beside it, and 'copy' as a step of a walk. No condition.
  Contracts of words.Set and bucketlineref01.Set: for every row of at most 2^20 words, every int, both values.
-/
import Derived.Test.YtbcgiodgobmkaaaGreatDoorU2
import Derived.Test.YtbcgiodgobmkaaaGreatDoorU0
import Derived.Laws.IdiomStrings
import Derived.Laws.CopyRow
import Derived.Laws.MakeOwn
import Derived.Lib.QuietBelow
import Derived.Deep.RegionWith
import Derived.Laws.IdiomCopy
import Derived.Laws.NewBlocks
import Derived.Deep.RegionLaw
namespace Go.Proofs.YtbcgiodgobmkaaaGreatDoor
open Go.RowKit
set_option linter.unusedVariables false
set_option linter.unusedSimpArgs false
set_option maxRecDepth 4000

/-- The bytes of a text. -/
def tx (s : ByteArray) : List Nat := s.data.toList.map fun b => b.toNat
/-- The text of bytes. -/
def st (xs : List Nat) : ByteArray := ⟨(xs.map UInt8.ofNat).toArray⟩
def bytes (xs : List Nat) : Prop := ∀ x ∈ xs, x < 256
theorem tx_length (s : ByteArray) : (tx s).length = s.size := by cases s; simp [tx, ByteArray.size]
theorem tx_bytes (s : ByteArray) : bytes (tx s) := by
  intro x hx
  obtain ⟨b, _, rfl⟩ := List.mem_map.1 hx
  exact b.toNat_lt
theorem st_tx (s : ByteArray) : st (tx s) = s := by
  cases s with
  | mk d =>
    unfold st tx
    congr 1
    rw [List.map_map]
    have e : ((fun x => UInt8.ofNat x) ∘ fun b : UInt8 => b.toNat) = id := by funext b; simp
    rw [e]; simp
theorem tx_st {xs : List Nat} (h : bytes xs) : tx (st xs) = xs := by
  unfold tx st
  simp only [List.map_map]
  conv => rhs; rw [← List.map_id xs]
  apply List.map_congr_left
  intro x hx
  have := h x hx
  simp [Nat.mod_eq_of_lt this]
theorem tx_inj {a b : ByteArray} (h : tx a = tx b) : a = b := by rw [← st_tx a, ← st_tx b, h]
theorem bytes.get {xs : List Nat} (h : bytes xs) (i : Nat) : xs.getD i 0 < 256 := by
  rw [List.getD_eq_getElem?_getD]
  cases hx : xs[i]? with
  | none => simp
  | some x => exact h x (List.mem_of_getElem? hx)
theorem tx_get (s : ByteArray) (k : Nat) (h : k < s.size) : s[k].toNat = (tx s).getD k 0 := by
  cases s with
  | mk d =>
    have hd : k < d.size := h
    simp only [tx, List.getD_eq_getElem?_getD, List.getElem?_map, Array.getElem?_toList, Array.getElem?_eq_getElem hd]
    rfl
theorem bytes.set {xs : List Nat} (h : bytes xs) (i x : Nat) (hx : x < 256) : bytes (xs.set i x) := by
  intro y hy
  rcases List.mem_or_eq_of_mem_set hy with h1 | rfl
  · exact h y h1
  · exact hx
theorem xorB_lt {x y : Nat} (hx : x < 256) (hy : y < 256) : x ^^^ y < 256 := Nat.xor_lt_two_pow (n := 8) (by omega) (by omega)
theorem xorL_bytes {xs ys : List Nat} (hx : bytes xs) (hy : bytes ys) : bytes (xorL xs ys) := by
  intro z hz
  unfold xorL at hz
  obtain ⟨i, _, rfl⟩ := List.mem_map.1 hz
  exact xorB_lt (hx.get i) (hy.get i)
theorem bytes_nil : bytes [] := fun _ h => by cases h
/-- The xor of two texts. -/
def xorS (a b : ByteArray) : ByteArray := st (xorL (tx a) (tx b))
theorem xorL_nil (a : List Nat) : xorL a [] = a := by
  apply ext_getD
  · rw [xorL_length]; simp
  · intro i hi; rw [xorL_getD]; simp
theorem nil_xorL (a : List Nat) : xorL [] a = a := by rw [xorL_comm, xorL_nil]
theorem xorL_assoc (a b c : List Nat) : xorL (xorL a b) c = xorL a (xorL b c) := by
  apply ext_getD
  · simp only [xorL_length]; omega
  · intro i hi; simp only [xorL_getD]; exact Nat.xor_assoc _ _ _
theorem eq_texts (a b : ByteArray) : (a.toList == b.toList) = decide (a = b) := by
  rw [ByteArray.toList_eq, ByteArray.toList_eq, Bool.eq_iff_iff]
  simp only [beq_iff_eq, decide_eq_true_eq, Array.toList_inj]
  constructor
  · intro h; cases a; cases b; simp_all
  · intro h; rw [h]

/-- A slice of bytes of the call's own. -/
def OwnB (w : World) (B : Nat) (v : Value) (xs : List Nat) : Prop :=
  bytes xs ∧ ((v = .slice none 0 0 ∧ xs = []) ∨ ∃ g cap, v = .slice (some ⟨g, 0, none⟩) xs.length cap ∧ B ≤ g ∧ g < w.heap.size ∧
    (∀ i, i < xs.length → w.cell? ⟨g, i, none⟩ = some (.int .u8 ((xs.getD i 0 : Nat) : Int))) ∧ ∀ i, i < xs.length → w.frozen? ⟨g, i, none⟩ = false)
theorem OwnB.nil (w : World) (B : Nat) : OwnB w B (.slice none 0 0) [] := ⟨bytes_nil, .inl ⟨rfl, rfl⟩⟩
theorem OwnB.slice {w : World} {B : Nat} {v : Value} {xs : List Nat} (h : OwnB w B v xs) : ∃ a c, v = .slice a xs.length c := by
  rcases h.2 with ⟨rfl, rfl⟩ | ⟨g, cap, rfl, _⟩
  · exact ⟨_, _, rfl⟩
  · exact ⟨_, _, rfl⟩
theorem OwnB.at {w : World} {B : Nat} {v : Value} {xs : List Nat} (h : OwnB w B v xs) (hn : 0 < xs.length) :
    ∃ g cap, v = .slice (some ⟨g, 0, none⟩) xs.length cap ∧ B ≤ g ∧ g < w.heap.size ∧ (∀ i, i < xs.length → w.cell? ⟨g, i, none⟩ = some (.int .u8 ((xs.getD i 0 : Nat) : Int))) ∧ ∀ i, i < xs.length → w.frozen? ⟨g, i, none⟩ = false := by
  rcases h.2 with ⟨_, rfl⟩ | h
  · simp at hn
  · exact h
theorem OwnB.mono {w : World} {B B' : Nat} {v : Value} {xs : List Nat} (h : OwnB w B v xs) (hB : B' ≤ B) : OwnB w B' v xs := by
  refine ⟨h.1, ?_⟩
  rcases h.2 with h0 | ⟨g, cap, h1, hb, r⟩
  · exact .inl h0
  · exact .inr ⟨g, cap, h1, Nat.le_trans hB hb, r⟩
theorem OwnB.below {w w' : World} {B : Nat} {v : Value} {xs : List Nat} (h : OwnB w B v xs) (hb : Below w.heap.size w w') : OwnB w' B v xs := by
  refine ⟨h.1, ?_⟩
  rcases h.2 with h0 | ⟨g, cap, h1, hg, hgg, hc, hf⟩
  · exact .inl h0
  · exact .inr ⟨g, cap, h1, hg, Nat.lt_of_lt_of_le hgg hb.size, fun i hi => ((bcell hb).1 g i hgg).trans (hc i hi), fun i hi => ((bcell hb).2 g i hgg).trans (hf i hi)⟩
theorem OwnB.stored {w : World} {B g cap : Nat} {xs : List Nat} (h : OwnB w B (.slice (some ⟨g, 0, none⟩) xs.length cap) xs) (i x : Nat) (hx : x < 256) :
    OwnB (w.setCell ⟨g, i, none⟩ (.int .u8 (x : Int))) B (.slice (some ⟨g, 0, none⟩) xs.length cap) (xs.set i x) := by
  refine ⟨h.1.set i x hx, .inr ?_⟩
  rcases h.2 with ⟨h1, _⟩ | ⟨g', cap', h1, hg, hgg, hc, hf⟩
  · cases h1
  · simp only [Value.slice.injEq, Option.some.injEq, Addr.mk.injEq, and_true, true_and] at h1
    obtain ⟨rfl, rfl⟩ := h1
    refine ⟨g, cap, by rw [List.length_set], hg, by simpa using hgg, fun j hj => ?_, fun j hj => by rw [World.frozen?_setCell]; exact hf j (by simpa using hj)⟩
    rw [List.length_set] at hj
    rw [getD_set]
    by_cases e : j = i
    · subst e
      rw [if_pos ⟨rfl, hj⟩]
      exact World.cell?_setCell_same _ _ _ (hc j hj)
    · rw [if_neg (fun h => e h.1)]
      have hne : (⟨g, i, none⟩ : Addr) ≠ ⟨g, j, none⟩ := fun h => e (by injection h with h1 h2; exact h2.symm)
      exact (World.cell?_setCell_other (h := hne) ..).trans (hc j hj)
theorem OwnB.drew {w : World} {B : Nat} {v : Value} {xs : List Nat} (h : OwnB w B v xs) : OwnB w.drew B v xs := by
  refine ⟨h.1, ?_⟩
  rcases h.2 with h0 | ⟨g, cap, h1, hg, hgg, hc, hf⟩
  · exact .inl h0
  · exact .inr ⟨g, cap, h1, hg, hgg, hc, hf⟩

theorem xb_round {w wr : World} {B g cap : Nat} {xs ys : List Nat} {k z : Nat} (hx : bytes xs) (hy : bytes ys) (hk : k < xs.length) (hB : B ≤ g)
    (ho : OwnB wr B (.slice (some ⟨g, 0, none⟩) xs.length cap) (xorTo xs ys k)) (hb : Below B w wr) (hz : z = xs.getD k 0 ^^^ ys.getD k 0) :
    OwnB (wr.setCell ⟨g, k, none⟩ (.int .u8 (z : Int))) B (.slice (some ⟨g, 0, none⟩) xs.length cap) (xorTo xs ys (k + 1)) ∧ Below B w (wr.setCell ⟨g, k, none⟩ (.int .u8 (z : Int))) := by
  have hl := xorTo_length xs ys k
  subst hz
  rw [← hl] at ho
  have h1 := ho.stored k (xs.getD k 0 ^^^ ys.getD k 0) (xorB_lt (hx.get k) (hy.get k))
  rw [xorTo_succ xs ys k hk, hl] at h1
  exact ⟨h1, hb.setCell (by exact hB) _⟩
theorem xb_roundd {w wr : World} {B g cap : Nat} {xs ys : List Nat} {k z : Nat} (hx : bytes xs) (hy : bytes ys) (hk : k < xs.length) (hB : B ≤ g)
    (ho : OwnB wr B (.slice (some ⟨g, 0, none⟩) xs.length cap) (xorTo xs ys k)) (hb : Below B w wr) (hz : z = xs.getD k 0 ^^^ ys.getD k 0) :
    OwnB (wr.setCell ⟨g, k, none⟩ (.int .u8 (z : Int))).drew B (.slice (some ⟨g, 0, none⟩) xs.length cap) (xorTo xs ys (k + 1)) ∧ Below B w (wr.setCell ⟨g, k, none⟩ (.int .u8 (z : Int))).drew := by
  obtain ⟨h1, h2⟩ := xb_round hx hy hk hB ho hb hz
  exact ⟨h1.drew, h2.drew⟩

/-- 'string(b)' of a slice of one's own. -/
theorem OwnB.text {w : World} {B : Nat} {v : Value} {xs : List Nat} (h : OwnB w B v xs) : (convert 108 9 v).run Tryz.prog w = .ok (.string (st xs)) w := by
  rcases h.2 with ⟨rfl, rfl⟩ | ⟨g, cap, rfl, hg, hgg, hc, hf⟩
  · rw [run_convert_bytes_string w 108 9 5 none 0 0 Tryz.underlying108 Tryz.underlying5 Tryz.underlying9]
    rfl
  · have := run_convert_bytes_back (P := Tryz.prog) w 108 9 5 ⟨g, 0, none⟩ cap (xs.map UInt8.ofNat) Tryz.underlying108 Tryz.underlying5 Tryz.underlying9 (fun j hj => by
      have hj' : j < xs.length := by simpa using hj
      have e : (⟨g, 0, none⟩ : Addr).add j = ⟨g, j, none⟩ := by unfold Addr.add; split <;> simp_all
      rw [e, hc j hj']
      have hb := h.1.get j
      simp only [List.getElem_map]
      rw [List.getD_eq_getElem?_getD, List.getElem?_eq_getElem hj'] at hb ⊢
      simp only [Option.getD_some] at hb ⊢
      rw [UInt8.toNat_ofNat_of_lt' hb])
    rw [List.length_map] at this
    exact this

theorem info_u8 : (Tryz.prog.info? 5).map (fun i => (i.zero, i.size, i.bytes)) = some (some (.int .u8 0), 1, 1) := by kernel_rfl
/-- 'copy(b, s)', b new and as long as s. -/
theorem run_copy_text_of {P : Program} (w : World) (dT sT ty elem : TypeId) (g n cap : Nat) (s : ByteArray) (cur : Array Value) (t : TypeId) (hu : P.underlying dT = some (.slice elem)) (hs : (P.info? elem).map (·.size) = some 1)
    (hg : w.heap[g]? = some (.cells cur t (0, 0))) (hc : cur.size = s.size) (hn : n = s.size) :
    (Builtin.copy_ #[dT, sT] ty #[.slice (some ⟨g, 0, none⟩) n cap, .string s]).run P w = .ok (goInt s.size) (w.setRow g (s.data.map fun b => Value.int .u8 (b.toNat : Int))) := by
  subst hn
  have hlen : (s.data.toList.map fun b => Value.int .u8 (b.toNat : Int)).length = s.size := by rw [List.length_map]; rfl
  have hst := run_storeCells_at P g 0 t (s.data.toList.map fun b => Value.int .u8 (b.toNat : Int)) 0 cur w hg (by rw [hlen, hc]; omega)
    (fun v hv => by obtain ⟨b, _, rfl⟩ := List.mem_map.1 hv; rfl)
  have hd : (List.take (0 + 0) cur.toList ++ (s.data.toList.map fun b => Value.int .u8 (b.toNat : Int)) ++ List.drop (0 + 0 + (s.data.toList.map fun b => Value.int .u8 (b.toNat : Int)).length) cur.toList).toArray = s.data.map fun b => Value.int .u8 (b.toNat : Int) := by
    rw [List.drop_eq_nil_of_le (by rw [hlen, Array.length_toList, hc]; omega)]
    apply Array.ext'
    simp
  rw [hd] at hst
  have hmin : Nat.min s.size s.size = s.size := Nat.min_self _
  have hex : List.take s.size (s.data.toList.map fun b => Value.int .u8 (b.toNat : Int)) = s.data.toList.map fun b => Value.int .u8 (b.toNat : Int) := List.take_of_length_le (by rw [hlen]; omega)
  cases hq : P.info? elem with
  | none => simp [hq] at hs
  | some i =>
    simp [Builtin.copy_, run_underlying hu, Builtin.lenOf, Builtin.firstCells, sizeOf, typeInfo, hq, hmin, hex, hst]
theorem ret_str {a b : ByteArray} (h : a = b) : Ending.returned (.string a) = .returned (.string b) := by rw [h]

/-- '[]byte(s)'. -/
theorem bytes_text (w : World) (s : ByteArray) : ∃ w' cap, (convert 9 108 (.string s)).run Tryz.prog w = .ok (.slice (some ⟨w.heap.size, 0, none⟩) s.size cap) w' ∧
    OwnB w' w.heap.size (.slice (some ⟨w.heap.size, 0, none⟩) s.size cap) (tx s) ∧ Below w.heap.size w w' := by
  refine ⟨_, _, run_bytes_of_string w 9 108 5 s Tryz.underlying9 Tryz.underlying108 Tryz.underlying5, ⟨tx_bytes s, .inr ⟨w.heap.size, _, by rw [tx_length], Nat.le_refl _, by simp, fun i hi => ?_, fun i hi => ?_⟩⟩, ?_⟩
  · have hi' : i < s.size := by rwa [tx_length] at hi
    have h1 := World.cell?_alloc_mark w.drew (bytesRow s (grownCap w s.size 0 5)) 5 ((bytesRow s (grownCap w s.size 0 5)).size, (bytesRow s (grownCap w s.size 0 5)).size + 1) i
    refine h1.trans ?_
    rw [bytesRow_at s _ i hi', ← tx_get s i hi']
    rfl
  · have hi' : i < s.size := by rwa [tx_length] at hi
    have h1 := World.frozen?_alloc_mark w.drew (bytesRow s (grownCap w s.size 0 5)) 5 (bytesRow s (grownCap w s.size 0 5)).size ((bytesRow s (grownCap w s.size 0 5)).size + 1) i
    refine h1.trans ?_
    have h2 : s.size ≤ (bytesRow s (grownCap w s.size 0 5)).size := by
      unfold bytesRow
      rw [Array.size_append, Array.size_map]
      exact Nat.le_add_right _ _
    have : ¬ (bytesRow s (grownCap w s.size 0 5)).size ≤ i := by omega
    simp [this]
  · exact ((Below.refl _ _).drew).alloc (Nat.le_refl _) _
theorem st_len (xs : List Nat) : (st xs).size = xs.length := by simp [st, ByteArray.size]
theorem min_run (x y : Nat) (ts : Array TypeId) (t : TypeId) (w : World) : (Builtin.min_ ts t #[.int .i64 (x : Int), .int .i64 (y : Int)]).run Tryz.prog w = .ok (.int .i64 ((min x y : Nat) : Int)) w := by
  rw [run_min_int2]
  congr 2
  split <;> omega
end Go.Proofs.YtbcgiodgobmkaaaGreatDoor
namespace Go.Proofs.YtbcgiodgobmkaaaGreatDoor
open Go.RowKit Go.Sort
set_option linter.unusedVariables false
set_option linter.unusedSimpArgs false
set_option maxRecDepth 4000

/-- A callee in a region that draws its order, in whatever world that region can have come to. -/
theorem quietB {W : World} {f : FuncId} {args : Array Value} {v : Value} (h : ∀ w', Below W.heap.size W w' → Calls Tryz.prog f args w' fun e w'' => e = .returned v ∧ Below w'.heap.size w' w'') (d : Nat) (os : Array Obj) :
    Calls Tryz.prog f args (grow (redrawn W d) os) fun e w'' => e = .returned v ∧ ∃ p : Regrown, w'' = grow (redrawn W p.d) p.os :=
  Calls.regrown_of (h _ (below_regrown W d os))
theorem same_below {f : FuncId} {args : Array Value} {v : Value} {w : World} (h : Calls Tryz.prog f args w fun e w'' => e = .returned v ∧ w'' = w) : Calls Tryz.prog f args w fun e w'' => e = .returned v ∧ Below w.heap.size w w'' :=
  h.mono fun e w' ⟨he, hw⟩ => ⟨he, by rw [hw]; exact Below.refl _ _⟩
end Go.Proofs.YtbcgiodgobmkaaaGreatDoor
namespace Go.Proofs.YtbcgiodgobmkaaaGreatDoor
open Go.RowKit Go.Sort
set_option linter.unusedVariables false
set_option linter.unusedSimpArgs false
set_option maxRecDepth 4000

/-- A block that holds a row. -/
def BoxAt (w : World) (g : Nat) (x y : Value) : Prop := w.cell? ⟨g, 0, none⟩ = some x ∧ w.cell? ⟨g, 1, none⟩ = some y
theorem box_new (w : World) (x y : Value) : BoxAt (w.alloc (.cells #[x, y] 40)) w.heap.size x y := by
  constructor <;> simp
theorem BoxAt.below {w w' : World} {g : Nat} {x y : Value} (h : BoxAt w g x y) (hb : Below w.heap.size w w') : BoxAt w' g x y :=
  ⟨(hb.cell (World.block_lt_of_cell? w _ h.1)).trans h.1, (hb.cell (World.block_lt_of_cell? w _ h.2)).trans h.2⟩
theorem BoxAt.alloc {w : World} {g : Nat} {x y : Value} (h : BoxAt w g x y) (o : Obj) : BoxAt (w.alloc o) g x y := h.below ((Below.refl _ _).alloc (Nat.le_refl _) _)

set_option maxHeartbeats 400000 in
theorem rsame2_any (a : Option Addr) (n c : Nat) (xs : List Nat) (s : ByteArray) (a' : Option Addr) (m c' : Nat) (ys : List Nat) (t : ByteArray) (w : World) (h : RowAt w a n xs) (h' : RowAt w a' m ys) (hn : n ≤ 1048576) (hm : m ≤ 1048576) :
    Calls Tryz.prog 34 #[.agg #[.slice a n c, .string s], .agg #[.slice a' m c', .string t]] w fun e w' => e = .returned (.bool (decide (cnt (xorL xs ys) = 0) && decide (s = t))) ∧ Below w.heap.size w w' := by
  have hst := eq_texts s t
  have H := hide h
  have H' := hide h'
  clear h h'
  go_enter Tryz.func34, Tryz.ntmps34
  go_wp2_with fail
  refine (rsame_any a n c xs a' m c' ys _ (row_alloc (row_alloc (unhide H) _) _) (row_alloc (row_alloc (unhide H') _) _) hn hm).mono ?_
  rintro e w1 ⟨rfl, hb⟩
  have hx1 := ((box_new w (.slice a n c) (.string s)).alloc (.cells #[.slice a' m c', .string t] 40)).below hb
  have hx2 := (box_new (w.alloc (.cells #[.slice a n c, .string s] 40)) (.slice a' m c') (.string t)).below hb
  rw [alloc_size] at hx2
  obtain ⟨_, hc1⟩ := hx1
  obtain ⟨_, hc2⟩ := hx2
  have HB := hide (below2 (Below.refl _ w) hb)
  clear hb
  cases hd : decide (cnt (xorL xs ys) = 0)
  · go_wp2
    go_ret
    exact ⟨ret_bool (by rw [hd]; rfl), unhide HB⟩
  · go_wp2
    go_ret
    exact ⟨ret_bool (by rw [hd]; rfl), unhide HB⟩

/-- A block of one's own that holds a row and can be written. -/
def BoxW (w : World) (g : Nat) (x y : Value) : Prop := BoxAt w g x y ∧ w.frozen? ⟨g, 0, none⟩ = false ∧ w.frozen? ⟨g, 1, none⟩ = false
theorem boxW_new (w : World) (x y : Value) : BoxW (w.alloc (.cells #[x, y] 40)) w.heap.size x y := ⟨box_new w x y, by simp, by simp⟩
theorem BoxW.below {w w' : World} {g : Nat} {x y : Value} (h : BoxW w g x y) (hb : Below w.heap.size w w') : BoxW w' g x y :=
  ⟨h.1.below hb, (hb.frozen (World.block_lt_of_cell? w _ h.1.1)).trans h.2.1, (hb.frozen (World.block_lt_of_cell? w _ h.1.2)).trans h.2.2⟩
theorem BoxW.alloc {w : World} {g : Nat} {x y : Value} (h : BoxW w g x y) (o : Obj) : BoxW (w.alloc o) g x y := h.below ((Below.refl _ _).alloc (Nat.le_refl _) _)
theorem BoxW.other {w : World} {g : Nat} {x y : Value} (h : BoxW w g x y) {g' : Nat} (i : Nat) (u : Value) (hg : g' ≠ g) : BoxW (w.setCell ⟨g', i, none⟩ u) g x y := by
  have h0 : (⟨g', i, none⟩ : Addr) ≠ ⟨g, 0, none⟩ := fun h => hg (by injection h)
  have h1 : (⟨g', i, none⟩ : Addr) ≠ ⟨g, 1, none⟩ := fun h => hg (by injection h)
  exact ⟨⟨(World.cell?_setCell_other (h := h0) ..).trans h.1.1, (World.cell?_setCell_other (h := h1) ..).trans h.1.2⟩, by rw [World.frozen?_setCell]; exact h.2.1, by rw [World.frozen?_setCell]; exact h.2.2⟩
theorem block_setCell_other {w : World} {g k i : Nat} (u : Value) (h : k ≠ g) : (w.setCell ⟨g, i, none⟩ u).heap[k]? = w.heap[k]? := by
  unfold World.setCell
  simp [Array.getElem?_modify, Ne.symm h]
theorem Own.other {w : World} {B : Nat} {v : Value} {xs : List Nat} (h : Own w B v xs) {g : Nat} (i : Nat) (u : Value) (hg : g < B) : Own (w.setCell ⟨g, i, none⟩ u) B v xs := by
  refine ⟨h.1, h.2.1, ?_⟩
  rcases h.2.2 with h0 | ⟨g', cap, cur, h1, hg', hgg, r⟩
  · exact .inl h0
  · exact .inr ⟨g', cap, cur, h1, hg', (block_setCell_other u (by omega)).trans hgg, r⟩
theorem BoxW.set0 {w : World} {g : Nat} {x y : Value} (h : BoxW w g x y) (u : Value) : BoxW (w.setCell ⟨g, 0, none⟩ u) g u y :=
  ⟨⟨World.cell?_setCell_same _ _ _ h.1.1, (World.cell?_setCell_other (h := by simp) ..).trans h.1.2⟩, by rw [World.frozen?_setCell]; exact h.2.1, by rw [World.frozen?_setCell]; exact h.2.2⟩
theorem BoxW.set1 {w : World} {g : Nat} {x y : Value} (h : BoxW w g x y) (u : Value) : BoxW (w.setCell ⟨g, 1, none⟩ u) g x u :=
  ⟨⟨(World.cell?_setCell_other (h := by simp) ..).trans h.1.1, World.cell?_setCell_same _ _ _ h.1.2⟩, by rw [World.frozen?_setCell]; exact h.2.1, by rw [World.frozen?_setCell]; exact h.2.2⟩
end Go.Proofs.YtbcgiodgobmkaaaGreatDoor
namespace Go.Proofs.YtbcgiodgobmkaaaGreatDoor
open Go.RowKit Go.Sort
set_option linter.unusedVariables false
set_option linter.unusedSimpArgs false
set_option maxRecDepth 4000

/-- A row as it lies in memory: its slice of words, what it holds, its text. -/
structure RV where
  a : Option Addr
  n : Nat
  c : Nat
  xs : List Nat
  s : ByteArray
/-- What stands behind the end of a list of rows. -/
def RV.dflt : RV := ⟨none, 0, 0, [], ⟨#[]⟩⟩
/-- A slice of n rows that can be read: they are rs. -/
def RowsAt (w : World) (a : Option Addr) (n : Nat) (rs : List RV) : Prop :=
  rs.length = n ∧ (∀ i, i < n → RowAt w (rs.getD i .dflt).a (rs.getD i .dflt).n (rs.getD i .dflt).xs) ∧ (n = 0 ∨ ∃ b off, a = some ⟨b, off, none⟩ ∧
    ∀ i, i < n → w.cell? ⟨b, off + i * 2, none⟩ = some (.slice (rs.getD i .dflt).a (rs.getD i .dflt).n (rs.getD i .dflt).c) ∧ w.cell? ⟨b, off + i * 2 + 1, none⟩ = some (.string (rs.getD i .dflt).s))
theorem RowsAt.at {w : World} {a : Option Addr} {n : Nat} {rs : List RV} (h : RowsAt w a n rs) {i : Nat} (hi : i < n) :
    ∃ b off, a = some ⟨b, off, none⟩ ∧ ∀ i, i < n → w.cell? ⟨b, off + i * 2, none⟩ = some (.slice (rs.getD i .dflt).a (rs.getD i .dflt).n (rs.getD i .dflt).c) ∧ w.cell? ⟨b, off + i * 2 + 1, none⟩ = some (.string (rs.getD i .dflt).s) := by
  rcases h.2.2 with h0 | h0
  · omega
  · exact h0
theorem RowsAt.below {w w' : World} {a : Option Addr} {n : Nat} {rs : List RV} (h : RowsAt w a n rs) (hb : Below w.heap.size w w') : RowsAt w' a n rs := by
  refine ⟨h.1, fun i hi => (h.2.1 i hi).below hb, ?_⟩
  rcases h.2.2 with h0 | ⟨b, off, rfl, hc⟩
  · exact .inl h0
  · exact .inr ⟨b, off, rfl, fun i hi => ⟨(hb.cell (World.block_lt_of_cell? w _ (hc i hi).1)).trans (hc i hi).1, (hb.cell (World.block_lt_of_cell? w _ (hc i hi).2)).trans (hc i hi).2⟩⟩
/-- Rows that are not too long. -/
def shortR (rs : List RV) : Prop := ∀ i, (rs.getD i .dflt).n ≤ 10 ∧ (rs.getD i .dflt).s.size ≤ 1000

end Go.Proofs.YtbcgiodgobmkaaaGreatDoor
namespace Go.Proofs.YtbcgiodgobmkaaaGreatDoor
open Go.RowKit Go.Sort
set_option linter.unusedVariables false
set_option linter.unusedSimpArgs false
set_option maxRecDepth 4000

/-- Each of the rows can be read, and has as much room as words. -/
def RowsIn (w : World) (rs : List RV) : Prop := ∀ r ∈ rs, RowAt w r.a r.n r.xs ∧ r.n ≤ r.c
theorem RowsIn.below {w w' : World} {rs : List RV} (h : RowsIn w rs) (hb : Below w.heap.size w w') : RowsIn w' rs := fun r hr => ⟨(h r hr).1.below hb, (h r hr).2⟩
theorem RowsIn.nil (w : World) : RowsIn w [] := fun r hr => by cases hr
theorem RowsIn.append {w : World} {rs ss : List RV} (h : RowsIn w rs) (k : RowsIn w ss) : RowsIn w (rs ++ ss) := fun r hr => (List.mem_append.1 hr).elim (h r) (k r)
theorem RowsIn.get {w : World} {rs : List RV} (h : RowsIn w rs) {i : Nat} (hi : i < rs.length) : RowAt w (rs.getD i .dflt).a (rs.getD i .dflt).n (rs.getD i .dflt).xs ∧ (rs.getD i .dflt).n ≤ (rs.getD i .dflt).c := by
  have := h rs[i] (List.getElem_mem hi)
  rwa [List.getD_eq_getElem?_getD, List.getElem?_eq_getElem hi]
end Go.Proofs.YtbcgiodgobmkaaaGreatDoor
namespace Go.Proofs.YtbcgiodgobmkaaaGreatDoor
open Go.RowKit
set_option linter.unusedVariables false
set_option linter.unusedSimpArgs false
set_option maxRecDepth 4000

theorem gb_refl (w : World) (r : Option Nat) : w.grownBy w r := ⟨rfl, rfl, rfl, Nat.le_refl _, fun _ _ _ => rfl⟩
theorem gb_of_below {w w' : World} (h : Below w.heap.size w w') (r : Option Nat) : w.grownBy w' r := ⟨h.os, h.tape, h.output, h.size, fun k hk _ => h.block k hk⟩
theorem gb_trans {w w1 w2 : World} {r r' : Option Nat} (h : w.grownBy w1 r) (k : w1.grownBy w2 r') (hr : r' = r ∨ ∀ j, r' = some j → w.heap.size ≤ j) : w.grownBy w2 r := by
  refine ⟨k.os.trans h.os, k.tape.trans h.tape, k.output.trans h.output, Nat.le_trans h.size k.size, fun j hj hne => ?_⟩
  refine (k.block j (Nat.lt_of_lt_of_le hj h.size) fun e => ?_).trans (h.block j hj hne)
  rcases hr with hr | hr
  · exact hne (e.trans hr)
  · have := hr j e.symm; omega
theorem gb_below {w w' : World} {r : Option Nat} (h : w.grownBy w' r) {B : Nat} (hB : B ≤ w.heap.size) (hr : ∀ k, r = some k → B ≤ k) : Below B w w' := (Below.refl B w).grown h hB hr
theorem gb_setCell (w : World) (g i : Nat) (u : Value) : w.grownBy (w.setCell ⟨g, i, none⟩ u) (some g) :=
  ⟨rfl, rfl, rfl, by simp [World.setCell], fun k _ hk => Below.heap_setCell _ _ _ _ (fun e => hk (by rw [e]))⟩
theorem gb_drew {w w' : World} {r : Option Nat} (h : w.grownBy w' r) : w.grownBy w'.drew r := ⟨h.os, h.tape, h.output, h.size, h.block⟩
theorem Own.kept {w w' : World} {B : Nat} {v : Value} {xs : List Nat} {row : Option Nat} (h : Own w B v xs) (hg : w.grownBy w' row) (hd : v.ownBlock = none ∨ v.ownBlock ≠ row) : Own w' B v xs := ⟨h.1, h.2.kept hg hd⟩
theorem Own.lt {w : World} {B : Nat} {v : Value} {xs : List Nat} (h : Own w B v xs) {k : Nat} (hk : v.ownBlock = some k) : B ≤ k ∧ k < w.heap.size := h.2.lt k hk
theorem RowAt.kept {w w' : World} {a : Option Addr} {n : Nat} {xs : List Nat} {row : Option Nat} (h : RowAt w a n xs) (hg : w.grownBy w' row) (hd : n = 0 ∨ ∀ ad, a = some ad → some ad.block ≠ row) : RowAt w' a n xs := by
  refine ⟨h.1, h.2.1, ?_⟩
  rcases h.2.2 with h0 | ⟨b, off, rfl, hc⟩
  · exact .inl h0
  · rcases hd with h0 | hd
    · exact .inl h0
    · exact .inr ⟨b, off, rfl, fun i hi => hg.cell (hc i hi) (hd ⟨b, off, none⟩ rfl)⟩
theorem RowAt.lt {w : World} {a : Option Addr} {n : Nat} {xs : List Nat} (h : RowAt w a n xs) : n = 0 ∨ ∀ ad, a = some ad → ad.block < w.heap.size := by
  rcases h.2.2 with h0 | ⟨b, off, rfl, hc⟩
  · exact .inl h0
  · by_cases h0 : n = 0
    · exact .inl h0
    · right
      intro ad e
      simp only [Option.some.injEq] at e
      subst e
      exact World.block_lt_of_cell? w _ (hc 0 (by omega))

/-- A block of one's own behind a row of stores. -/
theorem setCells_block (g : Nat) (e : TypeId) : ∀ (vs : List Value) (o : Nat) (w : World) (cur : Array Value), w.heap[g]? = some (.cells cur e (0, 0)) →
    ∃ cur', (w.setCells g o vs).heap[g]? = some (.cells cur' e (0, 0)) ∧ cur'.size = cur.size ∧ ∀ j, j < cur.size → cur'[j]? = if o ≤ j ∧ j < o + vs.length then vs[j - o]? else cur[j]?
  | [], o, w, cur, h => ⟨cur, h, rfl, fun j hj => by rw [if_neg (by simp only [List.length_nil]; omega)]⟩
  | v :: r, o, w, cur, h => by
    obtain ⟨cur', h1, h2, h3⟩ := setCells_block g e r (o + 1) (w.setCell ⟨g, o, none⟩ v) (cur.setIfInBounds o v) (heap_setCell_same w g o cur e v h)
    refine ⟨cur', h1, by simpa using h2, fun j hj => ?_⟩
    rw [h3 j (by simpa using hj)]
    by_cases hjo : j = o
    · subst hjo
      rw [if_neg (by omega), if_pos (by simp)]
      simp [hj]
    · by_cases hin : o + 1 ≤ j ∧ j < o + 1 + r.length
      · rw [if_pos hin, if_pos (by simp; omega)]
        rw [show j - o = (j - (o + 1)) + 1 by omega, List.getElem?_cons_succ]
      · rw [if_neg hin, if_neg (by simp; omega)]
        rw [Array.getElem?_setIfInBounds_ne (by omega)]
theorem setCells_gb (g : Nat) : ∀ (vs : List Value) (o : Nat) (w : World), w.grownBy (w.setCells g o vs) (some g)
  | [], o, w => gb_refl _ _
  | v :: r, o, w => gb_trans (gb_setCell w g o v) (setCells_gb g r (o + 1) _) (.inl rfl)
end Go.Proofs.YtbcgiodgobmkaaaGreatDoor
namespace Go.Proofs.YtbcgiodgobmkaaaGreatDoor
open Go.RowKit
set_option linter.unusedVariables false
set_option linter.unusedSimpArgs false
set_option maxRecDepth 4000

theorem div_wrap (i : Int) (q : Nat) (h0 : 0 ≤ i) (hi : i ≤ 9223372036854775807) (hq : i / 64 = (q : Int)) : IntKind.i64.wrap (i.tdiv 64) = (q : Int) := by
  rw [Int.tdiv_eq_ediv_of_nonneg h0, hq]
  simp [IntKind.wrap, IntKind.bits, IntKind.signed]
  omega
theorem Own.drew {w : World} {B : Nat} {v : Value} {xs : List Nat} (h : Own w B v xs) : Own w.drew B v xs := ⟨h.1, h.2.drew⟩

end Go.Proofs.YtbcgiodgobmkaaaGreatDoor
