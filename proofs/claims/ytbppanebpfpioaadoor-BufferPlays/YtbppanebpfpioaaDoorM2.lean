/-
  Texts as lists of bytes; slices of bytes of the call's own ('OwnB'); '[]byte(s)', 'string(b)' and 'copy(b, s)' on them. No condition.
  Contracts of words.Get and bucketlineref01.Get at every int: for every row of at most 2^20 words.
  Calls that leave what was there as it was, as steps of a quiet region. No condition.
  A row (a slice of words and a text) by value; contract of bucketlineref02.Same; callees in regions that draw their order.
  Slices of rows ('RowsAt'); contracts of bucketlinelaw02.Few, xor.vecs.
  Slices of packets ('PksAt'); contract of bucketlinelaw16.Few.
-/
import Derived.Test.YtbppanebpfpioaaDoorM1
import Derived.Laws.IdiomStrings
import Derived.Laws.CopyRow
import Derived.Laws.MakeOwn
import Derived.Lib.QuietBelow
import Derived.Deep.RegionWith
namespace Go.Proofs.YtbppanebpfpioaaDoor
open Go.RowKit
set_option linter.unusedVariables false
set_option maxRecDepth 4000

/-- The bytes of a text. -/
def tx (s : ByteArray) : List Nat := s.data.toList.map fun b => b.toNat
/-- The text of bytes. -/
def st (xs : List Nat) : ByteArray := ⟨(xs.map UInt8.ofNat).toArray⟩
def bytes (xs : List Nat) : Prop := ∀ x ∈ xs, x < 256
theorem tx_length (s : ByteArray) : (tx s).length = s.size := by cases s; simp [tx, ByteArray.size]
theorem tx_bytes (s : ByteArray) : bytes (tx s) := by
  intro x hx
  obtain ⟨b, _, rfl⟩ := List.mem_map.1 hx
  exact b.toNat_lt
theorem st_tx (s : ByteArray) : st (tx s) = s := by
  cases s with
  | mk d =>
    unfold st tx
    congr 1
    rw [List.map_map]
    have e : ((fun x => UInt8.ofNat x) ∘ fun b : UInt8 => b.toNat) = id := by funext b; simp
    rw [e]; simp
theorem tx_st {xs : List Nat} (h : bytes xs) : tx (st xs) = xs := by
  unfold tx st
  simp only [List.map_map]
  conv => rhs; rw [← List.map_id xs]
  apply List.map_congr_left
  intro x hx
  have := h x hx
  simp [Nat.mod_eq_of_lt this]
theorem tx_inj {a b : ByteArray} (h : tx a = tx b) : a = b := by rw [← st_tx a, ← st_tx b, h]
theorem bytes_take {xs : List Nat} (h : bytes xs) (k : Nat) : bytes (xs.take k) := fun x hx => h x (List.mem_of_mem_take hx)
theorem bytes_drop {xs : List Nat} (h : bytes xs) (k : Nat) : bytes (xs.drop k) := fun x hx => h x (List.mem_of_mem_drop hx)
theorem bytes.get {xs : List Nat} (h : bytes xs) (i : Nat) : xs.getD i 0 < 256 := by
  rw [List.getD_eq_getElem?_getD]
  cases hx : xs[i]? with
  | none => simp
  | some x => exact h x (List.mem_of_getElem? hx)
theorem tx_get (s : ByteArray) (k : Nat) (h : k < s.size) : s[k].toNat = (tx s).getD k 0 := by
  cases s with
  | mk d =>
    have hd : k < d.size := h
    simp only [tx, List.getD_eq_getElem?_getD, List.getElem?_map, Array.getElem?_toList, Array.getElem?_eq_getElem hd]
    rfl
theorem bytes.set {xs : List Nat} (h : bytes xs) (i x : Nat) (hx : x < 256) : bytes (xs.set i x) := by
  intro y hy
  rcases List.mem_or_eq_of_mem_set hy with h1 | rfl
  · exact h y h1
  · exact hx
theorem xorB_lt {x y : Nat} (hx : x < 256) (hy : y < 256) : x ^^^ y < 256 := Nat.xor_lt_two_pow (n := 8) (by omega) (by omega)
theorem xorTo_bytes {xs ys : List Nat} (hx : bytes xs) (hy : bytes ys) (k : Nat) : bytes (xorTo xs ys k) := by
  intro z hz
  unfold xorTo at hz
  obtain ⟨i, _, rfl⟩ := List.mem_map.1 hz
  show (if i < k then xs.getD i 0 ^^^ ys.getD i 0 else xs.getD i 0) < 256
  split
  · exact xorB_lt (hx.get i) (hy.get i)
  · exact hx.get i
theorem xorL_bytes {xs ys : List Nat} (hx : bytes xs) (hy : bytes ys) : bytes (xorL xs ys) := by
  intro z hz
  unfold xorL at hz
  obtain ⟨i, _, rfl⟩ := List.mem_map.1 hz
  exact xorB_lt (hx.get i) (hy.get i)
theorem bytes_nil : bytes [] := fun _ h => by cases h
/-- The xor of two texts. -/
def xorS (a b : ByteArray) : ByteArray := st (xorL (tx a) (tx b))
theorem tx_xorS (a b : ByteArray) : tx (xorS a b) = xorL (tx a) (tx b) := tx_st (xorL_bytes (tx_bytes a) (tx_bytes b))
theorem xorS_size (a b : ByteArray) : (xorS a b).size = max a.size b.size := by rw [← tx_length, tx_xorS, xorL_length, tx_length, tx_length]
theorem xorL_nil (a : List Nat) : xorL a [] = a := by
  apply ext_getD
  · rw [xorL_length]; simp
  · intro i hi; rw [xorL_getD]; simp
theorem nil_xorL (a : List Nat) : xorL [] a = a := by rw [xorL_comm, xorL_nil]
theorem xorL_assoc (a b c : List Nat) : xorL (xorL a b) c = xorL a (xorL b c) := by
  apply ext_getD
  · simp only [xorL_length]; omega
  · intro i hi; simp only [xorL_getD]; exact Nat.xor_assoc _ _ _
theorem eq_texts (a b : ByteArray) : (a.toList == b.toList) = decide (a = b) := by
  rw [ByteArray.toList_eq, ByteArray.toList_eq, Bool.eq_iff_iff]
  simp only [beq_iff_eq, decide_eq_true_eq, Array.toList_inj]
  constructor
  · intro h; cases a; cases b; simp_all
  · intro h; rw [h]

/-- A slice of bytes of the call's own. -/
def OwnB (w : World) (B : Nat) (v : Value) (xs : List Nat) : Prop :=
  bytes xs ∧ ((v = .slice none 0 0 ∧ xs = []) ∨ ∃ g cap, v = .slice (some ⟨g, 0, none⟩) xs.length cap ∧ B ≤ g ∧ g < w.heap.size ∧
    (∀ i, i < xs.length → w.cell? ⟨g, i, none⟩ = some (.int .u8 ((xs.getD i 0 : Nat) : Int))) ∧ ∀ i, i < xs.length → w.frozen? ⟨g, i, none⟩ = false)
theorem OwnB.nil (w : World) (B : Nat) : OwnB w B (.slice none 0 0) [] := ⟨bytes_nil, .inl ⟨rfl, rfl⟩⟩
theorem OwnB.slice {w : World} {B : Nat} {v : Value} {xs : List Nat} (h : OwnB w B v xs) : ∃ a c, v = .slice a xs.length c := by
  rcases h.2 with ⟨rfl, rfl⟩ | ⟨g, cap, rfl, _⟩
  · exact ⟨_, _, rfl⟩
  · exact ⟨_, _, rfl⟩
theorem OwnB.at {w : World} {B : Nat} {v : Value} {xs : List Nat} (h : OwnB w B v xs) (hn : 0 < xs.length) :
    ∃ g cap, v = .slice (some ⟨g, 0, none⟩) xs.length cap ∧ B ≤ g ∧ g < w.heap.size ∧ (∀ i, i < xs.length → w.cell? ⟨g, i, none⟩ = some (.int .u8 ((xs.getD i 0 : Nat) : Int))) ∧ ∀ i, i < xs.length → w.frozen? ⟨g, i, none⟩ = false := by
  rcases h.2 with ⟨_, rfl⟩ | h
  · simp at hn
  · exact h
theorem OwnB.mono {w : World} {B B' : Nat} {v : Value} {xs : List Nat} (h : OwnB w B v xs) (hB : B' ≤ B) : OwnB w B' v xs := by
  refine ⟨h.1, ?_⟩
  rcases h.2 with h0 | ⟨g, cap, h1, hb, r⟩
  · exact .inl h0
  · exact .inr ⟨g, cap, h1, Nat.le_trans hB hb, r⟩
theorem OwnB.below {w w' : World} {B : Nat} {v : Value} {xs : List Nat} (h : OwnB w B v xs) (hb : Below w.heap.size w w') : OwnB w' B v xs := by
  refine ⟨h.1, ?_⟩
  rcases h.2 with h0 | ⟨g, cap, h1, hg, hgg, hc, hf⟩
  · exact .inl h0
  · exact .inr ⟨g, cap, h1, hg, Nat.lt_of_lt_of_le hgg hb.size, fun i hi => ((bcell hb).1 g i hgg).trans (hc i hi), fun i hi => ((bcell hb).2 g i hgg).trans (hf i hi)⟩
theorem OwnB.stored {w : World} {B g cap : Nat} {xs : List Nat} (h : OwnB w B (.slice (some ⟨g, 0, none⟩) xs.length cap) xs) (i x : Nat) (hx : x < 256) :
    OwnB (w.setCell ⟨g, i, none⟩ (.int .u8 (x : Int))) B (.slice (some ⟨g, 0, none⟩) xs.length cap) (xs.set i x) := by
  refine ⟨h.1.set i x hx, .inr ?_⟩
  rcases h.2 with ⟨h1, _⟩ | ⟨g', cap', h1, hg, hgg, hc, hf⟩
  · cases h1
  · simp only [Value.slice.injEq, Option.some.injEq, Addr.mk.injEq, and_true, true_and] at h1
    obtain ⟨rfl, rfl⟩ := h1
    refine ⟨g, cap, by rw [List.length_set], hg, by simpa using hgg, fun j hj => ?_, fun j hj => by rw [World.frozen?_setCell]; exact hf j (by simpa using hj)⟩
    rw [List.length_set] at hj
    rw [getD_set]
    by_cases e : j = i
    · subst e
      rw [if_pos ⟨rfl, hj⟩]
      exact World.cell?_setCell_same _ _ _ (hc j hj)
    · rw [if_neg (fun h => e h.1)]
      have hne : (⟨g, i, none⟩ : Addr) ≠ ⟨g, j, none⟩ := fun h => e (by injection h with h1 h2; exact h2.symm)
      exact (World.cell?_setCell_other (h := hne) ..).trans (hc j hj)
theorem OwnB.drew {w : World} {B : Nat} {v : Value} {xs : List Nat} (h : OwnB w B v xs) : OwnB w.drew B v xs := by
  refine ⟨h.1, ?_⟩
  rcases h.2 with h0 | ⟨g, cap, h1, hg, hgg, hc, hf⟩
  · exact .inl h0
  · exact .inr ⟨g, cap, h1, hg, hgg, hc, hf⟩

theorem xb_round {w wr : World} {B g cap : Nat} {xs ys : List Nat} {k z : Nat} (hx : bytes xs) (hy : bytes ys) (hk : k < xs.length) (hB : B ≤ g)
    (ho : OwnB wr B (.slice (some ⟨g, 0, none⟩) xs.length cap) (xorTo xs ys k)) (hb : Below B w wr) (hz : z = xs.getD k 0 ^^^ ys.getD k 0) :
    OwnB (wr.setCell ⟨g, k, none⟩ (.int .u8 (z : Int))) B (.slice (some ⟨g, 0, none⟩) xs.length cap) (xorTo xs ys (k + 1)) ∧ Below B w (wr.setCell ⟨g, k, none⟩ (.int .u8 (z : Int))) := by
  have hl := xorTo_length xs ys k
  subst hz
  rw [← hl] at ho
  have h1 := ho.stored k (xs.getD k 0 ^^^ ys.getD k 0) (xorB_lt (hx.get k) (hy.get k))
  rw [xorTo_succ xs ys k hk, hl] at h1
  exact ⟨h1, hb.setCell (by exact hB) _⟩
theorem xb_roundd {w wr : World} {B g cap : Nat} {xs ys : List Nat} {k z : Nat} (hx : bytes xs) (hy : bytes ys) (hk : k < xs.length) (hB : B ≤ g)
    (ho : OwnB wr B (.slice (some ⟨g, 0, none⟩) xs.length cap) (xorTo xs ys k)) (hb : Below B w wr) (hz : z = xs.getD k 0 ^^^ ys.getD k 0) :
    OwnB (wr.setCell ⟨g, k, none⟩ (.int .u8 (z : Int))).drew B (.slice (some ⟨g, 0, none⟩) xs.length cap) (xorTo xs ys (k + 1)) ∧ Below B w (wr.setCell ⟨g, k, none⟩ (.int .u8 (z : Int))).drew := by
  obtain ⟨h1, h2⟩ := xb_round hx hy hk hB ho hb hz
  exact ⟨h1.drew, h2.drew⟩

/-- 'string(b)' of a slice of one's own. -/
theorem OwnB.text {w : World} {B : Nat} {v : Value} {xs : List Nat} (h : OwnB w B v xs) : (convert 79 9 v).run Tryd.prog w = .ok (.string (st xs)) w := by
  rcases h.2 with ⟨rfl, rfl⟩ | ⟨g, cap, rfl, hg, hgg, hc, hf⟩
  · rw [run_convert_bytes_string w 79 9 5 none 0 0 Tryd.underlying79 Tryd.underlying5 Tryd.underlying9]
    rfl
  · have := run_convert_bytes_back (P := Tryd.prog) w 79 9 5 ⟨g, 0, none⟩ cap (xs.map UInt8.ofNat) Tryd.underlying79 Tryd.underlying5 Tryd.underlying9 (fun j hj => by
      have hj' : j < xs.length := by simpa using hj
      have e : (⟨g, 0, none⟩ : Addr).add j = ⟨g, j, none⟩ := by unfold Addr.add; split <;> simp_all
      rw [e, hc j hj']
      have hb := h.1.get j
      simp only [List.getElem_map]
      rw [List.getD_eq_getElem?_getD, List.getElem?_eq_getElem hj'] at hb ⊢
      simp only [Option.getD_some] at hb ⊢
      rw [UInt8.toNat_ofNat_of_lt' hb])
    rw [List.length_map] at this
    exact this

theorem info_u8 : (Tryd.prog.info? 5).map (fun i => (i.zero, i.size, i.bytes)) = some (some (.int .u8 0), 1, 1) := by kernel_rfl
/-- 'copy(b, s)', b new and as long as s. -/
theorem run_copy_text_of {P : Program} (w : World) (dT sT ty elem : TypeId) (g n cap : Nat) (s : ByteArray) (cur : Array Value) (t : TypeId) (hu : P.underlying dT = some (.slice elem)) (hs : (P.info? elem).map (·.size) = some 1)
    (hg : w.heap[g]? = some (.cells cur t (0, 0))) (hc : cur.size = s.size) (hn : n = s.size) :
    (Builtin.copy_ #[dT, sT] ty #[.slice (some ⟨g, 0, none⟩) n cap, .string s]).run P w = .ok (goInt s.size) (w.setRow g (s.data.map fun b => Value.int .u8 (b.toNat : Int))) := by
  subst hn
  have hlen : (s.data.toList.map fun b => Value.int .u8 (b.toNat : Int)).length = s.size := by rw [List.length_map]; rfl
  have hst := run_storeCells_at P g 0 t (s.data.toList.map fun b => Value.int .u8 (b.toNat : Int)) 0 cur w hg (by rw [hlen, hc]; omega)
    (fun v hv => by obtain ⟨b, _, rfl⟩ := List.mem_map.1 hv; rfl)
  have hd : (List.take (0 + 0) cur.toList ++ (s.data.toList.map fun b => Value.int .u8 (b.toNat : Int)) ++ List.drop (0 + 0 + (s.data.toList.map fun b => Value.int .u8 (b.toNat : Int)).length) cur.toList).toArray = s.data.map fun b => Value.int .u8 (b.toNat : Int) := by
    rw [List.drop_eq_nil_of_le (by rw [hlen, Array.length_toList, hc]; omega)]
    apply Array.ext'
    simp
  rw [hd] at hst
  have hmin : Nat.min s.size s.size = s.size := Nat.min_self _
  have hex : List.take s.size (s.data.toList.map fun b => Value.int .u8 (b.toNat : Int)) = s.data.toList.map fun b => Value.int .u8 (b.toNat : Int) := List.take_of_length_le (by rw [hlen]; omega)
  cases hq : P.info? elem with
  | none => simp [hq] at hs
  | some i =>
    simp [Builtin.copy_, run_underlying hu, Builtin.lenOf, Builtin.firstCells, sizeOf, typeInfo, hq, hmin, hex, hst]
theorem ret_str {a b : ByteArray} (h : a = b) : Ending.returned (.string a) = .returned (.string b) := by rw [h]

/-- '[]byte(s)'. -/
theorem bytes_text (w : World) (s : ByteArray) : ∃ w' cap, (convert 9 79 (.string s)).run Tryd.prog w = .ok (.slice (some ⟨w.heap.size, 0, none⟩) s.size cap) w' ∧
    OwnB w' w.heap.size (.slice (some ⟨w.heap.size, 0, none⟩) s.size cap) (tx s) ∧ Below w.heap.size w w' := by
  refine ⟨_, _, run_bytes_of_string w 9 79 5 s Tryd.underlying9 Tryd.underlying79 Tryd.underlying5, ⟨tx_bytes s, .inr ⟨w.heap.size, _, by rw [tx_length], Nat.le_refl _, by simp, fun i hi => ?_, fun i hi => ?_⟩⟩, ?_⟩
  · have hi' : i < s.size := by rwa [tx_length] at hi
    have h1 := World.cell?_alloc_mark w.drew (bytesRow s (grownCap w s.size 0 5)) 5 ((bytesRow s (grownCap w s.size 0 5)).size, (bytesRow s (grownCap w s.size 0 5)).size + 1) i
    refine h1.trans ?_
    rw [bytesRow_at s _ i hi', ← tx_get s i hi']
    rfl
  · have hi' : i < s.size := by rwa [tx_length] at hi
    have h1 := World.frozen?_alloc_mark w.drew (bytesRow s (grownCap w s.size 0 5)) 5 (bytesRow s (grownCap w s.size 0 5)).size ((bytesRow s (grownCap w s.size 0 5)).size + 1) i
    refine h1.trans ?_
    have h2 : s.size ≤ (bytesRow s (grownCap w s.size 0 5)).size := by
      unfold bytesRow
      rw [Array.size_append, Array.size_map]
      exact Nat.le_add_right _ _
    have : ¬ (bytesRow s (grownCap w s.size 0 5)).size ≤ i := by omega
    simp [this]
  · exact ((Below.refl _ _).drew).alloc (Nat.le_refl _) _
theorem tx_append (a b : ByteArray) : tx (a ++ b) = tx a ++ tx b := by
  unfold tx
  rw [ByteArray.data_append, Array.toList_append, List.map_append]
theorem st_len (xs : List Nat) : (st xs).size = xs.length := by simp [st, ByteArray.size]
theorem tx_cut (s : ByteArray) (a b : Nat) : tx (s.extract a b) = ((tx s).drop a).take (b - a) := by
  unfold tx
  rw [ByteArray.data_extract, Array.toList_extract, List.extract_eq_take_drop, List.map_take, List.map_drop]
theorem min_run (x y : Nat) (ts : Array TypeId) (t : TypeId) (w : World) : (Builtin.min_ ts t #[.int .i64 (x : Int), .int .i64 (y : Int)]).run Tryd.prog w = .ok (.int .i64 ((min x y : Nat) : Int)) w := by
  rw [run_min_int2]
  congr 2
  split <;> omega
end Go.Proofs.YtbppanebpfpioaaDoor
namespace Go.Proofs.YtbppanebpfpioaaDoor
open Go.RowKit
set_option linter.unusedVariables false
set_option maxRecDepth 4000

/-- Bit i of a row, for every int. -/
def getI (xs : List Nat) (i : Int) : Bool := if i < 0 then false else getB xs i.toNat
theorem getI_out {xs : List Nat} {i : Int} (h : ¬ (0 ≤ i ∧ i / 64 < (xs.length : Int))) : getI xs i = false := by
  unfold getI
  split
  · rfl
  · exact getB_out xs _ (by omega)
theorem getI_in {xs : List Nat} {i : Int} (h : 0 ≤ i) : getI xs i = getB xs i.toNat := by
  unfold getI
  rw [if_neg (by omega)]
theorem get_any (a : Option Addr) (n c : Nat) (xs : List Nat) (i : Int) (w : World) (h : RowAt w a n xs) (hn : n ≤ 1048576) (hi : i ≤ 9223372036854775807) :
    Calls Tryd.prog 70 #[.slice a n c, .int .i64 i] w fun e w' => e = .returned (.bool (getI xs i)) ∧ ∃ d, w' = w.drewN d := by
  by_cases hin : 0 ≤ i ∧ i / 64 < (xs.length : Int)
  · rw [getI_in hin.1]
    exact get_in a n c xs i w h hin.1 hi (by rw [← h.1]; exact hin.2) (by omega)
  · rw [getI_out hin]
    exact get_out a n c i w hi (by rw [← h.1]; omega)
theorem rget_any (a : Option Addr) (n c : Nat) (xs : List Nat) (i : Int) (w : World) (h : RowAt w a n xs) (hn : n ≤ 1048576) (hi : i ≤ 9223372036854775807) :
    Calls Tryd.prog 46 #[.slice a n c, .int .i64 i] w fun e w' => e = .returned (.bool (getI xs i)) ∧ w' = w := by
  by_cases hin : 0 ≤ i ∧ i / 64 < (xs.length : Int)
  · rw [getI_in hin.1]
    exact rget_in a n c xs i w h hin.1 hi (by rw [← h.1]; exact hin.2) (by omega)
  · rw [getI_out hin]
    exact rget_out a n c i w hi (by rw [← h.1]; omega)
theorem getI_nat (xs : List Nat) (k : Nat) : getI xs (k : Int) = getB xs k := by rw [getI_in (by omega), Int.toNat_natCast]
theorem getN_any (a : Option Addr) (n c : Nat) (xs : List Nat) (k : Nat) (w : World) (h : RowAt w a n xs) (hn : n ≤ 1048576) (hk : k ≤ 9223372036854775807) :
    Calls Tryd.prog 70 #[.slice a n c, .int .i64 (k : Int)] w fun e w' => e = .returned (.bool (getB xs k)) ∧ Below w.heap.size w w' := by
  refine (get_any a n c xs k w h hn (by omega)).mono ?_
  rintro e w' ⟨rfl, d, rfl⟩
  rw [getI_nat]
  exact ⟨rfl, below_drewN (Below.refl _ _) d⟩
theorem rgetN_any (a : Option Addr) (n c : Nat) (xs : List Nat) (k : Nat) (w : World) (h : RowAt w a n xs) (hn : n ≤ 1048576) (hk : k ≤ 9223372036854775807) :
    Calls Tryd.prog 46 #[.slice a n c, .int .i64 (k : Int)] w fun e w' => e = .returned (.bool (getB xs k)) ∧ w' = w := by
  refine (rget_any a n c xs k w h hn (by omega)).mono ?_
  rintro e w' ⟨rfl, rfl⟩
  rw [getI_nat]
  exact ⟨rfl, rfl⟩
end Go.Proofs.YtbppanebpfpioaaDoor
namespace Go.Proofs.YtbppanebpfpioaaDoor
open Go.RowKit Go.Sort
set_option linter.unusedVariables false
set_option maxRecDepth 4000

/-- A callee in a region that draws its order, in whatever world that region can have come to. -/
theorem quietB {W : World} {f : FuncId} {args : Array Value} {v : Value} (h : ∀ w', Below W.heap.size W w' → Calls Tryd.prog f args w' fun e w'' => e = .returned v ∧ Below w'.heap.size w' w'') (d : Nat) (os : Array Obj) :
    Calls Tryd.prog f args (grow (redrawn W d) os) fun e w'' => e = .returned v ∧ ∃ p : Regrown, w'' = grow (redrawn W p.d) p.os :=
  Calls.regrown_of (h _ (below_regrown W d os))
theorem same_below {f : FuncId} {args : Array Value} {v : Value} {w : World} (h : Calls Tryd.prog f args w fun e w'' => e = .returned v ∧ w'' = w) : Calls Tryd.prog f args w fun e w'' => e = .returned v ∧ Below w.heap.size w w'' :=
  h.mono fun e w' ⟨he, hw⟩ => ⟨he, by rw [hw]; exact Below.refl _ _⟩
end Go.Proofs.YtbppanebpfpioaaDoor
namespace Go.Proofs.YtbppanebpfpioaaDoor
open Go.RowKit Go.Sort
set_option linter.unusedVariables false
set_option maxRecDepth 4000

/-- A block that holds a row. -/
def BoxAt (w : World) (g : Nat) (x y : Value) : Prop := w.cell? ⟨g, 0, none⟩ = some x ∧ w.cell? ⟨g, 1, none⟩ = some y
theorem box_new (w : World) (x y : Value) : BoxAt (w.alloc (.cells #[x, y] 32)) w.heap.size x y := by
  constructor <;> simp
theorem BoxAt.below {w w' : World} {g : Nat} {x y : Value} (h : BoxAt w g x y) (hb : Below w.heap.size w w') : BoxAt w' g x y :=
  ⟨(hb.cell (World.block_lt_of_cell? w _ h.1)).trans h.1, (hb.cell (World.block_lt_of_cell? w _ h.2)).trans h.2⟩
theorem BoxAt.alloc {w : World} {g : Nat} {x y : Value} (h : BoxAt w g x y) (o : Obj) : BoxAt (w.alloc o) g x y := h.below ((Below.refl _ _).alloc (Nat.le_refl _) _)

set_option maxHeartbeats 400000 in
theorem rsame2_any (a : Option Addr) (n c : Nat) (xs : List Nat) (s : ByteArray) (a' : Option Addr) (m c' : Nat) (ys : List Nat) (t : ByteArray) (w : World) (h : RowAt w a n xs) (h' : RowAt w a' m ys) (hn : n ≤ 1048576) (hm : m ≤ 1048576) :
    Calls Tryd.prog 32 #[.agg #[.slice a n c, .string s], .agg #[.slice a' m c', .string t]] w fun e w' => e = .returned (.bool (decide (cnt (xorL xs ys) = 0) && decide (s = t))) ∧ Below w.heap.size w w' := by
  have hst := eq_texts s t
  have H := hide h
  have H' := hide h'
  clear h h'
  go_enter Tryd.func32, Tryd.ntmps32
  go_wp2_with fail
  refine (rsame_any a n c xs a' m c' ys _ (row_alloc (row_alloc (unhide H) _) _) (row_alloc (row_alloc (unhide H') _) _) hn hm).mono ?_
  rintro e w1 ⟨rfl, hb⟩
  have hx1 := ((box_new w (.slice a n c) (.string s)).alloc (.cells #[.slice a' m c', .string t] 32)).below hb
  have hx2 := (box_new (w.alloc (.cells #[.slice a n c, .string s] 32)) (.slice a' m c') (.string t)).below hb
  rw [alloc_size] at hx2
  obtain ⟨_, hc1⟩ := hx1
  obtain ⟨_, hc2⟩ := hx2
  have HB := hide (below2 (Below.refl _ w) hb)
  clear hb
  cases hd : decide (cnt (xorL xs ys) = 0)
  · go_wp2
    go_ret
    exact ⟨ret_bool (by rw [hd]; rfl), unhide HB⟩
  · go_wp2
    go_ret
    exact ⟨ret_bool (by rw [hd]; rfl), unhide HB⟩

/-- A block of one's own that holds a row and can be written. -/
def BoxW (w : World) (g : Nat) (x y : Value) : Prop := BoxAt w g x y ∧ w.frozen? ⟨g, 0, none⟩ = false ∧ w.frozen? ⟨g, 1, none⟩ = false
theorem boxW_new (w : World) (x y : Value) : BoxW (w.alloc (.cells #[x, y] 32)) w.heap.size x y := ⟨box_new w x y, by simp, by simp⟩
theorem BoxW.below {w w' : World} {g : Nat} {x y : Value} (h : BoxW w g x y) (hb : Below w.heap.size w w') : BoxW w' g x y :=
  ⟨h.1.below hb, (hb.frozen (World.block_lt_of_cell? w _ h.1.1)).trans h.2.1, (hb.frozen (World.block_lt_of_cell? w _ h.1.2)).trans h.2.2⟩
theorem BoxW.alloc {w : World} {g : Nat} {x y : Value} (h : BoxW w g x y) (o : Obj) : BoxW (w.alloc o) g x y := h.below ((Below.refl _ _).alloc (Nat.le_refl _) _)
theorem BoxW.other {w : World} {g : Nat} {x y : Value} (h : BoxW w g x y) {g' : Nat} (i : Nat) (u : Value) (hg : g' ≠ g) : BoxW (w.setCell ⟨g', i, none⟩ u) g x y := by
  have h0 : (⟨g', i, none⟩ : Addr) ≠ ⟨g, 0, none⟩ := fun h => hg (by injection h)
  have h1 : (⟨g', i, none⟩ : Addr) ≠ ⟨g, 1, none⟩ := fun h => hg (by injection h)
  exact ⟨⟨(World.cell?_setCell_other (h := h0) ..).trans h.1.1, (World.cell?_setCell_other (h := h1) ..).trans h.1.2⟩, by rw [World.frozen?_setCell]; exact h.2.1, by rw [World.frozen?_setCell]; exact h.2.2⟩
theorem block_setCell_other {w : World} {g k i : Nat} (u : Value) (h : k ≠ g) : (w.setCell ⟨g, i, none⟩ u).heap[k]? = w.heap[k]? := by
  unfold World.setCell
  simp [Array.getElem?_modify, Ne.symm h]
theorem Own.other {w : World} {B : Nat} {v : Value} {xs : List Nat} (h : Own w B v xs) {g : Nat} (i : Nat) (u : Value) (hg : g < B) : Own (w.setCell ⟨g, i, none⟩ u) B v xs := by
  refine ⟨h.1, h.2.1, ?_⟩
  rcases h.2.2 with h0 | ⟨g', cap, cur, h1, hg', hgg, r⟩
  · exact .inl h0
  · exact .inr ⟨g', cap, cur, h1, hg', (block_setCell_other u (by omega)).trans hgg, r⟩
theorem BoxW.set0 {w : World} {g : Nat} {x y : Value} (h : BoxW w g x y) (u : Value) : BoxW (w.setCell ⟨g, 0, none⟩ u) g u y :=
  ⟨⟨World.cell?_setCell_same _ _ _ h.1.1, (World.cell?_setCell_other (h := by simp) ..).trans h.1.2⟩, by rw [World.frozen?_setCell]; exact h.2.1, by rw [World.frozen?_setCell]; exact h.2.2⟩
theorem BoxW.set1 {w : World} {g : Nat} {x y : Value} (h : BoxW w g x y) (u : Value) : BoxW (w.setCell ⟨g, 1, none⟩ u) g x u :=
  ⟨⟨(World.cell?_setCell_other (h := by simp) ..).trans h.1.1, World.cell?_setCell_same _ _ _ h.1.2⟩, by rw [World.frozen?_setCell]; exact h.2.1, by rw [World.frozen?_setCell]; exact h.2.2⟩
end Go.Proofs.YtbppanebpfpioaaDoor
namespace Go.Proofs.YtbppanebpfpioaaDoor
open Go.RowKit Go.Sort
set_option linter.unusedVariables false
set_option maxRecDepth 4000

/-- A row as it lies in memory: its slice of words, what it holds, its text. -/
structure RV where
  a : Option Addr
  n : Nat
  c : Nat
  xs : List Nat
  s : ByteArray
/-- What stands behind the end of a list of rows. -/
def RV.dflt : RV := ⟨none, 0, 0, [], ⟨#[]⟩⟩
/-- A slice of n rows that can be read: they are rs. -/
def RowsAt (w : World) (a : Option Addr) (n : Nat) (rs : List RV) : Prop :=
  rs.length = n ∧ (∀ i, i < n → RowAt w (rs.getD i .dflt).a (rs.getD i .dflt).n (rs.getD i .dflt).xs) ∧ (n = 0 ∨ ∃ b off, a = some ⟨b, off, none⟩ ∧
    ∀ i, i < n → w.cell? ⟨b, off + i * 2, none⟩ = some (.slice (rs.getD i .dflt).a (rs.getD i .dflt).n (rs.getD i .dflt).c) ∧ w.cell? ⟨b, off + i * 2 + 1, none⟩ = some (.string (rs.getD i .dflt).s))
theorem RowsAt.at {w : World} {a : Option Addr} {n : Nat} {rs : List RV} (h : RowsAt w a n rs) {i : Nat} (hi : i < n) :
    ∃ b off, a = some ⟨b, off, none⟩ ∧ ∀ i, i < n → w.cell? ⟨b, off + i * 2, none⟩ = some (.slice (rs.getD i .dflt).a (rs.getD i .dflt).n (rs.getD i .dflt).c) ∧ w.cell? ⟨b, off + i * 2 + 1, none⟩ = some (.string (rs.getD i .dflt).s) := by
  rcases h.2.2 with h0 | h0
  · omega
  · exact h0
theorem RowsAt.below {w w' : World} {a : Option Addr} {n : Nat} {rs : List RV} (h : RowsAt w a n rs) (hb : Below w.heap.size w w') : RowsAt w' a n rs := by
  refine ⟨h.1, fun i hi => (h.2.1 i hi).below hb, ?_⟩
  rcases h.2.2 with h0 | ⟨b, off, rfl, hc⟩
  · exact .inl h0
  · exact .inr ⟨b, off, rfl, fun i hi => ⟨(hb.cell (World.block_lt_of_cell? w _ (hc i hi).1)).trans (hc i hi).1, (hb.cell (World.block_lt_of_cell? w _ (hc i hi).2)).trans (hc i hi).2⟩⟩
/-- Rows that are not too long. -/
def shortR (rs : List RV) : Prop := ∀ i, (rs.getD i .dflt).n ≤ 10 ∧ (rs.getD i .dflt).s.size ≤ 1000
def FewR (rs : List RV) : Prop := rs.length ≤ 300 ∧ shortR rs
def RetI (e : Ending) (P : Prop) : Prop := (e = .returned (.int .i64 1) ∧ P) ∨ (e = .returned (.int .i64 0) ∧ ¬ P)

end Go.Proofs.YtbppanebpfpioaaDoor
namespace Go.Proofs.YtbppanebpfpioaaDoor
open Go.RowKit Go.Sort
set_option linter.unusedVariables false
set_option maxRecDepth 4000

/-- A packet as it lies in memory: its five numbers, its row. -/
structure PKV where
  o : Int
  l : Int
  k : Int
  z : Int
  h : Int
  r : RV
/-- What stands behind the end of a list of packets. -/
def PKV.dflt : PKV := ⟨0, 0, 0, 0, 0, .dflt⟩
/-- The packet by value. -/
def PKV.val (p : PKV) : Value := .agg #[.int .i64 p.o, .int .i64 p.l, .int .i64 p.k, .int .i64 p.z, .int .i64 p.h, .slice p.r.a p.r.n p.r.c, .string p.r.s]
/-- Seven cells that hold a packet. -/
def PkCells (w : World) (b off : Nat) (p : PKV) : Prop :=
  w.cell? ⟨b, off, none⟩ = some (.int .i64 p.o) ∧ w.cell? ⟨b, off + 1, none⟩ = some (.int .i64 p.l) ∧ w.cell? ⟨b, off + 2, none⟩ = some (.int .i64 p.k) ∧ w.cell? ⟨b, off + 3, none⟩ = some (.int .i64 p.z) ∧ w.cell? ⟨b, off + 4, none⟩ = some (.int .i64 p.h) ∧
    w.cell? ⟨b, off + 5, none⟩ = some (.slice p.r.a p.r.n p.r.c) ∧ w.cell? ⟨b, off + 6, none⟩ = some (.string p.r.s)
theorem PkCells.belowB {w w' : World} {b off B : Nat} {p : PKV} (h : PkCells w b off p) (hb : Below B w w') (hB : b < B) : PkCells w' b off p :=
  ⟨(hb.cell (p := ⟨b, off, none⟩) hB).trans h.1, (hb.cell (p := ⟨b, off + 1, none⟩) hB).trans h.2.1, (hb.cell (p := ⟨b, off + 2, none⟩) hB).trans h.2.2.1, (hb.cell (p := ⟨b, off + 3, none⟩) hB).trans h.2.2.2.1, (hb.cell (p := ⟨b, off + 4, none⟩) hB).trans h.2.2.2.2.1, (hb.cell (p := ⟨b, off + 5, none⟩) hB).trans h.2.2.2.2.2.1, (hb.cell (p := ⟨b, off + 6, none⟩) hB).trans h.2.2.2.2.2.2⟩
theorem PkCells.below {w w' : World} {b off : Nat} {p : PKV} (h : PkCells w b off p) (hb : Below w.heap.size w w') : PkCells w' b off p := h.belowB hb (World.block_lt_of_cell? w _ h.1)
/-- A slice of n packets that can be read: they are ps. -/
def PksAt (w : World) (a : Option Addr) (n : Nat) (ps : List PKV) : Prop :=
  ps.length = n ∧ (∀ i, i < n → RowAt w (ps.getD i .dflt).r.a (ps.getD i .dflt).r.n (ps.getD i .dflt).r.xs) ∧ (n = 0 ∨ ∃ b off, a = some ⟨b, off, none⟩ ∧ ∀ i, i < n → PkCells w b (off + i * 7) (ps.getD i .dflt))
theorem PksAt.at {w : World} {a : Option Addr} {n : Nat} {ps : List PKV} (h : PksAt w a n ps) {i : Nat} (hi : i < n) : ∃ b off, a = some ⟨b, off, none⟩ ∧ ∀ i, i < n → PkCells w b (off + i * 7) (ps.getD i .dflt) := by
  rcases h.2.2 with h0 | h0
  · omega
  · exact h0
theorem PksAt.below {w w' : World} {a : Option Addr} {n : Nat} {ps : List PKV} (h : PksAt w a n ps) (hb : Below w.heap.size w w') : PksAt w' a n ps := by
  refine ⟨h.1, fun i hi => (h.2.1 i hi).below hb, ?_⟩
  rcases h.2.2 with h0 | ⟨b, off, rfl, hc⟩
  · exact .inl h0
  · exact .inr ⟨b, off, rfl, fun i hi => (hc i hi).below hb⟩
/-- Packets that are not too long, nor too many. -/
def shortP (ps : List PKV) : Prop := ∀ i, (ps.getD i .dflt).r.n ≤ 10 ∧ (ps.getD i .dflt).r.s.size ≤ 1000
def FewK (ps : List PKV) : Prop := ps.length ≤ 60 ∧ shortP ps

set_option maxHeartbeats 400000 in
theorem fewP_any (a : Option Addr) (n c : Nat) (ps : List PKV) (w : World) (h : PksAt w a n ps) (hn : n ≤ 9223372036854775807) (hbig : ∀ i, (ps.getD i .dflt).r.n ≤ 9223372036854775807 ∧ (ps.getD i .dflt).r.s.size ≤ 9223372036854775807) :
    Calls Tryd.prog 8 #[.slice a n c] w fun e w' => RetI e (FewK ps) ∧ w' = w := by
  obtain rfl := h.1
  by_cases h3 : 60 < ps.length
  · have hd : decide (60 < (ps.length : Int)) = true := by simp; omega
    clear h
    go_enter Tryd.func8, Tryd.ntmps8
    go_wp2
    go_ret
    exact ⟨.inr ⟨rfl, fun h => by have := h.1; omega⟩, rfl⟩
  · have hd : decide (60 < (ps.length : Int)) = false := by simp; omega
    go_enter Tryd.func8, Tryd.ntmps8
    go_wp2
    go_loop [3] (fun i => ∃ k : Nat, k ≤ ps.length ∧ i = .int .i64 k ∧ Hid (∀ j, j < k → (ps.getD j .dflt).r.n ≤ 10 ∧ (ps.getD j .dflt).r.s.size ≤ 1000)) (fun i => ps.length - (intOf i).toNat)
    case atStart => exact ⟨0, Nat.zero_le _, rfl, hide (fun j hj => by omega)⟩
    case round =>
      obtain ⟨k, hk, rfl, HZ⟩ := hrel
      by_cases hlt : k < ps.length
      · obtain ⟨b, off, rfl, hc⟩ := h.at hlt
        obtain ⟨-, -, -, -, -, hc0, hc1⟩ := hc k hlt
        have hlt' : (k : Int) < (ps.length : Int) := by omega
        have hbk := hbig k
        clear hc h
        by_cases h1 : 10 < (ps.getD k .dflt).r.n
        · have hd1 : decide (10 < ((ps.getD k .dflt).r.n : Int)) = true := by simp only [decide_eq_true_eq]; omega
          have HF : Hid (¬ FewK ps) := hide (fun h => by have := (h.2 k).1; omega)
          clear hbig
          generalize (ps.getD k .dflt).r = x at *
          go_wp2
          go_ret
          exact ⟨.inr ⟨rfl, unhide HF⟩, rfl⟩
        · have hd1 : decide (10 < ((ps.getD k .dflt).r.n : Int)) = false := by simp only [decide_eq_false_iff_not]; omega
          by_cases h2 : 1000 < (ps.getD k .dflt).r.s.size
          · have hd2 : decide (1000 < ((ps.getD k .dflt).r.s.size : Int)) = true := by simp only [decide_eq_true_eq]; omega
            have HF : Hid (¬ FewK ps) := hide (fun h => by have := (h.2 k).2; omega)
            clear hbig
            generalize (ps.getD k .dflt).r = x at *
            go_wp2
            go_ret
            exact ⟨.inr ⟨rfl, unhide HF⟩, rfl⟩
          · have hd2 : decide (1000 < ((ps.getD k .dflt).r.s.size : Int)) = false := by simp only [decide_eq_false_iff_not]; omega
            have HS := hide (show ∀ j, j < k + 1 → (ps.getD j .dflt).r.n ≤ 10 ∧ (ps.getD j .dflt).r.s.size ≤ 1000 from fun j hj => by
              by_cases e : j = k
              · rw [e]; omega
              · exact unhide HZ j (by omega))
            generalize (ps.getD k .dflt).r = x at *
            clear HZ hbig
            go_wp2
            go_round
            case rel => exact ⟨k + 1, by omega, by go_num, HS⟩
            case measure => simp [intOf]; omega
      · have HF : Hid (FewK ps) := hide ⟨by omega, fun i => by
          by_cases hi : i < k
          · exact unhide HZ i hi
          · rw [List.getD_eq_getElem?_getD, List.getElem?_eq_none (by omega)]
            exact ⟨Nat.zero_le _, Nat.zero_le _⟩⟩
        clear h HZ hbig
        go_wp2
        go_ret
        exact ⟨.inl ⟨rfl, unhide HF⟩, rfl⟩
end Go.Proofs.YtbppanebpfpioaaDoor
