/-
  Texts as lists of bytes; slices of bytes of the call's own ('OwnB'); '[]byte(s)', 'string(b)' and 'copy(b, s)' on them. No condition.
  Contracts of xor.add, xor.Xor, bucketlineref02.Xor, xor.zero: for every text of at most 2^20 bytes.
  Contracts of words.Get and bucketlineref01.Get at every int: for every row of at most 2^20 words.
  Contracts of xor.Xor, bucketlineref02.Xor, xor.zero, xor.Sum, bucketlineref02.Sum, xor.Of, bucketlineref02.Of: for texts of at most 2^20 bytes and rows of at most 2^20 words.
  How many of the first k bits of a row are set; the xor of two rows bit by bit. Plain lists of words; no condition.
  Slices of texts that can be read ('TextsAt'); slices of texts of the call's own ('OwnT'): made, appended to. No condition.
  Slices of texts ('TextsAt'); contracts of xor.Sum, bucketlineref02.Sum, xor.Of, bucketlineref02.Of, xor.reached: for up to 2^20 texts of at most 2^20 bytes.
  Calls that leave what was there as it was, as steps of a quiet region. No condition.
  A row (a slice of words and a text) by value; contract of bucketlineref02.Same; callees in regions that draw their order.
  Rows (a slice of words and a text) by value and in slices; contracts of bucketlineref02.Same, xor.Holds, bucketlineref02.Holds.
  Contracts of bucketlineref02.Holds, bucketlinelaw02.few.
  Slices of rows ('RowsAt'); contracts of bucketlinelaw02.Few, xor.vecs.
-/
import Derived.Test.YtjppopabjfncpaaDoorM1
import Derived.Laws.IdiomStrings
import Derived.Laws.CopyRow
import Derived.Laws.MakeOwn
import Derived.BigQuiet
import Derived.OwnWalk
import Derived.Lib.QuietBelow
import Derived.Deep.RegionWith
namespace Go.Proofs.YtjppopabjfncpaaDoor
open Go.RowKit
set_option linter.unusedVariables false
set_option maxRecDepth 4000

/-- The bytes of a text. -/
def tx (s : ByteArray) : List Nat := s.data.toList.map fun b => b.toNat
/-- The text of bytes. -/
def st (xs : List Nat) : ByteArray := ⟨(xs.map UInt8.ofNat).toArray⟩
def bytes (xs : List Nat) : Prop := ∀ x ∈ xs, x < 256
theorem tx_length (s : ByteArray) : (tx s).length = s.size := by cases s; simp [tx, ByteArray.size]
theorem tx_bytes (s : ByteArray) : bytes (tx s) := by
  intro x hx
  obtain ⟨b, _, rfl⟩ := List.mem_map.1 hx
  exact b.toNat_lt
theorem st_tx (s : ByteArray) : st (tx s) = s := by
  cases s with
  | mk d =>
    unfold st tx
    congr 1
    rw [List.map_map]
    have e : ((fun x => UInt8.ofNat x) ∘ fun b : UInt8 => b.toNat) = id := by funext b; simp
    rw [e]; simp
theorem tx_st {xs : List Nat} (h : bytes xs) : tx (st xs) = xs := by
  unfold tx st
  simp only [List.map_map]
  conv => rhs; rw [← List.map_id xs]
  apply List.map_congr_left
  intro x hx
  have := h x hx
  simp [Nat.mod_eq_of_lt this]
theorem tx_inj {a b : ByteArray} (h : tx a = tx b) : a = b := by rw [← st_tx a, ← st_tx b, h]
theorem bytes_take {xs : List Nat} (h : bytes xs) (k : Nat) : bytes (xs.take k) := fun x hx => h x (List.mem_of_mem_take hx)
theorem bytes_drop {xs : List Nat} (h : bytes xs) (k : Nat) : bytes (xs.drop k) := fun x hx => h x (List.mem_of_mem_drop hx)
theorem bytes.get {xs : List Nat} (h : bytes xs) (i : Nat) : xs.getD i 0 < 256 := by
  rw [List.getD_eq_getElem?_getD]
  cases hx : xs[i]? with
  | none => simp
  | some x => exact h x (List.mem_of_getElem? hx)
theorem tx_get (s : ByteArray) (k : Nat) (h : k < s.size) : s[k].toNat = (tx s).getD k 0 := by
  cases s with
  | mk d =>
    have hd : k < d.size := h
    simp only [tx, List.getD_eq_getElem?_getD, List.getElem?_map, Array.getElem?_toList, Array.getElem?_eq_getElem hd]
    rfl
theorem bytes.set {xs : List Nat} (h : bytes xs) (i x : Nat) (hx : x < 256) : bytes (xs.set i x) := by
  intro y hy
  rcases List.mem_or_eq_of_mem_set hy with h1 | rfl
  · exact h y h1
  · exact hx
theorem xorB_lt {x y : Nat} (hx : x < 256) (hy : y < 256) : x ^^^ y < 256 := Nat.xor_lt_two_pow (n := 8) (by omega) (by omega)
theorem xorTo_bytes {xs ys : List Nat} (hx : bytes xs) (hy : bytes ys) (k : Nat) : bytes (xorTo xs ys k) := by
  intro z hz
  unfold xorTo at hz
  obtain ⟨i, _, rfl⟩ := List.mem_map.1 hz
  show (if i < k then xs.getD i 0 ^^^ ys.getD i 0 else xs.getD i 0) < 256
  split
  · exact xorB_lt (hx.get i) (hy.get i)
  · exact hx.get i
theorem xorL_bytes {xs ys : List Nat} (hx : bytes xs) (hy : bytes ys) : bytes (xorL xs ys) := by
  intro z hz
  unfold xorL at hz
  obtain ⟨i, _, rfl⟩ := List.mem_map.1 hz
  exact xorB_lt (hx.get i) (hy.get i)
theorem bytes_nil : bytes [] := fun _ h => by cases h
/-- The xor of two texts. -/
def xorS (a b : ByteArray) : ByteArray := st (xorL (tx a) (tx b))
theorem tx_xorS (a b : ByteArray) : tx (xorS a b) = xorL (tx a) (tx b) := tx_st (xorL_bytes (tx_bytes a) (tx_bytes b))
theorem xorS_size (a b : ByteArray) : (xorS a b).size = max a.size b.size := by rw [← tx_length, tx_xorS, xorL_length, tx_length, tx_length]
theorem xorL_nil (a : List Nat) : xorL a [] = a := by
  apply ext_getD
  · rw [xorL_length]; simp
  · intro i hi; rw [xorL_getD]; simp
theorem nil_xorL (a : List Nat) : xorL [] a = a := by rw [xorL_comm, xorL_nil]
theorem xorL_assoc (a b c : List Nat) : xorL (xorL a b) c = xorL a (xorL b c) := by
  apply ext_getD
  · simp only [xorL_length]; omega
  · intro i hi; simp only [xorL_getD]; exact Nat.xor_assoc _ _ _
theorem eq_texts (a b : ByteArray) : (a.toList == b.toList) = decide (a = b) := by
  rw [ByteArray.toList_eq, ByteArray.toList_eq, Bool.eq_iff_iff]
  simp only [beq_iff_eq, decide_eq_true_eq, Array.toList_inj]
  constructor
  · intro h; cases a; cases b; simp_all
  · intro h; rw [h]

/-- A slice of bytes of the call's own. -/
def OwnB (w : World) (B : Nat) (v : Value) (xs : List Nat) : Prop :=
  bytes xs ∧ ((v = .slice none 0 0 ∧ xs = []) ∨ ∃ g cap, v = .slice (some ⟨g, 0, none⟩) xs.length cap ∧ B ≤ g ∧ g < w.heap.size ∧
    (∀ i, i < xs.length → w.cell? ⟨g, i, none⟩ = some (.int .u8 ((xs.getD i 0 : Nat) : Int))) ∧ ∀ i, i < xs.length → w.frozen? ⟨g, i, none⟩ = false)
theorem OwnB.nil (w : World) (B : Nat) : OwnB w B (.slice none 0 0) [] := ⟨bytes_nil, .inl ⟨rfl, rfl⟩⟩
theorem OwnB.slice {w : World} {B : Nat} {v : Value} {xs : List Nat} (h : OwnB w B v xs) : ∃ a c, v = .slice a xs.length c := by
  rcases h.2 with ⟨rfl, rfl⟩ | ⟨g, cap, rfl, _⟩
  · exact ⟨_, _, rfl⟩
  · exact ⟨_, _, rfl⟩
theorem OwnB.at {w : World} {B : Nat} {v : Value} {xs : List Nat} (h : OwnB w B v xs) (hn : 0 < xs.length) :
    ∃ g cap, v = .slice (some ⟨g, 0, none⟩) xs.length cap ∧ B ≤ g ∧ g < w.heap.size ∧ (∀ i, i < xs.length → w.cell? ⟨g, i, none⟩ = some (.int .u8 ((xs.getD i 0 : Nat) : Int))) ∧ ∀ i, i < xs.length → w.frozen? ⟨g, i, none⟩ = false := by
  rcases h.2 with ⟨_, rfl⟩ | h
  · simp at hn
  · exact h
theorem OwnB.mono {w : World} {B B' : Nat} {v : Value} {xs : List Nat} (h : OwnB w B v xs) (hB : B' ≤ B) : OwnB w B' v xs := by
  refine ⟨h.1, ?_⟩
  rcases h.2 with h0 | ⟨g, cap, h1, hb, r⟩
  · exact .inl h0
  · exact .inr ⟨g, cap, h1, Nat.le_trans hB hb, r⟩
theorem OwnB.below {w w' : World} {B : Nat} {v : Value} {xs : List Nat} (h : OwnB w B v xs) (hb : Below w.heap.size w w') : OwnB w' B v xs := by
  refine ⟨h.1, ?_⟩
  rcases h.2 with h0 | ⟨g, cap, h1, hg, hgg, hc, hf⟩
  · exact .inl h0
  · exact .inr ⟨g, cap, h1, hg, Nat.lt_of_lt_of_le hgg hb.size, fun i hi => ((bcell hb).1 g i hgg).trans (hc i hi), fun i hi => ((bcell hb).2 g i hgg).trans (hf i hi)⟩
theorem OwnB.stored {w : World} {B g cap : Nat} {xs : List Nat} (h : OwnB w B (.slice (some ⟨g, 0, none⟩) xs.length cap) xs) (i x : Nat) (hx : x < 256) :
    OwnB (w.setCell ⟨g, i, none⟩ (.int .u8 (x : Int))) B (.slice (some ⟨g, 0, none⟩) xs.length cap) (xs.set i x) := by
  refine ⟨h.1.set i x hx, .inr ?_⟩
  rcases h.2 with ⟨h1, _⟩ | ⟨g', cap', h1, hg, hgg, hc, hf⟩
  · cases h1
  · simp only [Value.slice.injEq, Option.some.injEq, Addr.mk.injEq, and_true, true_and] at h1
    obtain ⟨rfl, rfl⟩ := h1
    refine ⟨g, cap, by rw [List.length_set], hg, by simpa using hgg, fun j hj => ?_, fun j hj => by rw [World.frozen?_setCell]; exact hf j (by simpa using hj)⟩
    rw [List.length_set] at hj
    rw [getD_set]
    by_cases e : j = i
    · subst e
      rw [if_pos ⟨rfl, hj⟩]
      exact World.cell?_setCell_same _ _ _ (hc j hj)
    · rw [if_neg (fun h => e h.1)]
      have hne : (⟨g, i, none⟩ : Addr) ≠ ⟨g, j, none⟩ := fun h => e (by injection h with h1 h2; exact h2.symm)
      exact (World.cell?_setCell_other (h := hne) ..).trans (hc j hj)
theorem OwnB.drew {w : World} {B : Nat} {v : Value} {xs : List Nat} (h : OwnB w B v xs) : OwnB w.drew B v xs := by
  refine ⟨h.1, ?_⟩
  rcases h.2 with h0 | ⟨g, cap, h1, hg, hgg, hc, hf⟩
  · exact .inl h0
  · exact .inr ⟨g, cap, h1, hg, hgg, hc, hf⟩

theorem xb_round {w wr : World} {B g cap : Nat} {xs ys : List Nat} {k z : Nat} (hx : bytes xs) (hy : bytes ys) (hk : k < xs.length) (hB : B ≤ g)
    (ho : OwnB wr B (.slice (some ⟨g, 0, none⟩) xs.length cap) (xorTo xs ys k)) (hb : Below B w wr) (hz : z = xs.getD k 0 ^^^ ys.getD k 0) :
    OwnB (wr.setCell ⟨g, k, none⟩ (.int .u8 (z : Int))) B (.slice (some ⟨g, 0, none⟩) xs.length cap) (xorTo xs ys (k + 1)) ∧ Below B w (wr.setCell ⟨g, k, none⟩ (.int .u8 (z : Int))) := by
  have hl := xorTo_length xs ys k
  subst hz
  rw [← hl] at ho
  have h1 := ho.stored k (xs.getD k 0 ^^^ ys.getD k 0) (xorB_lt (hx.get k) (hy.get k))
  rw [xorTo_succ xs ys k hk, hl] at h1
  exact ⟨h1, hb.setCell (by exact hB) _⟩
theorem xb_roundd {w wr : World} {B g cap : Nat} {xs ys : List Nat} {k z : Nat} (hx : bytes xs) (hy : bytes ys) (hk : k < xs.length) (hB : B ≤ g)
    (ho : OwnB wr B (.slice (some ⟨g, 0, none⟩) xs.length cap) (xorTo xs ys k)) (hb : Below B w wr) (hz : z = xs.getD k 0 ^^^ ys.getD k 0) :
    OwnB (wr.setCell ⟨g, k, none⟩ (.int .u8 (z : Int))).drew B (.slice (some ⟨g, 0, none⟩) xs.length cap) (xorTo xs ys (k + 1)) ∧ Below B w (wr.setCell ⟨g, k, none⟩ (.int .u8 (z : Int))).drew := by
  obtain ⟨h1, h2⟩ := xb_round hx hy hk hB ho hb hz
  exact ⟨h1.drew, h2.drew⟩

/-- 'string(b)' of a slice of one's own. -/
theorem OwnB.text {w : World} {B : Nat} {v : Value} {xs : List Nat} (h : OwnB w B v xs) : (convert 63 9 v).run Tryd.prog w = .ok (.string (st xs)) w := by
  rcases h.2 with ⟨rfl, rfl⟩ | ⟨g, cap, rfl, hg, hgg, hc, hf⟩
  · rw [run_convert_bytes_string w 63 9 5 none 0 0 Tryd.underlying63 Tryd.underlying5 Tryd.underlying9]
    rfl
  · have := run_convert_bytes_back (P := Tryd.prog) w 63 9 5 ⟨g, 0, none⟩ cap (xs.map UInt8.ofNat) Tryd.underlying63 Tryd.underlying5 Tryd.underlying9 (fun j hj => by
      have hj' : j < xs.length := by simpa using hj
      have e : (⟨g, 0, none⟩ : Addr).add j = ⟨g, j, none⟩ := by unfold Addr.add; split <;> simp_all
      rw [e, hc j hj']
      have hb := h.1.get j
      simp only [List.getElem_map]
      rw [List.getD_eq_getElem?_getD, List.getElem?_eq_getElem hj'] at hb ⊢
      simp only [Option.getD_some] at hb ⊢
      rw [UInt8.toNat_ofNat_of_lt' hb])
    rw [List.length_map] at this
    exact this

theorem info_u8 : (Tryd.prog.info? 5).map (fun i => (i.zero, i.size, i.bytes)) = some (some (.int .u8 0), 1, 1) := by kernel_rfl
/-- 'copy(b, s)', b new and as long as s. -/
theorem run_copy_text_of {P : Program} (w : World) (dT sT ty elem : TypeId) (g n cap : Nat) (s : ByteArray) (cur : Array Value) (t : TypeId) (hu : P.underlying dT = some (.slice elem)) (hs : (P.info? elem).map (·.size) = some 1)
    (hg : w.heap[g]? = some (.cells cur t (0, 0))) (hc : cur.size = s.size) (hn : n = s.size) :
    (Builtin.copy_ #[dT, sT] ty #[.slice (some ⟨g, 0, none⟩) n cap, .string s]).run P w = .ok (goInt s.size) (w.setRow g (s.data.map fun b => Value.int .u8 (b.toNat : Int))) := by
  subst hn
  have hlen : (s.data.toList.map fun b => Value.int .u8 (b.toNat : Int)).length = s.size := by rw [List.length_map]; rfl
  have hst := run_storeCells_at P g 0 t (s.data.toList.map fun b => Value.int .u8 (b.toNat : Int)) 0 cur w hg (by rw [hlen, hc]; omega)
    (fun v hv => by obtain ⟨b, _, rfl⟩ := List.mem_map.1 hv; rfl)
  have hd : (List.take (0 + 0) cur.toList ++ (s.data.toList.map fun b => Value.int .u8 (b.toNat : Int)) ++ List.drop (0 + 0 + (s.data.toList.map fun b => Value.int .u8 (b.toNat : Int)).length) cur.toList).toArray = s.data.map fun b => Value.int .u8 (b.toNat : Int) := by
    rw [List.drop_eq_nil_of_le (by rw [hlen, Array.length_toList, hc]; omega)]
    apply Array.ext'
    simp
  rw [hd] at hst
  have hmin : Nat.min s.size s.size = s.size := Nat.min_self _
  have hex : List.take s.size (s.data.toList.map fun b => Value.int .u8 (b.toNat : Int)) = s.data.toList.map fun b => Value.int .u8 (b.toNat : Int) := List.take_of_length_le (by rw [hlen]; omega)
  cases hq : P.info? elem with
  | none => simp [hq] at hs
  | some i =>
    simp [Builtin.copy_, run_underlying hu, Builtin.lenOf, Builtin.firstCells, sizeOf, typeInfo, hq, hmin, hex, hst]
theorem ret_str {a b : ByteArray} (h : a = b) : Ending.returned (.string a) = .returned (.string b) := by rw [h]

/-- '[]byte(s)'. -/
theorem bytes_text (w : World) (s : ByteArray) : ∃ w' cap, (convert 9 63 (.string s)).run Tryd.prog w = .ok (.slice (some ⟨w.heap.size, 0, none⟩) s.size cap) w' ∧
    OwnB w' w.heap.size (.slice (some ⟨w.heap.size, 0, none⟩) s.size cap) (tx s) ∧ Below w.heap.size w w' := by
  refine ⟨_, _, run_bytes_of_string w 9 63 5 s Tryd.underlying9 Tryd.underlying63 Tryd.underlying5, ⟨tx_bytes s, .inr ⟨w.heap.size, _, by rw [tx_length], Nat.le_refl _, by simp, fun i hi => ?_, fun i hi => ?_⟩⟩, ?_⟩
  · have hi' : i < s.size := by rwa [tx_length] at hi
    have h1 := World.cell?_alloc_mark w.drew (bytesRow s (grownCap w s.size 0 5)) 5 ((bytesRow s (grownCap w s.size 0 5)).size, (bytesRow s (grownCap w s.size 0 5)).size + 1) i
    refine h1.trans ?_
    rw [bytesRow_at s _ i hi', ← tx_get s i hi']
    rfl
  · have hi' : i < s.size := by rwa [tx_length] at hi
    have h1 := World.frozen?_alloc_mark w.drew (bytesRow s (grownCap w s.size 0 5)) 5 (bytesRow s (grownCap w s.size 0 5)).size ((bytesRow s (grownCap w s.size 0 5)).size + 1) i
    refine h1.trans ?_
    have h2 : s.size ≤ (bytesRow s (grownCap w s.size 0 5)).size := by
      unfold bytesRow
      rw [Array.size_append, Array.size_map]
      exact Nat.le_add_right _ _
    have : ¬ (bytesRow s (grownCap w s.size 0 5)).size ≤ i := by omega
    simp [this]
  · exact ((Below.refl _ _).drew).alloc (Nat.le_refl _) _
theorem tx_append (a b : ByteArray) : tx (a ++ b) = tx a ++ tx b := by
  unfold tx
  rw [ByteArray.data_append, Array.toList_append, List.map_append]
theorem st_len (xs : List Nat) : (st xs).size = xs.length := by simp [st, ByteArray.size]
theorem tx_cut (s : ByteArray) (a b : Nat) : tx (s.extract a b) = ((tx s).drop a).take (b - a) := by
  unfold tx
  rw [ByteArray.data_extract, Array.toList_extract, List.extract_eq_take_drop, List.map_take, List.map_drop]
theorem min_run (x y : Nat) (ts : Array TypeId) (t : TypeId) (w : World) : (Builtin.min_ ts t #[.int .i64 (x : Int), .int .i64 (y : Int)]).run Tryd.prog w = .ok (.int .i64 ((min x y : Nat) : Int)) w := by
  rw [run_min_int2]
  congr 2
  split <;> omega
end Go.Proofs.YtjppopabjfncpaaDoor
namespace Go.Proofs.YtjppopabjfncpaaDoor
open Go.RowKit
set_option linter.unusedVariables false
set_option maxRecDepth 4000

theorem copy_text (w : World) (g : Nat) (t : ByteArray) (cur : Array Value) (e : TypeId) (hg : w.heap[g]? = some (.cells cur e (0, 0))) (hc : cur.size = t.size)
    (B : Nat) (w0 : World) (hb : Below B w0 w) (hBg : B ≤ g) :
    ∃ w', (Builtin.copy_ #[63, 9] 3 #[.slice (some ⟨g, 0, none⟩) t.size t.size, .string t]).run Tryd.prog w = .ok (goInt t.size) w' ∧ OwnB w' B (.slice (some ⟨g, 0, none⟩) t.size t.size) (tx t) ∧ Below B w0 w' := by
  obtain ⟨i0, hi0, hz0, hz1, hz2⟩ := info_parts info_u8
  refine ⟨_, run_copy_text_of w 63 9 3 5 g t.size t.size t cur e Tryd.underlying63 (by rw [hi0]; simp [hz1]) hg hc rfl, ⟨tx_bytes t, .inr ⟨g, t.size, by rw [tx_length], hBg, ?_, fun i hi => ?_, fun i hi => ?_⟩⟩, ?_⟩
  · simpa using (Array.getElem?_eq_some_iff.1 hg).1
  · rw [cell_setRow_same w g i _ _ _ _ hg]
    have hi' : i < t.size := by rwa [tx_length] at hi
    rw [← tx_get t i hi']
    have : i < t.data.size := hi'
    simp only [Array.getElem?_map, Array.getElem?_eq_getElem this]
    rfl
  · simp [World.frozen?, setRow_heap w g _ _ _ _ hg]
  · exact hb.trans ⟨rfl, rfl, rfl, by simp, fun k hk => setRow_other w g k _ (by omega)⟩

set_option maxHeartbeats 1000000 in
theorem add_any (v : Value) (xs : List Nat) (s : ByteArray) (B : Nat) (w : World) (h : OwnB w B v xs) (hB : B ≤ w.heap.size) (hn : xs.length ≤ 1048576) (hm : s.size ≤ 1048576) :
    Calls Tryd.prog 82 #[v, .string s] w fun e w' => ∃ v', e = .returned v' ∧ OwnB w' B v' (xorL xs (tx s)) ∧ Below B w w' := by
  obtain ⟨va, vc, rfl⟩ := h.slice
  have hts := tx_length s
  by_cases hle : s.size ≤ xs.length
  · have hle' : decide ((s.size : Int) ≤ (xs.length : Int)) = true := by simp; omega
    go_enter Tryd.func82, Tryd.ntmps82
    go_wp2
    go_loopw [16] (fun i wr => ∃ k : Nat, k ≤ s.size ∧ i = .int .i64 k ∧ Hid (OwnB wr B (.slice va xs.length vc) (xorTo xs (tx s) k)) ∧ Hid (Below B w wr)) (fun i _ => s.size - (intOf i).toNat)
    case atStart => exact ⟨0, Nat.zero_le _, rfl, hide (by rw [xorTo_zero]; exact h), hide (Below.refl _ _)⟩
    case round =>
      obtain ⟨k, hk, rfl, HO, HB⟩ := hrel
      by_cases hlt : k < s.size
      · have hkn : k < xs.length := by omega
        have hkn' : (k : Int) < (xs.length : Int) := by omega
        have hlt' : (k : Int) < (s.size : Int) := by omega
        obtain ⟨g, cap, hv, hBg, hgs, hcg, hfg⟩ := (unhide HO).at (by rw [xorTo_length]; omega)
        rw [xorTo_length] at hv
        simp only [Value.slice.injEq, true_and] at hv
        obtain ⟨rfl, rfl⟩ := hv
        have hcell := hcg k (by rw [xorTo_length]; omega)
        have hfz := hfg k (by rw [xorTo_length]; omega)
        rw [xorTo_getD xs (tx s) k k (by omega), if_neg (by omega)] at hcell
        have hxo := u8_xor_nat (xs.getD k 0) s[k].toNat (h.1.get k) s[k].toNat_lt
        have R := hide (xb_roundd (z := xs.getD k 0 ^^^ s[k].toNat) h.1 (tx_bytes s) (by omega) hBg (unhide HO) (unhide HB) (by rw [tx_get s k hlt]))
        generalize xs.getD k 0 = x at *
        clear hcg hfg h HO hle hle'
        go_wp2
        go_region
        all_goals go_wp2
        go_roundw
        case rel => exact ⟨k + 1, by omega, by go_num, hide (unhide R).1, hide (unhide R).2⟩
        case measure => simp [intOf]; omega
      · have hke : k = (tx s).length := by omega
        rw [hke, xorTo_all xs (tx s) (by omega)] at HO
        clear h
        go_wp2
        go_ret
        exact ⟨_, rfl, unhide HO, unhide HB⟩
  · have hle' : decide ((s.size : Int) ≤ (xs.length : Int)) = false := by simp; omega
    obtain ⟨i0, hi0, hz0, hz1, hz2⟩ := info_parts info_u8
    have hrun := run_make (P := Tryd.prog) w 63 5 i0 (.int .u8 0) Tryd.underlying63 hi0 hz0 .i64 .i64 (s.size : Int) (s.size : Int) (by omega) (by omega) (by rw [hz2]; omega) (by omega)
    simp only [Int.toNat_natCast] at hrun
    have hgw : (w.alloc (.cells (madeCells (Value.int .u8 0).cells (s.size * i0.size)) 5)).heap[w.heap.size]? = some (.cells (madeCells (Value.int .u8 0).cells (s.size * i0.size)) 5 (0, 0)) := by
      show (w.heap.push _)[w.heap.size]? = _
      simp
    have hcs : (madeCells (Value.int .u8 0).cells (s.size * i0.size)).size = s.size := by rw [size_madeCells, hz1, Nat.mul_one]
    have hbw : Below w.heap.size w (w.alloc (.cells (madeCells (Value.int .u8 0).cells (s.size * i0.size)) 5)) := (Below.refl _ _).alloc (Nat.le_refl _) _
    generalize madeCells (Value.int .u8 0).cells (s.size * i0.size) = cur at *
    generalize w.alloc (.cells cur 5) = wm at *
    obtain ⟨w1, hcp, ho, hb⟩ := copy_text wm w.heap.size s cur 5 hgw hcs w.heap.size w hbw (Nat.le_refl _)
    have HO1 := hide ho
    have HB1 := hide hb
    clear ho hb hgw hcs hbw
    go_enter Tryd.func82, Tryd.ntmps82
    go_wp2
    go_loopw [38] (fun i wr => ∃ k : Nat, k ≤ xs.length ∧ i = .int .i64 k ∧ Hid (OwnB wr w.heap.size (.slice (some ⟨w.heap.size, 0, none⟩) s.size s.size) (xorTo (tx s) xs k)) ∧ Hid (Below w.heap.size w wr)) (fun i _ => xs.length - (intOf i).toNat)
    case atStart => exact ⟨0, Nat.zero_le _, rfl, hide (by rw [xorTo_zero]; exact unhide HO1), HB1⟩
    case round =>
      obtain ⟨k, hk, rfl, HO, HB⟩ := hrel
      clear HO1 HB1 hcp hrun
      by_cases hlt : k < xs.length
      · have hkn : k < s.size := by omega
        have hkn' : (k : Int) < (s.size : Int) := by omega
        have hlt' : (k : Int) < (xs.length : Int) := by omega
        obtain ⟨g', cap', hv', _, _, hcg', _⟩ := (h.below (unhide HB)).at (by omega)
        simp only [Value.slice.injEq, true_and] at hv'
        obtain ⟨rfl, rfl⟩ := hv'
        have hcell' := hcg' k hlt
        obtain ⟨g, cap, hv, hBg, hgs, hcg, hfg⟩ := (unhide HO).at (by rw [xorTo_length]; omega)
        rw [xorTo_length, hts] at hv
        simp only [Value.slice.injEq, Option.some.injEq, Addr.mk.injEq, and_true, true_and] at hv
        obtain ⟨rfl, rfl⟩ := hv
        have hcell := hcg k (by rw [xorTo_length]; omega)
        have hfz := hfg k (by rw [xorTo_length]; omega)
        rw [xorTo_getD (tx s) xs k k (by omega), if_neg (by omega)] at hcell
        have hxo := u8_xor_nat ((tx s).getD k 0) (xs.getD k 0) ((tx_bytes s).get k) (h.1.get k)
        rw [← hts] at HO
        have R := hide (xb_round (tx_bytes s) h.1 (by omega) hBg (unhide HO) (unhide HB) rfl)
        rw [hts] at R
        generalize (tx s).getD k 0 = x at *
        generalize xs.getD k 0 = y at *
        clear hcg hfg hcg' h HO hle hle'
        go_wp2
        go_roundw
        case rel => exact ⟨k + 1, by omega, by go_num, hide (unhide R).1, hide (unhide R).2⟩
        case measure => simp [intOf]; omega
      · have hke : k = xs.length := by omega
        rw [hke, xorTo_all (tx s) xs (by omega), xorL_comm] at HO
        clear h
        go_wp2
        go_ret
        exact ⟨_, rfl, (unhide HO).mono hB, (unhide HB).mono hB⟩
end Go.Proofs.YtjppopabjfncpaaDoor
namespace Go.Proofs.YtjppopabjfncpaaDoor
open Go.RowKit
set_option linter.unusedVariables false
set_option maxRecDepth 4000

/-- Bit i of a row, for every int. -/
def getI (xs : List Nat) (i : Int) : Bool := if i < 0 then false else getB xs i.toNat
theorem getI_out {xs : List Nat} {i : Int} (h : ¬ (0 ≤ i ∧ i / 64 < (xs.length : Int))) : getI xs i = false := by
  unfold getI
  split
  · rfl
  · exact getB_out xs _ (by omega)
theorem getI_in {xs : List Nat} {i : Int} (h : 0 ≤ i) : getI xs i = getB xs i.toNat := by
  unfold getI
  rw [if_neg (by omega)]
theorem get_any (a : Option Addr) (n c : Nat) (xs : List Nat) (i : Int) (w : World) (h : RowAt w a n xs) (hn : n ≤ 1048576) (hi : i ≤ 9223372036854775807) :
    Calls Tryd.prog 77 #[.slice a n c, .int .i64 i] w fun e w' => e = .returned (.bool (getI xs i)) ∧ ∃ d, w' = w.drewN d := by
  by_cases hin : 0 ≤ i ∧ i / 64 < (xs.length : Int)
  · rw [getI_in hin.1]
    exact get_in a n c xs i w h hin.1 hi (by rw [← h.1]; exact hin.2) (by omega)
  · rw [getI_out hin]
    exact get_out a n c i w hi (by rw [← h.1]; omega)
theorem rget_any (a : Option Addr) (n c : Nat) (xs : List Nat) (i : Int) (w : World) (h : RowAt w a n xs) (hn : n ≤ 1048576) (hi : i ≤ 9223372036854775807) :
    Calls Tryd.prog 45 #[.slice a n c, .int .i64 i] w fun e w' => e = .returned (.bool (getI xs i)) ∧ w' = w := by
  by_cases hin : 0 ≤ i ∧ i / 64 < (xs.length : Int)
  · rw [getI_in hin.1]
    exact rget_in a n c xs i w h hin.1 hi (by rw [← h.1]; exact hin.2) (by omega)
  · rw [getI_out hin]
    exact rget_out a n c i w hi (by rw [← h.1]; omega)
theorem getI_nat (xs : List Nat) (k : Nat) : getI xs (k : Int) = getB xs k := by rw [getI_in (by omega), Int.toNat_natCast]
theorem getN_any (a : Option Addr) (n c : Nat) (xs : List Nat) (k : Nat) (w : World) (h : RowAt w a n xs) (hn : n ≤ 1048576) (hk : k ≤ 9223372036854775807) :
    Calls Tryd.prog 77 #[.slice a n c, .int .i64 (k : Int)] w fun e w' => e = .returned (.bool (getB xs k)) ∧ Below w.heap.size w w' := by
  refine (get_any a n c xs k w h hn (by omega)).mono ?_
  rintro e w' ⟨rfl, d, rfl⟩
  rw [getI_nat]
  exact ⟨rfl, below_drewN (Below.refl _ _) d⟩
theorem rgetN_any (a : Option Addr) (n c : Nat) (xs : List Nat) (k : Nat) (w : World) (h : RowAt w a n xs) (hn : n ≤ 1048576) (hk : k ≤ 9223372036854775807) :
    Calls Tryd.prog 45 #[.slice a n c, .int .i64 (k : Int)] w fun e w' => e = .returned (.bool (getB xs k)) ∧ w' = w := by
  refine (rget_any a n c xs k w h hn (by omega)).mono ?_
  rintro e w' ⟨rfl, rfl⟩
  rw [getI_nat]
  exact ⟨rfl, rfl⟩
end Go.Proofs.YtjppopabjfncpaaDoor
namespace Go.Proofs.YtjppopabjfncpaaDoor
open Go.RowKit
set_option linter.unusedVariables false
set_option maxRecDepth 4000

set_option maxHeartbeats 400000 in
theorem xx_any (a b : ByteArray) (w : World) (hn : a.size ≤ 1048576) (hm : b.size ≤ 1048576) :
    Calls Tryd.prog 90 #[.string a, .string b] w fun e w' => e = .returned (.string (xorS a b)) ∧ Below w.heap.size w w' := by
  go_enter Tryd.func90, Tryd.ntmps90
  go_wp2_with fail
  refine (add_any _ [] a w.heap.size w (OwnB.nil _ _) (Nat.le_refl _) (by simp) hn).mono ?_
  rintro e w1 ⟨v, rfl, ho, hb⟩
  rw [nil_xorL] at ho
  go_wp2_with fail
  refine (add_any v (tx a) b w.heap.size w1 ho hb.size (by rw [tx_length]; exact hn) hm).mono ?_
  rintro e w2 ⟨v2, rfl, ho2, hb2⟩
  have hct := ho2.text
  have HB := hide (hb.trans hb2)
  clear ho hb ho2 hb2
  go_wp2
  go_ret
  exact ⟨rfl, unhide HB⟩

theorem rx_swap (a b : ByteArray) : xorS a b = xorS b a := by unfold xorS; rw [xorL_comm]

set_option maxHeartbeats 1000000 in
theorem rx_any (a b : ByteArray) (w : World) (hn : a.size ≤ 1048576) (hm : b.size ≤ 1048576) :
    Calls Tryd.prog 27 #[.string a, .string b] w fun e w' => e = .returned (.string (xorS a b)) ∧ Below w.heap.size w w' := by
  by_cases hsw : a.size < b.size
  · have hge : decide ((a.size : Int) < (b.size : Int)) = true := by simp; omega
    obtain ⟨w1, cap, hcv, ho, hb⟩ := bytes_text w b
    have HO1 := hide ho
    have HB1 := hide hb
    clear ho hb
    have hta := tx_length a
    have htb := tx_length b
    go_enter Tryd.func27, Tryd.ntmps27
    go_wp2
    go_loopw [6] (fun i wr => ∃ k : Nat, k ≤ a.size ∧ i = .int .i64 k ∧ Hid (OwnB wr w.heap.size (.slice (some ⟨w.heap.size, 0, none⟩) b.size cap) (xorTo (tx b) (tx a) k)) ∧ Hid (Below w.heap.size w wr)) (fun i _ => a.size - (intOf i).toNat)
    case atStart => exact ⟨0, Nat.zero_le _, rfl, hide (by rw [xorTo_zero]; exact unhide HO1), HB1⟩
    case round =>
      obtain ⟨k, hk, rfl, HO, HB⟩ := hrel
      clear HO1 HB1 hcv
      by_cases hlt : k < a.size
      · have hkn : k < b.size := by omega
        have hkn' : (k : Int) < (b.size : Int) := by omega
        have hlt' : (k : Int) < (a.size : Int) := by omega
        obtain ⟨g, cap', hv, hBg, hgs, hcg, hfg⟩ := (unhide HO).at (by rw [xorTo_length]; omega)
        rw [xorTo_length, htb] at hv
        simp only [Value.slice.injEq, Option.some.injEq, Addr.mk.injEq, and_true, true_and] at hv
        obtain ⟨rfl, rfl⟩ := hv
        have hcell := hcg k (by rw [xorTo_length]; omega)
        have hfz := hfg k (by rw [xorTo_length]; omega)
        rw [xorTo_getD (tx b) (tx a) k k (by omega), if_neg (by omega)] at hcell
        have hxo := u8_xor_nat ((tx b).getD k 0) a[k].toNat ((tx_bytes b).get k) a[k].toNat_lt
        rw [← htb] at HO
        have R := hide (xb_roundd (z := (tx b).getD k 0 ^^^ a[k].toNat) (tx_bytes b) (tx_bytes a) (by omega) hBg (unhide HO) (unhide HB) (by rw [tx_get a k hlt]))
        rw [htb] at R
        generalize (tx b).getD k 0 = x at *
        clear hcg hfg HO hge hsw
        go_wp2
        go_region
        all_goals go_wp2
        go_roundw
        case rel => exact ⟨k + 1, by omega, by go_num, hide (unhide R).1, hide (unhide R).2⟩
        case measure => simp [intOf]; omega
      · have hke : k = (tx a).length := by omega
        rw [hke, xorTo_all (tx b) (tx a) (by omega)] at HO
        have hct := (unhide HO).text
        go_wp2
        go_ret
        exact ⟨ret_str (by unfold xorS; rw [xorL_comm]), unhide HB⟩
  · have hge : decide ((a.size : Int) < (b.size : Int)) = false := by simp; omega
    obtain ⟨w1, cap, hcv, ho, hb⟩ := bytes_text w a
    have HO1 := hide ho
    have HB1 := hide hb
    clear ho hb
    have hta := tx_length a
    have htb := tx_length b
    go_enter Tryd.func27, Tryd.ntmps27
    go_wp2
    go_loopw [6] (fun i wr => ∃ k : Nat, k ≤ b.size ∧ i = .int .i64 k ∧ Hid (OwnB wr w.heap.size (.slice (some ⟨w.heap.size, 0, none⟩) a.size cap) (xorTo (tx a) (tx b) k)) ∧ Hid (Below w.heap.size w wr)) (fun i _ => b.size - (intOf i).toNat)
    case atStart => exact ⟨0, Nat.zero_le _, rfl, hide (by rw [xorTo_zero]; exact unhide HO1), HB1⟩
    case round =>
      obtain ⟨k, hk, rfl, HO, HB⟩ := hrel
      clear HO1 HB1 hcv
      by_cases hlt : k < b.size
      · have hkn : k < a.size := by omega
        have hkn' : (k : Int) < (a.size : Int) := by omega
        have hlt' : (k : Int) < (b.size : Int) := by omega
        obtain ⟨g, cap', hv, hBg, hgs, hcg, hfg⟩ := (unhide HO).at (by rw [xorTo_length]; omega)
        rw [xorTo_length, hta] at hv
        simp only [Value.slice.injEq, Option.some.injEq, Addr.mk.injEq, and_true, true_and] at hv
        obtain ⟨rfl, rfl⟩ := hv
        have hcell := hcg k (by rw [xorTo_length]; omega)
        have hfz := hfg k (by rw [xorTo_length]; omega)
        rw [xorTo_getD (tx a) (tx b) k k (by omega), if_neg (by omega)] at hcell
        have hxo := u8_xor_nat ((tx a).getD k 0) b[k].toNat ((tx_bytes a).get k) b[k].toNat_lt
        rw [← hta] at HO
        have R := hide (xb_roundd (z := (tx a).getD k 0 ^^^ b[k].toNat) (tx_bytes a) (tx_bytes b) (by omega) hBg (unhide HO) (unhide HB) (by rw [tx_get b k hlt]))
        rw [hta] at R
        generalize (tx a).getD k 0 = x at *
        clear hcg hfg HO hge hsw
        go_wp2
        go_region
        all_goals go_wp2
        go_roundw
        case rel => exact ⟨k + 1, by omega, by go_num, hide (unhide R).1, hide (unhide R).2⟩
        case measure => simp [intOf]; omega
      · have hke : k = (tx b).length := by omega
        rw [hke, xorTo_all (tx a) (tx b) (by omega)] at HO
        have hct := (unhide HO).text
        go_wp2
        go_ret
        exact ⟨rfl, unhide HB⟩

/-- No byte but 0. -/
def zeroB (s : ByteArray) : Bool := (tx s).all fun x => x == 0
theorem zeroB_iff (s : ByteArray) : zeroB s = true ↔ ∀ i, (tx s).getD i 0 = 0 := by
  rw [← all_zero_iff]; simp [zeroB]
theorem zeroS_step {s : ByteArray} {k : Nat} (h : ∀ j, j < k → (tx s).getD j 0 = 0) (h0 : (tx s).getD k 0 = 0) : ∀ j, j < k + 1 → (tx s).getD j 0 = 0 := by
  intro j hj
  by_cases e : j = k
  · rw [e]; exact h0
  · exact h j (by omega)
end Go.Proofs.YtjppopabjfncpaaDoor
namespace Go.Proofs.YtjppopabjfncpaaDoor

/-- How many of the first k bits are set. -/
def upTo (vs : List Nat) : Nat → Nat
  | 0 => 0
  | k + 1 => upTo vs k + if getB vs k then 1 else 0
theorem upTo_le (vs : List Nat) : ∀ k, upTo vs k ≤ k
  | 0 => Nat.le_refl _
  | k + 1 => by
    have := upTo_le vs k
    unfold upTo
    split <;> omega
theorem upTo_mono (vs : List Nat) (n : Nat) : ∀ d, upTo vs n ≤ upTo vs (n + d)
  | 0 => Nat.le_refl _
  | d + 1 => by
    have := upTo_mono vs n d
    show _ ≤ upTo vs (n + d) + _
    omega
theorem upTo_same (vs : List Nat) (n : Nat) (h : ∀ i, n ≤ i → getB vs i = false) : ∀ d, upTo vs (n + d) = upTo vs n
  | 0 => rfl
  | d + 1 => by
    show upTo vs (n + d) + (if getB vs (n + d) then 1 else 0) = _
    rw [upTo_same vs n h d, h (n + d) (by omega)]
    simp
theorem upTo_more (vs : List Nat) (n d i : Nat) (h1 : n ≤ i) (h2 : i < n + d) (hg : getB vs i = true) : upTo vs n < upTo vs (n + d) := by
  have a := upTo_mono vs n (i - n)
  have b := upTo_mono vs (i + 1) (n + d - (i + 1))
  rw [show n + (i - n) = i from by omega] at a
  rw [show i + 1 + (n + d - (i + 1)) = n + d from by omega] at b
  have c : upTo vs (i + 1) = upTo vs i + 1 := by simp [upTo, hg]
  omega
/-- The bits of one word. -/
def tbs (x : Nat) : Nat → Nat
  | 0 => 0
  | f + 1 => tbs x f + if x.testBit f then 1 else 0
theorem tbs_low (x : Nat) : ∀ f, tbs x (f + 1) = x % 2 + tbs (x / 2) f
  | 0 => by
    have : x.testBit 0 = decide (x % 2 = 1) := Nat.testBit_zero x
    simp only [tbs, this]
    by_cases h : x % 2 = 1
    · simp [h]
    · simp [h]; omega
  | f + 1 => by
    have e : x.testBit (f + 1) = (x / 2).testBit f := by rw [Nat.testBit_succ]
    show tbs x (f + 1) + (if x.testBit (f + 1) then 1 else 0) = x % 2 + (tbs (x / 2) f + if (x / 2).testBit f then 1 else 0)
    rw [tbs_low x f, e]
    omega
theorem popF_tbs : ∀ f x, popF f x = tbs x f
  | 0, x => rfl
  | f + 1, x => by
    rw [tbs_low, ← popF_tbs f (x / 2)]
    rfl
theorem getB_cons_lt (x : Nat) (xs : List Nat) (i : Nat) (h : i < 64) : getB (x :: xs) i = x.testBit i := by
  unfold getB
  rw [show i / 64 = 0 from by omega, show i % 64 = i from by omega]
  rfl
theorem getB_cons_ge (x : Nat) (xs : List Nat) (i : Nat) : getB (x :: xs) (64 + i) = getB xs i := by
  unfold getB
  rw [show (64 + i) / 64 = i / 64 + 1 from by omega, show (64 + i) % 64 = i % 64 from by omega]
  rfl
theorem upTo_head (x : Nat) (xs : List Nat) : ∀ f, f ≤ 64 → upTo (x :: xs) f = tbs x f
  | 0, _ => rfl
  | f + 1, h => by
    show upTo (x :: xs) f + _ = tbs x f + _
    rw [upTo_head x xs f (by omega), getB_cons_lt x xs f (by omega)]
theorem upTo_tail (x : Nat) (xs : List Nat) : ∀ k, upTo (x :: xs) (64 + k) = pop x + upTo xs k
  | 0 => by rw [Nat.add_zero, upTo_head x xs 64 (Nat.le_refl _)]; unfold pop; rw [popF_tbs]; rfl
  | k + 1 => by
    show upTo (x :: xs) (64 + k) + (if getB (x :: xs) (64 + k) then 1 else 0) = pop x + (upTo xs k + if getB xs k then 1 else 0)
    rw [upTo_tail x xs k, getB_cons_ge]
    omega
theorem cnt_upTo : ∀ xs, cnt xs = upTo xs (64 * xs.length)
  | [] => rfl
  | x :: xs => by
    rw [cnt_cons, List.length_cons, show 64 * (xs.length + 1) = 64 + 64 * xs.length from by omega, upTo_tail, cnt_upTo xs]
/-- All bits are among the first n just if no bit is set from n on. -/
theorem upTo_cnt (vs : List Nat) (n : Nat) : upTo vs n = cnt vs ↔ ∀ i, n ≤ i → getB vs i = false := by
  rw [cnt_upTo]
  constructor
  · intro h i hi
    by_cases hl : i < 64 * vs.length
    · cases hg : getB vs i with
      | false => rfl
      | true =>
        have := upTo_more vs n (64 * vs.length - n) i hi (by omega) hg
        rw [show n + (64 * vs.length - n) = 64 * vs.length from by omega] at this
        omega
    · exact getB_out vs i (by omega)
  · intro h
    by_cases hl : n ≤ 64 * vs.length
    · have := upTo_same vs n h (64 * vs.length - n)
      rw [show n + (64 * vs.length - n) = 64 * vs.length from by omega] at this
      omega
    · have := upTo_same vs (64 * vs.length) (fun i hi => getB_out vs i hi) (n - 64 * vs.length)
      rw [show 64 * vs.length + (n - 64 * vs.length) = n from by omega] at this
      omega
theorem getB_xorL (a b : List Nat) (i : Nat) : getB (xorL a b) i = (getB a i ^^ getB b i) := by
  unfold getB
  rw [xorL_getD, Nat.testBit_xor]
theorem getB_nil (i : Nat) : getB [] i = false := getB_out [] i (by simp)
end Go.Proofs.YtjppopabjfncpaaDoor
namespace Go.Proofs.YtjppopabjfncpaaDoor
open Go.RowKit
set_option linter.unusedVariables false
set_option maxRecDepth 4000

/-- A slice of n texts that can be read: they are ss. -/
def TextsAt (w : World) (a : Option Addr) (n : Nat) (ss : List ByteArray) : Prop :=
  ss.length = n ∧ (n = 0 ∨ ∃ b off, a = some ⟨b, off, none⟩ ∧ ∀ i, i < n → w.cell? ⟨b, off + i, none⟩ = some (.string (ss.getD i ByteArray.empty)))
theorem TextsAt.at {w : World} {a : Option Addr} {n : Nat} {ss : List ByteArray} (h : TextsAt w a n ss) {i : Nat} (hi : i < n) :
    ∃ b off, a = some ⟨b, off, none⟩ ∧ ∀ i, i < n → w.cell? ⟨b, off + i, none⟩ = some (.string (ss.getD i ByteArray.empty)) := by
  rcases h.2 with h0 | h0
  · omega
  · exact h0
theorem TextsAt.below {w w' : World} {a : Option Addr} {n : Nat} {ss : List ByteArray} (h : TextsAt w a n ss) (hb : Below w.heap.size w w') : TextsAt w' a n ss := by
  refine ⟨h.1, ?_⟩
  rcases h.2 with h0 | ⟨b, off, rfl, hc⟩
  · exact .inl h0
  · exact .inr ⟨b, off, rfl, fun i hi => (hb.cell (World.block_lt_of_cell? w _ (hc i hi))).trans (hc i hi)⟩
def shorts (ss : List ByteArray) : Prop := ∀ s ∈ ss, s.size ≤ 1048576
theorem shorts.get {ss : List ByteArray} (h : shorts ss) (i : Nat) : (ss.getD i ByteArray.empty).size ≤ 1048576 := by
  rw [List.getD_eq_getElem?_getD]
  cases hx : ss[i]? with
  | none => simp
  | some x => exact h x (List.mem_of_getElem? hx)


theorem TextsAt.none (w : World) : TextsAt w none 0 [] := ⟨rfl, .inl rfl⟩
theorem info_strT : (Tryd.prog.info? 9).map (fun i => (i.zero, i.size, i.bytes)) = some (some (.string ByteArray.empty), 1, 16) := by kernel_rfl
/-- The cells of texts. -/
def cellsT (ss : List ByteArray) : List Value := ss.map Value.string
theorem cellsT_length (ss : List ByteArray) : (cellsT ss).length = ss.length := by simp [cellsT]
theorem cellsT_get (ss : List ByteArray) (i : Nat) (h : i < ss.length) : (cellsT ss)[i]? = some (.string (ss.getD i ByteArray.empty)) := by
  simp [cellsT, List.getElem?_eq_getElem h, List.getD_eq_getElem?_getD]
/-- A slice of texts of the call's own that can grow. -/
def OwnT (w : World) (B : Nat) (v : Value) (ss : List ByteArray) : Prop := w.ownsRow B 9 1 v ss.length (cellsT ss)
theorem OwnT.nil (w : World) (B : Nat) : OwnT w B (.slice none 0 0) [] := World.ownsRow_nil _ _ _ _
theorem OwnT.texts {w : World} {B : Nat} {v : Value} {ss : List ByteArray} (h : OwnT w B v ss) : ∃ a c, v = .slice a ss.length c ∧ TextsAt w a ss.length ss := by
  have h' : w.ownsRow B 9 1 v ss.length (cellsT ss) := h
  rcases h.2 with ⟨rfl, h0⟩ | ⟨g, cap, cur, rfl, hb, hg, hn, hm, hsz, ht⟩
  · exact ⟨none, 0, by rw [h0], rfl, .inl h0⟩
  · refine ⟨_, cap, rfl, rfl, .inr ⟨g, 0, rfl, fun i hi => ?_⟩⟩
    rw [Nat.zero_add, h'.cellAt i (by omega), cellsT_get ss i hi]
theorem OwnT.mono {w : World} {B B' : Nat} {v : Value} {ss : List ByteArray} (h : OwnT w B v ss) (hB : B' ≤ B) : OwnT w B' v ss := by
  refine ⟨h.1, ?_⟩
  rcases h.2 with h0 | ⟨g, cap, cur, h1, hb, r⟩
  · exact .inl h0
  · exact .inr ⟨g, cap, cur, h1, Nat.le_trans hB hb, r⟩
theorem OwnT.below {w w' : World} {B : Nat} {v : Value} {ss : List ByteArray} (h : OwnT w B v ss) (hb : Below w.heap.size w w') : OwnT w' B v ss := by
  refine ⟨h.1, ?_⟩
  rcases h.2 with h0 | ⟨g, cap, cur, h1, hg, hgg, r⟩
  · exact .inl h0
  · exact .inr ⟨g, cap, cur, h1, hg, (hb.block g (Array.getElem?_eq_some_iff.1 hgg).1).trans hgg, r⟩
/-- 'append(l, t)'. -/
theorem wpList_pushT {w : World} {ops : Array Oper} {rest : List Oper} {o : Oper} {act : Act} {Q : Exit → Act → World → Prop} (hgd : o.guard = none) (s x : Operand)
    (ho : o.op = .call { callee := .builtin .append, args := #[s, x], argTypes := #[25, 25] }) (B : Nat) (v : Value) (ss : List ByteArray) (t : ByteArray)
    (hs : act.eval s = v) (hx : act.eval x = .slice (some ⟨w.heap.size, 0, none⟩) 1 1) (h : OwnT w B v ss) (hB : B ≤ w.heap.size) (hn : ss.length ≤ 1048576)
    (hK : ∀ s' w', OwnT w' B s' (ss ++ [t]) → Below B w w' → wpList Tryd.prog ops Q rest (act.put o.dst s') w') : wpList Tryd.prog ops Q (o :: rest) act (w.alloc (.cells #[.string t] 9)) := by
  obtain ⟨i0, hi, hz0, hz1, hz2⟩ := info_parts info_strT
  have hb : Below w.heap.size w (w.alloc (.cells #[.string t] 9)) := (Below.refl _ _).alloc (Nat.le_refl _) _
  have h1 : (w.alloc (.cells #[.string t] 9)).ownsRow B 9 1 v ss.length (cellsT ss) := h.below hb
  refine wpList_append_own _ hgd s x 25 ho B 9 i0 (.string ByteArray.empty) 1 16 Tryd.underlying25 hi hz0 hz1 hz2 rfl (by decide) v ss.length (cellsT ss) hs h1 ⟨w.heap.size, 0, none⟩ 1 1 [.string t] hx rfl (fun j u hj => ?_)
    (fun u hu => by rw [List.mem_singleton.1 hu]; rfl) (by unfold maxLen; omega) (by omega) (Nat.le_trans hB hb.size) ?_
  · match j with
    | 0 =>
      have hc : (w.alloc (.cells #[.string t] 9)).cell? ⟨w.heap.size, 0, none⟩ = some (.string t) := by rw [World.cell?_alloc_at _ _ _ _ rfl]; rfl
      simpa [Addr.add, hc] using hj
    | j + 1 => simp at hj
  · intro v' w' hown hgrow _
    refine hK v' w' ?_ ((hb.mono hB).grown hgrow (Nat.le_trans hB hb.size) fun k hk => (h1.lt k hk).1)
    rw [show cellsT ss ++ [.string t] = cellsT (ss ++ [t]) by simp [cellsT]] at hown
    show w'.ownsRow B 9 1 v' (ss ++ [t]).length (cellsT (ss ++ [t]))
    rw [List.length_append]
    exact hown
theorem texts_lit2 (w : World) (s t : ByteArray) : TextsAt (w.alloc (.cells #[.string s, .string t] 9)) (some ⟨w.heap.size, 0, Option.none⟩) 2 [s, t] := by
  refine ⟨rfl, .inr ⟨w.heap.size, 0, rfl, fun i hi => ?_⟩⟩
  match i, hi with
  | 0, _ => simp
  | 1, _ => simp
end Go.Proofs.YtjppopabjfncpaaDoor
namespace Go.Proofs.YtjppopabjfncpaaDoor
open Go.RowKit
set_option linter.unusedVariables false
set_option maxRecDepth 4000

/-- The xor of all. -/
def sumL (ss : List ByteArray) : List Nat := ss.foldl (fun a s => xorL a (tx s)) []
theorem sumL_take (ss : List ByteArray) (k : Nat) (h : k < ss.length) : sumL (ss.take (k + 1)) = xorL (sumL (ss.take k)) (tx (ss.getD k ByteArray.empty)) := by
  unfold sumL
  rw [List.take_succ_eq_append_getElem h, List.foldl_append]
  simp [List.getD_eq_getElem?_getD, List.getElem?_eq_getElem h]
theorem foldl_bytes (ss : List ByteArray) : ∀ a, bytes a → bytes (ss.foldl (fun a s => xorL a (tx s)) a) := by
  induction ss with
  | nil => exact fun a h => h
  | cons s ss ih => exact fun a h => ih _ (xorL_bytes h (tx_bytes s))
theorem sumL_bytes (ss : List ByteArray) : bytes (sumL ss) := foldl_bytes ss [] bytes_nil
theorem foldl_len (ss : List ByteArray) (hs : shorts ss) : ∀ a : List Nat, a.length ≤ 1048576 → (ss.foldl (fun a s => xorL a (tx s)) a).length ≤ 1048576 := by
  induction ss with
  | nil => exact fun a h => h
  | cons s ss ih =>
    intro a h
    refine ih (fun s hs' => hs s (List.mem_cons_of_mem _ hs')) _ ?_
    rw [xorL_length, tx_length]
    have := hs s List.mem_cons_self
    omega
theorem sumL_len (ss : List ByteArray) (hs : shorts ss) (k : Nat) : (sumL (ss.take k)).length ≤ 1048576 := foldl_len _ (fun s h => hs s (List.mem_of_mem_take h)) [] (by simp)
theorem st_size {xs : List Nat} (h : bytes xs) : (st xs).size = xs.length := by rw [← tx_length, tx_st h]
theorem xorS_st {xs : List Nat} (h : bytes xs) (s : ByteArray) : xorS (st xs) s = st (xorL xs (tx s)) := by unfold xorS; rw [tx_st h]

set_option maxHeartbeats 400000 in
theorem sum_any (a : Option Addr) (n c : Nat) (ss : List ByteArray) (w : World) (h : TextsAt w a n ss) (hs : shorts ss) (hn : n ≤ 1048576) :
    Calls Tryd.prog 65 #[.slice a n c] w fun e w' => e = .returned (.string (st (sumL ss))) ∧ Below w.heap.size w w' := by
  go_enter Tryd.func65, Tryd.ntmps65
  go_wp2
  go_loopw [3, 8] (fun v i wr => ∃ k : Nat, k ≤ n ∧ i = .int .i64 k ∧ Hid (OwnB wr w.heap.size v (sumL (ss.take k))) ∧ Hid (Below w.heap.size w wr)) (fun _ i _ => n - (intOf i).toNat)
  case atStart => exact ⟨0, Nat.zero_le _, rfl, hide (OwnB.nil _ _), hide (Below.refl _ _)⟩
  case round =>
    rename_i wr
    obtain ⟨k, hk, rfl, HO, HB⟩ := hrel
    by_cases hlt : k < n
    · obtain ⟨b, off, rfl, hc⟩ := (h.below (unhide HB)).at hlt
      have hcell := hc k hlt
      have H := hide h
      have HS := hide hs
      have hlt' : (k : Int) < (n : Int) := by omega
      clear hc h hs
      go_wp2_with fail
      refine (add_any _ _ _ w.heap.size _ (unhide HO) (unhide HB).size (sumL_len ss (unhide HS) k) ((unhide HS).get k)).mono ?_
      rintro e w1 ⟨v1, rfl, ho1, hb1⟩
      rw [← sumL_take ss k (by rw [(unhide H).1]; exact hlt)] at ho1
      have HO1 := hide ho1
      have HB1 := hide ((unhide HB).trans hb1)
      clear ho1 hb1 HO HB hcell
      go_wp2
      go_roundw
      case rel => exact ⟨k + 1, by omega, by go_num, HO1, HB1⟩
      case measure => simp [intOf]; omega
    · have hct := (unhide HO).text
      have he : ss.take k = ss := List.take_of_length_le (by rw [h.1]; omega)
      rw [he] at hct
      clear h hs he
      go_wp2
      go_ret
      exact ⟨rfl, unhide HB⟩


/-- The xor of the blocks whose bits are set, of the first k. -/
def ofL (ss : List ByteArray) (vs : List Nat) : Nat → List Nat
  | 0 => []
  | k + 1 => if getB vs k then xorL (ofL ss vs k) (tx (ss.getD k ByteArray.empty)) else ofL ss vs k
theorem ofL_bytes (ss : List ByteArray) (vs : List Nat) : ∀ k, bytes (ofL ss vs k)
  | 0 => bytes_nil
  | k + 1 => by
    unfold ofL
    split
    · exact xorL_bytes (ofL_bytes ss vs k) (tx_bytes _)
    · exact ofL_bytes ss vs k
theorem ofL_len (ss : List ByteArray) (vs : List Nat) (hs : shorts ss) : ∀ k, (ofL ss vs k).length ≤ 1048576
  | 0 => by simp [ofL]
  | k + 1 => by
    unfold ofL
    have := ofL_len ss vs hs k
    split
    · rw [xorL_length, tx_length]; have := hs.get k; omega
    · exact this
theorem ofL_yes {ss : List ByteArray} {vs : List Nat} {k : Nat} (h : getB vs k = true) : ofL ss vs (k + 1) = xorL (ofL ss vs k) (tx (ss.getD k ByteArray.empty)) := by simp [ofL, h]
theorem ofL_no {ss : List ByteArray} {vs : List Nat} {k : Nat} (h : getB vs k = false) : ofL ss vs (k + 1) = ofL ss vs k := by simp [ofL, h]

set_option maxHeartbeats 400000 in
theorem of_any (a : Option Addr) (n c : Nat) (ss : List ByteArray) (a' : Option Addr) (m c' : Nat) (vs : List Nat) (w : World) (h : TextsAt w a n ss) (hs : shorts ss) (hn : n ≤ 1048576) (h' : RowAt w a' m vs) (hm : m ≤ 1048576) :
    Calls Tryd.prog 91 #[.slice a n c, .slice a' m c'] w fun e w' => e = .returned (.string (st (ofL ss vs n))) ∧ Below w.heap.size w w' := by
  go_enter Tryd.func91, Tryd.ntmps91
  go_wp2
  go_loopw [5, 10] (fun v i wr => ∃ k : Nat, k ≤ n ∧ i = .int .i64 k ∧ Hid (OwnB wr w.heap.size v (ofL ss vs k)) ∧ Hid (Below w.heap.size w wr)) (fun _ i _ => n - (intOf i).toNat)
  case atStart => exact ⟨0, Nat.zero_le _, rfl, hide (OwnB.nil _ _), hide (Below.refl _ _)⟩
  case round =>
    rename_i wr
    obtain ⟨k, hk, rfl, HO, HB⟩ := hrel
    by_cases hlt : k < n
    · obtain ⟨b, off, rfl, hc⟩ := (h.below (unhide HB)).at hlt
      have hcell := hc k hlt
      have HS := hide hs
      have HR := hide (h'.below (unhide HB))
      have hlt' : (k : Int) < (n : Int) := by omega
      clear hc h hs h'
      go_wp2_with fail
      refine (getN_any a' m c' vs k _ (unhide HR) hm (by omega)).mono ?_
      rintro e w1 ⟨rfl, hb1⟩
      have HO1 := hide ((unhide HO).below hb1)
      have HB1 := hide (below0 (unhide HB) hb1)
      clear HO HB hb1 HR hcell
      cases hg : getB vs k
      · rw [← ofL_no (ss := ss) hg] at HO1
        go_wp2
        go_roundw
        case rel => exact ⟨k + 1, by omega, by go_num, HO1, HB1⟩
        case measure => simp [intOf]; omega
      · go_wp2_with fail
        refine (add_any _ _ _ w.heap.size _ (unhide HO1) (unhide HB1).size (ofL_len ss vs (unhide HS) k) ((unhide HS).get k)).mono ?_
        rintro e w2 ⟨v2, rfl, ho2, hb2⟩
        rw [← ofL_yes hg] at ho2
        have HO2 := hide ho2
        have HB2 := hide ((unhide HB1).trans hb2)
        clear ho2 hb2 HO1 HB1
        go_wp2
        go_roundw
        case rel => exact ⟨k + 1, by omega, by go_num, HO2, HB2⟩
        case measure => simp [intOf]; omega
    · have hke : k = n := by omega
      subst hke
      have hct := (unhide HO).text
      clear h hs h'
      go_wp2
      go_ret
      exact ⟨rfl, unhide HB⟩

set_option maxHeartbeats 400000 in
theorem rof_any (a : Option Addr) (n c : Nat) (ss : List ByteArray) (a' : Option Addr) (m c' : Nat) (vs : List Nat) (w : World) (h : TextsAt w a n ss) (hs : shorts ss) (hn : n ≤ 1048576) (h' : RowAt w a' m vs) (hm : m ≤ 1048576) :
    Calls Tryd.prog 53 #[.slice a n c, .slice a' m c'] w fun e w' => e = .returned (.string (st (ofL ss vs n))) ∧ Below w.heap.size w w' := by
  go_enter Tryd.func53, Tryd.ntmps53
  go_wp2
  go_loopw [5, 6] (fun v i wr => ∃ k : Nat, ∃ t : ByteArray, k ≤ n ∧ i = .int .i64 k ∧ v = .string t ∧ Hid (t = st (ofL ss vs k)) ∧ Hid (Below w.heap.size w wr)) (fun _ i _ => n - (intOf i).toNat)
  case atStart => exact ⟨0, _, Nat.zero_le _, rfl, rfl, hide rfl, hide (Below.refl _ _)⟩
  case round =>
    rename_i wr
    obtain ⟨k, t, hk, rfl, rfl, HT, HB⟩ := hrel
    by_cases hlt : k < n
    · obtain ⟨b, off, rfl, hc⟩ := (h.below (unhide HB)).at hlt
      have hcell := hc k hlt
      have HS := hide hs
      have HR := hide (h'.below (unhide HB))
      have hlt' : (k : Int) < (n : Int) := by omega
      clear hc h hs h'
      go_wp2_with fail
      refine (rgetN_any a' m c' vs k _ (unhide HR) hm (by omega)).mono ?_
      rintro e w1 ⟨rfl, hw⟩
      obtain rfl := hw.symm
      clear HR
      cases hg : getB vs k
      · rw [← ofL_no (ss := ss) hg] at HT
        go_wp2
        go_roundw
        case rel => exact ⟨k + 1, _, by omega, by go_num, rfl, HT, HB⟩
        case measure => simp [intOf]; omega
      · go_wp2_with fail
        refine (rx_any t _ _ (by rw [unhide HT, st_size (ofL_bytes _ _ _)]; exact ofL_len ss vs (unhide HS) k) ((unhide HS).get k)).mono ?_
        rintro e w2 ⟨rfl, hb2⟩
        have HT1 := hide (show xorS t (ss.getD k ByteArray.empty) = st (ofL ss vs (k + 1)) from by rw [unhide HT, xorS_st (ofL_bytes _ _ _), ofL_yes hg])
        have HB1 := hide (below0 (unhide HB) hb2)
        clear hb2 HT HB hcell
        go_wp2
        go_roundw
        case rel => exact ⟨k + 1, _, by omega, by go_num, rfl, HT1, HB1⟩
        case measure => simp [intOf]; omega
    · have hke : k = n := by omega
      subst hke
      clear h hs h'
      go_wp2
      go_ret
      exact ⟨ret_str (unhide HT), unhide HB⟩

end Go.Proofs.YtjppopabjfncpaaDoor
namespace Go.Proofs.YtjppopabjfncpaaDoor
open Go.RowKit Go.Sort
set_option linter.unusedVariables false
set_option maxRecDepth 4000

/-- A callee in a region that draws its order, in whatever world that region can have come to. -/
theorem quietB {W : World} {f : FuncId} {args : Array Value} {v : Value} (h : ∀ w', Below W.heap.size W w' → Calls Tryd.prog f args w' fun e w'' => e = .returned v ∧ Below w'.heap.size w' w'') (d : Nat) (os : Array Obj) :
    Calls Tryd.prog f args (grow (redrawn W d) os) fun e w'' => e = .returned v ∧ ∃ p : Regrown, w'' = grow (redrawn W p.d) p.os :=
  Calls.regrown_of (h _ (below_regrown W d os))
theorem same_below {f : FuncId} {args : Array Value} {v : Value} {w : World} (h : Calls Tryd.prog f args w fun e w'' => e = .returned v ∧ w'' = w) : Calls Tryd.prog f args w fun e w'' => e = .returned v ∧ Below w.heap.size w w'' :=
  h.mono fun e w' ⟨he, hw⟩ => ⟨he, by rw [hw]; exact Below.refl _ _⟩
end Go.Proofs.YtjppopabjfncpaaDoor
namespace Go.Proofs.YtjppopabjfncpaaDoor
open Go.RowKit Go.Sort
set_option linter.unusedVariables false
set_option maxRecDepth 4000

/-- A block that holds a row. -/
def BoxAt (w : World) (g : Nat) (x y : Value) : Prop := w.cell? ⟨g, 0, none⟩ = some x ∧ w.cell? ⟨g, 1, none⟩ = some y
theorem box_new (w : World) (x y : Value) : BoxAt (w.alloc (.cells #[x, y] 37)) w.heap.size x y := by
  constructor <;> simp
theorem BoxAt.below {w w' : World} {g : Nat} {x y : Value} (h : BoxAt w g x y) (hb : Below w.heap.size w w') : BoxAt w' g x y :=
  ⟨(hb.cell (World.block_lt_of_cell? w _ h.1)).trans h.1, (hb.cell (World.block_lt_of_cell? w _ h.2)).trans h.2⟩
theorem BoxAt.alloc {w : World} {g : Nat} {x y : Value} (h : BoxAt w g x y) (o : Obj) : BoxAt (w.alloc o) g x y := h.below ((Below.refl _ _).alloc (Nat.le_refl _) _)


/-- A block of one's own that holds a row and can be written. -/
def BoxW (w : World) (g : Nat) (x y : Value) : Prop := BoxAt w g x y ∧ w.frozen? ⟨g, 0, none⟩ = false ∧ w.frozen? ⟨g, 1, none⟩ = false
theorem boxW_new (w : World) (x y : Value) : BoxW (w.alloc (.cells #[x, y] 37)) w.heap.size x y := ⟨box_new w x y, by simp, by simp⟩
theorem BoxW.below {w w' : World} {g : Nat} {x y : Value} (h : BoxW w g x y) (hb : Below w.heap.size w w') : BoxW w' g x y :=
  ⟨h.1.below hb, (hb.frozen (World.block_lt_of_cell? w _ h.1.1)).trans h.2.1, (hb.frozen (World.block_lt_of_cell? w _ h.1.2)).trans h.2.2⟩
theorem BoxW.alloc {w : World} {g : Nat} {x y : Value} (h : BoxW w g x y) (o : Obj) : BoxW (w.alloc o) g x y := h.below ((Below.refl _ _).alloc (Nat.le_refl _) _)
theorem BoxW.other {w : World} {g : Nat} {x y : Value} (h : BoxW w g x y) {g' : Nat} (i : Nat) (u : Value) (hg : g' ≠ g) : BoxW (w.setCell ⟨g', i, none⟩ u) g x y := by
  have h0 : (⟨g', i, none⟩ : Addr) ≠ ⟨g, 0, none⟩ := fun h => hg (by injection h)
  have h1 : (⟨g', i, none⟩ : Addr) ≠ ⟨g, 1, none⟩ := fun h => hg (by injection h)
  exact ⟨⟨(World.cell?_setCell_other (h := h0) ..).trans h.1.1, (World.cell?_setCell_other (h := h1) ..).trans h.1.2⟩, by rw [World.frozen?_setCell]; exact h.2.1, by rw [World.frozen?_setCell]; exact h.2.2⟩
theorem block_setCell_other {w : World} {g k i : Nat} (u : Value) (h : k ≠ g) : (w.setCell ⟨g, i, none⟩ u).heap[k]? = w.heap[k]? := by
  unfold World.setCell
  simp [Array.getElem?_modify, Ne.symm h]
theorem Own.other {w : World} {B : Nat} {v : Value} {xs : List Nat} (h : Own w B v xs) {g : Nat} (i : Nat) (u : Value) (hg : g < B) : Own (w.setCell ⟨g, i, none⟩ u) B v xs := by
  refine ⟨h.1, h.2.1, ?_⟩
  rcases h.2.2 with h0 | ⟨g', cap, cur, h1, hg', hgg, r⟩
  · exact .inl h0
  · exact .inr ⟨g', cap, cur, h1, hg', (block_setCell_other u (by omega)).trans hgg, r⟩
theorem BoxW.set0 {w : World} {g : Nat} {x y : Value} (h : BoxW w g x y) (u : Value) : BoxW (w.setCell ⟨g, 0, none⟩ u) g u y :=
  ⟨⟨World.cell?_setCell_same _ _ _ h.1.1, (World.cell?_setCell_other (h := by simp) ..).trans h.1.2⟩, by rw [World.frozen?_setCell]; exact h.2.1, by rw [World.frozen?_setCell]; exact h.2.2⟩
theorem BoxW.set1 {w : World} {g : Nat} {x y : Value} (h : BoxW w g x y) (u : Value) : BoxW (w.setCell ⟨g, 1, none⟩ u) g x u :=
  ⟨⟨(World.cell?_setCell_other (h := by simp) ..).trans h.1.1, World.cell?_setCell_same _ _ _ h.1.2⟩, by rw [World.frozen?_setCell]; exact h.2.1, by rw [World.frozen?_setCell]; exact h.2.2⟩
end Go.Proofs.YtjppopabjfncpaaDoor
namespace Go.Proofs.YtjppopabjfncpaaDoor
open Go.RowKit Go.Sort
set_option linter.unusedVariables false
set_option maxRecDepth 4000

theorem TextsAt.alloc {w : World} {a : Option Addr} {n : Nat} {ss : List ByteArray} (h : TextsAt w a n ss) (o : Obj) : TextsAt (w.alloc o) a n ss := h.below ((Below.refl _ _).alloc (Nat.le_refl _) _)

theorem holds_yes {vs : List Nat} {n : Nat} : (((upTo vs n : Nat) : Int) == ((cnt vs : Nat) : Int)) = decide (upTo vs n = cnt vs) := by
  by_cases h : upTo vs n = cnt vs
  · simp [h]
  · simp [h]; omega
/-- What xor.Holds tells. -/
def holdsB (ss : List ByteArray) (vs : List Nat) (s : ByteArray) : Bool := zeroB (xorS (st (ofL ss vs ss.length)) s) && decide (upTo vs ss.length = cnt vs)

end Go.Proofs.YtjppopabjfncpaaDoor
namespace Go.Proofs.YtjppopabjfncpaaDoor
open Go.RowKit Go.Sort
set_option linter.unusedVariables false
set_option maxRecDepth 4000

theorem holdsB_iff (ss : List ByteArray) (vs : List Nat) (s : ByteArray) : holdsB ss vs s = true ↔ zeroB (xorS (st (ofL ss vs ss.length)) s) = true ∧ ∀ i, ss.length ≤ i → getB vs i = false := by
  unfold holdsB
  rw [Bool.and_eq_true, decide_eq_true_eq, upTo_cnt]
theorem holdsB_bit {ss : List ByteArray} {vs : List Nat} {s : ByteArray} {k : Nat} (hk : ss.length ≤ k) (hg : getB vs k = true) : holdsB ss vs s = false := by
  rw [← Bool.not_eq_true, holdsB_iff]
  intro h
  rw [h.2 k hk] at hg
  cases hg
theorem holdsB_byte {ss : List ByteArray} {vs : List Nat} {s : ByteArray} (hg : zeroB (xorS (st (ofL ss vs ss.length)) s) = false) : holdsB ss vs s = false := by
  unfold holdsB
  rw [hg]; rfl

set_option maxHeartbeats 1000000 in
theorem rholds_any (a : Option Addr) (n c : Nat) (ss : List ByteArray) (a' : Option Addr) (m c' : Nat) (vs : List Nat) (s : ByteArray) (w : World) (h : TextsAt w a n ss) (hs : shorts ss) (hn : n ≤ 1048576) (h' : RowAt w a' m vs) (hm : m ≤ 1048576) (hz : s.size ≤ 1048576) :
    Calls Tryd.prog 33 #[.slice a n c, .agg #[.slice a' m c', .string s]] w fun e w' => e = .returned (.bool (holdsB ss vs s)) ∧ Below w.heap.size w w' := by
  obtain rfl := h.1
  have hx := box_new w (.slice a' m c') (.string s)
  have h0 := h.alloc (.cells #[.slice a' m c', .string s] 37)
  have r0 := row_alloc h' (.cells #[.slice a' m c', .string s] 37)
  have b0 := (Below.refl _ w).alloc (Nat.le_refl _) (.cells #[.slice a' m c', .string s] 37)
  have hsz : (st (ofL ss vs ss.length)).size ≤ 1048576 := by rw [st_size (ofL_bytes _ _ _)]; exact ofL_len ss vs hs _
  have hsz2 : (xorS (st (ofL ss vs ss.length)) s).size ≤ 1048576 := by rw [xorS_size]; omega
  have k0 := hide (cell_regrown hx.1)
  have k1 := hide (cell_regrown hx.2)
  have cOf := hide (quietB (fun w' hb => rof_any a _ c ss a' m c' vs w' (h0.below hb) hs hn (r0.below hb) hm))
  have cXor := hide (quietB (W := w.alloc (.cells #[.slice a' m c', .string s] 37)) (fun w' hb => rx_any (st (ofL ss vs ss.length)) s w' hsz hz))
  have B0 := hide b0
  have R0 := hide r0
  have hml : Hid (vs.length = m) := hide h'.1
  clear h hs h' h0 r0 b0 hx hsz
  go_enter Tryd.func33, Tryd.ntmps33
  go_wp2
  go_loop [5] (fun i => ∃ k : Nat, ss.length ≤ k ∧ k ≤ 67108864 ∧ i = .int .i64 k ∧ Hid (∀ j, ss.length ≤ j → j < k → getB vs j = false)) (fun i => 64 * m - (intOf i).toNat)
  case atStart => exact ⟨ss.length, Nat.le_refl _, by omega, rfl, hide (fun j h1 h2 => by omega)⟩
  case round =>
    obtain ⟨k, hk, hkm, rfl, HZ⟩ := hrel
    by_cases hlt : k < 64 * m
    · have hlt' : decide ((k : Int) < 64 * (m : Int)) = true := by simp; omega
      go_wp2_with fail
      refine (rgetN_any a' m c' vs k _ (unhide R0) hm (by omega)).mono ?_
      rintro e w1 ⟨rfl, hw⟩
      subst hw
      cases hg : getB vs k
      · have HS := hide (show ∀ j, ss.length ≤ j → j < k + 1 → getB vs j = false from fun j h1 h2 => by
          by_cases e : j = k
          · rw [e]; exact hg
          · exact unhide HZ j h1 (by omega))
        clear hg HZ
        go_wp2
        go_round
        case rel => exact ⟨k + 1, by omega, by omega, by go_num, HS⟩
        case measure => simp [intOf]; omega
      · have HE := hide (holdsB_bit (s := s) hk hg)
        clear hg HZ
        go_wp2
        go_ret
        exact ⟨ret_bool (unhide HE).symm, unhide B0⟩
    · have hlt' : decide ((k : Int) < 64 * (m : Int)) = false := by simp; omega
      have HA := hide (show ∀ j, ss.length ≤ j → getB vs j = false from fun j h1 => by
        by_cases e : j < k
        · exact unhide HZ j h1 e
        · exact getB_out vs j (by rw [unhide hml]; omega))
      clear HZ
      go_wp2_with fail
      have k0 := unhide k0
      have k1 := unhide k1
      have cOf := unhide cOf
      have cXor := unhide cXor
      refine wp_region_quiet_below (by kernel_rfl) (by kernel_rfl) ?_
      repeat (with_reducible refine wpQuiet_step (fun K hK => ?_); go_simp; first | (with_reducible refine hK _ ?_; clear hK K) | (apply Exists.intro; apply And.intro; (intro _; first | (go_at_call 53; exact cOf _ _) | (go_at_call 27; exact cXor _ _)); with_reducible refine hK _ ?_; clear hK K))
      refine wpQuiet_nil ?_
      intro _ hw'
      obtain ⟨⟨dq, osq⟩, hw''⟩ := hw'
      subst hw''
      have B1 := hide (below0 (unhide B0) (below_regrown _ dq osq))
      have HE : Hid (∀ z, zeroB (xorS (st (ofL ss vs ss.length)) s) = z → holdsB ss vs s = z) := hide (fun z hz => by
        cases z with
        | false => exact holdsB_byte hz
        | true => exact (holdsB_iff ss vs s).2 ⟨hz, unhide HA⟩)
      generalize grow _ _ = wq at *
      generalize xorS (st (ofL ss vs ss.length)) s = x at *
      clear HA k0 k1 cOf cXor hlt hlt'
      go_wp2
      go_loop [7] (fun i => ∃ k : Nat, k ≤ x.size ∧ i = .int .i64 k ∧ Hid (∀ j, j < k → (tx x).getD j 0 = 0)) (fun i => x.size - (intOf i).toNat)
      case atStart => exact ⟨0, Nat.zero_le _, rfl, hide (fun j hj => by omega)⟩
      case round =>
        obtain ⟨k, hk, rfl, HZ⟩ := hrel
        by_cases hlt : k < x.size
        · have hlt' : (k : Int) < (x.size : Int) := by omega
          have hg := tx_get x k hlt
          by_cases h0 : x[k].toNat = 0
          · have hne : (((x[k].toNat : Nat) : Int) != 0) = false := by rw [h0]; rfl
            have HS := hide (zeroS_step (unhide HZ) (by rw [← hg]; exact h0))
            clear hg h0 HZ
            go_wp2
            go_round
            case rel => exact ⟨k + 1, by omega, by go_num, HS⟩
            case measure => simp [intOf]; omega
          · have hne : (((x[k].toNat : Nat) : Int) != 0) = true := by rw [bne_iff_ne]; omega
            have HF := hide (unhide HE false (show zeroB x = false from by
              rw [← Bool.not_eq_true]
              intro h
              exact h0 (by rw [hg]; exact (zeroB_iff x).1 h k)))
            clear hg h0 HZ
            go_wp2
            go_ret
            exact ⟨ret_bool (unhide HF).symm, unhide B1⟩
        · have HF := hide (unhide HE true (show zeroB x = true from by
            rw [zeroB_iff]
            intro i
            by_cases hi : i < k
            · exact unhide HZ i hi
            · exact getD_of_le (by rw [tx_length]; omega)))
          go_wp2
          go_ret
          exact ⟨ret_bool (unhide HF).symm, unhide B1⟩

/-- Texts that are not too many nor too long. -/
def FewT (ss : List ByteArray) : Prop := ss.length ≤ 300 ∧ ∀ i, (ss.getD i ByteArray.empty).size ≤ 1000
theorem FewT.shorts {ss : List ByteArray} (h : FewT ss) : shorts ss := by
  intro s hs
  obtain ⟨i, hi, rfl⟩ := List.mem_iff_getElem.1 hs
  have := h.2 i
  rw [List.getD_eq_getElem?_getD, List.getElem?_eq_getElem hi] at this
  simp at this
  omega
/-- What few tells, behind a name. -/
def RetP (e : Ending) (P : Prop) : Prop := ∃ b : Bool, e = .returned (.bool b) ∧ (b = true ↔ P)
end Go.Proofs.YtjppopabjfncpaaDoor
namespace Go.Proofs.YtjppopabjfncpaaDoor
open Go.RowKit Go.Sort
set_option linter.unusedVariables false
set_option maxRecDepth 4000

/-- A row as it lies in memory: its slice of words, what it holds, its text. -/
structure RV where
  a : Option Addr
  n : Nat
  c : Nat
  xs : List Nat
  s : ByteArray
/-- What stands behind the end of a list of rows. -/
def RV.dflt : RV := ⟨none, 0, 0, [], ⟨#[]⟩⟩
/-- A slice of n rows that can be read: they are rs. -/
def RowsAt (w : World) (a : Option Addr) (n : Nat) (rs : List RV) : Prop :=
  rs.length = n ∧ (∀ i, i < n → RowAt w (rs.getD i .dflt).a (rs.getD i .dflt).n (rs.getD i .dflt).xs) ∧ (n = 0 ∨ ∃ b off, a = some ⟨b, off, none⟩ ∧
    ∀ i, i < n → w.cell? ⟨b, off + i * 2, none⟩ = some (.slice (rs.getD i .dflt).a (rs.getD i .dflt).n (rs.getD i .dflt).c) ∧ w.cell? ⟨b, off + i * 2 + 1, none⟩ = some (.string (rs.getD i .dflt).s))
theorem RowsAt.at {w : World} {a : Option Addr} {n : Nat} {rs : List RV} (h : RowsAt w a n rs) {i : Nat} (hi : i < n) :
    ∃ b off, a = some ⟨b, off, none⟩ ∧ ∀ i, i < n → w.cell? ⟨b, off + i * 2, none⟩ = some (.slice (rs.getD i .dflt).a (rs.getD i .dflt).n (rs.getD i .dflt).c) ∧ w.cell? ⟨b, off + i * 2 + 1, none⟩ = some (.string (rs.getD i .dflt).s) := by
  rcases h.2.2 with h0 | h0
  · omega
  · exact h0
theorem RowsAt.below {w w' : World} {a : Option Addr} {n : Nat} {rs : List RV} (h : RowsAt w a n rs) (hb : Below w.heap.size w w') : RowsAt w' a n rs := by
  refine ⟨h.1, fun i hi => (h.2.1 i hi).below hb, ?_⟩
  rcases h.2.2 with h0 | ⟨b, off, rfl, hc⟩
  · exact .inl h0
  · exact .inr ⟨b, off, rfl, fun i hi => ⟨(hb.cell (World.block_lt_of_cell? w _ (hc i hi).1)).trans (hc i hi).1, (hb.cell (World.block_lt_of_cell? w _ (hc i hi).2)).trans (hc i hi).2⟩⟩
/-- Rows that are not too long. -/
def shortR (rs : List RV) : Prop := ∀ i, (rs.getD i .dflt).n ≤ 10 ∧ (rs.getD i .dflt).s.size ≤ 1000
def FewR (rs : List RV) : Prop := rs.length ≤ 300 ∧ shortR rs
def RetI (e : Ending) (P : Prop) : Prop := (e = .returned (.int .i64 1) ∧ P) ∨ (e = .returned (.int .i64 0) ∧ ¬ P)

set_option maxHeartbeats 400000 in
theorem fewR_any (a : Option Addr) (n c : Nat) (rs : List RV) (w : World) (h : RowsAt w a n rs) (hn : n ≤ 9223372036854775807) (hbig : ∀ i, (rs.getD i .dflt).n ≤ 9223372036854775807 ∧ (rs.getD i .dflt).s.size ≤ 9223372036854775807) :
    Calls Tryd.prog 19 #[.slice a n c] w fun e w' => RetI e (FewR rs) ∧ w' = w := by
  obtain rfl := h.1
  by_cases h3 : 300 < rs.length
  · have hd : decide (300 < (rs.length : Int)) = true := by simp; omega
    clear h
    go_enter Tryd.func19, Tryd.ntmps19
    go_wp2
    go_ret
    exact ⟨.inr ⟨rfl, fun h => by have := h.1; omega⟩, rfl⟩
  · have hd : decide (300 < (rs.length : Int)) = false := by simp; omega
    go_enter Tryd.func19, Tryd.ntmps19
    go_wp2
    go_loop [3] (fun i => ∃ k : Nat, k ≤ rs.length ∧ i = .int .i64 k ∧ Hid (∀ j, j < k → (rs.getD j .dflt).n ≤ 10 ∧ (rs.getD j .dflt).s.size ≤ 1000)) (fun i => rs.length - (intOf i).toNat)
    case atStart => exact ⟨0, Nat.zero_le _, rfl, hide (fun j hj => by omega)⟩
    case round =>
      obtain ⟨k, hk, rfl, HZ⟩ := hrel
      by_cases hlt : k < rs.length
      · obtain ⟨b, off, rfl, hc⟩ := h.at hlt
        obtain ⟨hc0, hc1⟩ := hc k hlt
        have hlt' : (k : Int) < (rs.length : Int) := by omega
        have hbk := hbig k
        clear hc h
        by_cases h1 : 10 < (rs.getD k .dflt).n
        · have hd1 : decide (10 < ((rs.getD k .dflt).n : Int)) = true := by simp only [decide_eq_true_eq]; omega
          have HF : Hid (¬ FewR rs) := hide (fun h => by have := (h.2 k).1; omega)
          clear hbig
          generalize rs.getD k .dflt = x at *
          go_wp2
          go_ret
          exact ⟨.inr ⟨rfl, unhide HF⟩, rfl⟩
        · have hd1 : decide (10 < ((rs.getD k .dflt).n : Int)) = false := by simp only [decide_eq_false_iff_not]; omega
          by_cases h2 : 1000 < (rs.getD k .dflt).s.size
          · have hd2 : decide (1000 < ((rs.getD k .dflt).s.size : Int)) = true := by simp only [decide_eq_true_eq]; omega
            have HF : Hid (¬ FewR rs) := hide (fun h => by have := (h.2 k).2; omega)
            clear hbig
            generalize rs.getD k .dflt = x at *
            go_wp2
            go_ret
            exact ⟨.inr ⟨rfl, unhide HF⟩, rfl⟩
          · have hd2 : decide (1000 < ((rs.getD k .dflt).s.size : Int)) = false := by simp only [decide_eq_false_iff_not]; omega
            have HS := hide (show ∀ j, j < k + 1 → (rs.getD j .dflt).n ≤ 10 ∧ (rs.getD j .dflt).s.size ≤ 1000 from fun j hj => by
              by_cases e : j = k
              · rw [e]; omega
              · exact unhide HZ j (by omega))
            generalize rs.getD k .dflt = x at *
            clear HZ hbig
            go_wp2
            go_round
            case rel => exact ⟨k + 1, by omega, by go_num, HS⟩
            case measure => simp [intOf]; omega
      · have HF : Hid (FewR rs) := hide ⟨by omega, fun i => by
          by_cases hi : i < k
          · exact unhide HZ i hi
          · rw [List.getD_eq_getElem?_getD, List.getElem?_eq_none (by omega)]
            exact ⟨Nat.zero_le _, Nat.zero_le _⟩⟩
        clear h HZ hbig
        go_wp2
        go_ret
        exact ⟨.inl ⟨rfl, unhide HF⟩, rfl⟩
end Go.Proofs.YtjppopabjfncpaaDoor
