/-
  strings.Builder in this program: the shelf's contracts of Grow (of a new builder), WriteByte and String, laid at this program's own numbers. Conditions: a builder in a block of its own; at most 2^47 bytes.
-/
import Derived.Test.YtdiondgkkanamaaDoorNM
import Derived.Shelf.Strings.Builder2
namespace Go.Proofs.YtdiondgkkanamaaDoor
open Go.RowKit Go.Shelf
set_option linter.unusedVariables false
set_option maxRecDepth 4000

def bren : Ren := ⟨fun | 165 => 48 | 166 => 0 | 170 => 0 | 105 => 0 | 99 => 0 | 206 => 0 | 212 => 0 | 263 => 0 | 264 => 0 | 167 => 49 | 169 => 50 | 240 => 62 | 241 => 63 | 276 => 72 | 277 => 73 | n => n, fun | 0 => 0 | 3 => 3 | 4 => 4 | 5 => 5 | 9 => 9 | 20 => 20 | 37 => 83 | 70 => 82 | 72 => 85 | 75 => 87 | 80 => 89 | 46 => 98 | 51 => 90 | 53 => 72 | 76 => 0 | 109 => 0 | 146 => 0 | 148 => 0 | 127 => 94 | 164 => 111 | n => n, fun | n => n⟩
theorem blays167 : Lays.n167 Tryd.prog bren := {
  mixed := by kernel_rfl
  f167 := Tryd.func49.trans (congrArg some (by kernel_rfl))
  f240 := Tryd.func62.trans (congrArg some (by kernel_rfl))
  f276 := Tryd.func72.trans (congrArg some (by kernel_rfl))
  t0 := Tryd.underlying0
  a0 := Tryd.isAgg0
  z0 := Tryd.sizeOf0
  v0 := Tryd.zeroValue0
  t4 := Tryd.underlying4
  a4 := Tryd.isAgg4
  z4 := Tryd.sizeOf4
  v4 := Tryd.zeroValue4
  t5 := Tryd.underlying5
  a5 := Tryd.isAgg5
  z5 := Tryd.sizeOf5
  v5 := Tryd.zeroValue5
  t9 := Tryd.underlying9
  a9 := Tryd.isAgg9
  z9 := Tryd.sizeOf9
  v9 := Tryd.zeroValue9
  t20 := Tryd.underlying20
  a20 := Tryd.isAgg20
  z20 := Tryd.sizeOf20
  v20 := Tryd.zeroValue20
  t37 := Tryd.underlying83
  a37 := Tryd.isAgg83
  z37 := Tryd.sizeOf83
  v37 := Tryd.zeroValue83
  t70 := Tryd.underlying82
  a70 := Tryd.isAgg82
  z70 := Tryd.sizeOf82
  v70 := Tryd.zeroValue82
  t72 := Tryd.underlying85
  a72 := Tryd.isAgg85
  z72 := Tryd.sizeOf85
  v72 := Tryd.zeroValue85
  t75 := Tryd.underlying87
  a75 := Tryd.isAgg87
  z75 := Tryd.sizeOf87
  v75 := Tryd.zeroValue87
  t164 := Tryd.underlying111
  a164 := Tryd.isAgg111
  z164 := Tryd.sizeOf111
  v164 := Tryd.zeroValue111 }
theorem blays165 : Lays.n165 Tryd.prog bren := {
  mixed := by kernel_rfl
  f165 := Tryd.func48.trans (congrArg some (by kernel_rfl))
  f240 := Tryd.func62.trans (congrArg some (by kernel_rfl))
  f241 := Tryd.func63.trans (congrArg some (by kernel_rfl))
  f276 := Tryd.func72.trans (congrArg some (by kernel_rfl))
  f277 := Tryd.func73.trans (congrArg some (by kernel_rfl))
  t0 := Tryd.underlying0
  a0 := Tryd.isAgg0
  z0 := Tryd.sizeOf0
  v0 := Tryd.zeroValue0
  t3 := Tryd.underlying3
  a3 := Tryd.isAgg3
  z3 := Tryd.sizeOf3
  v3 := Tryd.zeroValue3
  t4 := Tryd.underlying4
  a4 := Tryd.isAgg4
  z4 := Tryd.sizeOf4
  v4 := Tryd.zeroValue4
  t9 := Tryd.underlying9
  a9 := Tryd.isAgg9
  z9 := Tryd.sizeOf9
  v9 := Tryd.zeroValue9
  t20 := Tryd.underlying20
  a20 := Tryd.isAgg20
  z20 := Tryd.sizeOf20
  v20 := Tryd.zeroValue20
  t37 := Tryd.underlying83
  a37 := Tryd.isAgg83
  z37 := Tryd.sizeOf83
  v37 := Tryd.zeroValue83
  t70 := Tryd.underlying82
  a70 := Tryd.isAgg82
  z70 := Tryd.sizeOf82
  v70 := Tryd.zeroValue82
  t72 := Tryd.underlying85
  a72 := Tryd.isAgg85
  z72 := Tryd.sizeOf85
  v72 := Tryd.zeroValue85
  t164 := Tryd.underlying111
  a164 := Tryd.isAgg111
  z164 := Tryd.sizeOf111
  v164 := Tryd.zeroValue111 }
theorem blays169 : Lays.n169 Tryd.prog bren := {
  mixed := by kernel_rfl
  f169 := Tryd.func50.trans (congrArg some (by kernel_rfl))
  t0 := Tryd.underlying0
  a0 := Tryd.isAgg0
  z0 := Tryd.sizeOf0
  v0 := Tryd.zeroValue0
  t3 := Tryd.underlying3
  a3 := Tryd.isAgg3
  z3 := Tryd.sizeOf3
  v3 := Tryd.zeroValue3
  t9 := Tryd.underlying9
  a9 := Tryd.isAgg9
  z9 := Tryd.sizeOf9
  v9 := Tryd.zeroValue9
  t37 := Tryd.underlying83
  a37 := Tryd.isAgg83
  z37 := Tryd.sizeOf83
  v37 := Tryd.zeroValue83
  t70 := Tryd.underlying82
  a70 := Tryd.isAgg82
  z70 := Tryd.sizeOf82
  v70 := Tryd.zeroValue82
  t72 := Tryd.underlying85
  a72 := Tryd.isAgg85
  z72 := Tryd.sizeOf85
  v72 := Tryd.zeroValue85
  t127 := Tryd.underlying94
  a127 := Tryd.isAgg94
  z127 := Tryd.sizeOf94
  v127 := Tryd.zeroValue94 }
theorem bextra : Builder.Extra Tryd.prog bren := {
  sizeBuilder := by kernel_rfl
  liesBuilder := by kernel_rfl
  t5 := Tryd.underlying5
  a5 := Tryd.isAgg5
  z5 := Tryd.sizeOf5
  v5 := Tryd.zeroValue5
  infoByte := by kernel_rfl
  cellsByte := by kernel_rfl
  sizeByte := by kernel_rfl
  neB5 := by decide }

/-- The cells of bytes. -/
def cellsB (xs : List Nat) : List Value := xs.map fun (x : Nat) => Value.int .u8 (x : Int)
theorem cellsB_length (xs : List Nat) : (cellsB xs).length = xs.length := by simp [cellsB]
theorem cellsB_get (xs : List Nat) (i : Nat) (h : i < xs.length) : (cellsB xs)[i]? = some (.int .u8 ((xs.getD i 0 : Nat) : Int)) := by
  simp [cellsB, List.getElem?_eq_getElem h, List.getD_eq_getElem?_getD]
theorem cellsB_snoc (xs : List Nat) (x : Nat) : cellsB xs ++ [.int .u8 (x : Int)] = cellsB (xs ++ [x]) := by simp [cellsB]
theorem cellsB_bytes {xs : List Nat} (h : bytes xs) : Lib.byteCells (xs.map UInt8.ofNat) = cellsB xs := by
  unfold Lib.byteCells cellsB
  rw [List.map_map]
  apply List.map_congr_left
  intro x hx
  have := h x hx
  simp [Nat.mod_eq_of_lt this]
/-- A builder of one's own, in block b: its bytes are xs. -/
def Bld (w : World) (B b : Nat) (xs : List Nat) : Prop := bytes xs ∧ Lib.IsBuilder 85 5 B b (cellsB xs) w
theorem bgrow_new (B b n : Nat) (w : World) (hB : B ≤ b) (hbk : w.heap[b]? = some (.cells #[.pointer none, .slice none 0 0] 85 (0, 0))) (hBw : B ≤ w.heap.size) (hn : n ≤ 1073741824) :
    Calls Tryd.prog 48 #[.pointer (some ⟨b, 0, none⟩), .int .i64 n] w fun e w' => e = .returned (.tuple #[]) ∧ Bld w' B b [] ∧ Below B w w' :=
  (Any.Builder_Grow_fresh blays165 bextra B b n w hB hbk hBw (by omega)).mono fun e w' h => ⟨h.1, ⟨bytes_nil, .inr h.2.1⟩, h.2.2⟩
theorem bbyte_any (B b : Nat) (xs : List Nat) (x : Nat) (w : World) (h : Bld w B b xs) (hx : x < 256) (hl : xs.length ≤ 1073741824) (hBw : B ≤ w.heap.size) :
    Calls Tryd.prog 49 #[.pointer (some ⟨b, 0, none⟩), .int .u8 (x : Int)] w fun e w' => e = .returned .nilIface ∧ Bld w' B b (xs ++ [x]) ∧ Below B w w' :=
  (Any.Builder_WriteByte blays167 bextra B b (cellsB xs) (x : Int) w h.2 (by rw [cellsB_length]; omega) hBw).mono fun e w' k =>
    ⟨k.1, ⟨bytes_append h.1 (fun y hy => by rw [List.mem_singleton.1 hy]; exact hx), .inr (by have := k.2.1; rw [cellsB_snoc] at this; exact this)⟩, k.2.2⟩
theorem bstr_any (B b : Nat) (xs : List Nat) (w : World) (h : Bld w B b xs) (hBw : B ≤ w.heap.size) :
    Calls Tryd.prog 50 #[.pointer (some ⟨b, 0, none⟩)] w fun e w' => e = .returned (.string (st xs)) ∧ Below B w w' :=
  (Any.Builder_String_any blays169 bextra B b (xs.map UInt8.ofNat) w (by rw [cellsB_bytes h.1]; exact h.2) hBw)
theorem strCells_tx (s : ByteArray) : Lib.strCells s = cellsB (tx s) := by
  unfold Lib.strCells cellsB tx
  rw [List.map_map]
  rfl
theorem cellsB_append (xs ys : List Nat) : cellsB xs ++ cellsB ys = cellsB (xs ++ ys) := by simp [cellsB]
end Go.Proofs.YtdiondgkkanamaaDoor
