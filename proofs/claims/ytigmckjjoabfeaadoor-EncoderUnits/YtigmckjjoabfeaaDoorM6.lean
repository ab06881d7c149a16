/-
  strings.Builder in this program: the shelf's contracts of Grow (of a new builder), WriteByte and String, laid at this program's own numbers. Conditions: a builder in a block of its own; at most 2^47 bytes.
  Contracts of split.filled, cut, Split: for every text and int.
  'append([]byte(s), make([]byte, m)...)'; 'string(b[i:j])'. For texts of at most 2^20 bytes.
  Contracts of split.Split and bucketlineref09.Split: for every text and int.
-/
import Derived.Test.YtigmckjjoabfeaaDoorM5
import Derived.Shelf.Strings.Builder2
import Derived.Shelf.Strings.Repeat
import Derived.WalkMore
import Derived.ScopeJumps
import Derived.Laws.AppendOwn
namespace Go.Proofs.YtigmckjjoabfeaaDoor
open Go.RowKit Go.Shelf
set_option linter.unusedVariables false
set_option maxRecDepth 4000

def bren : Ren := ⟨fun | 165 => 92 | 166 => 93 | 170 => 94 | 105 => 83 | 99 => 91 | 206 => 99 | 212 => 90 | 263 => 97 | 264 => 98 | 167 => 0 | 169 => 95 | 240 => 100 | 241 => 101 | 276 => 102 | 277 => 103 | n => n, fun | 0 => 0 | 3 => 3 | 4 => 4 | 5 => 5 | 9 => 9 | 20 => 20 | 37 => 91 | 70 => 134 | 72 => 136 | 75 => 139 | 80 => 142 | 46 => 102 | 51 => 107 | 53 => 55 | 76 => 140 | 109 => 131 | 146 => 145 | 148 => 147 | 127 => 106 | 164 => 149 | n => n, fun | n => n⟩
theorem blays165 : Lays.n165 Tryd.prog bren := {
  mixed := by kernel_rfl
  f165 := Tryd.func92.trans (congrArg some (by kernel_rfl))
  f240 := Tryd.func100.trans (congrArg some (by kernel_rfl))
  f241 := Tryd.func101.trans (congrArg some (by kernel_rfl))
  f276 := Tryd.func102.trans (congrArg some (by kernel_rfl))
  f277 := Tryd.func103.trans (congrArg some (by kernel_rfl))
  t0 := Tryd.underlying0
  a0 := Tryd.isAgg0
  z0 := Tryd.sizeOf0
  v0 := Tryd.zeroValue0
  t3 := Tryd.underlying3
  a3 := Tryd.isAgg3
  z3 := Tryd.sizeOf3
  v3 := Tryd.zeroValue3
  t4 := Tryd.underlying4
  a4 := Tryd.isAgg4
  z4 := Tryd.sizeOf4
  v4 := Tryd.zeroValue4
  t9 := Tryd.underlying9
  a9 := Tryd.isAgg9
  z9 := Tryd.sizeOf9
  v9 := Tryd.zeroValue9
  t20 := Tryd.underlying20
  a20 := Tryd.isAgg20
  z20 := Tryd.sizeOf20
  v20 := Tryd.zeroValue20
  t37 := Tryd.underlying91
  a37 := Tryd.isAgg91
  z37 := Tryd.sizeOf91
  v37 := Tryd.zeroValue91
  t70 := Tryd.underlying134
  a70 := Tryd.isAgg134
  z70 := Tryd.sizeOf134
  v70 := Tryd.zeroValue134
  t72 := Tryd.underlying136
  a72 := Tryd.isAgg136
  z72 := Tryd.sizeOf136
  v72 := Tryd.zeroValue136
  t164 := Tryd.underlying149
  a164 := Tryd.isAgg149
  z164 := Tryd.sizeOf149
  v164 := Tryd.zeroValue149 }
theorem blays169 : Lays.n169 Tryd.prog bren := {
  mixed := by kernel_rfl
  f169 := Tryd.func95.trans (congrArg some (by kernel_rfl))
  t0 := Tryd.underlying0
  a0 := Tryd.isAgg0
  z0 := Tryd.sizeOf0
  v0 := Tryd.zeroValue0
  t3 := Tryd.underlying3
  a3 := Tryd.isAgg3
  z3 := Tryd.sizeOf3
  v3 := Tryd.zeroValue3
  t9 := Tryd.underlying9
  a9 := Tryd.isAgg9
  z9 := Tryd.sizeOf9
  v9 := Tryd.zeroValue9
  t37 := Tryd.underlying91
  a37 := Tryd.isAgg91
  z37 := Tryd.sizeOf91
  v37 := Tryd.zeroValue91
  t70 := Tryd.underlying134
  a70 := Tryd.isAgg134
  z70 := Tryd.sizeOf134
  v70 := Tryd.zeroValue134
  t72 := Tryd.underlying136
  a72 := Tryd.isAgg136
  z72 := Tryd.sizeOf136
  v72 := Tryd.zeroValue136
  t127 := Tryd.underlying106
  a127 := Tryd.isAgg106
  z127 := Tryd.sizeOf106
  v127 := Tryd.zeroValue106 }
theorem blays166 : Lays.n166 Tryd.prog bren := {
  mixed := by kernel_rfl
  f166 := Tryd.func93.trans (congrArg some (by kernel_rfl))
  f240 := Tryd.func100.trans (congrArg some (by kernel_rfl))
  f276 := Tryd.func102.trans (congrArg some (by kernel_rfl))
  t0 := Tryd.underlying0
  a0 := Tryd.isAgg0
  z0 := Tryd.sizeOf0
  v0 := Tryd.zeroValue0
  t3 := Tryd.underlying3
  a3 := Tryd.isAgg3
  z3 := Tryd.sizeOf3
  v3 := Tryd.zeroValue3
  t4 := Tryd.underlying4
  a4 := Tryd.isAgg4
  z4 := Tryd.sizeOf4
  v4 := Tryd.zeroValue4
  t9 := Tryd.underlying9
  a9 := Tryd.isAgg9
  z9 := Tryd.sizeOf9
  v9 := Tryd.zeroValue9
  t20 := Tryd.underlying20
  a20 := Tryd.isAgg20
  z20 := Tryd.sizeOf20
  v20 := Tryd.zeroValue20
  t37 := Tryd.underlying91
  a37 := Tryd.isAgg91
  z37 := Tryd.sizeOf91
  v37 := Tryd.zeroValue91
  t70 := Tryd.underlying134
  a70 := Tryd.isAgg134
  z70 := Tryd.sizeOf134
  v70 := Tryd.zeroValue134
  t72 := Tryd.underlying136
  a72 := Tryd.isAgg136
  z72 := Tryd.sizeOf136
  v72 := Tryd.zeroValue136
  t75 := Tryd.underlying139
  a75 := Tryd.isAgg139
  z75 := Tryd.sizeOf139
  v75 := Tryd.zeroValue139
  t164 := Tryd.underlying149
  a164 := Tryd.isAgg149
  z164 := Tryd.sizeOf149
  v164 := Tryd.zeroValue149 }
theorem blays170 : Lays.n170 Tryd.prog bren := {
  mixed := by kernel_rfl
  f170 := Tryd.func94.trans (congrArg some (by kernel_rfl))
  t0 := Tryd.underlying0
  a0 := Tryd.isAgg0
  z0 := Tryd.sizeOf0
  v0 := Tryd.zeroValue0
  t3 := Tryd.underlying3
  a3 := Tryd.isAgg3
  z3 := Tryd.sizeOf3
  v3 := Tryd.zeroValue3
  t37 := Tryd.underlying91
  a37 := Tryd.isAgg91
  z37 := Tryd.sizeOf91
  v37 := Tryd.zeroValue91
  t70 := Tryd.underlying134
  a70 := Tryd.isAgg134
  z70 := Tryd.sizeOf134
  v70 := Tryd.zeroValue134
  t72 := Tryd.underlying136
  a72 := Tryd.isAgg136
  z72 := Tryd.sizeOf136
  v72 := Tryd.zeroValue136 }
theorem blays105 : Lays.n105 Tryd.prog bren := {
  mixed := by kernel_rfl
  f99 := Tryd.func91.trans (congrArg some (by kernel_rfl))
  f105 := Tryd.func83.trans (congrArg some (by kernel_rfl))
  f165 := Tryd.func92.trans (congrArg some (by kernel_rfl))
  f166 := Tryd.func93.trans (congrArg some (by kernel_rfl))
  f169 := Tryd.func95.trans (congrArg some (by kernel_rfl))
  f170 := Tryd.func94.trans (congrArg some (by kernel_rfl))
  f206 := Tryd.func99.trans (congrArg some (by kernel_rfl))
  f212 := Tryd.func90.trans (congrArg some (by kernel_rfl))
  f240 := Tryd.func100.trans (congrArg some (by kernel_rfl))
  f241 := Tryd.func101.trans (congrArg some (by kernel_rfl))
  f263 := Tryd.func97.trans (congrArg some (by kernel_rfl))
  f264 := Tryd.func98.trans (congrArg some (by kernel_rfl))
  f276 := Tryd.func102.trans (congrArg some (by kernel_rfl))
  f277 := Tryd.func103.trans (congrArg some (by kernel_rfl))
  t0 := Tryd.underlying0
  a0 := Tryd.isAgg0
  z0 := Tryd.sizeOf0
  v0 := Tryd.zeroValue0
  t3 := Tryd.underlying3
  a3 := Tryd.isAgg3
  z3 := Tryd.sizeOf3
  v3 := Tryd.zeroValue3
  t4 := Tryd.underlying4
  a4 := Tryd.isAgg4
  z4 := Tryd.sizeOf4
  v4 := Tryd.zeroValue4
  t5 := Tryd.underlying5
  a5 := Tryd.isAgg5
  z5 := Tryd.sizeOf5
  v5 := Tryd.zeroValue5
  t9 := Tryd.underlying9
  a9 := Tryd.isAgg9
  z9 := Tryd.sizeOf9
  v9 := Tryd.zeroValue9
  t20 := Tryd.underlying20
  a20 := Tryd.isAgg20
  z20 := Tryd.sizeOf20
  v20 := Tryd.zeroValue20
  t37 := Tryd.underlying91
  a37 := Tryd.isAgg91
  z37 := Tryd.sizeOf91
  v37 := Tryd.zeroValue91
  t46 := Tryd.underlying102
  a46 := Tryd.isAgg102
  z46 := Tryd.sizeOf102
  v46 := Tryd.zeroValue102
  t51 := Tryd.underlying107
  a51 := Tryd.isAgg107
  z51 := Tryd.sizeOf107
  v51 := Tryd.zeroValue107
  t53 := Tryd.underlying55
  a53 := Tryd.isAgg55
  z53 := Tryd.sizeOf55
  v53 := Tryd.zeroValue55
  t70 := Tryd.underlying134
  a70 := Tryd.isAgg134
  z70 := Tryd.sizeOf134
  v70 := Tryd.zeroValue134
  t72 := Tryd.underlying136
  a72 := Tryd.isAgg136
  z72 := Tryd.sizeOf136
  v72 := Tryd.zeroValue136
  t75 := Tryd.underlying139
  a75 := Tryd.isAgg139
  z75 := Tryd.sizeOf139
  v75 := Tryd.zeroValue139
  t76 := Tryd.underlying140
  a76 := Tryd.isAgg140
  z76 := Tryd.sizeOf140
  v76 := Tryd.zeroValue140
  t109 := Tryd.underlying131
  a109 := Tryd.isAgg131
  z109 := Tryd.sizeOf131
  v109 := Tryd.zeroValue131
  t127 := Tryd.underlying106
  a127 := Tryd.isAgg106
  z127 := Tryd.sizeOf106
  v127 := Tryd.zeroValue106
  t146 := Tryd.underlying145
  a146 := Tryd.isAgg145
  z146 := Tryd.sizeOf145
  v146 := Tryd.zeroValue145
  t148 := Tryd.underlying147
  a148 := Tryd.isAgg147
  z148 := Tryd.sizeOf147
  v148 := Tryd.zeroValue147
  t164 := Tryd.underlying149
  a164 := Tryd.isAgg149
  z164 := Tryd.sizeOf149
  v164 := Tryd.zeroValue149 }
theorem bextra : Builder.Extra Tryd.prog bren := {
  sizeBuilder := by kernel_rfl
  liesBuilder := by kernel_rfl
  t5 := Tryd.underlying5
  a5 := Tryd.isAgg5
  z5 := Tryd.sizeOf5
  v5 := Tryd.zeroValue5
  infoByte := by kernel_rfl
  cellsByte := by kernel_rfl
  sizeByte := by kernel_rfl
  neB5 := by decide }

/-- The cells of bytes. -/
def cellsB (xs : List Nat) : List Value := xs.map fun (x : Nat) => Value.int .u8 (x : Int)
theorem cellsB_length (xs : List Nat) : (cellsB xs).length = xs.length := by simp [cellsB]
theorem cellsB_get (xs : List Nat) (i : Nat) (h : i < xs.length) : (cellsB xs)[i]? = some (.int .u8 ((xs.getD i 0 : Nat) : Int)) := by
  simp [cellsB, List.getElem?_eq_getElem h, List.getD_eq_getElem?_getD]
theorem cellsB_snoc (xs : List Nat) (x : Nat) : cellsB xs ++ [.int .u8 (x : Int)] = cellsB (xs ++ [x]) := by simp [cellsB]
theorem cellsB_bytes {xs : List Nat} (h : bytes xs) : Lib.byteCells (xs.map UInt8.ofNat) = cellsB xs := by
  unfold Lib.byteCells cellsB
  rw [List.map_map]
  apply List.map_congr_left
  intro x hx
  have := h x hx
  simp [Nat.mod_eq_of_lt this]
/-- A builder of one's own, in block b: its bytes are xs. -/
def Bld (w : World) (B b : Nat) (xs : List Nat) : Prop := bytes xs ∧ Lib.IsBuilder 136 5 B b (cellsB xs) w
theorem bgrow_new (B b n : Nat) (w : World) (hB : B ≤ b) (hbk : w.heap[b]? = some (.cells #[.pointer none, .slice none 0 0] 136 (0, 0))) (hBw : B ≤ w.heap.size) (hn : n ≤ 1073741824) :
    Calls Tryd.prog 92 #[.pointer (some ⟨b, 0, none⟩), .int .i64 n] w fun e w' => e = .returned (.tuple #[]) ∧ Bld w' B b [] ∧ Below B w w' :=
  (Any.Builder_Grow_fresh blays165 bextra B b n w hB hbk hBw (by omega)).mono fun e w' h => ⟨h.1, ⟨bytes_nil, .inr h.2.1⟩, h.2.2⟩
theorem bstr_any (B b : Nat) (xs : List Nat) (w : World) (h : Bld w B b xs) (hBw : B ≤ w.heap.size) :
    Calls Tryd.prog 95 #[.pointer (some ⟨b, 0, none⟩)] w fun e w' => e = .returned (.string (st xs)) ∧ Below B w w' :=
  (Any.Builder_String_any blays169 bextra B b (xs.map UInt8.ofNat) w (by rw [cellsB_bytes h.1]; exact h.2) hBw)
theorem strCells_tx (s : ByteArray) : Lib.strCells s = cellsB (tx s) := by
  unfold Lib.strCells cellsB tx
  rw [List.map_map]
  rfl
theorem cellsB_append (xs ys : List Nat) : cellsB xs ++ cellsB ys = cellsB (xs ++ ys) := by simp [cellsB]
theorem bwstr_any (B b : Nat) (xs : List Nat) (s : ByteArray) (w : World) (h : Bld w B b xs) (hl : xs.length + s.size ≤ 1073741824) (hBw : B ≤ w.heap.size) :
    Calls Tryd.prog 93 #[.pointer (some ⟨b, 0, none⟩), .string s] w fun e w' => e = .returned (.tuple #[.int .i64 s.size, .nilIface]) ∧ Bld w' B b (xs ++ tx s) ∧ Below B w w' :=
  (Any.Builder_WriteString blays166 bextra B b (cellsB xs) s w h.2 (by rw [cellsB_length]; omega) hBw).mono fun e w' k =>
    ⟨k.1, ⟨bytes_append h.1 (tx_bytes s), .inr (by have := k.2.1; rw [strCells_tx, cellsB_append] at this; exact this)⟩, k.2.2⟩
theorem blen_any (B b : Nat) (xs : List Nat) (w : World) (h : Bld w B b xs) :
    Calls Tryd.prog 94 #[.pointer (some ⟨b, 0, none⟩)] w fun e w' => e = .returned (.int .i64 xs.length) ∧ w' = w :=
  (Any.Builder_Len blays170 B b (cellsB xs) w h.2).mono fun e w' k => by rw [cellsB_length] at k; exact k
theorem repeatL_zeros (c : Nat) : (⟨(Lib.repeatL [0] c).toArray⟩ : ByteArray) = st (List.replicate c 0) := by
  have h := Lib.repeatL_replicate 0 1 c
  rw [Nat.mul_one] at h
  rw [show ([0] : List UInt8) = List.replicate 1 0 from rfl, h]
  unfold st
  rw [List.map_replicate]
  rfl
theorem repeat_zeros (c : Nat) (w : World) (hc : c ≤ 1048576) :
    Calls Tryd.prog 83 #[.string ⟨#[0]⟩, .int .i64 c] w fun e w' => e = .returned (.string (st (List.replicate c 0))) ∧ Below w.heap.size w w' :=
  (Any.strings_Repeat blays105 bextra ⟨#[0]⟩ c w (by omega) (by show 1 * c ≤ _; omega)).mono fun e w' k => by
    rw [← repeatL_zeros]
    exact k
end Go.Proofs.YtigmckjjoabfeaaDoor
namespace Go.Proofs.YtigmckjjoabfeaaDoor
open Go.RowKit
set_option linter.unusedVariables false
set_option maxRecDepth 4000

theorem st_append (xs ys : List Nat) : st xs ++ st ys = st (xs ++ ys) := by
  apply ByteArray.ext
  unfold st
  rw [ByteArray.data_append]
  simp
theorem add_pad (s : ByteArray) (z : Nat) : s ++ st (List.replicate (z - s.size) 0) = st (pad z (tx s)) := by
  conv => lhs; rw [← st_tx s]
  rw [st_append, st_tx, pad, tx_length]

set_option maxHeartbeats 400000 in
theorem filled_any (s : ByteArray) (Z : Nat) (w : World) (hs : s.size ≤ Z) (hZ : Z ≤ 64) :
    Calls Tryd.prog 71 #[.string s, .int .i64 (Z : Int)] w fun e w' => e = .returned (.string (st (pad Z (tx s)))) ∧ Below w.heap.size w w' := by
  have HE := hide (add_pad s Z)
  have HL := hide (show (st (List.replicate (Z - s.size) 0)).size = Z - s.size by rw [st_len, List.length_replicate])
  have esub : (Z : Int) - (s.size : Int) = ((Z - s.size : Nat) : Int) := by omega
  have HR := hide (fun wx => repeat_zeros (Z - s.size) wx (by omega))
  have hd : Z - s.size ≤ 64 := by omega
  generalize Z - s.size = d at *
  generalize st (List.replicate d 0) = t at *
  have hts : t.size ≤ 64 := by have := unhide HL; omega
  have hadd : (9223372036854775807 < s.size + t.size) = False := by simp; omega
  have HC := hide (fun wx => sclone_any (s ++ t) wx (by rw [ByteArray.size_append]; omega))
  go_enter Tryd.func71, Tryd.ntmps71
  go_wp2_with (first | (go_at_call 83; refine (unhide HR _).mono ?_; rintro e w1 ⟨rfl, hb⟩) | (go_at_call 25; refine (unhide HC _).mono ?_; rintro e w2 ⟨rfl, hb2⟩))
  go_ret
  exact ⟨ret_str (unhide HE), below0 hb hb2⟩

theorem wp_scope_once {P : Program} {a : Act} {w : World} {Q : Exit → Act → World → Prop} {c X : Code} (l : Nat) (J : Act → World → Prop) (μ : Act → World → Nat) (hf : findLabel c l = some (Code.skip.seq X))
    (pass : ∀ a w, J a w → X.wp P (Exit.jump l (fun a' w' => J a' w' ∧ μ a' w' < μ a w) Q) a w)
    (first : (∀ a w, J a w → X.wp P (Exit.jump l J Q) a w) → c.wp P (Exit.jump l J Q) a w) : (Code.scope c).wp P Q a w :=
  wp_scope_jumps l J μ hf (first fun a w h => wp_mono (pass a w h) fun e a w h => by
    cases e with
    | goto l' => exact ⟨h.1, h.2.1⟩
    | _ => exact h) fun a w h => wp_seq (wp_skip (pass a w h))
def txtOf : Value → Nat | .string s => s.size | _ => 0
theorem cut_step (xs : List Nat) (Z i n : Nat) (h : n = min Z (xs.drop (i * Z)).length) :
    ((xs.drop (i * Z)).drop 0).take (n - 0) = (xs.drop (i * Z)).take Z ∧ ((xs.drop (i * Z)).drop n).take ((xs.drop (i * Z)).length - n) = xs.drop ((i + 1) * Z) := by
  have hl := List.length_drop (i := i * Z) (l := xs)
  constructor
  · rw [List.drop_zero, Nat.sub_zero]
    by_cases hc : Z ≤ (xs.drop (i * Z)).length
    · rw [show n = Z by omega]
    · rw [List.take_of_length_le (by omega), List.take_of_length_le (by omega)]
  · rw [List.take_of_length_le (by rw [List.length_drop]; omega), List.drop_drop, Nat.add_mul, Nat.one_mul]
    by_cases hc : Z ≤ (xs.drop (i * Z)).length
    · rw [show n = Z by omega]
    · rw [List.drop_eq_nil_of_le (by omega), List.drop_eq_nil_of_le (by omega)]

/-- What holds at each jump. -/
def CutJ (s : ByteArray) (Z k : Nat) (w : World) (a' : Act) (w' : World) : Prop := ∃ (i : Nat) (t : ByteArray) (b : Option Addr) (c : Nat) (u8 u9 u10 u11 u12 u13 u14 u15 u16 u17 u18 u19 u20 u21 u22 u23 u24 u25 u26 u27 u28 : Value),
      a' = { tmps := #[.string t, .int .i64 (Z : Int), .int .i64 (k : Int), undef, undef, undef, .slice none 0 0, .slice b i c, u8, u9, u10, u11, u12, u13, u14, u15, u16, u17, u18, u19, u20, u21, u22, u23, u24, u25, u26, u27, u28], defers := [] }
      ∧ i < k ∧ Hid (tx t = (tx s).drop (i * Z)) ∧ Hid (OwnT w' w.heap.size (.slice b i c) (blocksL (tx s) Z i)) ∧ Hid (Below w.heap.size w w')
theorem CutJ.mk (s : ByteArray) (Z k : Nat) (w : World) {w' : World} (i : Nat) {t : ByteArray} {b : Option Addr} {c : Nat} {u8 u9 u10 u11 u12 u13 u14 u15 u16 u17 u18 u19 u20 u21 u22 u23 u24 u25 u26 u27 u28 : Value} (hi : i < k) (HT : Hid (tx t = (tx s).drop (i * Z)))
    (HO : Hid (OwnT w' w.heap.size (.slice b i c) (blocksL (tx s) Z i))) (HB : Hid (Below w.heap.size w w')) :
    CutJ s Z k w { tmps := #[.string t, .int .i64 (Z : Int), .int .i64 (k : Int), undef, undef, undef, .slice none 0 0, .slice b i c, u8, u9, u10, u11, u12, u13, u14, u15, u16, u17, u18, u19, u20, u21, u22, u23, u24, u25, u26, u27, u28], defers := [] } w' :=
  ⟨i, t, b, c, u8, u9, u10, u11, u12, u13, u14, u15, u16, u17, u18, u19, u20, u21, u22, u23, u24, u25, u26, u27, u28, rfl, hi, HT, HO, HB⟩
theorem isEmpty_tx (x : ByteArray) : x.toList.isEmpty = (tx x).isEmpty := by
  rw [ByteArray.toList_eq]
  unfold tx
  simp

set_option maxHeartbeats 1000000 in
theorem cut_any (s : ByteArray) (Z k : Nat) (w : World) (hz1 : 1 ≤ Z) (hz2 : Z ≤ 64) (hk : kc s.size Z = k) (hk2 : k ≤ 128) :
    Calls Tryd.prog 65 #[.string s, .int .i64 (Z : Int), .int .i64 (k : Int)] w fun e w' => ∃ v, e = .returned v ∧ OwnT w' w.heap.size v (blocksL (tx s) Z k) ∧ Below w.heap.size w w' := by
  obtain ⟨i0, hi0, hz0, hzs, hzb⟩ := info_parts info_strT
  obtain ⟨wm, hrun, hown, hgr⟩ := run_make_own (P := Tryd.prog) w w.heap.size 28 9 i0 (.string ByteArray.empty) 1 Tryd.underlying28 hi0 hz0 hzs .i64 .i64 k (by rw [hzb]; omega) (by unfold maxLen; omega) (Nat.le_refl _)
  have HOm : Hid (OwnT wm w.heap.size (.slice (some ⟨w.heap.size, 0, none⟩) 0 k) (blocksL (tx s) Z 0)) := hide hown
  have HBm := hide ((Below.refl w.heap.size w).grown hgr (Nat.le_refl _) (fun _ h => by cases h))
  have HK1 := hide (kc_pos s.size Z)
  have HKE := hide (kc_enough s.size Z hz1)
  have HKL := hide (fun j h1 h2 => kc_least s.size Z j hz1 h1 h2)
  rw [hk] at HK1 HKE HKL
  have HX := hide (tx_length s)
  have HXB := hide (tx_bytes s)
  have hst := st_tx s
  have hss : s.size ≤ 8192 := by
    have h1 := unhide HKE
    have h2 : k * Z ≤ 128 * 64 := Nat.mul_le_mul hk2 hz2
    omega
  have HS := hide hst
  clear hown hgr hi0 hz0 hzs hzb hk hst
  go_enter Tryd.func65, Tryd.ntmps65
  go_wp2
  refine wp_scope_once 0 (CutJ s Z k w) (fun a' _ => txtOf (a'.tmps.getD 0 undef)) rfl ?_ ?_
  · rintro a' w' ⟨i, t, b, c, u8, u9, u10, u11, u12, u13, u14, u15, u16, u17, u18, u19, u20, u21, u22, u23, u24, u25, u26, u27, u28, rfl, hi, HT, HO, HB⟩
    have hts : t.size ≤ 8192 := by
      rw [← tx_length, unhide HT, List.length_drop, unhide HX]
      omega
    have htl : t.size = ((tx s).drop (i * Z)).length := by rw [← tx_length, unhide HT]
    have HTL := hide htl
    have M := min_run Z t.size
    obtain ⟨n, hn⟩ : ∃ n, n = min Z t.size := ⟨_, rfl⟩
    rw [← hn] at M
    have hnz : n ≤ Z := by omega
    have hnt : n ≤ t.size := by omega
    have HN := hide hn
    obtain ⟨hc1, hc2⟩ := cut_step (tx s) Z i n (by rw [← htl]; exact hn)
    rw [← unhide HT, ← tx_cut] at hc1
    rw [← unhide HT, tx_length, ← tx_cut] at hc2
    have HC1 := hide hc1
    have HC2 := hide hc2
    have hx1 : (t.extract 0 n).size = n := by rw [ByteArray.size_extract]; omega
    have HF := hide (fun wx => filled_any (t.extract 0 n) Z wx (by rw [hx1]; exact hnz) hz2)
    rw [hc1] at HF
    rw [unhide HT] at HF
    change Hid (∀ wx, Calls Tryd.prog _ _ wx fun e w' => e = .returned (.string (st (blk (tx s) Z i))) ∧ _) at HF
    have HQ := hide (blocksL_succ (tx s) Z i)
    have HQL := hide (blocksL_length (tx s) Z i)
    clear hn htl hc1 hc2 hx1
    have hsb := (unhide HB).size
    go_wp2_with (first | (go_at_call 71; refine (unhide HF _).mono ?_; rintro e w1 ⟨rfl, hb1⟩) | (at_builtin; refine wpList_pushT rfl _ _ rfl w.heap.size (.slice b i c) _ _ rfl rfl ((unhide HO).below hb1) (by have := hb1.size; omega) (by rw [unhide HQL]; omega) ?_))
    intro v2 w2 ho2 hb2
    rw [← unhide HQ] at ho2
    obtain ⟨b2, c2, rfl, -⟩ := ho2.texts
    rw [blocksL_length] at ho2 ⊢
    have HO2 := hide ho2
    have HB2 := hide ((below0 (unhide HB) hb1).trans hb2)
    have hem := isEmpty_tx (t.extract n t.size)
    have hlast := hide (unhide HC2)
    by_cases hl : (i + 1) * Z < s.size
    · have hi2 : i + 1 < k := by
        rcases Nat.lt_or_ge (i + 1) k with h | h
        · exact h
        · have h1 := Nat.mul_le_mul_right Z h
          have h2 := unhide HKE
          omega
      have hne : ((tx s).drop ((i + 1) * Z)).isEmpty = false := by
        rw [List.isEmpty_eq_false_iff]
        intro h
        have h2 := congrArg List.length h
        rw [List.length_drop, unhide HX] at h2
        simp at h2
        omega
      have hmu : (t.extract n t.size).size < t.size := by
        have h1 := tx_length (t.extract n t.size)
        rw [unhide HC2, List.length_drop, unhide HX] at h1
        have h2 := tx_length t
        rw [unhide HT, List.length_drop, unhide HX] at h2
        rw [Nat.add_mul] at h1 hl
        omega
      rw [unhide HC2, hne] at hem
      have HMU := hide hmu
      clear ho2 hb1 hb2 HO HB HF hne hmu hl hlast
      go_wp2
      go_step3
      exact ⟨rfl, CutJ.mk s Z k w (i + 1) hi2 HC2 HO2 HB2, unhide HMU⟩
    · have hi2 : i + 1 = k := by
        have := unhide HKL (i + 1) (by omega) (by omega)
        omega
      have hne : ((tx s).drop ((i + 1) * Z)).isEmpty = true := by
        rw [List.isEmpty_iff]
        apply List.drop_eq_nil_of_le
        rw [unhide HX]
        omega
      rw [unhide HC2, hne] at hem
      subst hi2
      clear ho2 hb1 hb2 HO HB HF hne hl hlast
      go_wp2
      simp only [Exit.jump]
      go_ret
      exact ⟨_, rfl, unhide HO2, unhide HB2⟩
  · intro hpass
    go_wp2
    go_step3
    rename_i K hK
    exact hK _ _ (hpass _ _ (CutJ.mk s Z k w 0 (unhide HK1) (hide (by simp)) HOm HBm))
end Go.Proofs.YtigmckjjoabfeaaDoor
namespace Go.Proofs.YtigmckjjoabfeaaDoor
open Go.RowKit
set_option linter.unusedVariables false
set_option maxRecDepth 4000

/-- Cells stored into a row whose mark lies behind them. -/
theorem run_storeCells_free (P : Program) (g o : Nat) (t : TypeId) (lo hi : Nat) : ∀ (vs : List Value) (i : Nat) (cur : Array Value) (w : World), w.heap[g]? = some (.cells cur t (lo, hi)) → o + i + vs.length ≤ lo → o + i + vs.length ≤ cur.size → (∀ v ∈ vs, v.oneCell' = true) →
    (storeCells ⟨g, o, none⟩ vs i).run P w = .ok () (w.setRow g (cur.toList.take (o + i) ++ vs ++ cur.toList.drop (o + i + vs.length)).toArray)
  | [], i, cur, w, hg, _, _, _ => by
    simp only [storeCells, List.append_nil, List.length_nil, Nat.add_zero, List.take_append_drop, Array.toArray_toList]
    rw [setRow_self w g cur t (lo, hi) hg]
    rfl
  | v :: rest, i, cur, w, hg, hlo, hl, h1 => by
    have hi' : o + i < cur.size := by simp at hl; omega
    have hlo' : o + i < lo := by simp at hlo; omega
    have hadd : (⟨g, o, none⟩ : Addr).add i = ⟨g, o + i, none⟩ := by unfold Addr.add; split <;> simp_all
    have hcell : w.cell? ⟨g, o + i, none⟩ = some cur[o + i] := by simp [World.cell?, hg, hi']
    have hfro : w.frozen? ⟨g, o + i, none⟩ = false := by simp [World.frozen?, hg]; omega
    have hst : (store ((⟨g, o, none⟩ : Addr).add i) v).run P w = .ok () (w.setRow g (cur.setIfInBounds (o + i) v)) := by
      rw [hadd, run_store P w _ v _ (h1 v (by simp)), hcell]
      simp [hfro, setCell_eq_setRow w g (o + i) cur t (lo, hi) v hg]
    have ih := run_storeCells_free P g o t lo hi rest (i + 1) (cur.setIfInBounds (o + i) v) (w.setRow g (cur.setIfInBounds (o + i) v)) (setRow_heap w g cur _ t _ hg) (by simp at hlo; omega) (by simp at hl ⊢; omega) (fun x hx => h1 x (by simp [hx]))
    simp only [storeCells, Sem.run_bind, hst, Result.andThen_ok, ih, setRow_setRow]
    congr 3
    have e := list_seg_step cur.toList (o + i) v rest (by simp at hl ⊢; omega)
    simpa [Array.toList_setIfInBounds, Nat.add_assoc] using e

/-- An append whose run is known, in a walk. -/
theorem wpList_append_run {P : Program} {w w' : World} {ops : Array Oper} {rest : List Oper} {o : Oper} {act : Act} {Q : Exit → Act → World → Prop} (hgd : o.guard = none) (s x : Operand) (t u : TypeId)
    (ho : o.op = .call { callee := .builtin .append, args := #[s, x], argTypes := #[t, u] }) (v vx r : Value) (hs : act.eval s = v) (hx : act.eval x = vx)
    (hr : ∀ ty, (Builtin.append_ #[t, u] ty #[v, vx]).run P w = .ok r w') (hK : wpList P ops Q rest (act.put o.dst r) w') : wpList P ops Q (o :: rest) act w :=
  wpList_plain hgd fun _ hK' => by
    unfold Oper.wp execOp
    simp only [ho, resolve, invoke, builtin, Sem.run_bind, Sem.run_pure, Result.andThen_ok, List.map_toArray, List.map_cons, List.map_nil, hs, hx, hr]
    exact hK' _ _ hK
theorem zeroCells_u8 (m : Nat) : Builtin.zeroCells (Value.int .u8 0).cells m = Array.replicate m (.int .u8 0) := by
  unfold Builtin.zeroCells
  apply Array.ext
  · simp [Value.cells]
  · intro i h1 h2
    simp [Value.cells, Nat.mod_one]
theorem made_bytes (w : World) (s : ByteArray) (m : Nat) (hs : s.size ≤ 1048576) (hm : m ≤ 1048576) : ∃ w1 C w2 g cap, (convert 9 91 (.string s)).run Tryd.prog w = .ok (.slice (some ⟨w.heap.size, 0, none⟩) s.size C) w1 ∧
    (∀ ty, (Builtin.append_ #[91, 3] ty #[.slice (some ⟨w.heap.size, 0, none⟩) s.size C, .int .i64 (m : Int)]).run Tryd.prog w1 = .ok (.slice (some ⟨g, 0, none⟩) (s.size + m) cap) w2) ∧
    OwnB w2 w.heap.size (.slice (some ⟨g, 0, none⟩) (s.size + m) cap) (tx s ++ List.replicate m 0) ∧ Below w.heap.size w w2 ∧ s.size + m ≤ cap ∧ cap ≤ 9223372036854775807 := by
  obtain ⟨i0, hi0, hz0, hz1, hz2⟩ := info_parts info_u8
  have hrun := run_bytes_of_string (P := Tryd.prog) w 9 91 5 s Tryd.underlying9 Tryd.underlying91 Tryd.underlying5
  have hCge := grownCap_ge w s.size 0 5
  have hCle := grownCap_le_maxLen w s.size 0 5 (by unfold maxLen; omega)
  unfold maxLen at hCle
  generalize grownCap w s.size 0 5 = C at *
  have hsz : (bytesRow s C).size = C := by
    unfold bytesRow
    rw [Array.size_append, Array.size_map, Array.size_replicate]
    show s.size + (C - s.size) = C
    omega
  rw [hsz] at hrun
  have hbl : bytes (tx s ++ List.replicate m 0) := fun x hx => by
    rcases List.mem_append.1 hx with hx | hx
    · exact tx_bytes s x hx
    · rw [(List.mem_replicate.1 hx).2]; decide
  have hln : (tx s ++ List.replicate m 0).length = s.size + m := by rw [List.length_append, tx_length, List.length_replicate]
  have hget : ∀ i, (tx s ++ List.replicate m 0).getD i 0 = (tx s).getD i 0 := fun i => by
    rw [List.getD_eq_getElem?_getD, List.getD_eq_getElem?_getD]
    by_cases h : i < (tx s).length
    · rw [List.getElem?_append_left h]
    · rw [List.getElem?_append_right (by omega), List.getElem?_eq_none (l := tx s) (by omega), List.getElem?_replicate]
      split <;> rfl
  have hold : ∀ i, i < s.size → (bytesRow s C)[i]? = some (.int .u8 (((tx s).getD i 0 : Nat) : Int)) := fun i hi => by
    rw [bytesRow_at s _ i hi, ← tx_get s i hi]
    rfl
  have hgw : (w.drew.alloc (.cells (bytesRow s C) 5 (C, C + 1))).heap[w.heap.size]? = some (.cells (bytesRow s C) 5 (C, C + 1)) := by
    show (w.heap.push _)[w.heap.size]? = _
    simp
  have hb1 : Below w.heap.size w (w.drew.alloc (.cells (bytesRow s C) 5 (C, C + 1))) := ((Below.refl _ _).drew).alloc (Nat.le_refl _) _
  generalize hw1 : w.drew.alloc (.cells (bytesRow s C) 5 (C, C + 1)) = w1 at *
  have hwm : IntKind.i64.wrap (m : Int) = (m : Int) := by
    rw [IntKind.wrap_i64]
    omega
  have hasi : ∀ W, (asInt (.int .i64 (m : Int))).run Tryd.prog W = .ok (m : Int) W := fun _ => rfl
  have hl0 : ¬ ((m : Int) < 0) := by omega
  have hby : ¬ (281474976710656 < (m : Int) * (i0.bytes : Int)) := by rw [hz2]; omega
  by_cases hroom : s.size + m ≤ C
  · have hst := run_storeCells_free Tryd.prog w.heap.size s.size 5 C (C + 1) (List.replicate m (.int .u8 0)) 0 (bytesRow s C) w1 hgw (by simp; omega) (by simp [hsz]; omega) (fun v hv => by rw [(List.mem_replicate.1 hv).2]; rfl)
    rw [Nat.add_zero, List.length_replicate] at hst
    obtain ⟨R, hR⟩ : ∃ R, (List.take s.size (bytesRow s C).toList ++ List.replicate m (Value.int .u8 0) ++ List.drop (s.size + m) (bytesRow s C).toList).toArray = R := ⟨_, rfl⟩
    rw [hR] at hst
    have hw2 := setRow_heap w1 w.heap.size (bytesRow s C) R 5 (C, C + 1) hgw
    have hlen : (List.take s.size (bytesRow s C).toList).length = s.size := by rw [List.length_take, Array.length_toList, hsz]; omega
    have hRat : ∀ i, i < s.size + m → R[i]? = some (.int .u8 (((tx s).getD i 0 : Nat) : Int)) := fun i hi => by
      rw [← hR, List.getElem?_toArray, List.append_assoc]
      by_cases h : i < s.size
      · rw [List.getElem?_append_left (by omega), List.getElem?_take, if_pos h, Array.getElem?_toList, hold i h]
      · rw [List.getElem?_append_right (by omega), hlen, List.getElem?_append_left (by rw [List.length_replicate]; omega), List.getElem?_replicate, if_pos (by omega)]
        rw [List.getD_eq_getElem?_getD, List.getElem?_eq_none (by rw [tx_length]; omega)]
        rfl
    refine ⟨w1, C, w1.setRow w.heap.size R, w.heap.size, C, hrun, fun ty => ?_, ⟨hbl, .inr ⟨w.heap.size, C, by rw [hln], Nat.le_refl _, (Array.getElem?_eq_some_iff.1 hw2).1, fun i hi => ?_, fun i hi => ?_⟩⟩, ?_, hroom, hCle⟩
    · unfold Builtin.append_
      by_cases hm0 : m = 0
      · subst hm0
        have hself : w1.setRow w.heap.size R = w1 := by
          simp [storeCells] at hst
          exact hst.symm
        rw [hself]
        simp [run_underlying Tryd.underlying91, run_underlying Tryd.underlying3, sizeOf, typeInfo, zeroValue, hi0, hz0, hCge, storeCells, show ∀ W, (asInt (.int .i64 (0 : Int))).run Tryd.prog W = .ok (0 : Int) W from fun _ => rfl, show IntKind.i64.wrap 0 = 0 from rfl]
      · have hadd : (⟨w.heap.size, 0, none⟩ : Addr).add s.size = ⟨w.heap.size, s.size, none⟩ := by unfold Addr.add; split <;> simp_all
        simp [run_underlying Tryd.underlying91, run_underlying Tryd.underlying3, sizeOf, typeInfo, zeroValue, hi0, hz0, hz1, hasi, hwm, hl0, hby, hroom, hm0, zeroCells_u8, hadd, hst]
    · rw [hget]
      rw [hln] at hi
      exact (Lib.cell_of_heap hw2 i).trans (hRat i hi)
    · rw [hln] at hi
      have : ¬ C ≤ i := by omega
      simp [World.frozen?, hw2, this]
    · exact hb1.trans ⟨rfl, rfl, rfl, by simp, fun k hk => setRow_other _ _ k _ (by omega)⟩
  · have hfc := run_firstCells_some (P := Tryd.prog) w1.drew 1 s.size ⟨w.heap.size, 0, none⟩ s.size C (cellsB (tx s)) (by rw [cellsB_length, tx_length, Nat.mul_one]) (fun j v hj => by
      have hlt : j < (tx s).length := by
        have := (List.getElem?_eq_some_iff.1 hj).1
        rwa [cellsB_length] at this
      have e : (⟨w.heap.size, 0, none⟩ : Addr).add j = ⟨w.heap.size, j, none⟩ := by unfold Addr.add; split <;> simp_all
      rw [e, ← hj, cellsB_get _ _ hlt]
      exact (Lib.cell_of_heap hgw j).trans (hold j (by rwa [tx_length] at hlt)))
    have hfit := growslice_fits (need := s.size + m) (old := C) (bytes := i0.bytes) (by omega) (by rw [hz2]; omega)
    have hG := grownCap_ge w1 (s.size + m) C 5
    have hGm := grownCap_le_maxLen w1 (s.size + m) C 5 (by unfold maxLen; omega)
    unfold maxLen at hGm
    have h48 : ¬ (281474976710656 < Builtin.nextslicecap (s.size + m) C * i0.bytes) := by omega
    have h63 : ¬ (9223372036854775807 < (s.size : Int) + (m : Int)) := by omega
    have hm0 : m ≠ 0 := by omega
    obtain ⟨R, hR⟩ : ∃ R, (cellsB (tx s)).toArray ++ Array.replicate m (Value.int .u8 0) ++ Array.replicate (grownCap w1 (s.size + m) C 5 - (s.size + m)) (Value.int .u8 0) = R := ⟨_, rfl⟩
    have hRat : ∀ i, i < s.size + m → R[i]? = some (.int .u8 (((tx s).getD i 0 : Nat) : Int)) := fun i hi => by
      rw [← hR, Array.append_assoc]
      have hlc : (cellsB (tx s)).toArray.size = s.size := by simp [cellsB_length, tx_length]
      by_cases h : i < s.size
      · rw [Array.getElem?_append_left (by omega), List.getElem?_toArray, cellsB_get _ _ (by rw [tx_length]; exact h)]
      · rw [Array.getElem?_append_right (by omega), hlc, Array.getElem?_append_left (by simp; omega), Array.getElem?_replicate, if_pos (by omega)]
        rw [List.getD_eq_getElem?_getD, List.getElem?_eq_none (by rw [tx_length]; omega)]
        rfl
    have hw2 : (w1.drew.alloc (.cells R 5)).heap[w1.heap.size]? = some (.cells R 5 (0, 0)) := by
      show (w1.heap.push _)[w1.heap.size]? = _
      simp
    refine ⟨w1, C, w1.drew.alloc (.cells R 5), w1.heap.size, grownCap w1 (s.size + m) C 5, hrun, fun ty => ?_, ⟨hbl, .inr ⟨w1.heap.size, _, by rw [hln], hb1.size, (Array.getElem?_eq_some_iff.1 hw2).1, fun i hi => ?_, fun i hi => ?_⟩⟩, ?_, hG, hGm⟩
    · unfold Builtin.append_
      simp [run_underlying Tryd.underlying91, run_underlying Tryd.underlying3, sizeOf, typeInfo, zeroValue, hi0, hz0, hz1, hasi, hwm, hl0, hby, hroom, hm0, zeroCells_u8, h48, h63, Question.forced, hfc, newRow, grownCap]
      rw [← hR]
      simp [grownCap]
    · rw [hget]
      rw [hln] at hi
      exact (Lib.cell_of_heap hw2 i).trans (hRat i hi)
    · exact Lib.frozen_of_heap hw2 i
    · exact (hb1.drew).alloc hb1.size _
end Go.Proofs.YtigmckjjoabfeaaDoor
namespace Go.Proofs.YtigmckjjoabfeaaDoor
open Go.RowKit
set_option linter.unusedVariables false
set_option maxRecDepth 4000

set_option maxHeartbeats 400000 in
theorem split_no (s : ByteArray) (z : Int) (w : World) (hs : s.size ≤ 9223372036854775807) (h : planE (s.size : Int) z ≠ 0) :
    Calls Tryd.prog 47 #[.string s, .int .i64 z] w fun e w' => e = .returned (.tuple #[.slice none 0 0, .int .i64 (planE (s.size : Int) z)]) ∧ w' = w := by
  have HP := hide (plan_any (s.size : Int) z w (by omega))
  generalize planE (s.size : Int) z = E0 at *
  generalize planK (s.size : Int) z = K0 at *
  go_enter Tryd.func47, Tryd.ntmps47
  go_wp2_with (go_at_call 64; refine (unhide HP).mono ?_; rintro e w1 ⟨rfl, hw⟩; obtain rfl := hw.symm)
  go_ret2
  exact ⟨rfl, rfl⟩

set_option maxHeartbeats 400000 in
theorem split_yes (s : ByteArray) (Z : Nat) (w : World) (hz1 : 1 ≤ Z) (hz2 : Z ≤ 64) (hk2 : kc s.size Z ≤ 128) :
    Calls Tryd.prog 47 #[.string s, .int .i64 (Z : Int)] w fun e w' => ∃ v, e = .returned (.tuple #[v, .int .i64 0]) ∧ OwnT w' w.heap.size v (blocksL (tx s) Z (kc s.size Z)) ∧ Below w.heap.size w w' := by
  have hs : s.size ≤ 8192 := by
    have h1 := kc_enough s.size Z hz1
    have h2 : kc s.size Z * Z ≤ 128 * 64 := Nat.mul_le_mul hk2 hz2
    omega
  have hp := plan_any (s.size : Int) (Z : Int) w (by omega)
  rw [(plan_ok hz1 hz2 hk2).1, (plan_ok hz1 hz2 hk2).2] at hp
  have HP := hide hp
  have HC := hide (cut_any s Z (kc s.size Z) w hz1 hz2 rfl hk2)
  clear hp
  generalize kc s.size Z = k at *
  go_enter Tryd.func47, Tryd.ntmps47
  go_wp2_with (first | (go_at_call 64; refine (unhide HP).mono ?_; rintro e w1 ⟨rfl, hw⟩; obtain rfl := hw.symm) | (go_at_call 65; refine (unhide HC).mono ?_; rintro e w2 ⟨v, rfl, ho, hb⟩))
  go_ret2
  exact ⟨_, rfl, ho, hb⟩

/-- 'string(b[o:o+n])'. -/
theorem OwnB.textAt {w : World} {B g cap : Nat} {m : Nat} {xs : List Nat} (h : OwnB w B (.slice (some ⟨g, 0, none⟩) m cap) xs) (hm : xs.length = m) (o n c : Nat) (hn : o + n ≤ m) :
    (convert 91 9 (.slice (some ⟨g, o, none⟩) n c)).run Tryd.prog w = .ok (.string (st ((xs.drop o).take n))) w := by
  subst hm
  rcases h.2 with ⟨e, _⟩ | ⟨g', cap', e, hg, hgg, hc, hf⟩
  · cases e
  · simp only [Value.slice.injEq, Option.some.injEq, Addr.mk.injEq, and_true, true_and] at e
    obtain ⟨rfl, rfl⟩ := e
    have hl : ((xs.drop o).take n).length = n := by rw [List.length_take, List.length_drop]; omega
    have := run_convert_bytes_back (P := Tryd.prog) w 91 9 5 ⟨g, o, none⟩ c (((xs.drop o).take n).map UInt8.ofNat) Tryd.underlying91 Tryd.underlying5 Tryd.underlying9 (fun j hj => by
      have hj' : j < n := by rw [List.length_map, hl] at hj; exact hj
      have e : (⟨g, o, none⟩ : Addr).add j = ⟨g, o + j, none⟩ := by unfold Addr.add; split <;> simp_all
      rw [e, hc (o + j) (by omega)]
      have hb := h.1.get (o + j)
      have hx : ((xs.drop o).take n)[j]'(by rw [hl]; exact hj') = xs.getD (o + j) 0 := by
        have h1 := getD_take (xs.drop o) n j
        rw [if_pos hj', getD_drop] at h1
        rw [← h1, List.getD_eq_getElem?_getD, List.getElem?_eq_getElem (by rw [hl]; exact hj')]
        rfl
      simp only [List.getElem_map]
      rw [hx, UInt8.toNat_ofNat_of_lt' hb])
    rw [List.length_map, hl] at this
    exact this

set_option maxHeartbeats 400000 in
theorem rsplit_no (s : ByteArray) (z : Int) (w : World) (hs : s.size ≤ 9223372036854775807) (h : planE (s.size : Int) z ≠ 0) :
    Calls Tryd.prog 24 #[.string s, .int .i64 z] w fun e w' => e = .returned (.tuple #[.slice none 0 0, .int .i64 (planE (s.size : Int) z)]) ∧ w' = w := by
  have HP := hide (rplan_any (s.size : Int) z w (by omega))
  generalize planE (s.size : Int) z = E0 at *
  generalize planK (s.size : Int) z = K0 at *
  go_enter Tryd.func24, Tryd.ntmps24
  go_wp2_with (go_at_call 48; refine (unhide HP).mono ?_; rintro e w1 ⟨rfl, hw⟩; obtain rfl := hw.symm)
  go_ret2
  exact ⟨rfl, rfl⟩

set_option maxHeartbeats 1000000 in
theorem rsplit_yes (s : ByteArray) (Z : Nat) (w : World) (hz1 : 1 ≤ Z) (hz2 : Z ≤ 64) (hk2 : kc s.size Z ≤ 128) :
    Calls Tryd.prog 24 #[.string s, .int .i64 (Z : Int)] w fun e w' => ∃ v, e = .returned (.tuple #[v, .int .i64 0]) ∧ OwnT w' w.heap.size v (blocksL (tx s) Z (kc s.size Z)) ∧ Below w.heap.size w w' := by
  have hke := kc_enough s.size Z hz1
  have hkz : kc s.size Z * Z ≤ 128 * 64 := Nat.mul_le_mul hk2 hz2
  have hp := rplan_any (s.size : Int) (Z : Int) w (by omega)
  rw [(plan_ok hz1 hz2 hk2).1, (plan_ok hz1 hz2 hk2).2] at hp
  have HP := hide hp
  clear hp
  generalize kc s.size Z = k at *
  have emul : (k : Int) * (Z : Int) = ((k * Z : Nat) : Int) := by simp
  have esub : ((k * Z : Nat) : Int) - (s.size : Int) = ((k * Z - s.size : Nat) : Int) := by omega
  obtain ⟨w1, C, w2, g, cap, hr1, hr2, hob, hb2, hcap, hcap2⟩ := made_bytes w s (k * Z - s.size) (by omega) (by omega)
  have e1 : s.size + (k * Z - s.size) = k * Z := by omega
  rw [e1] at hr2 hob hcap
  have HPD := hide (show tx s ++ List.replicate (k * Z - s.size) 0 = pad (k * Z) (tx s) by rw [pad, tx_length])
  have HM := hide (fun i (h : i < k) => (Nat.mul_le_mul_right Z h : (i + 1) * Z ≤ k * Z))
  have HPL := hide (show (pad (k * Z) (tx s)).length = k * Z from pad_length _ _ (by rw [tx_length]; exact hke))
  rw [unhide HPD] at hob
  have HOB := hide hob
  have HB2 := hide hb2
  have HREF := hide (fun i (h : i < k) => blk_ref (tx s) Z k i h)
  generalize k * Z - s.size = d at *
  obtain ⟨m, hm⟩ : ∃ m, k * Z = m := ⟨_, rfl⟩
  rw [hm] at emul esub hr2 hob hcap HPD HM HPL HOB HREF hke hkz
  have hcz : (m : Int) ≤ (cap : Int) := by omega
  have HR2 := hide hr2
  clear hob hb2 e1 hm HPD hr2
  go_enter Tryd.func24, Tryd.ntmps24
  go_wp2_with (first | (go_at_call 48; refine (unhide HP).mono ?_; rintro e w1 ⟨rfl, hw⟩; obtain rfl := hw.symm) | (at_builtin; refine wpList_append_run rfl _ _ _ _ rfl (.slice (some ⟨w.heap.size, 0, none⟩) s.size C) (.int .i64 (d : Int)) _ rfl rfl (unhide HR2) ?_))
  clear HP HR2 hr1
  go_loopw [9, 10] (fun v i wr => ∃ (j : Nat) (b : Option Addr) (c : Nat), j ≤ k ∧ i = .int .i64 j ∧ v = .slice b j c ∧ Hid (OwnT wr w2.heap.size (.slice b j c) (blocksL (tx s) Z j)) ∧ Hid (Below w2.heap.size w2 wr)) (fun _ i _ => k - (intOf i).toNat)
  case atStart => exact ⟨0, none, 0, Nat.zero_le _, rfl, rfl, hide (OwnT.nil _ _), hide (Below.refl _ _)⟩
  case round =>
    rename_i wr
    obtain ⟨j, b, c, hj, rfl, rfl, HO, HB⟩ := hrel
    by_cases hlt : j < k
    · obtain ⟨A, hA⟩ : ∃ A, j * Z = A := ⟨_, rfl⟩
      obtain ⟨H, hH⟩ : ∃ H, (j + 1) * Z = H := ⟨_, rfl⟩
      have eA : (j : Int) * (Z : Int) = (A : Int) := by rw [← hA]; simp
      have eH : ((j : Int) + 1) * (Z : Int) = (H : Int) := by rw [← hH]; simp
      have hHm : H ≤ m := by rw [← hH]; exact unhide HM j hlt
      have hAH : A + Z = H := by rw [← hA, ← hH, Nat.add_mul, Nat.one_mul]
      have HE := hide (unhide HREF j hlt)
      rw [hA] at HE
      have hAH2 : A ≤ H := by omega
      have hAH3 : A < m := by omega
      have htx := ((unhide HOB).below (unhide HB)).textAt (unhide HPL) A (H - A) (cap - A) (by omega)
      have hZ : H - A = Z := by omega
      rw [show List.take (H - A) (List.drop A (pad m (tx s))) = blk (tx s) Z j by rw [hZ]; exact unhide HE] at htx
      have hHA : (H : Int) - (A : Int) = (Z : Int) := by omega
      have HQ := hide (blocksL_succ (tx s) Z j)
      have HQL := hide (blocksL_length (tx s) Z j)
      have hsb := (unhide HB).size
      have HAHZ := hide hAH
      have HZ := hide hZ
      clear hA hH hAH HE HM HREF hZ
      go_wp2_with (at_builtin; refine wpList_pushT rfl _ _ rfl w2.heap.size (.slice b j c) _ _ rfl rfl (unhide HO) hsb (by rw [unhide HQL]; omega) ?_)
      intro v2 w3 ho2 hb2
      rw [← unhide HQ] at ho2
      obtain ⟨b2, c2, rfl, -⟩ := ho2.texts
      rw [blocksL_length] at ho2 ⊢
      have HO2 := hide ho2
      have HB3 := hide ((unhide HB).trans hb2)
      clear ho2 hb2 HO HB HOB htx
      go_wp2
      go_roundw
      case rel => exact ⟨j + 1, b2, c2, by omega, by go_num, rfl, HO2, HB3⟩
      case measure => simp [intOf]; omega
    · obtain rfl : j = k := by omega
      clear HREF HM
      go_wp2
      go_ret2
      exact ⟨_, rfl, (unhide HO).mono (unhide HB2).size, (unhide HB2).trans ((unhide HB).mono (unhide HB2).size)⟩
end Go.Proofs.YtigmckjjoabfeaaDoor
