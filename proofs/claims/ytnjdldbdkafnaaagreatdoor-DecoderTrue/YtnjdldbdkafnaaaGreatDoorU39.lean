/-
  Contracts of split.Plan and bucketlineref09.Plan: for every two ints. Of bucketlineref02.Texts: for every two slices of texts.
  Numbers and their bytes, the highest first, on plain lists. No condition.
  strings.Builder in this program: the shelf's contracts of Grow (of a new builder), WriteByte and String, laid at this program's own numbers. Conditions: a builder in a block of its own; at most 2^47 bytes.
  'append([]byte(s), make([]byte, m)...)'; 'string(b[i:j])'. For texts of at most 2^20 bytes.
-/
import Derived.Test.YtnjdldbdkafnaaaGreatDoorU35
import Derived.Test.YtnjdldbdkafnaaaGreatDoorU5
import Derived.Deep.QuietTactic
import Derived.BigQuiet
import Derived.Test.YtnjdldbdkafnaaaGreatDoorU4
import Derived.Shelf.Strings.Builder2
import Derived.Test.YtnjdldbdkafnaaaGreatDoorU32
import Derived.WalkMore
import Derived.ScopeJumps
import Derived.Laws.AppendOwn
namespace Go.Proofs.YtnjdldbdkafnaaaGreatDoor
open Go.RowKit
set_option linter.unusedVariables false
set_option linter.unusedSimpArgs false
set_option maxRecDepth 4000

theorem ret_two {k k' : IntKind} {a b c d : Int} (h : a = c) (h' : b = d) : Ending.returned (.tuple #[.int k a, .int k' b]) = .returned (.tuple #[.int k c, .int k' d]) := by rw [h, h']

set_option maxHeartbeats 400000 in
theorem rplan_any (n z : Int) (w : World) (hn : n ≤ 9223372036854775807) :
    Calls Tryz.prog 35 #[.int .i64 n, .int .i64 z] w fun e w' => e = .returned (.tuple #[.int .i64 (planK n z), .int .i64 (planE n z)]) ∧ w' = w := by
  by_cases h : n < 0 ∨ z < 1 ∨ 64 < z
  · rw [(plan_arg h).1, (plan_arg h).2]
    by_cases h1 : n < 0
    · clear h
      go_enter Tryz.func35, Tryz.ntmps35
      go_wp2
      go_ret2
      exact ⟨rfl, rfl⟩
    · by_cases h2 : z < 1
      · clear h
        go_enter Tryz.func35, Tryz.ntmps35
        go_wp2
        go_ret2
        exact ⟨rfl, rfl⟩
      · have h3 : 64 < z := by omega
        clear h
        go_enter Tryz.func35, Tryz.ntmps35
        go_wp2
        go_ret2
        exact ⟨rfl, rfl⟩
  · obtain ⟨N, rfl⟩ : ∃ N : Nat, n = (N : Int) := ⟨n.toNat, by omega⟩
    obtain ⟨Z, rfl⟩ : ∃ Z : Nat, z = (Z : Int) := ⟨z.toNat, by omega⟩
    have hz1 : 1 ≤ Z := by omega
    have hz2 : Z ≤ 64 := by omega
    have hz0 : (1 : Int) ≤ (Z : Int) := by omega
    have hz3 : (Z : Int) ≤ 64 := by omega
    have hn0 : (0 : Int) ≤ (N : Int) := by omega
    by_cases hbig : 128 < kc N Z
    · have hb2 := (kc_great N Z 128 hz1 (by decide)).1 hbig
      have hb3 : (Z : Int) * 128 < (N : Int) := by omega
      have HR := hide (plan_size hz1 hz2 hbig)
      obtain ⟨E0, hE0⟩ : ∃ E0, planE (N : Int) (Z : Int) = E0 := ⟨_, rfl⟩
      obtain ⟨K0, hK0⟩ : ∃ K0, planK (N : Int) (Z : Int) = K0 := ⟨_, rfl⟩
      rw [hE0, hK0]
      rw [hE0, hK0] at HR
      clear hE0 hK0 hbig hb2 h
      go_enter Tryz.func35, Tryz.ntmps35
      go_wp2
      go_ret2
      exact ⟨ret_two (unhide HR).2.symm (unhide HR).1.symm, rfl⟩
    · have hb2 : ¬ 128 * Z < N := fun h => hbig ((kc_great N Z 128 hz1 (by decide)).2 h)
      have hb3 : (N : Int) ≤ (Z : Int) * 128 := by omega
      have HR := hide (plan_ok (n := N) hz1 hz2 (by omega))
      obtain ⟨E0, hE0⟩ : ∃ E0, planE (N : Int) (Z : Int) = E0 := ⟨_, rfl⟩
      obtain ⟨K0, hK0⟩ : ∃ K0, planK (N : Int) (Z : Int) = K0 := ⟨_, rfl⟩
      rw [hE0, hK0]
      rw [hE0, hK0] at HR
      have hkb : kc N Z ≤ 128 := by omega
      clear hE0 hK0 hbig hb2 h
      go_enter Tryz.func35, Tryz.ntmps35
      go_wp2
      go_loop [6] (fun v => ∃ k : Nat, 1 ≤ k ∧ k ≤ kc N Z ∧ v = .int .i64 k) (fun v => kc N Z - (intOf v).toNat)
      case atStart => exact ⟨1, Nat.le_refl _, kc_pos _ _, rfl⟩
      case round =>
        obtain ⟨k, hk1, hk2, rfl⟩ := hrel
        have hmz : k * Z ≤ 8192 := Nat.le_trans (Nat.mul_le_mul (show k ≤ 128 by omega) hz2) (by decide)
        have emul : (k : Int) * (Z : Int) = ((k * Z : Nat) : Int) := by simp
        have HG := hide (kc_great N Z k hz1 hk1)
        have HP := hide (fun h => kc_eq N Z k hz1 hk1 h)
        have hkb' : (k : Int) ≤ 128 := by omega
        by_cases hlt : k * Z < N
        · have hk3 := (unhide HG).2 hlt
          generalize k * Z = m at *
          generalize kc N Z = K at *
          clear HG HP
          go_wp2
          go_round
          case rel => exact ⟨k + 1, by omega, by omega, by go_num⟩
          case measure => simp [intOf]; omega
        · have hk3 : ¬ k < kc N Z := fun h => hlt ((unhide HG).1 h)
          have HE := hide (show kc N Z = k by omega)
          generalize k * Z = m at *
          generalize kc N Z = K at *
          clear HG HP
          go_wp2
          go_ret2
          exact ⟨ret_two (by rw [(unhide HR).2, unhide HE]) (unhide HR).1.symm, rfl⟩

end Go.Proofs.YtnjdldbdkafnaaaGreatDoor
namespace Go.Proofs.YtnjdldbdkafnaaaGreatDoor
open Go.RowKit
set_option linter.unusedVariables false
set_option linter.unusedSimpArgs false
set_option maxRecDepth 4000

theorem bytes_append {xs ys : List Nat} (hx : bytes xs) (hy : bytes ys) : bytes (xs ++ ys) := by
  intro x h
  rcases List.mem_append.1 h with h | h
  · exact hx x h
  · exact hy x h

end Go.Proofs.YtnjdldbdkafnaaaGreatDoor
namespace Go.Proofs.YtnjdldbdkafnaaaGreatDoor
open Go.RowKit Go.Shelf
set_option linter.unusedVariables false
set_option linter.unusedSimpArgs false
set_option maxRecDepth 4000

def bren : Ren := ⟨fun | 165 => 87 | 166 => 88 | 170 => 89 | 105 => 0 | 99 => 0 | 206 => 0 | 212 => 0 | 263 => 0 | 264 => 0 | 167 => 0 | 169 => 90 | 240 => 103 | 241 => 104 | 276 => 122 | 277 => 123 | n => n, fun | 0 => 0 | 3 => 3 | 4 => 4 | 5 => 5 | 9 => 9 | 20 => 20 | 37 => 74 | 70 => 117 | 72 => 119 | 75 => 122 | 80 => 43 | 46 => 89 | 51 => 165 | 53 => 53 | 76 => 123 | 109 => 0 | 146 => 0 | 148 => 0 | 127 => 104 | 164 => 147 | n => n, fun | n => n⟩
theorem blays165 : Lays.n165 Tryz.prog bren := {
  mixed := by kernel_rfl
  f165 := Tryz.func87.trans (congrArg some (by kernel_rfl))
  f240 := Tryz.func103.trans (congrArg some (by kernel_rfl))
  f241 := Tryz.func104.trans (congrArg some (by kernel_rfl))
  f276 := Tryz.func122.trans (congrArg some (by kernel_rfl))
  f277 := Tryz.func123.trans (congrArg some (by kernel_rfl))
  t0 := Tryz.underlying0
  a0 := Tryz.isAgg0
  z0 := Tryz.sizeOf0
  v0 := Tryz.zeroValue0
  t3 := Tryz.underlying3
  a3 := Tryz.isAgg3
  z3 := Tryz.sizeOf3
  v3 := Tryz.zeroValue3
  t4 := Tryz.underlying4
  a4 := Tryz.isAgg4
  z4 := Tryz.sizeOf4
  v4 := Tryz.zeroValue4
  t9 := Tryz.underlying9
  a9 := Tryz.isAgg9
  z9 := Tryz.sizeOf9
  v9 := Tryz.zeroValue9
  t20 := Tryz.underlying20
  a20 := Tryz.isAgg20
  z20 := Tryz.sizeOf20
  v20 := Tryz.zeroValue20
  t37 := Tryz.underlying74
  a37 := Tryz.isAgg74
  z37 := Tryz.sizeOf74
  v37 := Tryz.zeroValue74
  t70 := Tryz.underlying117
  a70 := Tryz.isAgg117
  z70 := Tryz.sizeOf117
  v70 := Tryz.zeroValue117
  t72 := Tryz.underlying119
  a72 := Tryz.isAgg119
  z72 := Tryz.sizeOf119
  v72 := Tryz.zeroValue119
  t164 := Tryz.underlying147
  a164 := Tryz.isAgg147
  z164 := Tryz.sizeOf147
  v164 := Tryz.zeroValue147 }
theorem blays169 : Lays.n169 Tryz.prog bren := {
  mixed := by kernel_rfl
  f169 := Tryz.func90.trans (congrArg some (by kernel_rfl))
  t0 := Tryz.underlying0
  a0 := Tryz.isAgg0
  z0 := Tryz.sizeOf0
  v0 := Tryz.zeroValue0
  t3 := Tryz.underlying3
  a3 := Tryz.isAgg3
  z3 := Tryz.sizeOf3
  v3 := Tryz.zeroValue3
  t9 := Tryz.underlying9
  a9 := Tryz.isAgg9
  z9 := Tryz.sizeOf9
  v9 := Tryz.zeroValue9
  t37 := Tryz.underlying74
  a37 := Tryz.isAgg74
  z37 := Tryz.sizeOf74
  v37 := Tryz.zeroValue74
  t70 := Tryz.underlying117
  a70 := Tryz.isAgg117
  z70 := Tryz.sizeOf117
  v70 := Tryz.zeroValue117
  t72 := Tryz.underlying119
  a72 := Tryz.isAgg119
  z72 := Tryz.sizeOf119
  v72 := Tryz.zeroValue119
  t127 := Tryz.underlying104
  a127 := Tryz.isAgg104
  z127 := Tryz.sizeOf104
  v127 := Tryz.zeroValue104 }
theorem blays166 : Lays.n166 Tryz.prog bren := {
  mixed := by kernel_rfl
  f166 := Tryz.func88.trans (congrArg some (by kernel_rfl))
  f240 := Tryz.func103.trans (congrArg some (by kernel_rfl))
  f276 := Tryz.func122.trans (congrArg some (by kernel_rfl))
  t0 := Tryz.underlying0
  a0 := Tryz.isAgg0
  z0 := Tryz.sizeOf0
  v0 := Tryz.zeroValue0
  t3 := Tryz.underlying3
  a3 := Tryz.isAgg3
  z3 := Tryz.sizeOf3
  v3 := Tryz.zeroValue3
  t4 := Tryz.underlying4
  a4 := Tryz.isAgg4
  z4 := Tryz.sizeOf4
  v4 := Tryz.zeroValue4
  t9 := Tryz.underlying9
  a9 := Tryz.isAgg9
  z9 := Tryz.sizeOf9
  v9 := Tryz.zeroValue9
  t20 := Tryz.underlying20
  a20 := Tryz.isAgg20
  z20 := Tryz.sizeOf20
  v20 := Tryz.zeroValue20
  t37 := Tryz.underlying74
  a37 := Tryz.isAgg74
  z37 := Tryz.sizeOf74
  v37 := Tryz.zeroValue74
  t70 := Tryz.underlying117
  a70 := Tryz.isAgg117
  z70 := Tryz.sizeOf117
  v70 := Tryz.zeroValue117
  t72 := Tryz.underlying119
  a72 := Tryz.isAgg119
  z72 := Tryz.sizeOf119
  v72 := Tryz.zeroValue119
  t75 := Tryz.underlying122
  a75 := Tryz.isAgg122
  z75 := Tryz.sizeOf122
  v75 := Tryz.zeroValue122
  t164 := Tryz.underlying147
  a164 := Tryz.isAgg147
  z164 := Tryz.sizeOf147
  v164 := Tryz.zeroValue147 }
theorem blays170 : Lays.n170 Tryz.prog bren := {
  mixed := by kernel_rfl
  f170 := Tryz.func89.trans (congrArg some (by kernel_rfl))
  t0 := Tryz.underlying0
  a0 := Tryz.isAgg0
  z0 := Tryz.sizeOf0
  v0 := Tryz.zeroValue0
  t3 := Tryz.underlying3
  a3 := Tryz.isAgg3
  z3 := Tryz.sizeOf3
  v3 := Tryz.zeroValue3
  t37 := Tryz.underlying74
  a37 := Tryz.isAgg74
  z37 := Tryz.sizeOf74
  v37 := Tryz.zeroValue74
  t70 := Tryz.underlying117
  a70 := Tryz.isAgg117
  z70 := Tryz.sizeOf117
  v70 := Tryz.zeroValue117
  t72 := Tryz.underlying119
  a72 := Tryz.isAgg119
  z72 := Tryz.sizeOf119
  v72 := Tryz.zeroValue119 }
theorem bextra : Builder.Extra Tryz.prog bren := {
  sizeBuilder := by kernel_rfl
  liesBuilder := by kernel_rfl
  t5 := Tryz.underlying5
  a5 := Tryz.isAgg5
  z5 := Tryz.sizeOf5
  v5 := Tryz.zeroValue5
  infoByte := by kernel_rfl
  cellsByte := by kernel_rfl
  sizeByte := by kernel_rfl
  neB5 := by decide }

/-- The cells of bytes. -/
def cellsB (xs : List Nat) : List Value := xs.map fun (x : Nat) => Value.int .u8 (x : Int)
theorem cellsB_length (xs : List Nat) : (cellsB xs).length = xs.length := by simp [cellsB]
theorem cellsB_get (xs : List Nat) (i : Nat) (h : i < xs.length) : (cellsB xs)[i]? = some (.int .u8 ((xs.getD i 0 : Nat) : Int)) := by
  simp [cellsB, List.getElem?_eq_getElem h, List.getD_eq_getElem?_getD]
theorem cellsB_bytes {xs : List Nat} (h : bytes xs) : Lib.byteCells (xs.map UInt8.ofNat) = cellsB xs := by
  unfold Lib.byteCells cellsB
  rw [List.map_map]
  apply List.map_congr_left
  intro x hx
  have := h x hx
  simp [Nat.mod_eq_of_lt this]
/-- A builder of one's own, in block b: its bytes are xs. -/
def Bld (w : World) (B b : Nat) (xs : List Nat) : Prop := bytes xs ∧ Lib.IsBuilder 119 5 B b (cellsB xs) w
theorem bgrow_new (B b n : Nat) (w : World) (hB : B ≤ b) (hbk : w.heap[b]? = some (.cells #[.pointer none, .slice none 0 0] 119 (0, 0))) (hBw : B ≤ w.heap.size) (hn : n ≤ 1073741824) :
    Calls Tryz.prog 87 #[.pointer (some ⟨b, 0, none⟩), .int .i64 n] w fun e w' => e = .returned (.tuple #[]) ∧ Bld w' B b [] ∧ Below B w w' :=
  (Any.Builder_Grow_fresh blays165 bextra B b n w hB hbk hBw (by omega)).mono fun e w' h => ⟨h.1, ⟨bytes_nil, .inr h.2.1⟩, h.2.2⟩
theorem bstr_any (B b : Nat) (xs : List Nat) (w : World) (h : Bld w B b xs) (hBw : B ≤ w.heap.size) :
    Calls Tryz.prog 90 #[.pointer (some ⟨b, 0, none⟩)] w fun e w' => e = .returned (.string (st xs)) ∧ Below B w w' :=
  (Any.Builder_String_any blays169 bextra B b (xs.map UInt8.ofNat) w (by rw [cellsB_bytes h.1]; exact h.2) hBw)
theorem strCells_tx (s : ByteArray) : Lib.strCells s = cellsB (tx s) := by
  unfold Lib.strCells cellsB tx
  rw [List.map_map]
  rfl
theorem cellsB_append (xs ys : List Nat) : cellsB xs ++ cellsB ys = cellsB (xs ++ ys) := by simp [cellsB]
theorem bwstr_any (B b : Nat) (xs : List Nat) (s : ByteArray) (w : World) (h : Bld w B b xs) (hl : xs.length + s.size ≤ 1073741824) (hBw : B ≤ w.heap.size) :
    Calls Tryz.prog 88 #[.pointer (some ⟨b, 0, none⟩), .string s] w fun e w' => e = .returned (.tuple #[.int .i64 s.size, .nilIface]) ∧ Bld w' B b (xs ++ tx s) ∧ Below B w w' :=
  (Any.Builder_WriteString blays166 bextra B b (cellsB xs) s w h.2 (by rw [cellsB_length]; omega) hBw).mono fun e w' k =>
    ⟨k.1, ⟨bytes_append h.1 (tx_bytes s), .inr (by have := k.2.1; rw [strCells_tx, cellsB_append] at this; exact this)⟩, k.2.2⟩
theorem blen_any (B b : Nat) (xs : List Nat) (w : World) (h : Bld w B b xs) :
    Calls Tryz.prog 89 #[.pointer (some ⟨b, 0, none⟩)] w fun e w' => e = .returned (.int .i64 xs.length) ∧ w' = w :=
  (Any.Builder_Len blays170 B b (cellsB xs) w h.2).mono fun e w' k => by rw [cellsB_length] at k; exact k
end Go.Proofs.YtnjdldbdkafnaaaGreatDoor
namespace Go.Proofs.YtnjdldbdkafnaaaGreatDoor
open Go.RowKit
set_option linter.unusedVariables false
set_option linter.unusedSimpArgs false
set_option maxRecDepth 4000

/-- Cells stored into a row whose mark lies behind them. -/
theorem run_storeCells_free (P : Program) (g o : Nat) (t : TypeId) (lo hi : Nat) : ∀ (vs : List Value) (i : Nat) (cur : Array Value) (w : World), w.heap[g]? = some (.cells cur t (lo, hi)) → o + i + vs.length ≤ lo → o + i + vs.length ≤ cur.size → (∀ v ∈ vs, v.oneCell' = true) →
    (storeCells ⟨g, o, none⟩ vs i).run P w = .ok () (w.setRow g (cur.toList.take (o + i) ++ vs ++ cur.toList.drop (o + i + vs.length)).toArray)
  | [], i, cur, w, hg, _, _, _ => by
    simp only [storeCells, List.append_nil, List.length_nil, Nat.add_zero, List.take_append_drop, Array.toArray_toList]
    rw [setRow_self w g cur t (lo, hi) hg]
    rfl
  | v :: rest, i, cur, w, hg, hlo, hl, h1 => by
    have hi' : o + i < cur.size := by simp at hl; omega
    have hlo' : o + i < lo := by simp at hlo; omega
    have hadd : (⟨g, o, none⟩ : Addr).add i = ⟨g, o + i, none⟩ := by unfold Addr.add; split <;> simp_all
    have hcell : w.cell? ⟨g, o + i, none⟩ = some cur[o + i] := by simp [World.cell?, hg, hi']
    have hfro : w.frozen? ⟨g, o + i, none⟩ = false := by simp [World.frozen?, hg]; omega
    have hst : (store ((⟨g, o, none⟩ : Addr).add i) v).run P w = .ok () (w.setRow g (cur.setIfInBounds (o + i) v)) := by
      rw [hadd, run_store P w _ v _ (h1 v (by simp)), hcell]
      simp [hfro, setCell_eq_setRow w g (o + i) cur t (lo, hi) v hg]
    have ih := run_storeCells_free P g o t lo hi rest (i + 1) (cur.setIfInBounds (o + i) v) (w.setRow g (cur.setIfInBounds (o + i) v)) (setRow_heap w g cur _ t _ hg) (by simp at hlo; omega) (by simp at hl ⊢; omega) (fun x hx => h1 x (by simp [hx]))
    simp only [storeCells, Sem.run_bind, hst, Result.andThen_ok, ih, setRow_setRow]
    congr 3
    have e := list_seg_step cur.toList (o + i) v rest (by simp at hl ⊢; omega)
    simpa [Array.toList_setIfInBounds, Nat.add_assoc] using e

/-- An append whose run is known, in a walk. -/
theorem wpList_append_run {P : Program} {w w' : World} {ops : Array Oper} {rest : List Oper} {o : Oper} {act : Act} {Q : Exit → Act → World → Prop} (hgd : o.guard = none) (s x : Operand) (t u : TypeId)
    (ho : o.op = .call { callee := .builtin .append, args := #[s, x], argTypes := #[t, u] }) (v vx r : Value) (hs : act.eval s = v) (hx : act.eval x = vx)
    (hr : ∀ ty, (Builtin.append_ #[t, u] ty #[v, vx]).run P w = .ok r w') (hK : wpList P ops Q rest (act.put o.dst r) w') : wpList P ops Q (o :: rest) act w :=
  wpList_plain hgd fun _ hK' => by
    unfold Oper.wp execOp
    simp only [ho, resolve, invoke, builtin, Sem.run_bind, Sem.run_pure, Result.andThen_ok, List.map_toArray, List.map_cons, List.map_nil, hs, hx, hr]
    exact hK' _ _ hK
theorem zeroCells_u8 (m : Nat) : Builtin.zeroCells (Value.int .u8 0).cells m = Array.replicate m (.int .u8 0) := by
  unfold Builtin.zeroCells
  apply Array.ext
  · simp [Value.cells]
  · intro i h1 h2
    simp [Value.cells, Nat.mod_one]
theorem made_bytes (w : World) (s : ByteArray) (m : Nat) (hs : s.size ≤ 1048576) (hm : m ≤ 1048576) : ∃ w1 C w2 g cap, (convert 9 74 (.string s)).run Tryz.prog w = .ok (.slice (some ⟨w.heap.size, 0, none⟩) s.size C) w1 ∧
    (∀ ty, (Builtin.append_ #[74, 3] ty #[.slice (some ⟨w.heap.size, 0, none⟩) s.size C, .int .i64 (m : Int)]).run Tryz.prog w1 = .ok (.slice (some ⟨g, 0, none⟩) (s.size + m) cap) w2) ∧
    OwnB w2 w.heap.size (.slice (some ⟨g, 0, none⟩) (s.size + m) cap) (tx s ++ List.replicate m 0) ∧ Below w.heap.size w w2 ∧ s.size + m ≤ cap ∧ cap ≤ 9223372036854775807 := by
  obtain ⟨i0, hi0, hz0, hz1, hz2⟩ := info_parts info_u8
  have hrun := run_bytes_of_string (P := Tryz.prog) w 9 74 5 s Tryz.underlying9 Tryz.underlying74 Tryz.underlying5
  have hCge := grownCap_ge w s.size 0 5
  have hCle := grownCap_le_maxLen w s.size 0 5 (by unfold maxLen; omega)
  unfold maxLen at hCle
  generalize grownCap w s.size 0 5 = C at *
  have hsz : (bytesRow s C).size = C := by
    unfold bytesRow
    rw [Array.size_append, Array.size_map, Array.size_replicate]
    show s.size + (C - s.size) = C
    omega
  rw [hsz] at hrun
  have hbl : bytes (tx s ++ List.replicate m 0) := fun x hx => by
    rcases List.mem_append.1 hx with hx | hx
    · exact tx_bytes s x hx
    · rw [(List.mem_replicate.1 hx).2]; decide
  have hln : (tx s ++ List.replicate m 0).length = s.size + m := by rw [List.length_append, tx_length, List.length_replicate]
  have hget : ∀ i, (tx s ++ List.replicate m 0).getD i 0 = (tx s).getD i 0 := fun i => by
    rw [List.getD_eq_getElem?_getD, List.getD_eq_getElem?_getD]
    by_cases h : i < (tx s).length
    · rw [List.getElem?_append_left h]
    · rw [List.getElem?_append_right (by omega), List.getElem?_eq_none (l := tx s) (by omega), List.getElem?_replicate]
      split <;> rfl
  have hold : ∀ i, i < s.size → (bytesRow s C)[i]? = some (.int .u8 (((tx s).getD i 0 : Nat) : Int)) := fun i hi => by
    rw [bytesRow_at s _ i hi, ← tx_get s i hi]
    rfl
  have hgw : (w.drew.alloc (.cells (bytesRow s C) 5 (C, C + 1))).heap[w.heap.size]? = some (.cells (bytesRow s C) 5 (C, C + 1)) := by
    show (w.heap.push _)[w.heap.size]? = _
    simp
  have hb1 : Below w.heap.size w (w.drew.alloc (.cells (bytesRow s C) 5 (C, C + 1))) := ((Below.refl _ _).drew).alloc (Nat.le_refl _) _
  generalize hw1 : w.drew.alloc (.cells (bytesRow s C) 5 (C, C + 1)) = w1 at *
  have hwm : IntKind.i64.wrap (m : Int) = (m : Int) := by
    rw [IntKind.wrap_i64]
    omega
  have hasi : ∀ W, (asInt (.int .i64 (m : Int))).run Tryz.prog W = .ok (m : Int) W := fun _ => rfl
  have hl0 : ¬ ((m : Int) < 0) := by omega
  have hby : ¬ (281474976710656 < (m : Int) * (i0.bytes : Int)) := by rw [hz2]; omega
  by_cases hroom : s.size + m ≤ C
  · have hst := run_storeCells_free Tryz.prog w.heap.size s.size 5 C (C + 1) (List.replicate m (.int .u8 0)) 0 (bytesRow s C) w1 hgw (by simp; omega) (by simp [hsz]; omega) (fun v hv => by rw [(List.mem_replicate.1 hv).2]; rfl)
    rw [Nat.add_zero, List.length_replicate] at hst
    obtain ⟨R, hR⟩ : ∃ R, (List.take s.size (bytesRow s C).toList ++ List.replicate m (Value.int .u8 0) ++ List.drop (s.size + m) (bytesRow s C).toList).toArray = R := ⟨_, rfl⟩
    rw [hR] at hst
    have hw2 := setRow_heap w1 w.heap.size (bytesRow s C) R 5 (C, C + 1) hgw
    have hlen : (List.take s.size (bytesRow s C).toList).length = s.size := by rw [List.length_take, Array.length_toList, hsz]; omega
    have hRat : ∀ i, i < s.size + m → R[i]? = some (.int .u8 (((tx s).getD i 0 : Nat) : Int)) := fun i hi => by
      rw [← hR, List.getElem?_toArray, List.append_assoc]
      by_cases h : i < s.size
      · rw [List.getElem?_append_left (by omega), List.getElem?_take, if_pos h, Array.getElem?_toList, hold i h]
      · rw [List.getElem?_append_right (by omega), hlen, List.getElem?_append_left (by rw [List.length_replicate]; omega), List.getElem?_replicate, if_pos (by omega)]
        rw [List.getD_eq_getElem?_getD, List.getElem?_eq_none (by rw [tx_length]; omega)]
        rfl
    refine ⟨w1, C, w1.setRow w.heap.size R, w.heap.size, C, hrun, fun ty => ?_, ⟨hbl, .inr ⟨w.heap.size, C, by rw [hln], Nat.le_refl _, (Array.getElem?_eq_some_iff.1 hw2).1, fun i hi => ?_, fun i hi => ?_⟩⟩, ?_, hroom, hCle⟩
    · unfold Builtin.append_
      by_cases hm0 : m = 0
      · subst hm0
        have hself : w1.setRow w.heap.size R = w1 := by
          simp [storeCells] at hst
          exact hst.symm
        rw [hself]
        simp [run_underlying Tryz.underlying74, run_underlying Tryz.underlying3, sizeOf, typeInfo, zeroValue, hi0, hz0, hCge, storeCells, show ∀ W, (asInt (.int .i64 (0 : Int))).run Tryz.prog W = .ok (0 : Int) W from fun _ => rfl, show IntKind.i64.wrap 0 = 0 from rfl]
      · have hadd : (⟨w.heap.size, 0, none⟩ : Addr).add s.size = ⟨w.heap.size, s.size, none⟩ := by unfold Addr.add; split <;> simp_all
        simp [run_underlying Tryz.underlying74, run_underlying Tryz.underlying3, sizeOf, typeInfo, zeroValue, hi0, hz0, hz1, hasi, hwm, hl0, hby, hroom, hm0, zeroCells_u8, hadd, hst]
    · rw [hget]
      rw [hln] at hi
      exact (Lib.cell_of_heap hw2 i).trans (hRat i hi)
    · rw [hln] at hi
      have : ¬ C ≤ i := by omega
      simp [World.frozen?, hw2, this]
    · exact hb1.trans ⟨rfl, rfl, rfl, by simp, fun k hk => setRow_other _ _ k _ (by omega)⟩
  · have hfc := run_firstCells_some (P := Tryz.prog) w1.drew 1 s.size ⟨w.heap.size, 0, none⟩ s.size C (cellsB (tx s)) (by rw [cellsB_length, tx_length, Nat.mul_one]) (fun j v hj => by
      have hlt : j < (tx s).length := by
        have := (List.getElem?_eq_some_iff.1 hj).1
        rwa [cellsB_length] at this
      have e : (⟨w.heap.size, 0, none⟩ : Addr).add j = ⟨w.heap.size, j, none⟩ := by unfold Addr.add; split <;> simp_all
      rw [e, ← hj, cellsB_get _ _ hlt]
      exact (Lib.cell_of_heap hgw j).trans (hold j (by rwa [tx_length] at hlt)))
    have hfit := growslice_fits (need := s.size + m) (old := C) (bytes := i0.bytes) (by omega) (by rw [hz2]; omega)
    have hG := grownCap_ge w1 (s.size + m) C 5
    have hGm := grownCap_le_maxLen w1 (s.size + m) C 5 (by unfold maxLen; omega)
    unfold maxLen at hGm
    have h48 : ¬ (281474976710656 < Builtin.nextslicecap (s.size + m) C * i0.bytes) := by omega
    have h63 : ¬ (9223372036854775807 < (s.size : Int) + (m : Int)) := by omega
    have hm0 : m ≠ 0 := by omega
    obtain ⟨R, hR⟩ : ∃ R, (cellsB (tx s)).toArray ++ Array.replicate m (Value.int .u8 0) ++ Array.replicate (grownCap w1 (s.size + m) C 5 - (s.size + m)) (Value.int .u8 0) = R := ⟨_, rfl⟩
    have hRat : ∀ i, i < s.size + m → R[i]? = some (.int .u8 (((tx s).getD i 0 : Nat) : Int)) := fun i hi => by
      rw [← hR, Array.append_assoc]
      have hlc : (cellsB (tx s)).toArray.size = s.size := by simp [cellsB_length, tx_length]
      by_cases h : i < s.size
      · rw [Array.getElem?_append_left (by omega), List.getElem?_toArray, cellsB_get _ _ (by rw [tx_length]; exact h)]
      · rw [Array.getElem?_append_right (by omega), hlc, Array.getElem?_append_left (by simp; omega), Array.getElem?_replicate, if_pos (by omega)]
        rw [List.getD_eq_getElem?_getD, List.getElem?_eq_none (by rw [tx_length]; omega)]
        rfl
    have hw2 : (w1.drew.alloc (.cells R 5)).heap[w1.heap.size]? = some (.cells R 5 (0, 0)) := by
      show (w1.heap.push _)[w1.heap.size]? = _
      simp
    refine ⟨w1, C, w1.drew.alloc (.cells R 5), w1.heap.size, grownCap w1 (s.size + m) C 5, hrun, fun ty => ?_, ⟨hbl, .inr ⟨w1.heap.size, _, by rw [hln], hb1.size, (Array.getElem?_eq_some_iff.1 hw2).1, fun i hi => ?_, fun i hi => ?_⟩⟩, ?_, hG, hGm⟩
    · unfold Builtin.append_
      simp [run_underlying Tryz.underlying74, run_underlying Tryz.underlying3, sizeOf, typeInfo, zeroValue, hi0, hz0, hz1, hasi, hwm, hl0, hby, hroom, hm0, zeroCells_u8, h48, h63, Question.forced, hfc, newRow, grownCap]
      rw [← hR]
      simp [grownCap]
    · rw [hget]
      rw [hln] at hi
      exact (Lib.cell_of_heap hw2 i).trans (hRat i hi)
    · exact Lib.frozen_of_heap hw2 i
    · exact (hb1.drew).alloc hb1.size _
end Go.Proofs.YtnjdldbdkafnaaaGreatDoor
