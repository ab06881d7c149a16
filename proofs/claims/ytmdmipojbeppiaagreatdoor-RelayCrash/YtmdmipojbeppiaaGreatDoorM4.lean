/-
  What the rows' frames share: the table of math/bits as the rows list it; what slices of texts and of rows that came in hold. No condition.
  What the rows' frames of the store share: its numbers, and a row alone, that came in by value. No condition.
  Slices of packets ('PksAt'); contract of bucketlinelaw16.Few.
  What the rows' frames of the decoder share: slices of packets, and a packet by value, that came in. No condition.
  Plain mathematics of shares: their sum, the degree that a draw picks, the table of shares. Of no program. No condition but where it is said.
  Slices of ints of any sign in memory: what can be read ('IntzAt'), what is the call's own ('OwnZ'): made, written, appended to. No condition.
  Slices of texts that can be read ('TextsAt'); slices of texts of the call's own ('OwnT'): made, appended to. No condition.
  What the rows' frames of recode share: slices of ints that came in. No condition.
  Slices of deeds ('DeedsAt': a kind and a packet each). No condition.
  What the rows' frames of the relay share: its numbers and deeds that came in. No condition.
-/
import Derived.Test.YtmdmipojbeppiaaGreatDoorM3
import Derived.Test.YtmdmipojbeppiaaGreatDoorM2
import Derived.Test.YtmdmipojbeppiaaGreatDoorM1
import Derived.ProofKit
import Derived.OpenShut
import Derived.ShutString
import Derived.ChangeOld
import Derived.ChangeMaps5
import Derived.SliceStrings
import Derived.Deep.SlicePairs
import Derived.Deep.DeepHandedRow
import Derived.Lib.LaidTab
import Derived.Below
import Derived.Deep.Slices
import Derived.ChangeSame
import Derived.Laws.MathBits
import Derived.OwnWalk
import Derived.Laws.MakeOwn
import Derived.Deep.QuietTactic
import Derived.BigQuiet
namespace Go.Proofs.YtmdmipojbeppiaaGreatDoor
open Go.ChangeShapes Go.WideShapes Go.ChangeAt Go.RowKit
set_option linter.unusedVariables false
set_option maxRecDepth 4000

theorem own : ownKnob Tryz.prog.godebug = none := by kernel_rfl
theorem laidOut : laidOutB Tryz.prog = true := by kernel_rfl
theorem gTab : Tryz.prog.globalNamed "math/bits.deBruijn64tab" = some 0 := by kernel_rfl
theorem gTabType : (Tryz.prog.globals[0]?).map (·.type) = some 153 := by kernel_rfl
theorem cellsTab : Tryz.prog.cellsOf 153 = 64 := by kernel_rfl
theorem cells5 : Tryz.prog.cellsOf 5 = 1 := by kernel_rfl

theorem table {W : World} (h : laidMetH Tryz.prog Rows.relayPlaysRow.laid W) : Lib.TabIs Tryz.prog W "math/bits.deBruijn64tab" .u8 (Lib.deBruijn64tab.map fun (x : Nat) => (x : Int)) :=
  Lib.tabIs_of_head (rest := []) gTab gTabType Tryz.underlying153 Tryz.underlying5 cells5 cellsTab h
theorem tab_of {W : World} (h : laidMetH Tryz.prog Rows.relayPlaysRow.laid W) : Tab W := by
  intro i hi
  have hl : (Lib.deBruijn64tab.map fun (x : Nat) => (x : Int)).length = 64 := by decide
  have := (table h).cell gTab i (by omega)
  rw [this]
  have hd : Lib.deBruijn64tab.length = 64 := by decide
  have e : i < Lib.deBruijn64tab.length := by omega
  simp [List.getD_eq_getElem?_getD, List.getElem?_eq_getElem e]
theorem add_none (b off i : Nat) : (⟨b, off, none⟩ : Addr).add i = ⟨b, off + i, none⟩ := by
  unfold Addr.add
  split
  · rename_i h; simp_all
  · rfl
theorem max_len {n : Nat} (h : n ≤ maxLen) : n ≤ 9223372036854775807 := by simpa [maxLen] using h

/-- A slice of uint64 that came in can be read. -/
theorem row_cells {W : World} {H : Type} {enc : TypeId × Value → H} {fuel : Nat} {v : Value} {x : DataW H × List MemPlace}
    (h : DataW.trod enc Tryz.prog W 0 (fun _ => true) true fuel 25 [v] = some x) : ∃ a len cap xs, v = .slice a len cap ∧ RowAt W a len xs ∧ len ≤ 9223372036854775807 ∧ len ≤ cap := by
  rcases open_ints Tryz.underlying25 Tryz.underlying65 (by kernel_rfl) h with ⟨hcs, _⟩ | ⟨x, l, c, zs, hcs, _, hl, hm, hz, _, hcell, hwz⟩
  · simp only [List.cons.injEq, and_true] at hcs
    exact ⟨_, _, _, [], hcs, ⟨rfl, (fun _ h => by cases h), .inl rfl⟩, by decide, Nat.le_refl _⟩
  · simp only [List.cons.injEq, and_true] at hcs
    have hzl : zs.length = c := by simpa using hz
    have hb : ∀ z ∈ zs, 0 ≤ z ∧ z < 18446744073709551616 := by
      intro z hzm
      have := bounds_u64 (hwz z hzm)
      omega
    refine ⟨_, _, _, (zs.take l).map Int.toNat, hcs, ⟨by simp; omega, ?_, ?_⟩, by have := max_len hm; omega, hl⟩
    · intro y hy
      obtain ⟨z, hzm, rfl⟩ := List.mem_map.1 hy
      have := hb z (List.mem_of_mem_take hzm)
      show z.toNat < 18446744073709551616
      omega
    · by_cases h0 : l = 0
      · exact .inl h0
      · obtain ⟨b, off, spot⟩ := x
        have hc := hcell 0 (by omega)
        have hspot : spot = none := by simpa [Addr.add] using World.cell?_spot hc
        subst hspot
        refine .inr ⟨b, off, rfl, fun i hi => ?_⟩
        have hci := hcell i (by omega)
        rw [add_none] at hci
        rw [hci]
        have hil : i < zs.length := by omega
        have hzi := hb zs[i] (List.getElem_mem hil)
        have e1 : zs.getD i 0 = zs[i] := by simp [List.getD_eq_getElem?_getD, List.getElem?_eq_getElem hil]
        have e2 : ((zs.take l).map Int.toNat).getD i 0 = zs[i].toNat := by
          simp [List.getD_eq_getElem?_getD, hi, List.getElem?_eq_getElem hil]
        rw [e1, e2]
        rw [show ((zs[i].toNat : Nat) : Int) = zs[i] by omega]
theorem str_cell {W : World} {H : Type} {enc : TypeId × Value → H} {fuel : Nat} {v : Value} {x : DataW H × List MemPlace}
    (h : DataW.trod enc Tryz.prog W 0 (fun _ => true) true fuel 9 [v] = some x) : ∃ s, v = .string s ∧ s.size ≤ 9223372036854775807 := by
  cases fuel with
  | zero => simp [DataW.trod] at h
  | succ fuel =>
    cases v <;> simp [DataW.trod, Tryz.underlying9] at h
    exact ⟨_, rfl, max_len h.1⟩
theorem list_of (P : Nat → RV → Prop) : ∀ n, (∀ i, i < n → ∃ r, P i r) → ∃ rs : List RV, rs.length = n ∧ ∀ i, i < n → P i (rs.getD i .dflt)
  | 0, _ => ⟨[], rfl, fun i hi => by omega⟩
  | n + 1, h => by
    obtain ⟨rs, hl, hr⟩ := list_of P n (fun i hi => h i (by omega))
    obtain ⟨r, hp⟩ := h n (by omega)
    refine ⟨rs ++ [r], by simp [hl], fun i hi => ?_⟩
    by_cases e : i < n
    · have := hr i e
      rwa [show (rs ++ [r]).getD i .dflt = rs.getD i .dflt from by simp [List.getD_eq_getElem?_getD, List.getElem?_append_left (show i < rs.length by omega)]]
    · obtain rfl : i = n := by omega
      rwa [show (rs ++ [r]).getD i .dflt = r from by simp [List.getD_eq_getElem?_getD, ← hl]]
/-- A slice of rows that came in can be read. -/
theorem rows_of {W : World} {H : Type} {enc : TypeId × Value → H} {a : Option Addr} {len cap : Nat} {d : DataW H} {ps : List MemPlace}
    (h : DataW.Trod enc Tryz.prog W 0 (fun _ => true) true 80 (.slice a len cap) d ps) : ∃ rs, RowsAt W a len rs ∧ len ≤ 9223372036854775807 ∧ len ≤ cap ∧ cap ≤ 9223372036854775807 ∧
      (∀ i, (rs.getD i .dflt).n ≤ 9223372036854775807 ∧ (rs.getD i .dflt).s.size ≤ 9223372036854775807) ∧ CapR rs := by
  obtain ⟨fuel, hf⟩ := h
  rcases Go.Deep.open_slice_pairs Tryz.underlying80 Tryz.underlying40 (by kernel_rfl) rfl rfl (by kernel_rfl) (by kernel_rfl) hf with ⟨hcs, _⟩ | ⟨x, l, c, m, n, V0, V1, D0, D1, P0, P1, hcs, _, hl, hm, hmm, _, hx⟩
  · simp [Value.cells] at hcs
    obtain ⟨rfl, rfl, rfl⟩ := hcs
    exact ⟨[], ⟨rfl, fun i hi => by omega, .inl rfl⟩, by decide, by decide, by decide, fun i => ⟨Nat.zero_le _, Nat.zero_le _⟩, fun i hi => by simp at hi⟩
  · simp [Value.cells] at hcs
    obtain ⟨rfl, rfl, rfl⟩ := hcs
    have hmc : m = cap := by simpa using hmm
    have hcap := max_len hm
    obtain ⟨rs, hrl, hr⟩ := list_of (fun i r => V0 i = .slice r.a r.n r.c ∧ RowAt W r.a r.n r.xs ∧ (r.n ≤ 9223372036854775807 ∧ r.n ≤ r.c) ∧ V1 i = .string r.s ∧ r.s.size ≤ 9223372036854775807) len (fun i hi => by
      obtain ⟨_, _, h0, h1⟩ := hx i (by omega)
      obtain ⟨a', l', c', xs, e0, hrow, hl', hc'⟩ := row_cells h0
      obtain ⟨s, e1, hs⟩ := str_cell h1
      exact ⟨⟨a', l', c', xs, s⟩, e0, hrow, ⟨hl', hc'⟩, e1, hs⟩)
    refine ⟨rs, ⟨hrl, fun i hi => (hr i hi).2.1, ?_⟩, by omega, hl, hcap, fun i => ?_, fun i hi => (hr i (by omega)).2.2.1.2⟩
    · by_cases h0 : len = 0
      · exact .inl h0
      · obtain ⟨b, off, spot⟩ := x
        have hc := (hx 0 (by omega)).1
        have hspot : spot = none := by simpa [Addr.add] using World.cell?_spot hc
        subst hspot
        refine .inr ⟨b, off, rfl, fun i hi => ?_⟩
        obtain ⟨g0, g1, _, _⟩ := hx i (by omega)
        rw [add_none] at g0 g1
        rw [(hr i hi).1] at g0
        rw [(hr i hi).2.2.2.1] at g1
        exact ⟨g0, g1⟩
    · by_cases hi : i < len
      · exact ⟨(hr i hi).2.2.1.1, (hr i hi).2.2.2.2⟩
      · rw [List.getD_eq_getElem?_getD, List.getElem?_eq_none (by omega)]
        exact ⟨Nat.zero_le _, Nat.zero_le _⟩
end Go.Proofs.YtmdmipojbeppiaaGreatDoor
namespace Go.Proofs.YtmdmipojbeppiaaGreatDoor
open Go.ChangeShapes Go.WideShapes Go.ChangeAt Go.RowKit
set_option linter.unusedVariables false
set_option maxRecDepth 4000

theorem int_cell {W : World} {H : Type} {enc : TypeId × Value → H} {fuel : Nat} {v : Value} {x : DataW H × List MemPlace}
    (h : DataW.trod enc Tryz.prog W 0 (fun _ => true) true fuel 3 [v] = some x) : ∃ a, v = .int .i64 a := by
  cases fuel with
  | zero => simp [DataW.trod] at h
  | succ fuel =>
    cases v <;> simp [DataW.trod, Tryz.underlying3] at h
    obtain ⟨⟨rfl, _⟩, _⟩ := h
    exact ⟨_, rfl⟩
theorem array3 {α : Type} {cs : Array α} (h : cs.size = 3) : ∃ c0 c1 c2, cs = #[c0, c1, c2] := by
  obtain ⟨l⟩ := cs
  match l, h with
  | [c0, c1, c2], _ => exact ⟨c0, c1, c2, rfl⟩
theorem array2 {α : Type} {cs : Array α} (h : cs.size = 2) : ∃ c0 c1, cs = #[c0, c1] := by
  obtain ⟨l⟩ := cs
  match l, h with
  | [c0, c1], _ => exact ⟨c0, c1, rfl⟩
theorem cellsRw : Tryz.prog.cellsOf 40 = 2 := by kernel_rfl
theorem some_of {α : Type} {l : List α} {i : Nat} (h : i < l.length) : ∃ y, l[i]? = some y := ⟨_, List.getElem?_eq_getElem h⟩
/-- A row that came in by value. -/
theorem rowv_of {W : World} {H : Type} {enc : TypeId × Value → H} {base : Nat} {v : Value} {d : DataW H} {ps : List MemPlace} (hv : Value.okWide Tryz.prog W .any base 40 v)
    (h : DataW.Trod enc Tryz.prog W 0 (fun _ => true) true 40 v d ps) :
    ∃ (a : Option Addr) (n c : Nat) (xs : List Nat) (s : ByteArray), v = .agg #[.slice a n c, .string s] ∧ RowAt W a n xs := by
  obtain ⟨cs, rfl, hsz⟩ := okWide_struct Tryz.underlying40 hv
  obtain ⟨c0, c1, rfl⟩ := array2 (hsz.trans cellsRw)
  obtain ⟨fuel, hf⟩ := h
  obtain ⟨ys, n, _, _, _, hlen, hf⟩ := DataW.trod_struct Tryz.underlying40 hf
  have hl : ys.length = 2 := hlen
  obtain ⟨y0, e0⟩ := some_of (l := ys) (i := 0) (by omega)
  obtain ⟨y1, e1⟩ := some_of (l := ys) (i := 1) (by omega)
  have f0 := (hf 0 _ rfl).trans e0
  have f1 := (hf 1 _ rfl).trans e1
  simp only [Value.cells] at f0 f1
  obtain ⟨a, l, c, xs, rfl, hr, _, _⟩ := row_cells f0
  obtain ⟨s, rfl, _⟩ := str_cell f1
  exact ⟨a, l, c, xs, s, rfl, hr⟩
end Go.Proofs.YtmdmipojbeppiaaGreatDoor
namespace Go.Proofs.YtmdmipojbeppiaaGreatDoor
open Go.RowKit Go.Sort
set_option linter.unusedVariables false
set_option maxRecDepth 4000

/-- A packet as it lies in memory: its five numbers, its row. -/
structure PKV where
  o : Int
  l : Int
  k : Int
  z : Int
  h : Int
  r : RV
/-- What stands behind the end of a list of packets. -/
def PKV.dflt : PKV := ⟨0, 0, 0, 0, 0, .dflt⟩
/-- The packet by value. -/
def PKV.val (p : PKV) : Value := .agg #[.int .i64 p.o, .int .i64 p.l, .int .i64 p.k, .int .i64 p.z, .int .i64 p.h, .slice p.r.a p.r.n p.r.c, .string p.r.s]
/-- Seven cells that hold a packet. -/
def PkCells (w : World) (b off : Nat) (p : PKV) : Prop :=
  w.cell? ⟨b, off, none⟩ = some (.int .i64 p.o) ∧ w.cell? ⟨b, off + 1, none⟩ = some (.int .i64 p.l) ∧ w.cell? ⟨b, off + 2, none⟩ = some (.int .i64 p.k) ∧ w.cell? ⟨b, off + 3, none⟩ = some (.int .i64 p.z) ∧ w.cell? ⟨b, off + 4, none⟩ = some (.int .i64 p.h) ∧
    w.cell? ⟨b, off + 5, none⟩ = some (.slice p.r.a p.r.n p.r.c) ∧ w.cell? ⟨b, off + 6, none⟩ = some (.string p.r.s)
theorem PkCells.belowB {w w' : World} {b off B : Nat} {p : PKV} (h : PkCells w b off p) (hb : Below B w w') (hB : b < B) : PkCells w' b off p :=
  ⟨(hb.cell (p := ⟨b, off, none⟩) hB).trans h.1, (hb.cell (p := ⟨b, off + 1, none⟩) hB).trans h.2.1, (hb.cell (p := ⟨b, off + 2, none⟩) hB).trans h.2.2.1, (hb.cell (p := ⟨b, off + 3, none⟩) hB).trans h.2.2.2.1, (hb.cell (p := ⟨b, off + 4, none⟩) hB).trans h.2.2.2.2.1, (hb.cell (p := ⟨b, off + 5, none⟩) hB).trans h.2.2.2.2.2.1, (hb.cell (p := ⟨b, off + 6, none⟩) hB).trans h.2.2.2.2.2.2⟩
theorem PkCells.below {w w' : World} {b off : Nat} {p : PKV} (h : PkCells w b off p) (hb : Below w.heap.size w w') : PkCells w' b off p := h.belowB hb (World.block_lt_of_cell? w _ h.1)
/-- A slice of n packets that can be read: they are ps. -/
def PksAt (w : World) (a : Option Addr) (n : Nat) (ps : List PKV) : Prop :=
  ps.length = n ∧ (∀ i, i < n → RowAt w (ps.getD i .dflt).r.a (ps.getD i .dflt).r.n (ps.getD i .dflt).r.xs) ∧ (n = 0 ∨ ∃ b off, a = some ⟨b, off, none⟩ ∧ ∀ i, i < n → PkCells w b (off + i * 7) (ps.getD i .dflt))
theorem PksAt.at {w : World} {a : Option Addr} {n : Nat} {ps : List PKV} (h : PksAt w a n ps) {i : Nat} (hi : i < n) : ∃ b off, a = some ⟨b, off, none⟩ ∧ ∀ i, i < n → PkCells w b (off + i * 7) (ps.getD i .dflt) := by
  rcases h.2.2 with h0 | h0
  · omega
  · exact h0
theorem PksAt.below {w w' : World} {a : Option Addr} {n : Nat} {ps : List PKV} (h : PksAt w a n ps) (hb : Below w.heap.size w w') : PksAt w' a n ps := by
  refine ⟨h.1, fun i hi => (h.2.1 i hi).below hb, ?_⟩
  rcases h.2.2 with h0 | ⟨b, off, rfl, hc⟩
  · exact .inl h0
  · exact .inr ⟨b, off, rfl, fun i hi => (hc i hi).below hb⟩
/-- Packets that are not too long, nor too many. -/
def shortP (ps : List PKV) : Prop := ∀ i, (ps.getD i .dflt).r.n ≤ 10 ∧ (ps.getD i .dflt).r.s.size ≤ 1000
def FewK (ps : List PKV) : Prop := ps.length ≤ 60 ∧ shortP ps

set_option maxHeartbeats 400000 in
theorem fewP_any (a : Option Addr) (n c : Nat) (ps : List PKV) (w : World) (h : PksAt w a n ps) (hn : n ≤ 9223372036854775807) (hbig : ∀ i, (ps.getD i .dflt).r.n ≤ 9223372036854775807 ∧ (ps.getD i .dflt).r.s.size ≤ 9223372036854775807) :
    Calls Tryz.prog 23 #[.slice a n c] w fun e w' => RetI e (FewK ps) ∧ w' = w := by
  obtain rfl := h.1
  by_cases h3 : 60 < ps.length
  · have hd : decide (60 < (ps.length : Int)) = true := by simp; omega
    clear h
    go_enter Tryz.func23, Tryz.ntmps23
    go_wp2
    go_ret
    exact ⟨.inr ⟨rfl, fun h => by have := h.1; omega⟩, rfl⟩
  · have hd : decide (60 < (ps.length : Int)) = false := by simp; omega
    go_enter Tryz.func23, Tryz.ntmps23
    go_wp2
    go_loop [3] (fun i => ∃ k : Nat, k ≤ ps.length ∧ i = .int .i64 k ∧ Hid (∀ j, j < k → (ps.getD j .dflt).r.n ≤ 10 ∧ (ps.getD j .dflt).r.s.size ≤ 1000)) (fun i => ps.length - (intOf i).toNat)
    case atStart => exact ⟨0, Nat.zero_le _, rfl, hide (fun j hj => by omega)⟩
    case round =>
      obtain ⟨k, hk, rfl, HZ⟩ := hrel
      by_cases hlt : k < ps.length
      · obtain ⟨b, off, rfl, hc⟩ := h.at hlt
        obtain ⟨-, -, -, -, -, hc0, hc1⟩ := hc k hlt
        have hlt' : (k : Int) < (ps.length : Int) := by omega
        have hbk := hbig k
        clear hc h
        by_cases h1 : 10 < (ps.getD k .dflt).r.n
        · have hd1 : decide (10 < ((ps.getD k .dflt).r.n : Int)) = true := by simp only [decide_eq_true_eq]; omega
          have HF : Hid (¬ FewK ps) := hide (fun h => by have := (h.2 k).1; omega)
          clear hbig
          generalize (ps.getD k .dflt).r = x at *
          go_wp2
          go_ret
          exact ⟨.inr ⟨rfl, unhide HF⟩, rfl⟩
        · have hd1 : decide (10 < ((ps.getD k .dflt).r.n : Int)) = false := by simp only [decide_eq_false_iff_not]; omega
          by_cases h2 : 1000 < (ps.getD k .dflt).r.s.size
          · have hd2 : decide (1000 < ((ps.getD k .dflt).r.s.size : Int)) = true := by simp only [decide_eq_true_eq]; omega
            have HF : Hid (¬ FewK ps) := hide (fun h => by have := (h.2 k).2; omega)
            clear hbig
            generalize (ps.getD k .dflt).r = x at *
            go_wp2
            go_ret
            exact ⟨.inr ⟨rfl, unhide HF⟩, rfl⟩
          · have hd2 : decide (1000 < ((ps.getD k .dflt).r.s.size : Int)) = false := by simp only [decide_eq_false_iff_not]; omega
            have HS := hide (show ∀ j, j < k + 1 → (ps.getD j .dflt).r.n ≤ 10 ∧ (ps.getD j .dflt).r.s.size ≤ 1000 from fun j hj => by
              by_cases e : j = k
              · rw [e]; omega
              · exact unhide HZ j (by omega))
            generalize (ps.getD k .dflt).r = x at *
            clear HZ hbig
            go_wp2
            go_round
            case rel => exact ⟨k + 1, by omega, by go_num, HS⟩
            case measure => simp [intOf]; omega
      · have HF : Hid (FewK ps) := hide ⟨by omega, fun i => by
          by_cases hi : i < k
          · exact unhide HZ i hi
          · rw [List.getD_eq_getElem?_getD, List.getElem?_eq_none (by omega)]
            exact ⟨Nat.zero_le _, Nat.zero_le _⟩⟩
        clear h HZ hbig
        go_wp2
        go_ret
        exact ⟨.inl ⟨rfl, unhide HF⟩, rfl⟩
end Go.Proofs.YtmdmipojbeppiaaGreatDoor
namespace Go.Proofs.YtmdmipojbeppiaaGreatDoor
open Go.ChangeShapes Go.WideShapes Go.ChangeAt Go.RowKit
set_option linter.unusedVariables false
set_option maxRecDepth 4000

theorem cellsPkt : Tryz.prog.cellsOf 42 = 7 := by kernel_rfl
theorem cellsU64s : Tryz.prog.cellsOf 25 = 1 := by kernel_rfl
theorem cellsStr : Tryz.prog.cellsOf 9 = 1 := by kernel_rfl
/-- Seven cells that are a packet. -/
theorem pkt_cells {W : World} {H : Type} {enc : TypeId × Value → H} {fuel : Nat} {cs : List Value} {x : DataW H × List MemPlace} (hl7 : cs.length = 7)
    (h : DataW.trod enc Tryz.prog W 0 (fun _ => true) true fuel 42 cs = some x) :
    ∃ p : PKV, cs = [.int .i64 p.o, .int .i64 p.l, .int .i64 p.k, .int .i64 p.z, .int .i64 p.h, .slice p.r.a p.r.n p.r.c, .string p.r.s] ∧ RowAt W p.r.a p.r.n p.r.xs ∧ p.r.n ≤ 9223372036854775807 ∧ p.r.n ≤ p.r.c ∧ p.r.s.size ≤ 9223372036854775807 := by
  match cs, hl7 with
  | [c0, c1, c2, c3, c4, c5, c6], _ =>
    obtain ⟨ys, n, _, _, _, hlen, hf⟩ := DataW.trod_struct Tryz.underlying42 h
    have hl : ys.length = 6 := hlen
    obtain ⟨y0, e0⟩ := some_of (l := ys) (i := 0) (by omega)
    obtain ⟨y1, e1⟩ := some_of (l := ys) (i := 1) (by omega)
    obtain ⟨y2, e2⟩ := some_of (l := ys) (i := 2) (by omega)
    obtain ⟨y3, e3⟩ := some_of (l := ys) (i := 3) (by omega)
    obtain ⟨y4, e4⟩ := some_of (l := ys) (i := 4) (by omega)
    obtain ⟨y5, e5⟩ := some_of (l := ys) (i := 5) (by omega)
    have f0 := (hf 0 _ rfl).trans e0
    have f1 := (hf 1 _ rfl).trans e1
    have f2 := (hf 2 _ rfl).trans e2
    have f3 := (hf 3 _ rfl).trans e3
    have f4 := (hf 4 _ rfl).trans e4
    have f5 := (hf 5 _ rfl).trans e5
    obtain ⟨o, rfl⟩ := int_cell f0
    obtain ⟨l, rfl⟩ := int_cell f1
    obtain ⟨k, rfl⟩ := int_cell f2
    obtain ⟨z, rfl⟩ := int_cell f3
    obtain ⟨hp, rfl⟩ := int_cell f4
    obtain ⟨z0, z1, m, _, _, g0, g1⟩ := trod_struct2 Tryz.underlying40 f5
    simp only [cellsU64s, cellsStr, List.drop_zero] at g0 g1
    obtain ⟨a, n', c, xs, rfl, hr, hm, hc⟩ := row_cells g0
    obtain ⟨s, rfl, hs⟩ := str_cell g1
    exact ⟨⟨o, l, k, z, hp, ⟨a, n', c, xs, s⟩⟩, rfl, hr, hm, hc, hs⟩
theorem list_of7 (Q : Nat → PKV → Prop) : ∀ n, (∀ i, i < n → ∃ r, Q i r) → ∃ rs : List PKV, rs.length = n ∧ ∀ i, i < n → Q i (rs.getD i .dflt)
  | 0, _ => ⟨[], rfl, fun i hi => by omega⟩
  | n + 1, h => by
    obtain ⟨rs, hl, hr⟩ := list_of7 Q n (fun i hi => h i (by omega))
    obtain ⟨r, hp⟩ := h n (by omega)
    refine ⟨rs ++ [r], by simp [hl], fun i hi => ?_⟩
    by_cases e : i < n
    · have := hr i e
      rwa [show (rs ++ [r]).getD i .dflt = rs.getD i .dflt from by simp [List.getD_eq_getElem?_getD, List.getElem?_append_left (show i < rs.length by omega)]]
    · obtain rfl : i = n := by omega
      rwa [show (rs ++ [r]).getD i .dflt = r from by simp [List.getD_eq_getElem?_getD, ← hl]]
/-- A slice of packets that came in can be read. -/
theorem pkts_of {W : World} {H : Type} {enc : TypeId × Value → H} {a : Option Addr} {len cap : Nat} {d : DataW H} {ps : List MemPlace}
    (h : DataW.Trod enc Tryz.prog W 0 (fun _ => true) true 30 (.slice a len cap) d ps) : ∃ qs, PksAt W a len qs ∧ len ≤ 9223372036854775807 ∧ len ≤ cap ∧
      (∀ i, (qs.getD i .dflt).r.n ≤ 9223372036854775807 ∧ (qs.getD i .dflt).r.s.size ≤ 9223372036854775807) ∧ ∀ i, i < qs.length → (qs.getD i .dflt).r.n ≤ (qs.getD i .dflt).r.c := by
  obtain ⟨fuel, hf⟩ := h
  rcases Go.Deep.open_slice Tryz.underlying30 hf with ⟨hcs, _⟩ | ⟨x, l, c, m, n, D, Pl, hcs, _, hl, hm, hmm, _, hx⟩
  · simp [Value.cells] at hcs
    obtain ⟨rfl, rfl, rfl⟩ := hcs
    exact ⟨[], ⟨rfl, fun i hi => by omega, .inl rfl⟩, by decide, by decide, fun i => ⟨Nat.zero_le _, Nat.zero_le _⟩, fun i hi => by simp at hi⟩
  · simp [Value.cells] at hcs
    obtain ⟨rfl, rfl, rfl⟩ := hcs
    have hmc : m = cap := by simpa using hmm
    have hcap := max_len hm
    obtain ⟨qs, hql, hq⟩ := list_of7 (fun i p => (∀ j u, [(.int .i64 p.o : Value), .int .i64 p.l, .int .i64 p.k, .int .i64 p.z, .int .i64 p.h, .slice p.r.a p.r.n p.r.c, .string p.r.s][j]? = some u → W.cell? ((x.add (i * 7)).add j) = some u) ∧ RowAt W p.r.a p.r.n p.r.xs ∧ p.r.n ≤ 9223372036854775807 ∧ p.r.n ≤ p.r.c ∧ p.r.s.size ≤ 9223372036854775807) len (fun i hi => by
      obtain ⟨cs', h1, h2⟩ := hx i (by omega)
      rw [cellsPkt] at h1
      obtain ⟨_, hlen, hcell⟩ := World.cells?_some h1
      obtain ⟨p, rfl, hr⟩ := pkt_cells hlen h2
      exact ⟨p, fun j u hj => (hcell j (by have := (List.getElem?_eq_some_iff.1 hj).1; simpa using this)).trans hj, hr⟩)
    refine ⟨qs, ⟨hql, fun i hi => (hq i hi).2.1, ?_⟩, by omega, hl, fun i => ?_, fun i hi => (hq i (by omega)).2.2.2.1⟩
    · by_cases h0 : len = 0
      · exact .inl h0
      · obtain ⟨b, off, spot⟩ := x
        have hc := (hq 0 (by omega)).1 0 _ rfl
        have hspot : spot = none := by simpa [Addr.add] using World.cell?_spot hc
        subst hspot
        refine .inr ⟨b, off, rfl, fun i hi => ?_⟩
        have hc := (hq i hi).1
        refine ⟨?_, ?_, ?_, ?_, ?_, ?_, ?_⟩
        · have := hc 0 _ rfl; rwa [add_none, add_none] at this
        · have := hc 1 _ rfl; rwa [add_none, add_none] at this
        · have := hc 2 _ rfl; rwa [add_none, add_none] at this
        · have := hc 3 _ rfl; rwa [add_none, add_none] at this
        · have := hc 4 _ rfl; rwa [add_none, add_none] at this
        · have := hc 5 _ rfl; rwa [add_none, add_none] at this
        · have := hc 6 _ rfl; rwa [add_none, add_none] at this
    · by_cases hi : i < len
      · exact ⟨(hq i hi).2.2.1, (hq i hi).2.2.2.2⟩
      · rw [List.getD_eq_getElem?_getD, List.getElem?_eq_none (by omega)]
        exact ⟨Nat.zero_le _, Nat.zero_le _⟩
/-- A packet that came in by value. -/
theorem pktv_of {W : World} {H : Type} {enc : TypeId × Value → H} {base : Nat} {v : Value} {d : DataW H} {ps : List MemPlace} (hv : Value.okWide Tryz.prog W .any base 42 v)
    (h : DataW.Trod enc Tryz.prog W 0 (fun _ => true) true 42 v d ps) : ∃ p : PKV, v = p.val ∧ RowAt W p.r.a p.r.n p.r.xs := by
  obtain ⟨cs, rfl, hsz⟩ := okWide_struct Tryz.underlying42 hv
  obtain ⟨fuel, hf⟩ := h
  obtain ⟨p, hp, hr, _⟩ := pkt_cells (cs := cs.toList) (by rw [Array.length_toList]; exact hsz.trans cellsPkt) hf
  refine ⟨p, ?_, hr⟩
  unfold PKV.val
  congr 1
  cases cs
  simpa using hp
/-- .. and its sizes. -/
theorem pktz_of {W : World} {H : Type} {enc : TypeId × Value → H} {base : Nat} {v : Value} {d : DataW H} {ps : List MemPlace} (hv : Value.okWide Tryz.prog W .any base 42 v)
    (h : DataW.Trod enc Tryz.prog W 0 (fun _ => true) true 42 v d ps) : ∃ p : PKV, v = p.val ∧ RowAt W p.r.a p.r.n p.r.xs ∧ p.r.n ≤ 9223372036854775807 ∧ p.r.s.size ≤ 9223372036854775807 := by
  obtain ⟨cs, rfl, hsz⟩ := okWide_struct Tryz.underlying42 hv
  obtain ⟨fuel, hf⟩ := h
  obtain ⟨p, hp, hr, h1, _, h2⟩ := pkt_cells (cs := cs.toList) (by rw [Array.length_toList]; exact hsz.trans cellsPkt) hf
  refine ⟨p, ?_, hr, h1, h2⟩
  unfold PKV.val
  congr 1
  cases cs
  simpa using hp
end Go.Proofs.YtmdmipojbeppiaaGreatDoor
namespace Go.Proofs.YtmdmipojbeppiaaGreatDoor
set_option linter.unusedVariables false
set_option maxRecDepth 4000

/-- The sum of the shares above 0. -/
def sumZ : List Int → Nat
  | [] => 0
  | x :: r => x.toNat + sumZ r
theorem sumZ_append : ∀ (a b : List Int), sumZ (a ++ b) = sumZ a + sumZ b
  | [], b => by simp [sumZ]
  | x :: a, b => by simp only [List.cons_append, sumZ, sumZ_append a b]; omega
theorem sumZ_take (l : List Int) (k : Nat) (hk : k < l.length) : sumZ (l.take (k + 1)) = sumZ (l.take k) + (l.getD k 0).toNat := by
  rw [List.take_succ_eq_append_getElem hk, sumZ_append]
  simp [sumZ, List.getD_eq_getElem?_getD, List.getElem?_eq_getElem hk]
theorem sumZ_take_le (l : List Int) (k : Nat) : sumZ (l.take k) ≤ sumZ l := by
  have h := sumZ_append (l.take k) (l.drop k)
  rw [List.take_append_drop] at h
  omega
theorem sumZ_le (M : Nat) : ∀ (l : List Int), (∀ x ∈ l, x ≤ (M : Int)) → sumZ l ≤ l.length * M
  | [], _ => by simp [sumZ]
  | x :: r, h => by
    have h1 := sumZ_le M r (fun y hy => h y (by simp [hy]))
    have h2 := h x (by simp)
    simp only [sumZ, List.length_cons, Nat.add_mul, Nat.one_mul]
    omega

/-- The degree in whose share x falls, of shares that begin at degree j + 1. -/
def pickZ : List Int → Nat → Nat → Nat
  | [], _, _ => 0
  | y :: r, j, x => if x < y.toNat then j + 1 else pickZ r (j + 1) (x - y.toNat)
theorem drop_cons_getD (l : List Int) (k : Nat) (hk : k < l.length) : l.drop k = l.getD k 0 :: l.drop (k + 1) := by
  rw [List.drop_eq_getElem_cons hk]
  simp [List.getD_eq_getElem?_getD, List.getElem?_eq_getElem hk]
theorem pickZ_yes (l : List Int) (k x : Nat) (hk : k < l.length) (h : x < (l.getD k 0).toNat) : pickZ (l.drop k) k x = k + 1 := by
  rw [drop_cons_getD l k hk, pickZ, if_pos h]
theorem pickZ_no (l : List Int) (k x : Nat) (hk : k < l.length) (h : ¬ x < (l.getD k 0).toNat) : pickZ (l.drop k) k x = pickZ (l.drop (k + 1)) (k + 1) (x - (l.getD k 0).toNat) := by
  rw [drop_cons_getD l k hk, pickZ, if_neg h]
theorem pickZ_end (l : List Int) (j x : Nat) : pickZ (l.drop l.length) j x = 0 := by simp [pickZ]
theorem pickZ_in : ∀ (l : List Int) (j x : Nat), x < sumZ l → j + 1 ≤ pickZ l j x ∧ pickZ l j x ≤ j + l.length
  | [], j, x, h => by simp [sumZ] at h
  | y :: r, j, x, h => by
    simp only [sumZ] at h
    simp only [pickZ, List.length_cons]
    by_cases hx : x < y.toNat
    · rw [if_pos hx]; omega
    · rw [if_neg hx]
      have := pickZ_in r (j + 1) (x - y.toNat) (by omega)
      omega
theorem pickZ_at : ∀ (l : List Int) (j i y : Nat), i < l.length → y < (l.getD i 0).toNat → pickZ l j (sumZ (l.take i) + y) = j + i + 1
  | [], j, i, y, h, _ => by simp at h
  | a :: r, j, 0, y, h, hy => by
    simp only [List.take_zero, sumZ, Nat.zero_add, pickZ]
    rw [if_pos (by simpa using hy)]
  | a :: r, j, i + 1, y, h, hy => by
    simp only [List.take_succ_cons, sumZ, pickZ]
    rw [if_neg (by omega), show a.toNat + sumZ (r.take i) + y - a.toNat = sumZ (r.take i) + y by omega, pickZ_at r (j + 1) i y (by simpa using h) (by simpa using hy)]
    omega
/-- What Pick answers. -/
def pickD (l : List Int) (draw : Nat) : Nat := if sumZ l = 0 then 0 else pickZ l 0 (draw % sumZ l)
theorem pickD_none {l : List Int} (h : sumZ l = 0) (draw : Nat) : pickD l draw = 0 := if_pos h
theorem pickD_some {l : List Int} (h : sumZ l ≠ 0) (draw : Nat) : pickD l draw = pickZ l 0 (draw % sumZ l) := if_neg h
theorem pickD_turn (l : List Int) (draw : Nat) : pickD l (draw + sumZ l) = pickD l draw := by
  by_cases h : sumZ l = 0
  · rw [pickD_none h, pickD_none h]
  · rw [pickD_some h, pickD_some h, Nat.add_mod_right]
theorem pickD_le (l : List Int) (draw : Nat) : pickD l draw ≤ l.length := by
  by_cases h : sumZ l = 0
  · rw [pickD_none h]; omega
  · rw [pickD_some h]
    have := pickZ_in l 0 (draw % sumZ l) (Nat.mod_lt _ (by omega))
    omega
theorem pickD_in {l : List Int} (h : sumZ l ≠ 0) (draw : Nat) : 1 ≤ pickD l draw ∧ pickD l draw ≤ l.length := by
  rw [pickD_some h]
  have := pickZ_in l 0 (draw % sumZ l) (Nat.mod_lt _ (by omega))
  omega
theorem pickD_at (l : List Int) (i y : Nat) (hi : i < l.length) (hy : y < (l.getD i 0).toNat) : pickD l (sumZ (l.take i) + y) = i + 1 := by
  have h1 := sumZ_take l i hi
  have h2 := sumZ_take_le l (i + 1)
  rw [pickD_some (by omega), Nat.mod_eq_of_lt (by omega), pickZ_at l 0 i y hi hy]
  omega

/-- Not too many shares, and none too great. -/
def fewZ (l : List Int) : Bool := decide (l.length ≤ 1000) && l.all fun x => decide (x ≤ 1125899906842624)
theorem fewZ_sum {l : List Int} (h : fewZ l = true) : l.length ≤ 1000 ∧ sumZ l ≤ 1125899906842624000 := by
  simp only [fewZ, Bool.and_eq_true, decide_eq_true_eq, List.all_eq_true] at h
  have := sumZ_le 1125899906842624 l h.2
  exact ⟨h.1, by omega⟩
theorem fewZ_no {l : List Int} (k : Nat) (hk : k < l.length) (h : 1125899906842624 < l.getD k 0) : fewZ l = false := by
  rw [← Bool.not_eq_true]
  intro e
  simp only [fewZ, Bool.and_eq_true, decide_eq_true_eq, List.all_eq_true] at e
  have := e.2 (l.getD k 0) (by rw [List.getD_eq_getElem?_getD, List.getElem?_eq_getElem hk]; exact List.getElem_mem hk)
  omega
theorem fewZ_yes {l : List Int} (hl : l.length ≤ 1000) (h : ∀ i, i < l.length → l.getD i 0 ≤ 1125899906842624) : fewZ l = true := by
  simp only [fewZ, Bool.and_eq_true, decide_eq_true_eq, List.all_eq_true]
  refine ⟨hl, fun x hx => ?_⟩
  obtain ⟨i, hi, rfl⟩ := List.mem_iff_getElem.1 hx
  have := h i hi
  rwa [List.getD_eq_getElem?_getD, List.getElem?_eq_getElem hi] at this
theorem fewZ_long {l : List Int} (h : 1000 < l.length) : fewZ l = false := by
  unfold fewZ
  rw [decide_eq_false (by omega)]
  rfl

/-- How many bits, one by one. -/
theorem bitLen_half (x : Nat) (h : 0 < x) : bitLen x = bitLen (x / 2) + 1 := by
  by_cases h2 : x / 2 = 0
  · have : x = 1 := by omega
    subst this
    decide
  · have := bitLen_shift x 1 (by simpa using h2)
    simpa [Nat.add_comm] using this
theorem bitLen_zero : bitLen 0 = 0 := rfl

/-- The share of degree d ahead of what the spread adds. -/
def baseN (k d : Nat) : Nat := if d = 1 then 1048576 / k else 1048576 / (d * (d - 1))
/-- What the spread adds. -/
def moreN (k s d : Nat) : Nat := if s = 0 then 0 else if d < k / s then 1048576 * s / (k * d) else if d = k / s then 1048576 * s * bitLen s / k else 0
def shareN (k s d : Nat) : Nat := max 1 (baseN k d + moreN k s d)
def tableL (k s : Nat) : List Int := (List.range k).map fun i => ((shareN k s (i + 1) : Nat) : Int)
theorem baseN_one (k : Nat) : baseN k 1 = 1048576 / k := if_pos rfl
theorem baseN_more {k d : Nat} (h : d ≠ 1) : baseN k d = 1048576 / (d * (d - 1)) := if_neg h
theorem moreN_none (k d : Nat) : moreN k 0 d = 0 := if_pos rfl
theorem moreN_less {k s d : Nat} (hs : s ≠ 0) (h : d < k / s) : moreN k s d = 1048576 * s / (k * d) := by rw [moreN, if_neg hs, if_pos h]
theorem moreN_same {k s d : Nat} (hs : s ≠ 0) (h : d = k / s) : moreN k s d = 1048576 * s * bitLen s / k := by rw [moreN, if_neg hs, if_neg (by omega), if_pos h]
theorem moreN_over {k s d : Nat} (hs : s ≠ 0) (h : k / s < d) : moreN k s d = 0 := by rw [moreN, if_neg hs, if_neg (by omega), if_neg (by omega)]
theorem baseN_le (k d : Nat) : baseN k d ≤ 1048576 := by
  unfold baseN
  split
  · exact Nat.div_le_self _ _
  · exact Nat.div_le_self _ _
theorem moreN_le (k s d : Nat) (hs : s ≤ 128) : moreN k s d ≤ 1073741824 := by
  unfold moreN
  have hb := bitLen_le8 s (by omega)
  have h1 : 1048576 * s * bitLen s ≤ 1048576 * 128 * 8 := Nat.mul_le_mul (Nat.mul_le_mul_left _ hs) hb
  have h2 := Nat.div_le_self (1048576 * s * bitLen s) k
  have h3 := Nat.div_le_self (1048576 * s) (k * d)
  split
  · omega
  · split
    · omega
    · split
      · omega
      · omega
theorem shareN_le (k s d : Nat) (hs : s ≤ 128) : 1 ≤ shareN k s d ∧ shareN k s d ≤ 1074790400 := by
  have h1 := baseN_le k d
  have h2 := moreN_le k s d hs
  unfold shareN
  omega
theorem tableL_len (k s : Nat) : (tableL k s).length = k := by simp [tableL]
theorem tableL_get (k s i : Nat) (h : i < k) : (tableL k s).getD i 0 = ((shareN k s (i + 1) : Nat) : Int) := by
  simp [tableL, List.getD_eq_getElem?_getD, h]
theorem tableL_sum (k s : Nat) (hk : k ≤ 128) (hs : s ≤ 128) : sumZ (tableL k s) ≤ 137573171200 := by
  have := sumZ_le 1074790400 (tableL k s) (fun x hx => by
    obtain ⟨i, _, rfl⟩ := List.mem_map.1 hx
    have := (shareN_le k s (i + 1) hs).2
    omega)
  rw [tableL_len] at this
  omega
theorem tableL_pos (k s : Nat) (hk : 1 ≤ k) (hs : s ≤ 128) : sumZ (tableL k s) ≠ 0 := by
  have h1 := sumZ_take (tableL k s) 0 (by rw [tableL_len]; omega)
  have h2 := sumZ_take_le (tableL k s) (0 + 1)
  rw [tableL_get k s 0 (by omega)] at h1
  have := (shareN_le k s (0 + 1) hs).1
  omega
/-- Without a spread: in sum about the whole. -/
theorem ideal : ∀ k, 1 ≤ k → k ≤ 128 → 1048576 ≤ sumZ (tableL k 0) + 2 * k ∧ sumZ (tableL k 0) ≤ 1048576 + k := by
  have h : ∀ k : Fin 129, 1 ≤ k.val → 1048576 ≤ sumZ (tableL k.val 0) + 2 * k.val ∧ sumZ (tableL k.val 0) ≤ 1048576 + k.val := by decide +kernel
  intro k h1 h2
  exact h ⟨k, by omega⟩ h1
theorem table_two : tableL 2 0 = [524288, 524288] := by decide +kernel
end Go.Proofs.YtmdmipojbeppiaaGreatDoor
namespace Go.Proofs.YtmdmipojbeppiaaGreatDoor
open Go.RowKit
set_option linter.unusedVariables false
set_option maxRecDepth 4000

def cellsZ (xs : List Int) : List Value := xs.map fun x => Value.int .i64 x
theorem cellsZ_length (xs : List Int) : (cellsZ xs).length = xs.length := by simp [cellsZ]
theorem cellsZ_get (xs : List Int) (i : Nat) (h : i < xs.length) : (cellsZ xs)[i]? = some (.int .i64 (xs.getD i 0)) := by
  simp [cellsZ, List.getElem?_eq_getElem h, List.getD_eq_getElem?_getD]
theorem cellsZ_set (xs : List Int) (i : Nat) (x : Int) : (cellsZ xs).set i (.int .i64 x) = cellsZ (xs.set i x) := by
  simp [cellsZ, List.map_set]
/-- A slice of n ints that can be read: they are xs. -/
def IntzAt (w : World) (a : Option Addr) (n : Nat) (xs : List Int) : Prop :=
  xs.length = n ∧ (n = 0 ∨ ∃ b off, a = some ⟨b, off, none⟩ ∧ ∀ i, i < n → w.cell? ⟨b, off + i, none⟩ = some (.int .i64 (xs.getD i 0)))
theorem IntzAt.at {w : World} {a : Option Addr} {n : Nat} {xs : List Int} (h : IntzAt w a n xs) {i : Nat} (hi : i < n) :
    ∃ b off, a = some ⟨b, off, none⟩ ∧ ∀ i, i < n → w.cell? ⟨b, off + i, none⟩ = some (.int .i64 (xs.getD i 0)) := by
  rcases h.2 with h0 | h0
  · omega
  · exact h0
theorem IntzAt.below {w w' : World} {a : Option Addr} {n : Nat} {xs : List Int} (h : IntzAt w a n xs) (hb : Below w.heap.size w w') : IntzAt w' a n xs := by
  refine ⟨h.1, ?_⟩
  rcases h.2 with h0 | ⟨b, off, rfl, hc⟩
  · exact .inl h0
  · exact .inr ⟨b, off, rfl, fun i hi => (hb.cell (World.block_lt_of_cell? w _ (hc i hi))).trans (hc i hi)⟩
theorem IntzAt.none (w : World) (a : Option Addr) : IntzAt w a 0 [] := ⟨rfl, .inl rfl⟩
/-- A slice of ints of the call's own. -/
def OwnZ (w : World) (B : Nat) (v : Value) (xs : List Int) : Prop := w.ownsRow B 3 1 v xs.length (cellsZ xs)
theorem OwnZ.ints {w : World} {B : Nat} {v : Value} {xs : List Int} (h : OwnZ w B v xs) : ∃ a c, v = .slice a xs.length c ∧ IntzAt w a xs.length xs := by
  have ho' : w.ownsRow B 3 1 v xs.length (cellsZ xs) := h
  rcases h.2 with ⟨rfl, h0⟩ | ⟨g, cap, cur, rfl, hb, hg, hn, hm, hsz, ht⟩
  · exact ⟨Option.none, 0, by rw [h0], rfl, .inl h0⟩
  · refine ⟨_, cap, rfl, rfl, .inr ⟨g, 0, rfl, fun i hi => ?_⟩⟩
    rw [Nat.zero_add, ho'.cellAt i (by omega), cellsZ_get xs i hi]
theorem OwnZ.nil (w : World) (B : Nat) : OwnZ w B (.slice none 0 0) [] := World.ownsRow_nil _ _ _ _
theorem OwnZ.mono {w : World} {B B' : Nat} {v : Value} {xs : List Int} (h : OwnZ w B v xs) (hB : B' ≤ B) : OwnZ w B' v xs := by
  refine ⟨h.1, ?_⟩
  rcases h.2 with h0 | ⟨g, cap, cur, h1, hb, r⟩
  · exact .inl h0
  · exact .inr ⟨g, cap, cur, h1, Nat.le_trans hB hb, r⟩
theorem OwnZ.below {w w' : World} {B : Nat} {v : Value} {xs : List Int} (h : OwnZ w B v xs) (hb : Below w.heap.size w w') : OwnZ w' B v xs := by
  refine ⟨h.1, ?_⟩
  rcases h.2 with h0 | ⟨g, cap, cur, h1, hg, hgg, r⟩
  · exact .inl h0
  · exact .inr ⟨g, cap, cur, h1, hg, (hb.block g (Array.getElem?_eq_some_iff.1 hgg).1).trans hgg, r⟩
theorem OwnZ.at {w : World} {B : Nat} {v : Value} {xs : List Int} (h : OwnZ w B v xs) (hn : 0 < xs.length) :
    ∃ g cap, v = .slice (some ⟨g, 0, none⟩) xs.length cap ∧ B ≤ g ∧ g < w.heap.size ∧ (∀ i, i < xs.length → w.cell? ⟨g, i, none⟩ = some (.int .i64 (xs.getD i 0))) ∧ ∀ i, w.frozen? ⟨g, i, none⟩ = false := by
  have ho' : w.ownsRow B 3 1 v xs.length (cellsZ xs) := h
  rcases h.2 with ⟨rfl, h0⟩ | ⟨g, cap, cur, rfl, hb, hg, hn, hm, hsz, ht⟩
  · omega
  · refine ⟨g, cap, rfl, hb, (Array.getElem?_eq_some_iff.1 hg).1, fun i hi => ?_, fun i => ho'.frozenAt i⟩
    rw [ho'.cellAt i (by omega), cellsZ_get xs i hi]
theorem OwnZ.stored {w : World} {B g cap n : Nat} {xs : List Int} (h : OwnZ w B (.slice (some ⟨g, 0, none⟩) n cap) xs) (i : Nat) (x : Int) :
    OwnZ (w.setCell ⟨g, i, none⟩ (.int .i64 x)) B (.slice (some ⟨g, 0, none⟩) n cap) (xs.set i x) := by
  obtain rfl : n = xs.length := by
    obtain ⟨a, c, e, _⟩ := h.ints
    simp only [Value.slice.injEq] at e
    exact e.2.1
  have ho : w.ownsRow B 3 1 (.slice (some ⟨g, 0, none⟩) xs.length cap) xs.length (cellsZ xs) := h
  have := (ho.stored i (.int .i64 x)).1
  rw [cellsZ_set] at this
  show World.ownsRow _ B 3 1 _ (xs.set i x).length _
  rw [List.length_set]
  exact this
theorem info_intZ : (Tryz.prog.info? 3).map (fun i => (i.zero, i.size, i.bytes)) = some (some (.int .i64 0), 1, 8) := by kernel_rfl
theorem made_intz (w : World) (n : Nat) (hn : n ≤ 1048576) (xs : List Int) (hxs : xs = List.replicate n 0) :
    OwnZ (w.alloc (.cells (madeCells #[.int .i64 0] n) 3)) w.heap.size (.slice (some ⟨w.heap.size, 0, none⟩) n n) xs := by
  subst hxs
  refine ⟨by simp [cellsZ], .inr ⟨w.heap.size, n, madeCells #[.int .i64 0] n, by simp, Nat.le_refl _, heap_alloc_new w _, by simp, by unfold maxLen; omega, by simp [size_madeCells], ?_⟩⟩
  rw [toList_madeCells_one, List.take_of_length_le (by simp)]
  simp [cellsZ]
theorem make_intz (n : Nat) (hn : n ≤ 1048576) (wx : World) : (Instr.makeSlice 78 (.int .i64 (n : Int)) (.int .i64 (n : Int))).run Tryz.prog wx = .ok (.slice (some ⟨wx.heap.size, 0, none⟩) n n) (wx.alloc (.cells (madeCells #[.int .i64 0] n) 3)) := by
  obtain ⟨i0, hi0, hz0, hzs, hzb⟩ := info_parts info_intZ
  have := run_make (P := Tryz.prog) wx 78 3 i0 (.int .i64 0) Tryz.underlying78 hi0 hz0 .i64 .i64 (n : Int) (n : Int) (by omega) (Int.le_refl _) (by rw [hzb]; omega) (by omega)
  rw [hzs] at this
  simpa [Value.cells] using this
/-- What is written so far. -/
def filledZ (fs : List Int) (k : Nat) : List Int := fs.take k ++ List.replicate (fs.length - k) 0
theorem filledZ_zero (fs : List Int) : filledZ fs 0 = List.replicate fs.length 0 := by simp [filledZ]
theorem filledZ_all (fs : List Int) : filledZ fs fs.length = fs := by simp [filledZ]
theorem filledZ_length (fs : List Int) (k : Nat) (hk : k ≤ fs.length) : (filledZ fs k).length = fs.length := by simp [filledZ]; omega
theorem filledZ_succ (fs : List Int) (k : Nat) (hk : k < fs.length) : (filledZ fs k).set k (fs.getD k 0) = filledZ fs (k + 1) := by
  unfold filledZ
  have hl : (fs.take k).length = k := by simp; omega
  rw [List.set_append_right _ _ (by omega), hl, Nat.sub_self, List.take_succ_eq_append_getElem hk, List.append_assoc, show fs.length - k = (fs.length - (k + 1)) + 1 by omega, List.replicate_succ, List.set_cons_zero]
  simp [List.getD_eq_getElem?_getD, List.getElem?_eq_getElem hk]
/-- 'append(own, x)'. -/
theorem wpList_pushZ {w : World} {ops : Array Oper} {rest : List Oper} {o : Oper} {act : Act} {Q : Exit → Act → World → Prop} (hgd : o.guard = none) (s x : Operand)
    (ho : o.op = .call { callee := .builtin .append, args := #[s, x], argTypes := #[78, 78] }) (B : Nat) (v : Value) (xs : List Int) (y : Int)
    (hs : act.eval s = v) (hx : act.eval x = .slice (some ⟨w.heap.size, 0, none⟩) 1 1) (h : OwnZ w B v xs) (hB : B ≤ w.heap.size) (hn : xs.length ≤ 1048576)
    (hK : ∀ s' w', OwnZ w' B s' (xs ++ [y]) → Below B w w' → wpList Tryz.prog ops Q rest (act.put o.dst s') w') : wpList Tryz.prog ops Q (o :: rest) act (w.alloc (.cells #[.int .i64 y] 3)) := by
  obtain ⟨i0, hi, hz0, hz1, hz2⟩ := info_parts info_intZ
  have hb : Below w.heap.size w (w.alloc (.cells #[.int .i64 y] 3)) := (Below.refl _ _).alloc (Nat.le_refl _) _
  have h1 : (w.alloc (.cells #[.int .i64 y] 3)).ownsRow B 3 1 v xs.length (cellsZ xs) := h.below hb
  refine wpList_append_own _ hgd s x 78 ho B 3 i0 (.int .i64 0) 1 8 Tryz.underlying78 hi hz0 hz1 hz2 rfl (by decide) v xs.length (cellsZ xs) hs h1 ⟨w.heap.size, 0, none⟩ 1 1 [.int .i64 y] hx rfl (fun j u hj => ?_)
    (fun u hu => by rw [List.mem_singleton.1 hu]; rfl) (by unfold maxLen; omega) (by omega) (Nat.le_trans hB hb.size) ?_
  · match j with
    | 0 =>
      have hc : (w.alloc (.cells #[.int .i64 y] 3)).cell? ⟨w.heap.size, 0, none⟩ = some (.int .i64 y) := by rw [World.cell?_alloc_at _ _ _ _ rfl]; rfl
      simpa [Addr.add, hc] using hj
    | j + 1 => simp at hj
  · intro v' w' hown hgrow _
    refine hK v' w' ?_ ((hb.mono hB).grown hgrow (Nat.le_trans hB hb.size) fun k hk => (h1.lt k hk).1)
    rw [show cellsZ xs ++ [.int .i64 y] = cellsZ (xs ++ [y]) by simp [cellsZ]] at hown
    show w'.ownsRow B 3 1 v' (xs ++ [y]).length (cellsZ (xs ++ [y]))
    rw [List.length_append]
    exact hown
theorem intz_lit2 (w : World) (x y : Int) : IntzAt (w.alloc (.cells #[.int .i64 x, .int .i64 y] 3)) (some ⟨w.heap.size, 0, Option.none⟩) 2 [x, y] := by
  refine ⟨rfl, .inr ⟨w.heap.size, 0, rfl, fun i hi => ?_⟩⟩
  match i, hi with
  | 0, _ => simp
  | 1, _ => simp
theorem intz_lit3 (w : World) (x y z : Int) : IntzAt (w.alloc (.cells #[.int .i64 x, .int .i64 y, .int .i64 z] 3)) (some ⟨w.heap.size, 0, Option.none⟩) 3 [x, y, z] := by
  refine ⟨rfl, .inr ⟨w.heap.size, 0, rfl, fun i hi => ?_⟩⟩
  match i, hi with
  | 0, _ => simp
  | 1, _ => simp
  | 2, _ => simp
/-- 'max(0, x)', 'max(x, 0)'. -/
theorem max0_run (x : Int) (ts : Array TypeId) (t : TypeId) (w : World) : (Builtin.max_ ts t #[.int .i64 0, .int .i64 x]).run Tryz.prog w = .ok (.int .i64 ((x.toNat : Nat) : Int)) w := by
  rw [run_max_int2]
  congr 2
  split <;> omega
theorem max0_run' (x : Int) (ts : Array TypeId) (t : TypeId) (w : World) : (Builtin.max_ ts t #[.int .i64 x, .int .i64 0]).run Tryz.prog w = .ok (.int .i64 ((x.toNat : Nat) : Int)) w := by
  rw [run_max_int2]
  congr 2
  split <;> omega
theorem max1_run (x : Nat) (ts : Array TypeId) (t : TypeId) (w : World) : (Builtin.max_ ts t #[.int .i64 1, .int .i64 (x : Int)]).run Tryz.prog w = .ok (.int .i64 ((max 1 x : Nat) : Int)) w := by
  rw [run_max_int2]
  congr 2
  split <;> omega
theorem max1_run' (x : Nat) (ts : Array TypeId) (t : TypeId) (w : World) : (Builtin.max_ ts t #[.int .i64 (x : Int), .int .i64 1]).run Tryz.prog w = .ok (.int .i64 ((max 1 x : Nat) : Int)) w := by
  rw [run_max_int2]
  congr 2
  split <;> omega
theorem max_runZ (x y : Int) (ts : Array TypeId) (t : TypeId) (w : World) : (Builtin.max_ ts t #[.int .i64 x, .int .i64 y]).run Tryz.prog w = .ok (.int .i64 (max x y)) w := by
  rw [run_max_int2]
  congr 2
  split <;> omega
theorem min_runZ (x y : Int) (ts : Array TypeId) (t : TypeId) (w : World) : (Builtin.min_ ts t #[.int .i64 x, .int .i64 y]).run Tryz.prog w = .ok (.int .i64 (min x y)) w := by
  rw [run_min_int2]
  congr 2
  split <;> omega
end Go.Proofs.YtmdmipojbeppiaaGreatDoor
namespace Go.Proofs.YtmdmipojbeppiaaGreatDoor
open Go.RowKit
set_option linter.unusedVariables false
set_option maxRecDepth 4000

/-- A slice of n texts that can be read: they are ss. -/
def TextsAt (w : World) (a : Option Addr) (n : Nat) (ss : List ByteArray) : Prop :=
  ss.length = n ∧ (n = 0 ∨ ∃ b off, a = some ⟨b, off, none⟩ ∧ ∀ i, i < n → w.cell? ⟨b, off + i, none⟩ = some (.string (ss.getD i ByteArray.empty)))
theorem TextsAt.at {w : World} {a : Option Addr} {n : Nat} {ss : List ByteArray} (h : TextsAt w a n ss) {i : Nat} (hi : i < n) :
    ∃ b off, a = some ⟨b, off, none⟩ ∧ ∀ i, i < n → w.cell? ⟨b, off + i, none⟩ = some (.string (ss.getD i ByteArray.empty)) := by
  rcases h.2 with h0 | h0
  · omega
  · exact h0
theorem TextsAt.below {w w' : World} {a : Option Addr} {n : Nat} {ss : List ByteArray} (h : TextsAt w a n ss) (hb : Below w.heap.size w w') : TextsAt w' a n ss := by
  refine ⟨h.1, ?_⟩
  rcases h.2 with h0 | ⟨b, off, rfl, hc⟩
  · exact .inl h0
  · exact .inr ⟨b, off, rfl, fun i hi => (hb.cell (World.block_lt_of_cell? w _ (hc i hi))).trans (hc i hi)⟩
def shorts (ss : List ByteArray) : Prop := ∀ s ∈ ss, s.size ≤ 1048576
theorem shorts.get {ss : List ByteArray} (h : shorts ss) (i : Nat) : (ss.getD i ByteArray.empty).size ≤ 1048576 := by
  rw [List.getD_eq_getElem?_getD]
  cases hx : ss[i]? with
  | none => simp
  | some x => exact h x (List.mem_of_getElem? hx)


theorem TextsAt.none (w : World) : TextsAt w none 0 [] := ⟨rfl, .inl rfl⟩
theorem info_strT : (Tryz.prog.info? 9).map (fun i => (i.zero, i.size, i.bytes)) = some (some (.string ByteArray.empty), 1, 16) := by kernel_rfl
/-- The cells of texts. -/
def cellsT (ss : List ByteArray) : List Value := ss.map Value.string
theorem cellsT_length (ss : List ByteArray) : (cellsT ss).length = ss.length := by simp [cellsT]
theorem cellsT_get (ss : List ByteArray) (i : Nat) (h : i < ss.length) : (cellsT ss)[i]? = some (.string (ss.getD i ByteArray.empty)) := by
  simp [cellsT, List.getElem?_eq_getElem h, List.getD_eq_getElem?_getD]
/-- A slice of texts of the call's own that can grow. -/
def OwnT (w : World) (B : Nat) (v : Value) (ss : List ByteArray) : Prop := w.ownsRow B 9 1 v ss.length (cellsT ss)
theorem OwnT.nil (w : World) (B : Nat) : OwnT w B (.slice none 0 0) [] := World.ownsRow_nil _ _ _ _
theorem OwnT.texts {w : World} {B : Nat} {v : Value} {ss : List ByteArray} (h : OwnT w B v ss) : ∃ a c, v = .slice a ss.length c ∧ TextsAt w a ss.length ss := by
  have h' : w.ownsRow B 9 1 v ss.length (cellsT ss) := h
  rcases h.2 with ⟨rfl, h0⟩ | ⟨g, cap, cur, rfl, hb, hg, hn, hm, hsz, ht⟩
  · exact ⟨none, 0, by rw [h0], rfl, .inl h0⟩
  · refine ⟨_, cap, rfl, rfl, .inr ⟨g, 0, rfl, fun i hi => ?_⟩⟩
    rw [Nat.zero_add, h'.cellAt i (by omega), cellsT_get ss i hi]
theorem OwnT.mono {w : World} {B B' : Nat} {v : Value} {ss : List ByteArray} (h : OwnT w B v ss) (hB : B' ≤ B) : OwnT w B' v ss := by
  refine ⟨h.1, ?_⟩
  rcases h.2 with h0 | ⟨g, cap, cur, h1, hb, r⟩
  · exact .inl h0
  · exact .inr ⟨g, cap, cur, h1, Nat.le_trans hB hb, r⟩
theorem OwnT.below {w w' : World} {B : Nat} {v : Value} {ss : List ByteArray} (h : OwnT w B v ss) (hb : Below w.heap.size w w') : OwnT w' B v ss := by
  refine ⟨h.1, ?_⟩
  rcases h.2 with h0 | ⟨g, cap, cur, h1, hg, hgg, r⟩
  · exact .inl h0
  · exact .inr ⟨g, cap, cur, h1, hg, (hb.block g (Array.getElem?_eq_some_iff.1 hgg).1).trans hgg, r⟩
/-- 'append(l, t)'. -/
theorem wpList_pushT {w : World} {ops : Array Oper} {rest : List Oper} {o : Oper} {act : Act} {Q : Exit → Act → World → Prop} (hgd : o.guard = none) (s x : Operand)
    (ho : o.op = .call { callee := .builtin .append, args := #[s, x], argTypes := #[62, 62] }) (B : Nat) (v : Value) (ss : List ByteArray) (t : ByteArray)
    (hs : act.eval s = v) (hx : act.eval x = .slice (some ⟨w.heap.size, 0, none⟩) 1 1) (h : OwnT w B v ss) (hB : B ≤ w.heap.size) (hn : ss.length ≤ 1048576)
    (hK : ∀ s' w', OwnT w' B s' (ss ++ [t]) → Below B w w' → wpList Tryz.prog ops Q rest (act.put o.dst s') w') : wpList Tryz.prog ops Q (o :: rest) act (w.alloc (.cells #[.string t] 9)) := by
  obtain ⟨i0, hi, hz0, hz1, hz2⟩ := info_parts info_strT
  have hb : Below w.heap.size w (w.alloc (.cells #[.string t] 9)) := (Below.refl _ _).alloc (Nat.le_refl _) _
  have h1 : (w.alloc (.cells #[.string t] 9)).ownsRow B 9 1 v ss.length (cellsT ss) := h.below hb
  refine wpList_append_own _ hgd s x 62 ho B 9 i0 (.string ByteArray.empty) 1 16 Tryz.underlying62 hi hz0 hz1 hz2 rfl (by decide) v ss.length (cellsT ss) hs h1 ⟨w.heap.size, 0, none⟩ 1 1 [.string t] hx rfl (fun j u hj => ?_)
    (fun u hu => by rw [List.mem_singleton.1 hu]; rfl) (by unfold maxLen; omega) (by omega) (Nat.le_trans hB hb.size) ?_
  · match j with
    | 0 =>
      have hc : (w.alloc (.cells #[.string t] 9)).cell? ⟨w.heap.size, 0, none⟩ = some (.string t) := by rw [World.cell?_alloc_at _ _ _ _ rfl]; rfl
      simpa [Addr.add, hc] using hj
    | j + 1 => simp at hj
  · intro v' w' hown hgrow _
    refine hK v' w' ?_ ((hb.mono hB).grown hgrow (Nat.le_trans hB hb.size) fun k hk => (h1.lt k hk).1)
    rw [show cellsT ss ++ [.string t] = cellsT (ss ++ [t]) by simp [cellsT]] at hown
    show w'.ownsRow B 9 1 v' (ss ++ [t]).length (cellsT (ss ++ [t]))
    rw [List.length_append]
    exact hown
theorem texts_lit2 (w : World) (s t : ByteArray) : TextsAt (w.alloc (.cells #[.string s, .string t] 9)) (some ⟨w.heap.size, 0, Option.none⟩) 2 [s, t] := by
  refine ⟨rfl, .inr ⟨w.heap.size, 0, rfl, fun i hi => ?_⟩⟩
  match i, hi with
  | 0, _ => simp
  | 1, _ => simp
end Go.Proofs.YtmdmipojbeppiaaGreatDoor
namespace Go.Proofs.YtmdmipojbeppiaaGreatDoor
open Go.ChangeShapes Go.WideShapes Go.ChangeAt Go.RowKit
set_option linter.unusedVariables false
set_option maxRecDepth 4000

/-- A slice of ints that came in can be read. -/
theorem intz_of {W : World} {H : Type} {enc : TypeId × Value → H} {a : Option Addr} {len cap : Nat} {d : DataW H} {ps : List MemPlace}
    (h : DataW.Trod enc Tryz.prog W 0 (fun _ => true) true 78 (.slice a len cap) d ps) : ∃ xs, IntzAt W a len xs ∧ len ≤ 9223372036854775807 := by
  obtain ⟨fuel, hf⟩ := h
  rcases open_ints Tryz.underlying78 Tryz.underlying3 (by kernel_rfl) hf with ⟨hcs, _⟩ | ⟨x, l, c, zs, hcs, _, hl, hm, hz, _, hcell, hwz⟩
  · simp [Value.cells] at hcs
    obtain ⟨rfl, rfl, rfl⟩ := hcs
    exact ⟨[], ⟨rfl, .inl rfl⟩, by decide⟩
  · simp [Value.cells] at hcs
    obtain ⟨rfl, rfl, rfl⟩ := hcs
    have hzl : zs.length = cap := by simpa using hz
    refine ⟨zs.take len, ⟨by simp; omega, ?_⟩, Nat.le_trans hl (max_len hm)⟩
    by_cases h0 : len = 0
    · exact .inl h0
    · obtain ⟨b, off, spot⟩ := x
      have hc := hcell 0 (by omega)
      have hspot : spot = none := by simpa [Addr.add] using World.cell?_spot hc
      subst hspot
      refine .inr ⟨b, off, rfl, fun i hi => ?_⟩
      have hci := hcell i (by omega)
      have hadd : (⟨b, off, none⟩ : Addr).add i = ⟨b, off + i, none⟩ := by
        unfold Addr.add
        split
        · rename_i h; simp_all
        · rfl
      rw [hadd] at hci
      rw [hci]
      have e2 : (zs.take len).getD i 0 = zs.getD i 0 := by
        simp [List.getD_eq_getElem?_getD, hi]
      rw [e2]
theorem texts_of {W : World} {H : Type} {enc : TypeId × Value → H} {a : Option Addr} {len cap : Nat} {d : DataW H} {ps : List MemPlace}
    (h : DataW.Trod enc Tryz.prog W 0 (fun _ => true) true 62 (.slice a len cap) d ps) : ∃ ss, TextsAt W a len ss ∧ len ≤ 9223372036854775807 := by
  obtain ⟨fuel, hf⟩ := h
  rcases open_strings Tryz.underlying62 Tryz.underlying9 (by kernel_rfl) hf with ⟨hcs, _⟩ | ⟨x, l, c, zs, hcs, _, hl, hm, hz, _, hcell, _⟩
  · simp [Value.cells] at hcs
    obtain ⟨rfl, rfl, rfl⟩ := hcs
    exact ⟨[], ⟨rfl, .inl rfl⟩, by decide⟩
  · simp [Value.cells] at hcs
    obtain ⟨rfl, rfl, rfl⟩ := hcs
    have hzl : zs.length = cap := by simpa using hz
    refine ⟨zs.take len, ⟨by simp; omega, ?_⟩, by have := max_len hm; omega⟩
    by_cases h0 : len = 0
    · exact .inl h0
    · obtain ⟨b, off, spot⟩ := x
      have hc := hcell 0 (by omega)
      have hspot : spot = none := by simpa [Addr.add] using World.cell?_spot hc
      subst hspot
      refine .inr ⟨b, off, rfl, fun i hi => ?_⟩
      have hci := hcell i (by omega)
      rw [add_none] at hci
      rw [hci]
      simp [List.getD_eq_getElem?_getD, hi]
end Go.Proofs.YtmdmipojbeppiaaGreatDoor
namespace Go.Proofs.YtmdmipojbeppiaaGreatDoor
open Go.RowKit Go.Sort
set_option linter.unusedVariables false
set_option maxRecDepth 4000

/-- A deed as it lies in memory: its kind, its packet. -/
structure DV where
  kd : Int
  p : PKV
/-- What stands behind the end of a list of deeds. -/
def DV.dflt : DV := ⟨0, .dflt⟩
/-- A slice of n deeds that can be read: they are ds. -/
def DeedsAt (w : World) (a : Option Addr) (n : Nat) (ds : List DV) : Prop :=
  ds.length = n ∧ (∀ i, i < n → RowAt w (ds.getD i .dflt).p.r.a (ds.getD i .dflt).p.r.n (ds.getD i .dflt).p.r.xs) ∧ (n = 0 ∨ ∃ b off, a = some ⟨b, off, none⟩ ∧ ∀ i, i < n → w.cell? ⟨b, off + i * 8, none⟩ = some (.int .i64 (ds.getD i .dflt).kd) ∧ PkCells w b (off + i * 8 + 1) (ds.getD i .dflt).p)
theorem DeedsAt.at {w : World} {a : Option Addr} {n : Nat} {ds : List DV} (h : DeedsAt w a n ds) {i : Nat} (hi : i < n) : ∃ b off, a = some ⟨b, off, none⟩ ∧ ∀ i, i < n → w.cell? ⟨b, off + i * 8, none⟩ = some (.int .i64 (ds.getD i .dflt).kd) ∧ PkCells w b (off + i * 8 + 1) (ds.getD i .dflt).p := by
  rcases h.2.2 with h0 | h0
  · omega
  · exact h0
theorem DeedsAt.below {w w' : World} {a : Option Addr} {n : Nat} {ds : List DV} (h : DeedsAt w a n ds) (hb : Below w.heap.size w w') : DeedsAt w' a n ds := by
  refine ⟨h.1, fun i hi => (h.2.1 i hi).below hb, ?_⟩
  rcases h.2.2 with h0 | ⟨b, off, rfl, hc⟩
  · exact .inl h0
  · exact .inr ⟨b, off, rfl, fun i hi => ⟨(hb.cell (p := ⟨b, off + i * 8, none⟩) (World.block_lt_of_cell? w _ (hc i hi).1)).trans (hc i hi).1, (hc i hi).2.below hb⟩⟩
/-- Deeds that are not too many, nor too long. -/
def FewDs (ds : List DV) : Prop := ds.length ≤ 60 ∧ ∀ i, (ds.getD i .dflt).p.r.n ≤ 10 ∧ (ds.getD i .dflt).p.r.s.size ≤ 1000
end Go.Proofs.YtmdmipojbeppiaaGreatDoor
namespace Go.Proofs.YtmdmipojbeppiaaGreatDoor
open Go.ChangeShapes Go.WideShapes Go.ChangeAt Go.RowKit
set_option linter.unusedVariables false
set_option maxRecDepth 4000

theorem row_of {W : World} {H : Type} {enc : TypeId × Value → H} {a : Option Addr} {len cap : Nat} {d : DataW H} {ps : List MemPlace}
    (h : DataW.Trod enc Tryz.prog W 0 (fun _ => true) true 25 (.slice a len cap) d ps) : ∃ xs, RowAt W a len xs := by
  obtain ⟨fuel, hf⟩ := h
  obtain ⟨a', l', c', xs, e, hr, _⟩ := row_cells (v := .slice a len cap) hf
  simp only [Value.slice.injEq] at e
  obtain ⟨rfl, rfl, rfl⟩ := e
  exact ⟨xs, hr⟩
theorem cellsMd : Tryz.prog.cellsOf 23 = 2 := by kernel_rfl
/-- The numbers of a relay, that came in by value. -/
theorem mad2_of {W : World} {H : Type} {enc : TypeId × Value → H} {base : Nat} {v : Value} {d : DataW H} {ps : List MemPlace} (hv : Value.okWide Tryz.prog W .any base 23 v)
    (h : DataW.Trod enc Tryz.prog W 0 (fun _ => true) true 23 v d ps) :
    ∃ (k z : Int), v = .agg #[.int .i64 k, .int .i64 z] := by
  obtain ⟨cs, rfl, hsz⟩ := okWide_struct Tryz.underlying23 hv
  obtain ⟨c0, c1, rfl⟩ := array2 (hsz.trans cellsMd)
  obtain ⟨fuel, hf⟩ := h
  obtain ⟨ys, n, _, _, _, hlen, hf⟩ := DataW.trod_struct Tryz.underlying23 hf
  have hl : ys.length = 2 := hlen
  obtain ⟨y0, e0⟩ := some_of (l := ys) (i := 0) (by omega)
  obtain ⟨y1, e1⟩ := some_of (l := ys) (i := 1) (by omega)
  have f0 := (hf 0 _ rfl).trans e0
  have f1 := (hf 1 _ rfl).trans e1
  simp only [Value.cells] at f0 f1
  obtain ⟨k, rfl⟩ := int_cell f0
  obtain ⟨z, rfl⟩ := int_cell f1
  exact ⟨k, z, rfl⟩
theorem cellsDeed : Tryz.prog.cellsOf 44 = 8 := by kernel_rfl
/-- Eight cells that are a deed. -/
theorem deed_cells {W : World} {H : Type} {enc : TypeId × Value → H} {fuel : Nat} {cs : List Value} {x : DataW H × List MemPlace} (hl8 : cs.length = 8)
    (h : DataW.trod enc Tryz.prog W 0 (fun _ => true) true fuel 44 cs = some x) :
    ∃ d : DV, cs = [.int .i64 d.kd, .int .i64 d.p.o, .int .i64 d.p.l, .int .i64 d.p.k, .int .i64 d.p.z, .int .i64 d.p.h, .slice d.p.r.a d.p.r.n d.p.r.c, .string d.p.r.s] ∧ RowAt W d.p.r.a d.p.r.n d.p.r.xs ∧ d.p.r.n ≤ 9223372036854775807 ∧ d.p.r.n ≤ d.p.r.c ∧ d.p.r.s.size ≤ 9223372036854775807 := by
  match cs, hl8 with
  | [c0, c1, c2, c3, c4, c5, c6, c7], _ =>
    obtain ⟨ys, n, _, _, _, hlen, hf⟩ := DataW.trod_struct Tryz.underlying44 h
    have hl : ys.length = 2 := hlen
    obtain ⟨y0, e0⟩ := some_of (l := ys) (i := 0) (by omega)
    obtain ⟨y1, e1⟩ := some_of (l := ys) (i := 1) (by omega)
    have f0 := (hf 0 _ rfl).trans e0
    have f1 := (hf 1 _ rfl).trans e1
    obtain ⟨kd, rfl⟩ := int_cell f0
    obtain ⟨p, hp, hr⟩ := pkt_cells (cs := [c1, c2, c3, c4, c5, c6, c7]) rfl f1
    exact ⟨⟨kd, p⟩, by rw [hp], hr⟩
theorem list_of8 (Q : Nat → DV → Prop) : ∀ n, (∀ i, i < n → ∃ r, Q i r) → ∃ rs : List DV, rs.length = n ∧ ∀ i, i < n → Q i (rs.getD i .dflt)
  | 0, _ => ⟨[], rfl, fun i hi => by omega⟩
  | n + 1, h => by
    obtain ⟨rs, hl, hr⟩ := list_of8 Q n (fun i hi => h i (by omega))
    obtain ⟨r, hp⟩ := h n (by omega)
    refine ⟨rs ++ [r], by simp [hl], fun i hi => ?_⟩
    by_cases e : i < n
    · have := hr i e
      rwa [show (rs ++ [r]).getD i .dflt = rs.getD i .dflt from by simp [List.getD_eq_getElem?_getD, List.getElem?_append_left (show i < rs.length by omega)]]
    · obtain rfl : i = n := by omega
      rwa [show (rs ++ [r]).getD i .dflt = r from by simp [List.getD_eq_getElem?_getD, ← hl]]
/-- A slice of deeds that came in can be read. -/
theorem deeds_of {W : World} {H : Type} {enc : TypeId × Value → H} {a : Option Addr} {len cap : Nat} {d : DataW H} {ps : List MemPlace}
    (h : DataW.Trod enc Tryz.prog W 0 (fun _ => true) true 24 (.slice a len cap) d ps) : ∃ qs, DeedsAt W a len qs ∧ len ≤ 9223372036854775807 ∧ len ≤ cap ∧
      (∀ i, (qs.getD i .dflt).p.r.n ≤ 9223372036854775807 ∧ (qs.getD i .dflt).p.r.s.size ≤ 9223372036854775807) ∧ ∀ i, i < qs.length → (qs.getD i .dflt).p.r.n ≤ (qs.getD i .dflt).p.r.c := by
  obtain ⟨fuel, hf⟩ := h
  rcases Go.Deep.open_slice Tryz.underlying24 hf with ⟨hcs, _⟩ | ⟨x, l, c, m, n, D, Pl, hcs, _, hl, hm, hmm, _, hx⟩
  · simp [Value.cells] at hcs
    obtain ⟨rfl, rfl, rfl⟩ := hcs
    exact ⟨[], ⟨rfl, fun i hi => by omega, .inl rfl⟩, by decide, by decide, fun i => ⟨Nat.zero_le _, Nat.zero_le _⟩, fun i hi => by simp at hi⟩
  · simp [Value.cells] at hcs
    obtain ⟨rfl, rfl, rfl⟩ := hcs
    have hmc : m = cap := by simpa using hmm
    have hcap := max_len hm
    obtain ⟨qs, hql, hq⟩ := list_of8 (fun i d => (∀ j u, [(.int .i64 d.kd : Value), .int .i64 d.p.o, .int .i64 d.p.l, .int .i64 d.p.k, .int .i64 d.p.z, .int .i64 d.p.h, .slice d.p.r.a d.p.r.n d.p.r.c, .string d.p.r.s][j]? = some u → W.cell? ((x.add (i * 8)).add j) = some u) ∧ RowAt W d.p.r.a d.p.r.n d.p.r.xs ∧ d.p.r.n ≤ 9223372036854775807 ∧ d.p.r.n ≤ d.p.r.c ∧ d.p.r.s.size ≤ 9223372036854775807) len (fun i hi => by
      obtain ⟨cs', h1, h2⟩ := hx i (by omega)
      rw [cellsDeed] at h1
      obtain ⟨_, hlen, hcell⟩ := World.cells?_some h1
      obtain ⟨p, rfl, hr⟩ := deed_cells hlen h2
      exact ⟨p, fun j u hj => (hcell j (by have := (List.getElem?_eq_some_iff.1 hj).1; simpa using this)).trans hj, hr⟩)
    refine ⟨qs, ⟨hql, fun i hi => (hq i hi).2.1, ?_⟩, by omega, hl, fun i => ?_, fun i hi => (hq i (by omega)).2.2.2.1⟩
    · by_cases h0 : len = 0
      · exact .inl h0
      · obtain ⟨b, off, spot⟩ := x
        have hc := (hq 0 (by omega)).1 0 _ rfl
        have hspot : spot = none := by simpa [Addr.add] using World.cell?_spot hc
        subst hspot
        refine .inr ⟨b, off, rfl, fun i hi => ?_⟩
        have hc := (hq i hi).1
        refine ⟨?_, ?_, ?_, ?_, ?_, ?_, ?_, ?_⟩
        · have := hc 0 _ rfl; rwa [add_none, add_none] at this
        · have := hc 1 _ rfl; rwa [add_none, add_none] at this
        · have := hc 2 _ rfl; rwa [add_none, add_none] at this
        · have := hc 3 _ rfl; rwa [add_none, add_none] at this
        · have := hc 4 _ rfl; rwa [add_none, add_none] at this
        · have := hc 5 _ rfl; rwa [add_none, add_none] at this
        · have := hc 6 _ rfl; rwa [add_none, add_none] at this
        · have := hc 7 _ rfl; rwa [add_none, add_none] at this
    · by_cases hi : i < len
      · exact ⟨(hq i hi).2.2.1, (hq i hi).2.2.2.2⟩
      · rw [List.getD_eq_getElem?_getD, List.getElem?_eq_none (by omega)]
        exact ⟨Nat.zero_le _, Nat.zero_le _⟩
end Go.Proofs.YtmdmipojbeppiaaGreatDoor
