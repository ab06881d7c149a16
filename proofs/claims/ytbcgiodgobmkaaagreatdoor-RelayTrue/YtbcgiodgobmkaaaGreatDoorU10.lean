/-
  Slices of packets ('PksAt'); contract of bucketlinelaw16.Few.
  What the rows' frames of the decoder share: slices of packets, and a packet by value, that came in. No condition.
-/
import Derived.Test.YtbcgiodgobmkaaaGreatDoorU5
import Derived.Test.YtbcgiodgobmkaaaGreatDoorU9
import Derived.Deep.Slices
import Derived.ChangeSame
namespace Go.Proofs.YtbcgiodgobmkaaaGreatDoor
open Go.RowKit Go.Sort
set_option linter.unusedVariables false
set_option linter.unusedSimpArgs false
set_option maxRecDepth 4000

/-- A packet as it lies in memory: its five numbers, its row. -/
structure PKV where
  o : Int
  l : Int
  k : Int
  z : Int
  h : Int
  r : RV
/-- What stands behind the end of a list of packets. -/
def PKV.dflt : PKV := ⟨0, 0, 0, 0, 0, .dflt⟩
/-- The packet by value. -/
def PKV.val (p : PKV) : Value := .agg #[.int .i64 p.o, .int .i64 p.l, .int .i64 p.k, .int .i64 p.z, .int .i64 p.h, .slice p.r.a p.r.n p.r.c, .string p.r.s]
/-- Seven cells that hold a packet. -/
def PkCells (w : World) (b off : Nat) (p : PKV) : Prop :=
  w.cell? ⟨b, off, none⟩ = some (.int .i64 p.o) ∧ w.cell? ⟨b, off + 1, none⟩ = some (.int .i64 p.l) ∧ w.cell? ⟨b, off + 2, none⟩ = some (.int .i64 p.k) ∧ w.cell? ⟨b, off + 3, none⟩ = some (.int .i64 p.z) ∧ w.cell? ⟨b, off + 4, none⟩ = some (.int .i64 p.h) ∧
    w.cell? ⟨b, off + 5, none⟩ = some (.slice p.r.a p.r.n p.r.c) ∧ w.cell? ⟨b, off + 6, none⟩ = some (.string p.r.s)
theorem PkCells.belowB {w w' : World} {b off B : Nat} {p : PKV} (h : PkCells w b off p) (hb : Below B w w') (hB : b < B) : PkCells w' b off p :=
  ⟨(hb.cell (p := ⟨b, off, none⟩) hB).trans h.1, (hb.cell (p := ⟨b, off + 1, none⟩) hB).trans h.2.1, (hb.cell (p := ⟨b, off + 2, none⟩) hB).trans h.2.2.1, (hb.cell (p := ⟨b, off + 3, none⟩) hB).trans h.2.2.2.1, (hb.cell (p := ⟨b, off + 4, none⟩) hB).trans h.2.2.2.2.1, (hb.cell (p := ⟨b, off + 5, none⟩) hB).trans h.2.2.2.2.2.1, (hb.cell (p := ⟨b, off + 6, none⟩) hB).trans h.2.2.2.2.2.2⟩
theorem PkCells.below {w w' : World} {b off : Nat} {p : PKV} (h : PkCells w b off p) (hb : Below w.heap.size w w') : PkCells w' b off p := h.belowB hb (World.block_lt_of_cell? w _ h.1)
/-- A slice of n packets that can be read: they are ps. -/
def PksAt (w : World) (a : Option Addr) (n : Nat) (ps : List PKV) : Prop :=
  ps.length = n ∧ (∀ i, i < n → RowAt w (ps.getD i .dflt).r.a (ps.getD i .dflt).r.n (ps.getD i .dflt).r.xs) ∧ (n = 0 ∨ ∃ b off, a = some ⟨b, off, none⟩ ∧ ∀ i, i < n → PkCells w b (off + i * 7) (ps.getD i .dflt))
theorem PksAt.at {w : World} {a : Option Addr} {n : Nat} {ps : List PKV} (h : PksAt w a n ps) {i : Nat} (hi : i < n) : ∃ b off, a = some ⟨b, off, none⟩ ∧ ∀ i, i < n → PkCells w b (off + i * 7) (ps.getD i .dflt) := by
  rcases h.2.2 with h0 | h0
  · omega
  · exact h0
theorem PksAt.below {w w' : World} {a : Option Addr} {n : Nat} {ps : List PKV} (h : PksAt w a n ps) (hb : Below w.heap.size w w') : PksAt w' a n ps := by
  refine ⟨h.1, fun i hi => (h.2.1 i hi).below hb, ?_⟩
  rcases h.2.2 with h0 | ⟨b, off, rfl, hc⟩
  · exact .inl h0
  · exact .inr ⟨b, off, rfl, fun i hi => (hc i hi).below hb⟩
/-- Packets that are not too long, nor too many. -/
def shortP (ps : List PKV) : Prop := ∀ i, (ps.getD i .dflt).r.n ≤ 10 ∧ (ps.getD i .dflt).r.s.size ≤ 1000
def FewK (ps : List PKV) : Prop := ps.length ≤ 60 ∧ shortP ps

set_option maxHeartbeats 400000 in
theorem fewP_any (a : Option Addr) (n c : Nat) (ps : List PKV) (w : World) (h : PksAt w a n ps) (hn : n ≤ 9223372036854775807) (hbig : ∀ i, (ps.getD i .dflt).r.n ≤ 9223372036854775807 ∧ (ps.getD i .dflt).r.s.size ≤ 9223372036854775807) :
    Calls Tryz.prog 20 #[.slice a n c] w fun e w' => RetI e (FewK ps) ∧ w' = w := by
  obtain rfl := h.1
  by_cases h3 : 60 < ps.length
  · have hd : decide (60 < (ps.length : Int)) = true := by simp; omega
    clear h
    go_enter Tryz.func20, Tryz.ntmps20
    go_wp2
    go_ret
    exact ⟨.inr ⟨rfl, fun h => by have := h.1; omega⟩, rfl⟩
  · have hd : decide (60 < (ps.length : Int)) = false := by simp; omega
    go_enter Tryz.func20, Tryz.ntmps20
    go_wp2
    go_loop [3] (fun i => ∃ k : Nat, k ≤ ps.length ∧ i = .int .i64 k ∧ Hid (∀ j, j < k → (ps.getD j .dflt).r.n ≤ 10 ∧ (ps.getD j .dflt).r.s.size ≤ 1000)) (fun i => ps.length - (intOf i).toNat)
    case atStart => exact ⟨0, Nat.zero_le _, rfl, hide (fun j hj => by omega)⟩
    case round =>
      obtain ⟨k, hk, rfl, HZ⟩ := hrel
      by_cases hlt : k < ps.length
      · obtain ⟨b, off, rfl, hc⟩ := h.at hlt
        obtain ⟨-, -, -, -, -, hc0, hc1⟩ := hc k hlt
        have hlt' : (k : Int) < (ps.length : Int) := by omega
        have hbk := hbig k
        clear hc h
        by_cases h1 : 10 < (ps.getD k .dflt).r.n
        · have hd1 : decide (10 < ((ps.getD k .dflt).r.n : Int)) = true := by simp only [decide_eq_true_eq]; omega
          have HF : Hid (¬ FewK ps) := hide (fun h => by have := (h.2 k).1; omega)
          clear hbig
          generalize (ps.getD k .dflt).r = x at *
          go_wp2
          go_ret
          exact ⟨.inr ⟨rfl, unhide HF⟩, rfl⟩
        · have hd1 : decide (10 < ((ps.getD k .dflt).r.n : Int)) = false := by simp only [decide_eq_false_iff_not]; omega
          by_cases h2 : 1000 < (ps.getD k .dflt).r.s.size
          · have hd2 : decide (1000 < ((ps.getD k .dflt).r.s.size : Int)) = true := by simp only [decide_eq_true_eq]; omega
            have HF : Hid (¬ FewK ps) := hide (fun h => by have := (h.2 k).2; omega)
            clear hbig
            generalize (ps.getD k .dflt).r = x at *
            go_wp2
            go_ret
            exact ⟨.inr ⟨rfl, unhide HF⟩, rfl⟩
          · have hd2 : decide (1000 < ((ps.getD k .dflt).r.s.size : Int)) = false := by simp only [decide_eq_false_iff_not]; omega
            have HS := hide (show ∀ j, j < k + 1 → (ps.getD j .dflt).r.n ≤ 10 ∧ (ps.getD j .dflt).r.s.size ≤ 1000 from fun j hj => by
              by_cases e : j = k
              · rw [e]; omega
              · exact unhide HZ j (by omega))
            generalize (ps.getD k .dflt).r = x at *
            clear HZ hbig
            go_wp2
            go_round
            case rel => exact ⟨k + 1, by omega, by go_num, HS⟩
            case measure => simp [intOf]; omega
      · have HF : Hid (FewK ps) := hide ⟨by omega, fun i => by
          by_cases hi : i < k
          · exact unhide HZ i hi
          · rw [List.getD_eq_getElem?_getD, List.getElem?_eq_none (by omega)]
            exact ⟨Nat.zero_le _, Nat.zero_le _⟩⟩
        clear h HZ hbig
        go_wp2
        go_ret
        exact ⟨.inl ⟨rfl, unhide HF⟩, rfl⟩
end Go.Proofs.YtbcgiodgobmkaaaGreatDoor
namespace Go.Proofs.YtbcgiodgobmkaaaGreatDoor
open Go.ChangeShapes Go.WideShapes Go.ChangeAt Go.RowKit
set_option linter.unusedVariables false
set_option linter.unusedSimpArgs false
set_option maxRecDepth 4000

theorem cellsPkt : Tryz.prog.cellsOf 42 = 7 := by kernel_rfl
theorem cellsU64s : Tryz.prog.cellsOf 25 = 1 := by kernel_rfl
theorem cellsStr : Tryz.prog.cellsOf 9 = 1 := by kernel_rfl
/-- Seven cells that are a packet. -/
theorem pkt_cells {W : World} {H : Type} {enc : TypeId × Value → H} {fuel : Nat} {cs : List Value} {x : DataW H × List MemPlace} (hl7 : cs.length = 7)
    (h : DataW.trod enc Tryz.prog W 0 (fun _ => true) true fuel 42 cs = some x) :
    ∃ p : PKV, cs = [.int .i64 p.o, .int .i64 p.l, .int .i64 p.k, .int .i64 p.z, .int .i64 p.h, .slice p.r.a p.r.n p.r.c, .string p.r.s] ∧ RowAt W p.r.a p.r.n p.r.xs ∧ p.r.n ≤ 9223372036854775807 ∧ p.r.n ≤ p.r.c ∧ p.r.s.size ≤ 9223372036854775807 := by
  match cs, hl7 with
  | [c0, c1, c2, c3, c4, c5, c6], _ =>
    obtain ⟨ys, n, _, _, _, hlen, hf⟩ := DataW.trod_struct Tryz.underlying42 h
    have hl : ys.length = 6 := hlen
    obtain ⟨y0, e0⟩ := some_of (l := ys) (i := 0) (by omega)
    obtain ⟨y1, e1⟩ := some_of (l := ys) (i := 1) (by omega)
    obtain ⟨y2, e2⟩ := some_of (l := ys) (i := 2) (by omega)
    obtain ⟨y3, e3⟩ := some_of (l := ys) (i := 3) (by omega)
    obtain ⟨y4, e4⟩ := some_of (l := ys) (i := 4) (by omega)
    obtain ⟨y5, e5⟩ := some_of (l := ys) (i := 5) (by omega)
    have f0 := (hf 0 _ rfl).trans e0
    have f1 := (hf 1 _ rfl).trans e1
    have f2 := (hf 2 _ rfl).trans e2
    have f3 := (hf 3 _ rfl).trans e3
    have f4 := (hf 4 _ rfl).trans e4
    have f5 := (hf 5 _ rfl).trans e5
    obtain ⟨o, rfl⟩ := int_cell f0
    obtain ⟨l, rfl⟩ := int_cell f1
    obtain ⟨k, rfl⟩ := int_cell f2
    obtain ⟨z, rfl⟩ := int_cell f3
    obtain ⟨hp, rfl⟩ := int_cell f4
    obtain ⟨z0, z1, m, _, _, g0, g1⟩ := trod_struct2 Tryz.underlying40 f5
    simp only [cellsU64s, cellsStr, List.drop_zero] at g0 g1
    obtain ⟨a, n', c, xs, rfl, hr, hm, hc⟩ := row_cells g0
    obtain ⟨s, rfl, hs⟩ := str_cell g1
    exact ⟨⟨o, l, k, z, hp, ⟨a, n', c, xs, s⟩⟩, rfl, hr, hm, hc, hs⟩
theorem list_of7 (Q : Nat → PKV → Prop) : ∀ n, (∀ i, i < n → ∃ r, Q i r) → ∃ rs : List PKV, rs.length = n ∧ ∀ i, i < n → Q i (rs.getD i .dflt)
  | 0, _ => ⟨[], rfl, fun i hi => by omega⟩
  | n + 1, h => by
    obtain ⟨rs, hl, hr⟩ := list_of7 Q n (fun i hi => h i (by omega))
    obtain ⟨r, hp⟩ := h n (by omega)
    refine ⟨rs ++ [r], by simp [hl], fun i hi => ?_⟩
    by_cases e : i < n
    · have := hr i e
      rwa [show (rs ++ [r]).getD i .dflt = rs.getD i .dflt from by simp [List.getD_eq_getElem?_getD, List.getElem?_append_left (show i < rs.length by omega)]]
    · obtain rfl : i = n := by omega
      rwa [show (rs ++ [r]).getD i .dflt = r from by simp [List.getD_eq_getElem?_getD, ← hl]]
/-- A slice of packets that came in can be read. -/
theorem pkts_of {W : World} {H : Type} {enc : TypeId × Value → H} {a : Option Addr} {len cap : Nat} {d : DataW H} {ps : List MemPlace}
    (h : DataW.Trod enc Tryz.prog W 0 (fun _ => true) true 30 (.slice a len cap) d ps) : ∃ qs, PksAt W a len qs ∧ len ≤ 9223372036854775807 ∧ len ≤ cap ∧
      (∀ i, (qs.getD i .dflt).r.n ≤ 9223372036854775807 ∧ (qs.getD i .dflt).r.s.size ≤ 9223372036854775807) ∧ ∀ i, i < qs.length → (qs.getD i .dflt).r.n ≤ (qs.getD i .dflt).r.c := by
  obtain ⟨fuel, hf⟩ := h
  rcases Go.Deep.open_slice Tryz.underlying30 hf with ⟨hcs, _⟩ | ⟨x, l, c, m, n, D, Pl, hcs, _, hl, hm, hmm, _, hx⟩
  · simp [Value.cells] at hcs
    obtain ⟨rfl, rfl, rfl⟩ := hcs
    exact ⟨[], ⟨rfl, fun i hi => by omega, .inl rfl⟩, by decide, by decide, fun i => ⟨Nat.zero_le _, Nat.zero_le _⟩, fun i hi => by simp at hi⟩
  · simp [Value.cells] at hcs
    obtain ⟨rfl, rfl, rfl⟩ := hcs
    have hmc : m = cap := by simpa using hmm
    have hcap := max_len hm
    obtain ⟨qs, hql, hq⟩ := list_of7 (fun i p => (∀ j u, [(.int .i64 p.o : Value), .int .i64 p.l, .int .i64 p.k, .int .i64 p.z, .int .i64 p.h, .slice p.r.a p.r.n p.r.c, .string p.r.s][j]? = some u → W.cell? ((x.add (i * 7)).add j) = some u) ∧ RowAt W p.r.a p.r.n p.r.xs ∧ p.r.n ≤ 9223372036854775807 ∧ p.r.n ≤ p.r.c ∧ p.r.s.size ≤ 9223372036854775807) len (fun i hi => by
      obtain ⟨cs', h1, h2⟩ := hx i (by omega)
      rw [cellsPkt] at h1
      obtain ⟨_, hlen, hcell⟩ := World.cells?_some h1
      obtain ⟨p, rfl, hr⟩ := pkt_cells hlen h2
      exact ⟨p, fun j u hj => (hcell j (by have := (List.getElem?_eq_some_iff.1 hj).1; simpa using this)).trans hj, hr⟩)
    refine ⟨qs, ⟨hql, fun i hi => (hq i hi).2.1, ?_⟩, by omega, hl, fun i => ?_, fun i hi => (hq i (by omega)).2.2.2.1⟩
    · by_cases h0 : len = 0
      · exact .inl h0
      · obtain ⟨b, off, spot⟩ := x
        have hc := (hq 0 (by omega)).1 0 _ rfl
        have hspot : spot = none := by simpa [Addr.add] using World.cell?_spot hc
        subst hspot
        refine .inr ⟨b, off, rfl, fun i hi => ?_⟩
        have hc := (hq i hi).1
        refine ⟨?_, ?_, ?_, ?_, ?_, ?_, ?_⟩
        · have := hc 0 _ rfl; rwa [add_none, add_none] at this
        · have := hc 1 _ rfl; rwa [add_none, add_none] at this
        · have := hc 2 _ rfl; rwa [add_none, add_none] at this
        · have := hc 3 _ rfl; rwa [add_none, add_none] at this
        · have := hc 4 _ rfl; rwa [add_none, add_none] at this
        · have := hc 5 _ rfl; rwa [add_none, add_none] at this
        · have := hc 6 _ rfl; rwa [add_none, add_none] at this
    · by_cases hi : i < len
      · exact ⟨(hq i hi).2.2.1, (hq i hi).2.2.2.2⟩
      · rw [List.getD_eq_getElem?_getD, List.getElem?_eq_none (by omega)]
        exact ⟨Nat.zero_le _, Nat.zero_le _⟩
end Go.Proofs.YtbcgiodgobmkaaaGreatDoor
