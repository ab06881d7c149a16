/-
  Slices of packets ('PksAt'); contract of bucketlinelaw16.Few.
-/
import Derived.Test.YtpklckpnimmkpaaXF
namespace Go.Proofs.Ytpklckpnimmkpaa
open Go.RowKit Go.Sort
set_option linter.unusedVariables false
set_option maxRecDepth 4000

/-- A packet as it lies in memory: its five numbers, its row. -/
structure PKV where
  o : Int
  l : Int
  k : Int
  z : Int
  h : Int
  r : RV
/-- What stands behind the end of a list of packets. -/
def PKV.dflt : PKV := ⟨0, 0, 0, 0, 0, .dflt⟩
/-- The packet by value. -/
def PKV.val (p : PKV) : Value := .agg #[.int .i64 p.o, .int .i64 p.l, .int .i64 p.k, .int .i64 p.z, .int .i64 p.h, .slice p.r.a p.r.n p.r.c, .string p.r.s]
/-- Seven cells that hold a packet. -/
def PkCells (w : World) (b off : Nat) (p : PKV) : Prop :=
  w.cell? ⟨b, off, none⟩ = some (.int .i64 p.o) ∧ w.cell? ⟨b, off + 1, none⟩ = some (.int .i64 p.l) ∧ w.cell? ⟨b, off + 2, none⟩ = some (.int .i64 p.k) ∧ w.cell? ⟨b, off + 3, none⟩ = some (.int .i64 p.z) ∧ w.cell? ⟨b, off + 4, none⟩ = some (.int .i64 p.h) ∧
    w.cell? ⟨b, off + 5, none⟩ = some (.slice p.r.a p.r.n p.r.c) ∧ w.cell? ⟨b, off + 6, none⟩ = some (.string p.r.s)
theorem PkCells.belowB {w w' : World} {b off B : Nat} {p : PKV} (h : PkCells w b off p) (hb : Below B w w') (hB : b < B) : PkCells w' b off p :=
  ⟨(hb.cell (p := ⟨b, off, none⟩) hB).trans h.1, (hb.cell (p := ⟨b, off + 1, none⟩) hB).trans h.2.1, (hb.cell (p := ⟨b, off + 2, none⟩) hB).trans h.2.2.1, (hb.cell (p := ⟨b, off + 3, none⟩) hB).trans h.2.2.2.1, (hb.cell (p := ⟨b, off + 4, none⟩) hB).trans h.2.2.2.2.1, (hb.cell (p := ⟨b, off + 5, none⟩) hB).trans h.2.2.2.2.2.1, (hb.cell (p := ⟨b, off + 6, none⟩) hB).trans h.2.2.2.2.2.2⟩
theorem PkCells.below {w w' : World} {b off : Nat} {p : PKV} (h : PkCells w b off p) (hb : Below w.heap.size w w') : PkCells w' b off p := h.belowB hb (World.block_lt_of_cell? w _ h.1)
/-- A slice of n packets that can be read: they are ps. -/
def PksAt (w : World) (a : Option Addr) (n : Nat) (ps : List PKV) : Prop :=
  ps.length = n ∧ (∀ i, i < n → RowAt w (ps.getD i .dflt).r.a (ps.getD i .dflt).r.n (ps.getD i .dflt).r.xs) ∧ (n = 0 ∨ ∃ b off, a = some ⟨b, off, none⟩ ∧ ∀ i, i < n → PkCells w b (off + i * 7) (ps.getD i .dflt))
theorem PksAt.at {w : World} {a : Option Addr} {n : Nat} {ps : List PKV} (h : PksAt w a n ps) {i : Nat} (hi : i < n) : ∃ b off, a = some ⟨b, off, none⟩ ∧ ∀ i, i < n → PkCells w b (off + i * 7) (ps.getD i .dflt) := by
  rcases h.2.2 with h0 | h0
  · omega
  · exact h0
theorem PksAt.below {w w' : World} {a : Option Addr} {n : Nat} {ps : List PKV} (h : PksAt w a n ps) (hb : Below w.heap.size w w') : PksAt w' a n ps := by
  refine ⟨h.1, fun i hi => (h.2.1 i hi).below hb, ?_⟩
  rcases h.2.2 with h0 | ⟨b, off, rfl, hc⟩
  · exact .inl h0
  · exact .inr ⟨b, off, rfl, fun i hi => (hc i hi).below hb⟩
/-- Packets that are not too long, nor too many. -/
def shortP (ps : List PKV) : Prop := ∀ i, (ps.getD i .dflt).r.n ≤ 10 ∧ (ps.getD i .dflt).r.s.size ≤ 1000
def FewK (ps : List PKV) : Prop := ps.length ≤ 60 ∧ shortP ps

set_option maxHeartbeats 400000 in
theorem fewP_any (a : Option Addr) (n c : Nat) (ps : List PKV) (w : World) (h : PksAt w a n ps) (hn : n ≤ 9223372036854775807) (hbig : ∀ i, (ps.getD i .dflt).r.n ≤ 9223372036854775807 ∧ (ps.getD i .dflt).r.s.size ≤ 9223372036854775807) :
    Calls Try.prog 12 #[.slice a n c] w fun e w' => RetI e (FewK ps) ∧ w' = w := by
  obtain rfl := h.1
  by_cases h3 : 60 < ps.length
  · have hd : decide (60 < (ps.length : Int)) = true := by simp; omega
    clear h
    go_enter Try.func12, Try.ntmps12
    go_wp2
    go_ret
    exact ⟨.inr ⟨rfl, fun h => by have := h.1; omega⟩, rfl⟩
  · have hd : decide (60 < (ps.length : Int)) = false := by simp; omega
    go_enter Try.func12, Try.ntmps12
    go_wp2
    go_loop [3] (fun i => ∃ k : Nat, k ≤ ps.length ∧ i = .int .i64 k ∧ Hid (∀ j, j < k → (ps.getD j .dflt).r.n ≤ 10 ∧ (ps.getD j .dflt).r.s.size ≤ 1000)) (fun i => ps.length - (intOf i).toNat)
    case atStart => exact ⟨0, Nat.zero_le _, rfl, hide (fun j hj => by omega)⟩
    case round =>
      obtain ⟨k, hk, rfl, HZ⟩ := hrel
      by_cases hlt : k < ps.length
      · obtain ⟨b, off, rfl, hc⟩ := h.at hlt
        obtain ⟨-, -, -, -, -, hc0, hc1⟩ := hc k hlt
        have hlt' : (k : Int) < (ps.length : Int) := by omega
        have hbk := hbig k
        clear hc h
        by_cases h1 : 10 < (ps.getD k .dflt).r.n
        · have hd1 : decide (10 < ((ps.getD k .dflt).r.n : Int)) = true := by simp only [decide_eq_true_eq]; omega
          have HF : Hid (¬ FewK ps) := hide (fun h => by have := (h.2 k).1; omega)
          clear hbig
          generalize (ps.getD k .dflt).r = x at *
          go_wp2
          go_ret
          exact ⟨.inr ⟨rfl, unhide HF⟩, rfl⟩
        · have hd1 : decide (10 < ((ps.getD k .dflt).r.n : Int)) = false := by simp only [decide_eq_false_iff_not]; omega
          by_cases h2 : 1000 < (ps.getD k .dflt).r.s.size
          · have hd2 : decide (1000 < ((ps.getD k .dflt).r.s.size : Int)) = true := by simp only [decide_eq_true_eq]; omega
            have HF : Hid (¬ FewK ps) := hide (fun h => by have := (h.2 k).2; omega)
            clear hbig
            generalize (ps.getD k .dflt).r = x at *
            go_wp2
            go_ret
            exact ⟨.inr ⟨rfl, unhide HF⟩, rfl⟩
          · have hd2 : decide (1000 < ((ps.getD k .dflt).r.s.size : Int)) = false := by simp only [decide_eq_false_iff_not]; omega
            have HS := hide (show ∀ j, j < k + 1 → (ps.getD j .dflt).r.n ≤ 10 ∧ (ps.getD j .dflt).r.s.size ≤ 1000 from fun j hj => by
              by_cases e : j = k
              · rw [e]; omega
              · exact unhide HZ j (by omega))
            generalize (ps.getD k .dflt).r = x at *
            clear HZ hbig
            go_wp2
            go_round
            case rel => exact ⟨k + 1, by omega, by go_num, HS⟩
            case measure => simp [intOf]; omega
      · have HF : Hid (FewK ps) := hide ⟨by omega, fun i => by
          by_cases hi : i < k
          · exact unhide HZ i hi
          · rw [List.getD_eq_getElem?_getD, List.getElem?_eq_none (by omega)]
            exact ⟨Nat.zero_le _, Nat.zero_le _⟩⟩
        clear h HZ hbig
        go_wp2
        go_ret
        exact ⟨.inl ⟨rfl, unhide HF⟩, rfl⟩
end Go.Proofs.Ytpklckpnimmkpaa
