/-
  What the rows' frames of the decoder share: slices of packets, and a packet by value, that came in. No condition.
-/
import Derived.Test.YtpklckpnimmkpaaFI
import Derived.Test.YtpklckpnimmkpaaOA
import Derived.Deep.Slices
import Derived.ChangeSame
namespace Go.Proofs.Ytpklckpnimmkpaa
open Go.ChangeShapes Go.WideShapes Go.ChangeAt Go.RowKit
set_option linter.unusedVariables false
set_option maxRecDepth 4000

theorem cellsPkt : Try.prog.cellsOf 26 = 7 := by kernel_rfl
theorem cellsU64s : Try.prog.cellsOf 22 = 1 := by kernel_rfl
theorem cellsStr : Try.prog.cellsOf 9 = 1 := by kernel_rfl
/-- Seven cells that are a packet. -/
theorem pkt_cells {W : World} {H : Type} {enc : TypeId × Value → H} {fuel : Nat} {cs : List Value} {x : DataW H × List MemPlace} (hl7 : cs.length = 7)
    (h : DataW.trod enc Try.prog W 0 (fun _ => true) true fuel 26 cs = some x) :
    ∃ p : PKV, cs = [.int .i64 p.o, .int .i64 p.l, .int .i64 p.k, .int .i64 p.z, .int .i64 p.h, .slice p.r.a p.r.n p.r.c, .string p.r.s] ∧ RowAt W p.r.a p.r.n p.r.xs ∧ p.r.n ≤ 9223372036854775807 ∧ p.r.n ≤ p.r.c ∧ p.r.s.size ≤ 9223372036854775807 := by
  match cs, hl7 with
  | [c0, c1, c2, c3, c4, c5, c6], _ =>
    obtain ⟨ys, n, _, _, _, hlen, hf⟩ := DataW.trod_struct Try.underlying26 h
    have hl : ys.length = 6 := hlen
    obtain ⟨y0, e0⟩ := some_of (l := ys) (i := 0) (by omega)
    obtain ⟨y1, e1⟩ := some_of (l := ys) (i := 1) (by omega)
    obtain ⟨y2, e2⟩ := some_of (l := ys) (i := 2) (by omega)
    obtain ⟨y3, e3⟩ := some_of (l := ys) (i := 3) (by omega)
    obtain ⟨y4, e4⟩ := some_of (l := ys) (i := 4) (by omega)
    obtain ⟨y5, e5⟩ := some_of (l := ys) (i := 5) (by omega)
    have f0 := (hf 0 _ rfl).trans e0
    have f1 := (hf 1 _ rfl).trans e1
    have f2 := (hf 2 _ rfl).trans e2
    have f3 := (hf 3 _ rfl).trans e3
    have f4 := (hf 4 _ rfl).trans e4
    have f5 := (hf 5 _ rfl).trans e5
    obtain ⟨o, rfl⟩ := int_cell f0
    obtain ⟨l, rfl⟩ := int_cell f1
    obtain ⟨k, rfl⟩ := int_cell f2
    obtain ⟨z, rfl⟩ := int_cell f3
    obtain ⟨hp, rfl⟩ := int_cell f4
    obtain ⟨z0, z1, m, _, _, g0, g1⟩ := trod_struct2 Try.underlying24 f5
    simp only [cellsU64s, cellsStr, List.drop_zero] at g0 g1
    obtain ⟨a, n', c, xs, rfl, hr, hm, hc⟩ := row_cells g0
    obtain ⟨s, rfl, hs⟩ := str_cell g1
    exact ⟨⟨o, l, k, z, hp, ⟨a, n', c, xs, s⟩⟩, rfl, hr, hm, hc, hs⟩
theorem list_of7 (Q : Nat → PKV → Prop) : ∀ n, (∀ i, i < n → ∃ r, Q i r) → ∃ rs : List PKV, rs.length = n ∧ ∀ i, i < n → Q i (rs.getD i .dflt)
  | 0, _ => ⟨[], rfl, fun i hi => by omega⟩
  | n + 1, h => by
    obtain ⟨rs, hl, hr⟩ := list_of7 Q n (fun i hi => h i (by omega))
    obtain ⟨r, hp⟩ := h n (by omega)
    refine ⟨rs ++ [r], by simp [hl], fun i hi => ?_⟩
    by_cases e : i < n
    · have := hr i e
      rwa [show (rs ++ [r]).getD i .dflt = rs.getD i .dflt from by simp [List.getD_eq_getElem?_getD, List.getElem?_append_left (show i < rs.length by omega)]]
    · obtain rfl : i = n := by omega
      rwa [show (rs ++ [r]).getD i .dflt = r from by simp [List.getD_eq_getElem?_getD, ← hl]]
/-- A slice of packets that came in can be read. -/
theorem pkts_of {W : World} {H : Type} {enc : TypeId × Value → H} {a : Option Addr} {len cap : Nat} {d : DataW H} {ps : List MemPlace}
    (h : DataW.Trod enc Try.prog W 0 (fun _ => true) true 32 (.slice a len cap) d ps) : ∃ qs, PksAt W a len qs ∧ len ≤ 9223372036854775807 ∧ len ≤ cap ∧
      (∀ i, (qs.getD i .dflt).r.n ≤ 9223372036854775807 ∧ (qs.getD i .dflt).r.s.size ≤ 9223372036854775807) ∧ ∀ i, i < qs.length → (qs.getD i .dflt).r.n ≤ (qs.getD i .dflt).r.c := by
  obtain ⟨fuel, hf⟩ := h
  rcases Go.Deep.open_slice Try.underlying32 hf with ⟨hcs, _⟩ | ⟨x, l, c, m, n, D, Pl, hcs, _, hl, hm, hmm, _, hx⟩
  · simp [Value.cells] at hcs
    obtain ⟨rfl, rfl, rfl⟩ := hcs
    exact ⟨[], ⟨rfl, fun i hi => by omega, .inl rfl⟩, by decide, by decide, fun i => ⟨Nat.zero_le _, Nat.zero_le _⟩, fun i hi => by simp at hi⟩
  · simp [Value.cells] at hcs
    obtain ⟨rfl, rfl, rfl⟩ := hcs
    have hmc : m = cap := by simpa using hmm
    have hcap := max_len hm
    obtain ⟨qs, hql, hq⟩ := list_of7 (fun i p => (∀ j u, [(.int .i64 p.o : Value), .int .i64 p.l, .int .i64 p.k, .int .i64 p.z, .int .i64 p.h, .slice p.r.a p.r.n p.r.c, .string p.r.s][j]? = some u → W.cell? ((x.add (i * 7)).add j) = some u) ∧ RowAt W p.r.a p.r.n p.r.xs ∧ p.r.n ≤ 9223372036854775807 ∧ p.r.n ≤ p.r.c ∧ p.r.s.size ≤ 9223372036854775807) len (fun i hi => by
      obtain ⟨cs', h1, h2⟩ := hx i (by omega)
      rw [cellsPkt] at h1
      obtain ⟨_, hlen, hcell⟩ := World.cells?_some h1
      obtain ⟨p, rfl, hr⟩ := pkt_cells hlen h2
      exact ⟨p, fun j u hj => (hcell j (by have := (List.getElem?_eq_some_iff.1 hj).1; simpa using this)).trans hj, hr⟩)
    refine ⟨qs, ⟨hql, fun i hi => (hq i hi).2.1, ?_⟩, by omega, hl, fun i => ?_, fun i hi => (hq i (by omega)).2.2.2.1⟩
    · by_cases h0 : len = 0
      · exact .inl h0
      · obtain ⟨b, off, spot⟩ := x
        have hc := (hq 0 (by omega)).1 0 _ rfl
        have hspot : spot = none := by simpa [Addr.add] using World.cell?_spot hc
        subst hspot
        refine .inr ⟨b, off, rfl, fun i hi => ?_⟩
        have hc := (hq i hi).1
        refine ⟨?_, ?_, ?_, ?_, ?_, ?_, ?_⟩
        · have := hc 0 _ rfl; rwa [add_none, add_none] at this
        · have := hc 1 _ rfl; rwa [add_none, add_none] at this
        · have := hc 2 _ rfl; rwa [add_none, add_none] at this
        · have := hc 3 _ rfl; rwa [add_none, add_none] at this
        · have := hc 4 _ rfl; rwa [add_none, add_none] at this
        · have := hc 5 _ rfl; rwa [add_none, add_none] at this
        · have := hc 6 _ rfl; rwa [add_none, add_none] at this
    · by_cases hi : i < len
      · exact ⟨(hq i hi).2.2.1, (hq i hi).2.2.2.2⟩
      · rw [List.getD_eq_getElem?_getD, List.getElem?_eq_none (by omega)]
        exact ⟨Nat.zero_le _, Nat.zero_le _⟩
/-- A packet that came in by value. -/
theorem pktv_of {W : World} {H : Type} {enc : TypeId × Value → H} {base : Nat} {v : Value} {d : DataW H} {ps : List MemPlace} (hv : Value.okWide Try.prog W .any base 26 v)
    (h : DataW.Trod enc Try.prog W 0 (fun _ => true) true 26 v d ps) : ∃ p : PKV, v = p.val ∧ RowAt W p.r.a p.r.n p.r.xs := by
  obtain ⟨cs, rfl, hsz⟩ := okWide_struct Try.underlying26 hv
  obtain ⟨fuel, hf⟩ := h
  obtain ⟨p, hp, hr, _⟩ := pkt_cells (cs := cs.toList) (by rw [Array.length_toList]; exact hsz.trans cellsPkt) hf
  refine ⟨p, ?_, hr⟩
  unfold PKV.val
  congr 1
  cases cs
  simpa using hp
/-- .. and its sizes. -/
theorem pktz_of {W : World} {H : Type} {enc : TypeId × Value → H} {base : Nat} {v : Value} {d : DataW H} {ps : List MemPlace} (hv : Value.okWide Try.prog W .any base 26 v)
    (h : DataW.Trod enc Try.prog W 0 (fun _ => true) true 26 v d ps) : ∃ p : PKV, v = p.val ∧ RowAt W p.r.a p.r.n p.r.xs ∧ p.r.n ≤ 9223372036854775807 ∧ p.r.s.size ≤ 9223372036854775807 := by
  obtain ⟨cs, rfl, hsz⟩ := okWide_struct Try.underlying26 hv
  obtain ⟨fuel, hf⟩ := h
  obtain ⟨p, hp, hr, h1, _, h2⟩ := pkt_cells (cs := cs.toList) (by rw [Array.length_toList]; exact hsz.trans cellsPkt) hf
  refine ⟨p, ?_, hr, h1, h2⟩
  unfold PKV.val
  congr 1
  cases cs
  simpa using hp
end Go.Proofs.Ytpklckpnimmkpaa
