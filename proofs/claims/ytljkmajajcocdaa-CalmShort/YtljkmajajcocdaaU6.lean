/-
  What the rows' frames of the node share: the two tables as the rows list them, a config that came in by value. No condition.
-/
import Derived.Test.YtljkmajajcocdaaU1
import Derived.Test.YtljkmajajcocdaaU5
import Derived.Laws.Cover2
namespace Go.Proofs.Ytljkmajajcocdaa
open Go.ChangeShapes Go.WideShapes Go.ChangeAt Go.RowKit
set_option linter.unusedVariables false
set_option linter.unusedSimpArgs false
set_option maxRecDepth 4000

theorem float_lt {b : Nat} (h : (Lit.float .f64 b).wf = true) : b < 18446744073709551616 := by simpa [Lit.wf] using h
theorem float_cell {W : World} {H : Type} {enc : TypeId × Value → H} {fuel : Nat} {v : Value} {x : DataW H × List MemPlace}
    (h : DataW.trod enc Try.prog W 0 (fun _ => true) true fuel 23 [v] = some x) : ∃ b, v = .float .f64 b ∧ b < 18446744073709551616 := by
  cases fuel with
  | zero => simp [DataW.trod] at h
  | succ fuel =>
    cases v <;> simp [DataW.trod, Try.underlying23] at h
    obtain ⟨⟨rfl, h⟩, _⟩ := h
    exact ⟨_, rfl, float_lt h⟩
theorem intz_cells {W : World} {H : Type} {enc : TypeId × Value → H} {fuel : Nat} {v : Value} {x : DataW H × List MemPlace}
    (h : DataW.trod enc Try.prog W 0 (fun _ => true) true fuel 37 [v] = some x) : ∃ a len cap xs, v = .slice a len cap ∧ IntzAt W a len xs ∧ len ≤ 9223372036854775807 ∧ (a = none → len = 0 ∧ cap = 0) ∧ len ≤ cap := by
  rcases open_ints Try.underlying37 Try.underlying3 (by kernel_rfl) h with ⟨hcs, _⟩ | ⟨x, l, c, zs, hcs, _, hl, hm, hz, _, hcell, hwz⟩
  · simp only [List.cons.injEq, and_true] at hcs
    exact ⟨_, _, _, [], hcs, ⟨rfl, .inl rfl⟩, by decide, fun _ => ⟨rfl, rfl⟩, Nat.le_refl _⟩
  · simp only [List.cons.injEq, and_true] at hcs
    have hzl : zs.length = c := by simpa using hz
    refine ⟨_, _, _, zs.take l, hcs, ⟨by simp; omega, ?_⟩, Nat.le_trans hl (max_len hm), (fun e => by cases e), hl⟩
    by_cases h0 : l = 0
    · exact .inl h0
    · obtain ⟨b, off, spot⟩ := x
      have hc := hcell 0 (by omega)
      have hspot : spot = none := by simpa [Addr.add] using World.cell?_spot hc
      subst hspot
      refine .inr ⟨b, off, rfl, fun i hi => ?_⟩
      have hci := hcell i (by omega)
      rw [add_none] at hci
      rw [hci]
      simp [List.getD_eq_getElem?_getD, hi]
theorem cellsNd : Try.prog.cellsOf 40 = 2 := by kernel_rfl
theorem cellsCf : Try.prog.cellsOf 25 = 10 := by kernel_rfl
/-- Two cells that are a node of a config. -/
theorem nd_cells {W : World} {H : Type} {enc : TypeId × Value → H} {fuel : Nat} {cs : List Value} {x : DataW H × List MemPlace} (hl2 : cs.length = 2)
    (h : DataW.trod enc Try.prog W 0 (fun _ => true) true fuel 40 cs = some x) : ∃ d : NDV, cs = [.int .i64 d.kd, .slice d.a d.n d.c] ∧ IntzAt W d.a d.n d.tos ∧ d.n ≤ 9223372036854775807 ∧ (d.a = none → d.n = 0 ∧ d.c = 0) ∧ d.n ≤ d.c := by
  match cs, hl2 with
  | [c0, c1], _ =>
    obtain ⟨ys, n, _, _, _, hlen, hf⟩ := DataW.trod_struct Try.underlying40 h
    have hl : ys.length = 2 := hlen
    obtain ⟨y0, e0⟩ := some_of (l := ys) (i := 0) (by omega)
    obtain ⟨y1, e1⟩ := some_of (l := ys) (i := 1) (by omega)
    obtain ⟨kd, rfl⟩ := int_cell ((hf 0 _ rfl).trans e0)
    obtain ⟨a, len, cap, xs, rfl, h1, h2, h3, h4⟩ := intz_cells ((hf 1 _ rfl).trans e1)
    exact ⟨⟨kd, a, len, cap, xs⟩, rfl, h1, h2, h3, h4⟩
theorem list_ofN (Q : Nat → NDV → Prop) : ∀ n, (∀ i, i < n → ∃ r, Q i r) → ∃ rs : List NDV, rs.length = n ∧ ∀ i, i < n → Q i (rs.getD i .dflt)
  | 0, _ => ⟨[], rfl, fun i hi => by omega⟩
  | n + 1, h => by
    obtain ⟨rs, hl, hr⟩ := list_ofN Q n (fun i hi => h i (by omega))
    obtain ⟨r, hp⟩ := h n (by omega)
    refine ⟨rs ++ [r], by simp [hl], fun i hi => ?_⟩
    by_cases e : i < n
    · have := hr i e
      rwa [show (rs ++ [r]).getD i .dflt = rs.getD i .dflt from by simp [List.getD_eq_getElem?_getD, List.getElem?_append_left (show i < rs.length by omega)]]
    · obtain rfl : i = n := by omega
      rwa [show (rs ++ [r]).getD i .dflt = r from by simp [List.getD_eq_getElem?_getD, ← hl]]
/-- What is known of a config that came in. -/
structure CfIn (w : World) (f : CFV) : Prop where
  nds : NdsAt w f.a f.n f.ds
  len : f.n ≤ 9223372036854775807
  obj : f.obj.size ≤ 9223372036854775807
  rate : f.rate < 18446744073709551616
  tos : ∀ i, i < f.n → (f.ds.getD i .dflt).n ≤ 9223372036854775807 ∧ ((f.ds.getD i .dflt).a = none → (f.ds.getD i .dflt).n = 0 ∧ (f.ds.getD i .dflt).c = 0)
  caps : ∀ i, i < f.n → (f.ds.getD i .dflt).n ≤ (f.ds.getD i .dflt).c
theorem nds_cells {W : World} {H : Type} {enc : TypeId × Value → H} {fuel : Nat} {v : Value} {y : DataW H × List MemPlace}
    (hf : DataW.trod enc Try.prog W 0 (fun _ => true) true fuel 22 [v] = some y) : ∃ a len cap qs, v = .slice a len cap ∧ NdsAt W a len qs ∧ len ≤ 9223372036854775807 ∧ ∀ i, i < len → (qs.getD i .dflt).n ≤ 9223372036854775807 ∧ ((qs.getD i .dflt).a = none → (qs.getD i .dflt).n = 0 ∧ (qs.getD i .dflt).c = 0) ∧ (qs.getD i .dflt).n ≤ (qs.getD i .dflt).c := by
  rcases Go.Deep.open_slice Try.underlying22 hf with ⟨hcs, _⟩ | ⟨x, l, c, m, n, D, Pl, hcs, _, hl, hm, hmm, _, hx⟩
  · simp only [List.cons.injEq, and_true] at hcs
    exact ⟨_, _, _, [], hcs, ⟨rfl, fun i hi => by omega, .inl rfl⟩, by decide, fun i hi => by omega⟩
  · simp only [List.cons.injEq, and_true] at hcs
    have hmc : m = c := by simpa using hmm
    have hcap := max_len hm
    obtain ⟨qs, hql, hq⟩ := list_ofN (fun i d => (∀ j u, [(.int .i64 d.kd : Value), .slice d.a d.n d.c][j]? = some u → W.cell? ((x.add (i * 2)).add j) = some u) ∧ IntzAt W d.a d.n d.tos ∧ d.n ≤ 9223372036854775807 ∧ (d.a = none → d.n = 0 ∧ d.c = 0) ∧ d.n ≤ d.c) l (fun i hi => by
      obtain ⟨cs', h1, h2⟩ := hx i (by omega)
      rw [cellsNd] at h1
      obtain ⟨_, hlen, hcell⟩ := World.cells?_some h1
      obtain ⟨p, rfl, hr⟩ := nd_cells hlen h2
      exact ⟨p, fun j u hj => (hcell j (by have := (List.getElem?_eq_some_iff.1 hj).1; simpa using this)).trans hj, hr⟩)
    refine ⟨_, _, _, qs, hcs, ⟨hql, fun i hi => (hq i hi).2.1, ?_⟩, by omega, fun i hi => (hq i hi).2.2⟩
    by_cases h0 : l = 0
    · exact .inl h0
    · obtain ⟨b, off, spot⟩ := x
      have hc := (hq 0 (by omega)).1 0 _ rfl
      have hspot : spot = none := by simpa [Addr.add] using World.cell?_spot hc
      subst hspot
      refine .inr ⟨b, off, rfl, fun i hi => ?_⟩
      have hc := (hq i hi).1
      refine ⟨?_, ?_⟩
      · have := hc 0 _ rfl; rwa [add_none, add_none] at this
      · have := hc 1 _ rfl; rwa [add_none, add_none] at this
/-- A config that came in by value. -/
theorem cfg_of {W : World} {H : Type} {enc : TypeId × Value → H} {base : Nat} {v : Value} {d : DataW H} {ps : List MemPlace} (hv : Value.okWide Try.prog W .any base 25 v)
    (h : DataW.Trod enc Try.prog W 0 (fun _ => true) true 25 v d ps) : ∃ f : CFV, v = f.val ∧ CfIn W f := by
  obtain ⟨cs, rfl, hsz⟩ := okWide_struct Try.underlying25 hv
  obtain ⟨fuel, hf⟩ := h
  obtain ⟨cs⟩ := cs
  match cs, hsz.trans cellsCf with
  | [c0, c1, c2, c3, c4, c5, c6, c7, c8, c9], _ =>
    obtain ⟨ys, n, _, _, _, hlen, hf⟩ := DataW.trod_struct Try.underlying25 hf
    have hl : ys.length = 10 := hlen
    obtain ⟨y0, e0⟩ := some_of (l := ys) (i := 0) (by omega)
    obtain ⟨y1, e1⟩ := some_of (l := ys) (i := 1) (by omega)
    obtain ⟨y2, e2⟩ := some_of (l := ys) (i := 2) (by omega)
    obtain ⟨y3, e3⟩ := some_of (l := ys) (i := 3) (by omega)
    obtain ⟨y4, e4⟩ := some_of (l := ys) (i := 4) (by omega)
    obtain ⟨y5, e5⟩ := some_of (l := ys) (i := 5) (by omega)
    obtain ⟨y6, e6⟩ := some_of (l := ys) (i := 6) (by omega)
    obtain ⟨y7, e7⟩ := some_of (l := ys) (i := 7) (by omega)
    obtain ⟨y8, e8⟩ := some_of (l := ys) (i := 8) (by omega)
    obtain ⟨y9, e9⟩ := some_of (l := ys) (i := 9) (by omega)
    obtain ⟨a, len, cap, qs, rfl, g1, g2, g3⟩ := nds_cells ((hf 0 _ rfl).trans e0)
    obtain ⟨s, rfl, gs⟩ := str_cell ((hf 1 _ rfl).trans e1)
    obtain ⟨x2, rfl⟩ := int_cell ((hf 2 _ rfl).trans e2)
    obtain ⟨x3, rfl⟩ := int_cell ((hf 3 _ rfl).trans e3)
    obtain ⟨x4, rfl⟩ := int_cell ((hf 4 _ rfl).trans e4)
    obtain ⟨x5, rfl⟩ := int_cell ((hf 5 _ rfl).trans e5)
    obtain ⟨x6, rfl⟩ := int_cell ((hf 6 _ rfl).trans e6)
    obtain ⟨x7, rfl, gr⟩ := float_cell ((hf 7 _ rfl).trans e7)
    obtain ⟨x8, rfl⟩ := int_cell ((hf 8 _ rfl).trans e8)
    obtain ⟨x9, rfl⟩ := int_cell ((hf 9 _ rfl).trans e9)
    exact ⟨⟨a, len, cap, qs, s, x2, x3, x4, x5, x6, x7, x8, x9⟩, rfl, ⟨g1, g2, gs, gr, fun i hi => ⟨(g3 i hi).1, (g3 i hi).2.1⟩, fun i hi => (g3 i hi).2.2⟩⟩
theorem CfIn.below {w w' : World} {f : CFV} (h : CfIn w f) (hb : Below w.heap.size w w') : CfIn w' f := ⟨h.nds.below hb, h.len, h.obj, h.rate, h.tos, h.caps⟩
end Go.Proofs.Ytljkmajajcocdaa
