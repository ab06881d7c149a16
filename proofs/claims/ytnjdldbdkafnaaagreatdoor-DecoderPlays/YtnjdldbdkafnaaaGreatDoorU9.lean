/-
  Contracts of peel.units, peel.Ripple and bucketlineref13.Ripple.
  Slices of texts that are made and written.
  A map of rows of one's own by their places; what a peeling holds in memory.
-/
import Derived.Test.YtnjdldbdkafnaaaGreatDoorU8
import Derived.Test.YtnjdldbdkafnaaaGreatDoorU0
import Derived.Laws.MathBits
import Derived.OwnWalk
import Derived.Laws.MakeOwn
import Derived.Deep.QuietTactic
import Derived.BigQuiet
import Derived.Test.YtnjdldbdkafnaaaGreatDoorU4
import Derived.Maps.RangeWalk
import Derived.Maps.OwnSet
import Derived.Deep.RegionHeld
namespace Go.Proofs.YtnjdldbdkafnaaaGreatDoor
open Go.RowKit Go.Sort
set_option linter.unusedVariables false
set_option linter.unusedSimpArgs false
set_option maxRecDepth 4000

theorem Own.at' {w : World} {B : Nat} {a : Option Addr} {n c : Nat} {xs : List Nat} (h : Own w B (.slice a n c) xs) : n = xs.length ∧ RowAt w a xs.length xs := by
  obtain ⟨a1, c1, e, hr⟩ := h.row
  simp only [Value.slice.injEq] at e
  obtain ⟨rfl, rfl, rfl⟩ := e
  exact ⟨rfl, hr⟩

end Go.Proofs.YtnjdldbdkafnaaaGreatDoor
namespace Go.Proofs.YtnjdldbdkafnaaaGreatDoor
open Go.RowKit
set_option linter.unusedVariables false
set_option linter.unusedSimpArgs false
set_option maxRecDepth 4000

theorem OwnT.at {w : World} {B : Nat} {v : Value} {ss : List ByteArray} (h : OwnT w B v ss) (hn : 0 < ss.length) :
    ∃ g cap, v = .slice (some ⟨g, 0, none⟩) ss.length cap ∧ B ≤ g ∧ g < w.heap.size ∧ (∀ i, i < ss.length → w.cell? ⟨g, i, none⟩ = some (.string (ss.getD i ByteArray.empty))) ∧ ∀ i, w.frozen? ⟨g, i, none⟩ = false := by
  have ho' : w.ownsRow B 9 1 v ss.length (cellsT ss) := h
  rcases h.2 with ⟨rfl, h0⟩ | ⟨g, cap, cur, rfl, hb, hg, hn, hm, hsz, ht⟩
  · omega
  · refine ⟨g, cap, rfl, hb, (Array.getElem?_eq_some_iff.1 hg).1, fun i hi => ?_, fun i => ho'.frozenAt i⟩
    rw [ho'.cellAt i (by omega), cellsT_get ss i hi]
theorem OwnT.stored {w : World} {B g cap n : Nat} {ss : List ByteArray} (h : OwnT w B (.slice (some ⟨g, 0, none⟩) n cap) ss) (i : Nat) (x : ByteArray) :
    OwnT (w.setCell ⟨g, i, none⟩ (.string x)) B (.slice (some ⟨g, 0, none⟩) n cap) (ss.set i x) := by
  obtain rfl : n = ss.length := by
    obtain ⟨a, c, e, _⟩ := h.texts
    simp only [Value.slice.injEq] at e
    exact e.2.1
  have ho : w.ownsRow B 9 1 (.slice (some ⟨g, 0, none⟩) ss.length cap) ss.length (cellsT ss) := h
  have := (ho.stored i (.string x)).1
  rw [show (cellsT ss).set i (.string x) = cellsT (ss.set i x) by simp [cellsT, List.map_set]] at this
  show World.ownsRow _ B 9 1 _ (ss.set i x).length _
  rw [List.length_set]
  exact this
theorem made_texts (w : World) (n : Nat) (hn : n ≤ 1048576) (ss : List ByteArray) (hss : ss = List.replicate n ByteArray.empty) :
    OwnT (w.alloc (.cells (madeCells #[.string ByteArray.empty] n) 9)) w.heap.size (.slice (some ⟨w.heap.size, 0, none⟩) n n) ss := by
  subst hss
  refine ⟨by simp [cellsT], .inr ⟨w.heap.size, n, madeCells #[.string ByteArray.empty] n, by simp, Nat.le_refl _, heap_alloc_new w _, by simp, by unfold maxLen; omega, by simp [size_madeCells], ?_⟩⟩
  rw [toList_madeCells_one, List.take_of_length_le (by simp)]
  simp [cellsT]
theorem make_texts (n : Nat) (hn : n ≤ 1048576) (wx : World) : (Instr.makeSlice 46 (.int .i64 (n : Int)) (.int .i64 (n : Int))).run Tryz.prog wx = .ok (.slice (some ⟨wx.heap.size, 0, none⟩) n n) (wx.alloc (.cells (madeCells #[.string ByteArray.empty] n) 9)) := by
  obtain ⟨i0, hi0, hz0, hzs, hzb⟩ := info_parts info_strT
  have := run_make (P := Tryz.prog) wx 46 9 i0 (.string ByteArray.empty) Tryz.underlying46 hi0 hz0 .i64 .i64 (n : Int) (n : Int) (by omega) (Int.le_refl _) (by rw [hzb]; omega) (by omega)
  rw [hzs] at this
  simpa [Value.cells] using this
end Go.Proofs.YtnjdldbdkafnaaaGreatDoor
namespace Go.Proofs.YtnjdldbdkafnaaaGreatDoor
open Go.RowKit Go.Sort
set_option linter.unusedVariables false
set_option linter.unusedSimpArgs false
set_option maxRecDepth 4000

/-- An element of the map: a slice, read as itself. -/
def slElem : Value → Option (DataW Value × List MemPlace)
  | .slice a n c => some (.held (.slice a n c), [])
  | _ => none
theorem slElem_inv {v : Value} {y : DataW Value × List MemPlace} (h : slElem v = some y) : ∃ a n c, v = .slice a n c ∧ y = (.held v, []) := by
  cases v <;> simp [slElem] at h
  exact ⟨_, _, _, rfl, h.symm⟩
theorem lawI : Maps.Keyed Tryz.prog 3 := Maps.int_keyed Tryz.underlying3
theorem zero_u64s (w : World) : (zeroValue 27).run Tryz.prog w = .ok (.slice none 0 0) w := by kernel_rfl
theorem wf_nat {p : Nat} (h : p ≤ 9223372036854775807) : (Lit.int .i64 (p : Int)).wf = true := by
  exact WalkArith.wf_i64 (by omega)
theorem key_nat {p : Nat} (h : p ≤ 9223372036854775807) : keyOf Tryz.prog 3 (.int .i64 (p : Int)) = some (.int .i64 (p : Int)) := Maps.keyOf_int_mk Tryz.underlying3 (wf_nat h)
theorem lit_inj {p q : Nat} (h : Lit.int .i64 (p : Int) = Lit.int .i64 (q : Int)) : p = q := by
  injection h with _ h
  omega
theorem isKey (p : Nat) : WideAt.IsKeyLit (.int .i64 (p : Int)) := trivial
theorem same_lit (p q : Nat) : (Lit.int .i64 (p : Int)).sameKey (.int .i64 (q : Int)) = decide (p = q) := by
  by_cases e : p = q
  · subst e; rw [WideAt.sameKey_self (isKey p)]; simp
  · rw [Maps.sameKey_ne (fun h => e (lit_inj h)), decide_eq_false e]
/-- The map has just the places of S, and at each the slice vs. -/
def RdAs (D : DataW Value) (S : Nat → Bool) (vs : Nat → Value) : Prop :=
  (∀ kl, Maps.has D kl = true → ∃ p : Nat, S p = true ∧ kl = .int .i64 (p : Int)) ∧ ∀ p : Nat, S p = true → ∀ z, D.atKey (.int .i64 (p : Int)) z = .held (vs p)
theorem RdAs.has {D : DataW Value} {S : Nat → Bool} {vs : Nat → Value} (h : RdAs D S vs) (p : Nat) : Maps.has D (.int .i64 (p : Int)) = S p := by
  cases hS : S p
  · cases hh : Maps.has D (.int .i64 (p : Int))
    · rfl
    · obtain ⟨q, hq, e⟩ := h.1 _ hh
      rw [lit_inj e, hq] at hS
      cases hS
  · exact Maps.has_true_of_atKey (h.2 p hS)
theorem RdAs.empty (vs : Nat → Value) : RdAs (.map []) (fun _ => false) vs := ⟨fun kl h => by simp [Maps.has] at h, fun p h => by cases h⟩
theorem RdAs.put {D : DataW Value} {S : Nat → Bool} {vs : Nat → Value} (h : RdAs D S vs) (hD : Maps.IsMap D) {p : Nat} (v : Value) :
    RdAs (D.put (.int .i64 (p : Int)) (.held v)) (fun q => decide (q = p) || S q) (fun q => if q = p then v else vs q) := by
  refine ⟨fun kl hk => ?_, fun q hq z => ?_⟩
  · by_cases e : kl = .int .i64 (p : Int)
    · exact ⟨p, by simp, e⟩
    · rw [Maps.has_put_other e] at hk
      obtain ⟨q, hq, rfl⟩ := h.1 kl hk
      exact ⟨q, by simp [hq], rfl⟩
  · by_cases e : q = p
    · subst e
      rw [Maps.atKey_put_same hD (isKey q)]; simp
    · rw [Maps.atKey_put_other (fun h => e (lit_inj h))]
      simp only [e, if_false]
      exact h.2 q (by simpa [e] using hq) z
theorem RdAs.del {D : DataW Value} {S : Nat → Bool} {vs : Nat → Value} (h : RdAs D S vs) (p : Nat) : RdAs (D.del (.int .i64 (p : Int))) (fun q => S q && !decide (q = p)) vs := by
  refine ⟨fun kl hk => ?_, fun q hq z => ?_⟩
  · by_cases e : kl = .int .i64 (p : Int)
    · rw [e, Maps.has_del_same] at hk; cases hk
    · rw [Maps.has_del_other e] at hk
      obtain ⟨q, hq, rfl⟩ := h.1 kl hk
      have : q ≠ p := fun h => e (by rw [h])
      exact ⟨q, by simp [hq, this], rfl⟩
  · rw [Bool.and_eq_true] at hq
    have : q ≠ p := by simpa using hq.2
    rw [Maps.atKey_del_other (fun h => this (lit_inj h))]
    exact h.2 q hq.1 z
theorem RdAs.congr {D : DataW Value} {S S' : Nat → Bool} {vs vs' : Nat → Value} (h : RdAs D S vs) (hS : ∀ p, S p = S' p) (hv : ∀ p, S p = true → vs p = vs' p) : RdAs D S' vs' := by
  refine ⟨fun kl hk => ?_, fun p hp z => ?_⟩
  · obtain ⟨p, hp, e⟩ := h.1 kl hk
    exact ⟨p, by rw [← hS]; exact hp, e⟩
  · rw [← hS] at hp
    rw [← hv p hp]
    exact h.2 p hp z

section
variable {w : World} {ops : Array Oper} {rest : List Oper} {o : Oper} {act : Act} {Q : Exit → Act → World → Prop}
/-- The slice at a place. -/
def slv (sz : Nat) (f : Nat → Nat × Nat) (p : Nat) : Value := .slice (some ⟨(f p).1, 0, none⟩) sz (f p).2
/-- A step of a range over the map. -/
theorem wpList_next_sl (hg : o.guard = none) (it : Operand) (hop : o.op = Op.next it false) (bm r N sz : Nat) (D : DataW Value) (left : Lit → Bool) (cnt : Nat) (S : Nat → Bool) (f : Nat → Nat × Nat) (hR : RdAs D S (slv sz f))
    (hit : act.eval it = .pointer (some ⟨r, 0, none⟩)) (h : w.ranges Tryz.prog 3 slElem bm r N D left cnt)
    (hDone : (∀ kl, left kl = false) → wpList Tryz.prog ops Q rest (act.put o.dst (.tuple #[.bool false])) w)
    (hMore : ∀ (p gp cp : Nat) (w' : World) (cnt' : Nat), f p = (gp, cp) → S p = true → left (.int .i64 (p : Int)) = true → w'.ranges Tryz.prog 3 slElem bm r N D (fun z => left z && !z.sameKey (.int .i64 (p : Int))) cnt' → cnt' < cnt →
      w.grownBy w' (some r) → (Instr.entry (.pointer (some ⟨r, 0, none⟩))).run Tryz.prog w' = .ok (.tuple #[.int .i64 (p : Int), .slice (some ⟨gp, 0, none⟩) sz cp]) w' → wpList Tryz.prog ops Q rest (act.put o.dst (.tuple #[.bool true, .int .i64 (p : Int), .slice (some ⟨gp, 0, none⟩) sz cp])) w') :
    wpList Tryz.prog ops Q (o :: rest) act w := by
  refine wpList_plain hg fun K' hK' => ?_
  unfold Oper.wp
  rcases h.next lawI o.type with ⟨h0, hl, hrun⟩ | ⟨key, v, kl, y, w', cnt', hkey, hlk, hv, hat, hrun, hrg, hlt, hgr, hsz, hen⟩
  · simp [execOp, hop, hit, hrun, Result.andThen]
    exact hK' _ _ (hDone hl)
  · obtain ⟨p, hp, rfl⟩ := hR.1 kl (Maps.has_true_of_atKey hat)
    obtain ⟨x, rfl, ex, hwx⟩ := Maps.keyOf_int_inv Tryz.underlying3 hkey
    injection ex with _ ex
    subst ex
    obtain ⟨a, n, c, rfl, rfl⟩ := slElem_inv hv
    have e := hat (.held (.slice none 0 0))
    rw [hR.2 p hp] at e
    simp only [DataW.held.injEq, slv, Value.slice.injEq] at e
    obtain ⟨rfl, rfl, rfl⟩ := e
    simp [execOp, hop, hit, hrun, Result.andThen]
    exact hK' _ _ (hMore p (f p).1 (f p).2 w' cnt' rfl hp hlk hrg hlt hgr hen)
end
theorem look_sl {w : World} {bm N sz p : Nat} {D : DataW Value} {S : Nat → Bool} {f : Nat → Nat × Nat} (h : w.ownsMap Tryz.prog 3 slElem bm N D) (hR : RdAs D S (slv sz f)) (hp : S p = true) (hpm : p ≤ 9223372036854775807) :
    (Instr.lookup 151 (.map (some bm)) (.int .i64 (p : Int)) false).run Tryz.prog w = .ok (.slice (some ⟨(f p).1, 0, none⟩) sz (f p).2) w := by
  obtain ⟨v, ps, hrun, hv⟩ := h.lookup lawI Tryz.underlying151 (zero_u64s w) (zd := .held (.slice none 0 0)) (zp := []) rfl (key_nat hpm)
  obtain ⟨a, n, c, rfl, e⟩ := slElem_inv hv
  rw [hR.2 p hp] at e
  simp only [Prod.mk.injEq, DataW.held.injEq, slv, Value.slice.injEq] at e
  obtain ⟨⟨rfl, rfl, rfl⟩, _⟩ := e
  exact hrun
theorem look_sl_ok {w : World} {bm N sz p : Nat} {D : DataW Value} {S : Nat → Bool} {f : Nat → Nat × Nat} (h : w.ownsMap Tryz.prog 3 slElem bm N D) (hR : RdAs D S (slv sz f)) (hp : S p = true) (hpm : p ≤ 9223372036854775807) :
    (Instr.lookup 151 (.map (some bm)) (.int .i64 (p : Int)) true).run Tryz.prog w = .ok (.tuple #[.slice (some ⟨(f p).1, 0, none⟩) sz (f p).2, .bool true]) w := by
  obtain ⟨v, ps, hrun, hv⟩ := h.look_ok lawI Tryz.underlying151 (zero_u64s w) (zd := .held (.slice none 0 0)) (zp := []) rfl (key_nat hpm)
  obtain ⟨a, n, c, rfl, e⟩ := slElem_inv hv
  rw [hR.2 p hp] at e
  simp only [Prod.mk.injEq, DataW.held.injEq, slv, Value.slice.injEq] at e
  obtain ⟨⟨rfl, rfl, rfl⟩, _⟩ := e
  rw [hR.has p, hp] at hrun
  exact hrun
theorem look_sl_no {w : World} {bm N sz p : Nat} {D : DataW Value} {S : Nat → Bool} {f : Nat → Nat × Nat} (h : w.ownsMap Tryz.prog 3 slElem bm N D) (hR : RdAs D S (slv sz f)) (hp : S p = false) (hpm : p ≤ 9223372036854775807) :
    ∃ a n c, (Instr.lookup 151 (.map (some bm)) (.int .i64 (p : Int)) true).run Tryz.prog w = .ok (.tuple #[.slice a n c, .bool false]) w := by
  obtain ⟨v, ps, hrun, hv⟩ := h.look_ok lawI Tryz.underlying151 (zero_u64s w) (zd := .held (.slice none 0 0)) (zp := []) rfl (key_nat hpm)
  obtain ⟨a, n, c, rfl, e⟩ := slElem_inv hv
  rw [hR.has p, hp] at hrun
  exact ⟨a, n, c, hrun⟩

/-- Rows of one's own at the places of S, each in a block of its own. -/
structure Lf (w : World) (B sz : Nat) (S : Nat → Bool) (f : Nat → Nat × Nat) (cs : Nat → List Nat) : Prop where
  own : ∀ p, S p = true → Own w B (.slice (some ⟨(f p).1, 0, none⟩) sz (f p).2) (cs p) ∧ (cs p).length = sz
  two : ∀ p q, S p = true → S q = true → p ≠ q → (f p).1 ≠ (f q).1
theorem Lf.below {w w' : World} {B sz : Nat} {S : Nat → Bool} {f : Nat → Nat × Nat} {cs : Nat → List Nat} (h : Lf w B sz S f cs) (hb : Below w.heap.size w w') : Lf w' B sz S f cs := ⟨fun p hp => ⟨(h.own p hp).1.below hb, (h.own p hp).2⟩, h.two⟩
theorem Lf.kept {w w' : World} {B sz : Nat} {S : Nat → Bool} {f : Nat → Nat × Nat} {cs : Nat → List Nat} {g : Nat} (h : Lf w B sz S f cs) (hg : w.grownBy w' (some g)) (hn : ∀ p, S p = true → (f p).1 ≠ g) : Lf w' B sz S f cs :=
  ⟨fun p hp => ⟨(h.own p hp).1.kept hg (.inr fun e => hn p hp (by simpa [Value.ownBlock] using e)), (h.own p hp).2⟩, h.two⟩
/-- A map is no row of words. -/
theorem own_nomap {w : World} {B g n c bm N : Nat} {xs : List Nat} {D : DataW Value} (h : Own w B (.slice (some ⟨g, 0, none⟩) n c) xs) (hm : w.ownsMap Tryz.prog 3 slElem bm N D) : g ≠ bm := by
  rcases h.2.2 with ⟨e, _⟩ | ⟨g', cap, cur, e, _, hg, _⟩
  · cases e
  · simp only [Value.slice.injEq, Option.some.injEq, Addr.mk.injEq, and_true] at e
    obtain ⟨es, clock, hb, _⟩ := hm
    intro hne
    rw [← hne, e.1, hg] at hb
    cases hb
theorem own_noiter {w : World} {B g n c bm r N cnt : Nat} {xs : List Nat} {D : DataW Value} {left : Lit → Bool} (h : Own w B (.slice (some ⟨g, 0, none⟩) n c) xs) (hm : w.ranges Tryz.prog 3 slElem bm r N D left cnt) : g ≠ r := by
  rcases h.2.2 with ⟨e, _⟩ | ⟨g', cap, cur, e, _, hg, _⟩
  · cases e
  · simp only [Value.slice.injEq, Option.some.injEq, Addr.mk.injEq, and_true] at e
    obtain ⟨es, clock, since, seen, c0, _, _, _, _, hr, _⟩ := hm
    intro hne
    rw [← hne, e.1, hg] at hr
    cases hr
/-- Where a peeling and what it holds lie. -/
structure PV where
  g : Nat
  a : Option Addr
  n : Nat
  c : Nat
  kg : Nat
  kc : Nat
  bg : Nat
  bc : Nat
  bm : Nat
/-- What a peeling holds besides its map. -/
structure PlAt (w : World) (B : Nat) (v : PV) (kn : List Nat) (bs : List ByteArray) : Prop where
  box : w.heap[v.g]? = some (.cells #[.slice v.a v.n v.c, .slice (some ⟨v.kg, 0, none⟩) kn.length v.kc, .slice (some ⟨v.bg, 0, none⟩) bs.length v.bc, .map (some v.bm)] 153 (0, 0))
  known : Own w B (.slice (some ⟨v.kg, 0, none⟩) kn.length v.kc) kn
  blocks : OwnT w B (.slice (some ⟨v.bg, 0, none⟩) bs.length v.bc) bs
theorem PlAt.cells {w : World} {B : Nat} {v : PV} {kn : List Nat} {bs : List ByteArray} (h : PlAt w B v kn bs) :
    w.cell? ⟨v.g, 0, none⟩ = some (.slice v.a v.n v.c) ∧ w.cell? ⟨v.g, 1, none⟩ = some (.slice (some ⟨v.kg, 0, none⟩) kn.length v.kc) ∧ w.cell? ⟨v.g, 2, none⟩ = some (.slice (some ⟨v.bg, 0, none⟩) bs.length v.bc) ∧ w.cell? ⟨v.g, 3, none⟩ = some (.map (some v.bm)) := by
  have := h.box
  refine ⟨?_, ?_, ?_, ?_⟩ <;> simp [World.cell?, this]
theorem PlAt.lt {w : World} {B : Nat} {v : PV} {kn : List Nat} {bs : List ByteArray} (h : PlAt w B v kn bs) : v.g < w.heap.size := (Array.getElem?_eq_some_iff.1 h.box).1
theorem PlAt.below {w w' : World} {B : Nat} {v : PV} {kn : List Nat} {bs : List ByteArray} (h : PlAt w B v kn bs) (hb : Below w.heap.size w w') : PlAt w' B v kn bs := ⟨(hb.block v.g h.lt).trans h.box, h.known.below hb, h.blocks.below hb⟩
theorem OwnT.blk {w : World} {B g n c : Nat} {ss : List ByteArray} (h : OwnT w B (.slice (some ⟨g, 0, none⟩) n c) ss) : ∃ cur, w.heap[g]? = some (.cells cur 9 (0, 0)) := by
  rcases h.2 with ⟨e, _⟩ | ⟨g', cap, cur, e, _, hg, _⟩
  · cases e
  · simp only [Value.slice.injEq, Option.some.injEq, Addr.mk.injEq, and_true] at e
    exact ⟨cur, by rw [e.1]; exact hg⟩
theorem Own.blk {w : World} {B g n c : Nat} {xs : List Nat} (h : Own w B (.slice (some ⟨g, 0, none⟩) n c) xs) : ∃ cur, w.heap[g]? = some (.cells cur 53 (0, 0)) := by
  rcases h.2.2 with ⟨e, _⟩ | ⟨g', cap, cur, e, _, hg, _⟩
  · cases e
  · simp only [Value.slice.injEq, Option.some.injEq, Addr.mk.injEq, and_true] at e
    exact ⟨cur, by rw [e.1]; exact hg⟩
/-- A block that is none of the peeling's is turned. -/
theorem PlAt.kept {w w' : World} {B j : Nat} {v : PV} {kn : List Nat} {bs : List ByteArray} (h : PlAt w B v kn bs) (hg : w.grownBy w' (some j)) (h1 : v.g ≠ j) (h2 : v.kg ≠ j) (h3 : v.bg ≠ j) : PlAt w' B v kn bs :=
  ⟨(hg.block v.g h.lt (by simpa using h1)).trans h.box, h.known.kept hg (.inr fun e => h2 (by simpa [Value.ownBlock] using e)), World.ownsRow.kept h.blocks hg (.inr fun e => h3 (by simpa [Value.ownBlock] using e))⟩
/-- A row of words, the map, the range's own block are none of the peeling's but its known ones. -/
theorem PlAt.row {w w' : World} {B j B' n c : Nat} {v : PV} {kn xs : List Nat} {bs : List ByteArray} (h : PlAt w B v kn bs) (hg : w.grownBy w' (some j)) (ho : Own w B' (.slice (some ⟨j, 0, none⟩) n c) xs) (h2 : v.kg ≠ j) : PlAt w' B v kn bs := by
  obtain ⟨cur, hc⟩ := ho.blk
  obtain ⟨cur2, hc2⟩ := h.blocks.blk
  refine h.kept hg (fun e => ?_) h2 (fun e => ?_)
  · have := h.box
    rw [e, hc] at this
    simp only [Option.some.injEq, Obj.cells.injEq] at this
    exact absurd this.2.1 (by decide)
  · rw [e, hc] at hc2
    simp only [Option.some.injEq, Obj.cells.injEq] at hc2
    exact absurd hc2.2.1 (by decide)
theorem PlAt.nocells {w w' : World} {B j : Nat} {v : PV} {kn : List Nat} {bs : List ByteArray} (h : PlAt w B v kn bs) (hg : w.grownBy w' (some j)) (hj : ∀ cur t m, w.heap[j]? ≠ some (.cells cur t m)) : PlAt w' B v kn bs := by
  obtain ⟨cur, hc⟩ := h.known.blk
  obtain ⟨cur2, hc2⟩ := h.blocks.blk
  exact h.kept hg (fun e => hj _ _ _ (by rw [← e]; exact h.box)) (fun e => hj _ _ _ (by rw [← e]; exact hc)) (fun e => hj _ _ _ (by rw [← e]; exact hc2))
end Go.Proofs.YtnjdldbdkafnaaaGreatDoor
