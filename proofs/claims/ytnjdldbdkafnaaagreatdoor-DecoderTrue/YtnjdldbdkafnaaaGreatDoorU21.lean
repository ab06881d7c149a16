/-
  Contract of slices.Insert at [][]uint64, one row put into a slice of the call's own: at its end, in place, in new memory. For at most 2^20 rows.
  Slices of rows of the call's own, each row in a block of its own ('OwnV'): what one store, one row more, another call leaves of them. Contracts of echelon.In, of insert's closure and of slices.IndexFunc over it.
-/
import Derived.Test.YtnjdldbdkafnaaaGreatDoorEA
import Derived.Lib.Overlaps
import Derived.Lib.AppendZerosOnto
import Derived.Lib.AppendZeros
import Derived.Laws.Externs
import Derived.Laws.IdiomCopy
import Derived.Laws.NewBlocks
import Derived.Deep.RegionLaw
namespace Go.Proofs.YtnjdldbdkafnaaaGreatDoor
open Go.RowKit
set_option linter.unusedVariables false
set_option linter.unusedSimpArgs false
set_option maxRecDepth 4000

theorem info_u64s : (Tryz.prog.info? 27).map (fun i => (i.zero, i.size, i.bytes)) = some (some (.slice none 0 0), 1, 24) := by kernel_rfl
theorem size_u64s (w : World) : (sizeOf 27).run Tryz.prog w = .ok 1 w := by
  obtain ⟨i0, hi, _, hz, _⟩ := info_parts info_u64s
  simp [sizeOf, typeInfo, hi, hz]

end Go.Proofs.YtnjdldbdkafnaaaGreatDoor
namespace Go.Proofs.YtnjdldbdkafnaaaGreatDoor
open Go.RowKit
set_option linter.unusedVariables false
set_option linter.unusedSimpArgs false
set_option maxRecDepth 4000

structure OwnV (w : World) (B : Nat) (v : Value) (vs : List Value) (rs : List (List Nat)) : Prop where
  top : w.ownsRow B 27 1 v rs.length vs
  rows : ∀ i u, vs[i]? = some u → Own w B u (rs.getD i [])
  apart : vs.Pairwise Dis
theorem OwnV.len {w : World} {B : Nat} {v : Value} {vs : List Value} {rs : List (List Nat)} (h : OwnV w B v vs rs) : vs.length = rs.length := by simpa using h.top.1
theorem OwnV.nil (w : World) (B : Nat) : OwnV w B (.slice none 0 0) [] [] := ⟨World.ownsRow_nil _ _ _ _, (fun i u h => by simp at h), .nil⟩
/-- A row of words and a row of rows lie in different blocks. -/
theorem dis_types {w : World} {B B' : Nat} {v u : Value} {n : Nat} {cs : List Value} {xs : List Nat} (h : w.ownsRow B 27 1 v n cs) (k : Own w B' u xs) : Dis u v := by
  rcases h.2 with ⟨rfl, _⟩ | ⟨g, cap, cur, rfl, hb, hg, _⟩
  · by_cases e : u.ownBlock = none
    · exact .inl e
    · exact .inr e
  · rcases k.2.2 with ⟨rfl, _⟩ | ⟨g', cap', cur', rfl, hb', hg', _⟩
    · exact .inl rfl
    · right
      intro e
      simp only [Value.ownBlock, Option.some.injEq] at e
      rw [e] at hg'
      rw [hg] at hg'
      simp at hg'
theorem OwnV.dis {w : World} {B : Nat} {v : Value} {vs : List Value} {rs : List (List Nat)} (h : OwnV w B v vs rs) {i : Nat} {u : Value} (hu : vs[i]? = some u) : Dis u v := dis_types h.top (h.rows i u hu)
theorem ownsRow_below {w w' : World} {B : Nat} {e : TypeId} {v : Value} {n : Nat} {cs : List Value} (h : w.ownsRow B e 1 v n cs) (hb : Below w.heap.size w w') : w'.ownsRow B e 1 v n cs :=
  h.kept (gb_of_below hb none) (by cases hv : v.ownBlock <;> simp)
theorem OwnV.below {w w' : World} {B : Nat} {v : Value} {vs : List Value} {rs : List (List Nat)} (h : OwnV w B v vs rs) (hb : Below w.heap.size w w') : OwnV w' B v vs rs :=
  ⟨ownsRow_below h.top hb, fun i u hu => (h.rows i u hu).below hb, h.apart⟩
theorem OwnV.mono {w : World} {B B' : Nat} {v : Value} {vs : List Value} {rs : List (List Nat)} (h : OwnV w B v vs rs) (hB : B' ≤ B) : OwnV w B' v vs rs := by
  refine ⟨⟨h.top.1, ?_⟩, fun i u hu => (h.rows i u hu).mono hB, h.apart⟩
  rcases h.top.2 with h0 | ⟨g, cap, cur, h1, hb, r⟩
  · exact .inl h0
  · exact .inr ⟨g, cap, cur, h1, Nat.le_trans hB hb, r⟩
/-- It can be read. -/
theorem OwnV.vecs {w : World} {B : Nat} {v : Value} {vs : List Value} {rs : List (List Nat)} (h : OwnV w B v vs rs) : ∃ a c, v = .slice a rs.length c ∧ VecsAt w a rs.length rs := by
  have hl := h.len
  rcases h.top.2 with ⟨rfl, h0⟩ | ⟨g, cap, cur, rfl, hb, hg, hnc, hcm, hcs, ht⟩
  · exact ⟨none, 0, by rw [h0], rfl, .inl h0, fun _ _ _ _ _ _ e => by cases e⟩
  · have hcell : ∀ i (hi : i < vs.length), w.cell? ⟨g, i, none⟩ = some vs[i] := fun i hi => by
      rw [cell_of_row w g i _ _ _ hg, ← Array.getElem?_toList, ← List.getElem?_eq_getElem hi, ← ht, List.getElem?_take_of_lt (by omega)]
    refine ⟨_, cap, rfl, rfl, .inr ⟨g, 0, rfl, fun i hi => ?_⟩, fun b off i ai k ci e hi hc => ?_⟩
    · have hiv : i < vs.length := by omega
      obtain ⟨a, c, e, hr⟩ := (h.rows i vs[i] (List.getElem?_eq_getElem hiv)).row
      refine ⟨a, c, ?_, hr⟩
      rw [Nat.zero_add, hcell i hiv, e]
    · simp only [Option.some.injEq, Addr.mk.injEq, and_true] at e
      obtain ⟨rfl, rfl⟩ := e
      have hiv : i < vs.length := by omega
      have ho := h.rows i vs[i] (List.getElem?_eq_getElem hiv)
      rw [Nat.zero_add, hcell i hiv] at hc
      rw [Option.some.inj hc] at ho
      exact ho.cap
/-- No one of these lies in block b. -/
def Off (l : List Value) (b : Nat) : Prop := ∀ u ∈ l, u.ownBlock ≠ some b
/-- The world went on, and what lay in none of the blocks of l0 is as it was, and lies in none of the blocks of l. -/
structure Keeps (w w' : World) (l0 l : List Value) : Prop where
  os : w'.os = w.os
  tape : w'.tape = w.tape
  output : w'.output = w.output
  size : w.heap.size ≤ w'.heap.size
  block : ∀ b, b < w.heap.size → Off l0 b → w'.heap[b]? = w.heap[b]? ∧ Off l b
theorem Keeps.refl (w : World) (l : List Value) : Keeps w w l l := ⟨rfl, rfl, rfl, Nat.le_refl _, fun _ _ h => ⟨rfl, h⟩⟩
theorem Keeps.trans {w w1 w2 : World} {l0 l1 l2 : List Value} (h : Keeps w w1 l0 l1) (k : Keeps w1 w2 l1 l2) : Keeps w w2 l0 l2 :=
  ⟨k.os.trans h.os, k.tape.trans h.tape, k.output.trans h.output, Nat.le_trans h.size k.size, fun b hb ho => by
    obtain ⟨h1, h2⟩ := h.block b hb ho
    obtain ⟨h3, h4⟩ := k.block b (Nat.lt_of_lt_of_le hb h.size) h2
    exact ⟨h3.trans h1, h4⟩⟩
theorem Keeps.of_below {w w' : World} (h : Below w.heap.size w w') (l : List Value) : Keeps w w' l l := ⟨h.os, h.tape, h.output, h.size, fun b hb ho => ⟨h.block b hb, ho⟩⟩
theorem OwnV.off {w : World} {B : Nat} {v : Value} {vs : List Value} {rs : List (List Nat)} (h : OwnV w B v vs rs) {b : Nat} (hb : b < B ∨ w.heap.size ≤ b) : Off (v :: vs) b := by
  intro u hu e
  rcases List.mem_cons.1 hu with rfl | hu
  · have := h.top.lt b e; omega
  · obtain ⟨i, hi, rfl⟩ := List.getElem_of_mem hu
    have := (h.rows i _ (List.getElem?_eq_getElem hi)).lt e; omega
theorem Keeps.below {w w' : World} {l0 l : List Value} (h : Keeps w w' l0 l) {B : Nat} (hB : B ≤ w.heap.size) (ho : ∀ b, b < B → Off l0 b) : Below B w w' :=
  ⟨h.os, h.tape, h.output, h.size, fun b hb => (h.block b (by omega) (ho b hb)).1⟩
theorem Keeps.cell {w w' : World} {l0 l : List Value} (h : Keeps w w' l0 l) {p : Addr} {u : Value} (hc : w.cell? p = some u) (ho : Off l0 p.block) : w'.cell? p = some u :=
  (World.cell?_of_block (h.block p.block (World.block_lt_of_cell? w _ hc) ho).1).trans hc

theorem OwnV.two {w : World} {B : Nat} {v : Value} {vs : List Value} {rs : List (List Nat)} (h : OwnV w B v vs rs) {i j : Nat} {u u' : Value} (hij : i ≠ j) (hu : vs[i]? = some u) (hu' : vs[j]? = some u') : Dis u u' := by
  obtain ⟨hi, rfl⟩ := List.getElem?_eq_some_iff.1 hu
  obtain ⟨hj, rfl⟩ := List.getElem?_eq_some_iff.1 hu'
  have hp := List.pairwise_iff_getElem.1 h.apart
  rcases Nat.lt_or_gt_of_ne hij with h1 | h1
  · exact hp i j hi hj h1
  · exact (hp j i hj hi h1).symm
theorem getD_insAt (r : List Nat) (p i : Nat) (C : List (List Nat)) (hp : p ≤ C.length) : (insAt r p C).getD i [] = if i < p then C.getD i [] else if i = p then r else C.getD (i - 1) [] := by
  unfold insAt
  have hl : (C.take p).length = p := by rw [List.length_take]; omega
  rw [List.getD_eq_getElem?_getD]
  split
  · rename_i h1
    rw [List.getElem?_append_left (by omega), List.getElem?_take_of_lt h1, List.getD_eq_getElem?_getD]
  · rename_i h1
    rw [List.getElem?_append_right (by omega), hl]
    split
    · rename_i h2; subst h2; simp
    · rename_i h2
      rw [show i - p = (i - p - 1) + 1 by omega, List.getElem?_cons_succ, List.getElem?_drop, List.getD_eq_getElem?_getD, show p + (i - p - 1) = i - 1 by omega]
/-- One row more. -/
theorem OwnV.insert {w w' : World} {B p : Nat} {v s rv : Value} {vs : List Value} {rs : List (List Nat)} {r : List Nat} (h : OwnV w B v vs rs) (hr : Own w B rv r) (hd : ∀ u ∈ vs, Dis u rv) (hp : p ≤ rs.length)
    (htop : w'.ownsRow B 27 1 s (rs.length + 1) (vs.take p ++ rv :: vs.drop p)) (hg : w.grownBy w' v.ownBlock) : OwnV w' B s (vs.take p ++ rv :: vs.drop p) (insAt r p rs) := by
  have hl := h.len
  have hlt : (vs.take p).length = p := by rw [List.length_take]; omega
  refine ⟨by rw [insAt_length r p rs hp]; exact htop, fun i u hu => ?_, ?_⟩
  · rw [getD_insAt r p i rs hp]
    by_cases h1 : i < p
    · rw [if_pos h1]
      rw [List.getElem?_append_left (by omega), List.getElem?_take_of_lt h1] at hu
      exact (h.rows i u hu).kept hg (h.dis hu)
    · rw [if_neg h1]
      rw [List.getElem?_append_right (by omega), hlt] at hu
      by_cases h2 : i = p
      · subst h2
        rw [if_pos rfl]
        simp at hu
        subst hu
        exact hr.kept hg (dis_types h.top hr)
      · rw [if_neg h2]
        rw [show i - p = (i - p - 1) + 1 by omega, List.getElem?_cons_succ, List.getElem?_drop, show p + (i - p - 1) = i - 1 by omega] at hu
        exact (h.rows (i - 1) u hu).kept hg (h.dis hu)
  · refine (List.Perm.pairwise_iff (fun h => Dis.symm h) (List.perm_middle (a := rv) (l₁ := vs.take p) (l₂ := vs.drop p))).2 ?_
    rw [List.take_append_drop]
    exact List.pairwise_cons.2 ⟨fun u hu => (hd u hu).symm, h.apart⟩

set_option maxHeartbeats 400000 in
theorem in_any (a : Option Addr) (n c : Nat) (rs : List (List Nat)) (a' : Option Addr) (m c' : Nat) (xs : List Nat) (w : World) (ht : Tab w) (h : VecsAt w a n rs) (hf : Fit 1048576 rs) (h' : RowAt w a' m xs) (hn : n ≤ 1048576) (hm : m ≤ 1048576) :
    Calls Tryz.prog 114 #[.slice a n c, .slice a' m c'] w fun e w' => e = .returned (.bool (decide (firstI (reduceL rs xs) < 0))) ∧ Below w.heap.size w w' := by
  have HR := hide (reduce_any a n c rs a' m c' xs w ht h hf h' hn hm)
  have hl := (reduce_small hf h'.2.1 (by rw [h'.1]; exact hm)).2
  clear h h' hf
  generalize reduceL rs xs = r at *
  go_enter Tryz.func114, Tryz.ntmps114
  go_wp2_with fail
  refine (unhide HR).mono ?_
  rintro e w1 ⟨v, rfl, ho, hb⟩
  obtain ⟨a1, c1, rfl, hr⟩ := ho.row
  have HF := hide (first_any a1 r.length c1 r w1 (ht.below hb) hr hl)
  clear ho hr HR
  go_wp2_with (go_at_call 106; refine (unhide HF).mono ?_; rintro e w2 ⟨rfl, rfl⟩)
  go_ret
  exact ⟨rfl, hb⟩

end Go.Proofs.YtnjdldbdkafnaaaGreatDoor
