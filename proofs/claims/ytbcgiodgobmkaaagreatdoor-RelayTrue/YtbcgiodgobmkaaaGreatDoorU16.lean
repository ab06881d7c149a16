/-
  Contract of slices.Insert at [][]uint64, one row put into a slice of the call's own: at its end, in place, in new memory. For at most 2^20 rows.
  Slices of rows of the call's own, each row in a block of its own ('OwnV'): what one store, one row more, another call leaves of them. Contracts of echelon.In, of insert's closure and of slices.IndexFunc over it.
  Contracts of slices.IndexFunc over insert's closure, of echelon.insert, Basis, Rank: for rows of at most 2^20 words, fewer than 2^20 rows, in every world that holds the table of math/bits.
  Contracts of bucketlineref03.Same, Add, Basis, Rank and of bucketlinelaw03.Few: for rows of at most 2^20 words.
  Plain mathematics of what a span has, the rows being numbers: rows of which none has the lowest bit of one ahead, the xor that a choice tells, and that a row with a mark of its own behind all tells its choice. Of no program, no condition.
  What span's calls and the reference's tell of rows of words, on plain lists: the places that are kept, and the choice whose xor a row is. Of no program; words below 2^64.
-/
import Derived.Test.YtbcgiodgobmkaaaGreatDoorEA
import Derived.Lib.Overlaps
import Derived.Lib.AppendZerosOnto
import Derived.Lib.AppendZeros
import Derived.Laws.Externs
import Derived.Laws.IdiomCopy
import Derived.Laws.NewBlocks
import Derived.Deep.RegionLaw
import Derived.Laws.MakeOwn
import Derived.Lib.QuietBelow
import Derived.Test.YtbcgiodgobmkaaaGreatDoorU13
import Derived.Test.YtbcgiodgobmkaaaGreatDoorU14
namespace Go.Proofs.YtbcgiodgobmkaaaGreatDoor
open Go.RowKit
set_option linter.unusedVariables false
set_option linter.unusedSimpArgs false
set_option maxRecDepth 4000

theorem info_u64s : (Tryz.prog.info? 25).map (fun i => (i.zero, i.size, i.bytes)) = some (some (.slice none 0 0), 1, 24) := by kernel_rfl

end Go.Proofs.YtbcgiodgobmkaaaGreatDoor
namespace Go.Proofs.YtbcgiodgobmkaaaGreatDoor
open Go.RowKit
set_option linter.unusedVariables false
set_option linter.unusedSimpArgs false
set_option maxRecDepth 4000

structure OwnV (w : World) (B : Nat) (v : Value) (vs : List Value) (rs : List (List Nat)) : Prop where
  top : w.ownsRow B 25 1 v rs.length vs
  rows : ∀ i u, vs[i]? = some u → Own w B u (rs.getD i [])
  apart : vs.Pairwise Dis
theorem OwnV.len {w : World} {B : Nat} {v : Value} {vs : List Value} {rs : List (List Nat)} (h : OwnV w B v vs rs) : vs.length = rs.length := by simpa using h.top.1
theorem OwnV.nil (w : World) (B : Nat) : OwnV w B (.slice none 0 0) [] [] := ⟨World.ownsRow_nil _ _ _ _, (fun i u h => by simp at h), .nil⟩
/-- A row of words and a row of rows lie in different blocks. -/
theorem dis_types {w : World} {B B' : Nat} {v u : Value} {n : Nat} {cs : List Value} {xs : List Nat} (h : w.ownsRow B 25 1 v n cs) (k : Own w B' u xs) : Dis u v := by
  rcases h.2 with ⟨rfl, _⟩ | ⟨g, cap, cur, rfl, hb, hg, _⟩
  · by_cases e : u.ownBlock = none
    · exact .inl e
    · exact .inr e
  · rcases k.2.2 with ⟨rfl, _⟩ | ⟨g', cap', cur', rfl, hb', hg', _⟩
    · exact .inl rfl
    · right
      intro e
      simp only [Value.ownBlock, Option.some.injEq] at e
      rw [e] at hg'
      rw [hg] at hg'
      simp at hg'
theorem OwnV.dis {w : World} {B : Nat} {v : Value} {vs : List Value} {rs : List (List Nat)} (h : OwnV w B v vs rs) {i : Nat} {u : Value} (hu : vs[i]? = some u) : Dis u v := dis_types h.top (h.rows i u hu)
theorem ownsRow_below {w w' : World} {B : Nat} {e : TypeId} {v : Value} {n : Nat} {cs : List Value} (h : w.ownsRow B e 1 v n cs) (hb : Below w.heap.size w w') : w'.ownsRow B e 1 v n cs :=
  h.kept (gb_of_below hb none) (by cases hv : v.ownBlock <;> simp)
theorem OwnV.below {w w' : World} {B : Nat} {v : Value} {vs : List Value} {rs : List (List Nat)} (h : OwnV w B v vs rs) (hb : Below w.heap.size w w') : OwnV w' B v vs rs :=
  ⟨ownsRow_below h.top hb, fun i u hu => (h.rows i u hu).below hb, h.apart⟩
theorem OwnV.mono {w : World} {B B' : Nat} {v : Value} {vs : List Value} {rs : List (List Nat)} (h : OwnV w B v vs rs) (hB : B' ≤ B) : OwnV w B' v vs rs := by
  refine ⟨⟨h.top.1, ?_⟩, fun i u hu => (h.rows i u hu).mono hB, h.apart⟩
  rcases h.top.2 with h0 | ⟨g, cap, cur, h1, hb, r⟩
  · exact .inl h0
  · exact .inr ⟨g, cap, cur, h1, Nat.le_trans hB hb, r⟩
/-- It can be read. -/
theorem OwnV.vecs {w : World} {B : Nat} {v : Value} {vs : List Value} {rs : List (List Nat)} (h : OwnV w B v vs rs) : ∃ a c, v = .slice a rs.length c ∧ VecsAt w a rs.length rs := by
  have hl := h.len
  rcases h.top.2 with ⟨rfl, h0⟩ | ⟨g, cap, cur, rfl, hb, hg, hnc, hcm, hcs, ht⟩
  · exact ⟨none, 0, by rw [h0], rfl, .inl h0, fun _ _ _ _ _ _ e => by cases e⟩
  · have hcell : ∀ i (hi : i < vs.length), w.cell? ⟨g, i, none⟩ = some vs[i] := fun i hi => by
      rw [cell_of_row w g i _ _ _ hg, ← Array.getElem?_toList, ← List.getElem?_eq_getElem hi, ← ht, List.getElem?_take_of_lt (by omega)]
    refine ⟨_, cap, rfl, rfl, .inr ⟨g, 0, rfl, fun i hi => ?_⟩, fun b off i ai k ci e hi hc => ?_⟩
    · have hiv : i < vs.length := by omega
      obtain ⟨a, c, e, hr⟩ := (h.rows i vs[i] (List.getElem?_eq_getElem hiv)).row
      refine ⟨a, c, ?_, hr⟩
      rw [Nat.zero_add, hcell i hiv, e]
    · simp only [Option.some.injEq, Addr.mk.injEq, and_true] at e
      obtain ⟨rfl, rfl⟩ := e
      have hiv : i < vs.length := by omega
      have ho := h.rows i vs[i] (List.getElem?_eq_getElem hiv)
      rw [Nat.zero_add, hcell i hiv] at hc
      rw [Option.some.inj hc] at ho
      exact ho.cap
/-- No one of these lies in block b. -/
def Off (l : List Value) (b : Nat) : Prop := ∀ u ∈ l, u.ownBlock ≠ some b
/-- The world went on, and what lay in none of the blocks of l0 is as it was, and lies in none of the blocks of l. -/
structure Keeps (w w' : World) (l0 l : List Value) : Prop where
  os : w'.os = w.os
  tape : w'.tape = w.tape
  output : w'.output = w.output
  size : w.heap.size ≤ w'.heap.size
  block : ∀ b, b < w.heap.size → Off l0 b → w'.heap[b]? = w.heap[b]? ∧ Off l b
theorem Keeps.refl (w : World) (l : List Value) : Keeps w w l l := ⟨rfl, rfl, rfl, Nat.le_refl _, fun _ _ h => ⟨rfl, h⟩⟩
theorem Keeps.trans {w w1 w2 : World} {l0 l1 l2 : List Value} (h : Keeps w w1 l0 l1) (k : Keeps w1 w2 l1 l2) : Keeps w w2 l0 l2 :=
  ⟨k.os.trans h.os, k.tape.trans h.tape, k.output.trans h.output, Nat.le_trans h.size k.size, fun b hb ho => by
    obtain ⟨h1, h2⟩ := h.block b hb ho
    obtain ⟨h3, h4⟩ := k.block b (Nat.lt_of_lt_of_le hb h.size) h2
    exact ⟨h3.trans h1, h4⟩⟩
theorem Keeps.of_below {w w' : World} (h : Below w.heap.size w w') (l : List Value) : Keeps w w' l l := ⟨h.os, h.tape, h.output, h.size, fun b hb ho => ⟨h.block b hb, ho⟩⟩
theorem OwnV.off {w : World} {B : Nat} {v : Value} {vs : List Value} {rs : List (List Nat)} (h : OwnV w B v vs rs) {b : Nat} (hb : b < B ∨ w.heap.size ≤ b) : Off (v :: vs) b := by
  intro u hu e
  rcases List.mem_cons.1 hu with rfl | hu
  · have := h.top.lt b e; omega
  · obtain ⟨i, hi, rfl⟩ := List.getElem_of_mem hu
    have := (h.rows i _ (List.getElem?_eq_getElem hi)).lt e; omega
theorem Keeps.below {w w' : World} {l0 l : List Value} (h : Keeps w w' l0 l) {B : Nat} (hB : B ≤ w.heap.size) (ho : ∀ b, b < B → Off l0 b) : Below B w w' :=
  ⟨h.os, h.tape, h.output, h.size, fun b hb => (h.block b (by omega) (ho b hb)).1⟩
theorem Keeps.cell {w w' : World} {l0 l : List Value} (h : Keeps w w' l0 l) {p : Addr} {u : Value} (hc : w.cell? p = some u) (ho : Off l0 p.block) : w'.cell? p = some u :=
  (World.cell?_of_block (h.block p.block (World.block_lt_of_cell? w _ hc) ho).1).trans hc

theorem getD_insAt (r : List Nat) (p i : Nat) (C : List (List Nat)) (hp : p ≤ C.length) : (insAt r p C).getD i [] = if i < p then C.getD i [] else if i = p then r else C.getD (i - 1) [] := by
  unfold insAt
  have hl : (C.take p).length = p := by rw [List.length_take]; omega
  rw [List.getD_eq_getElem?_getD]
  split
  · rename_i h1
    rw [List.getElem?_append_left (by omega), List.getElem?_take_of_lt h1, List.getD_eq_getElem?_getD]
  · rename_i h1
    rw [List.getElem?_append_right (by omega), hl]
    split
    · rename_i h2; subst h2; simp
    · rename_i h2
      rw [show i - p = (i - p - 1) + 1 by omega, List.getElem?_cons_succ, List.getElem?_drop, List.getD_eq_getElem?_getD, show p + (i - p - 1) = i - 1 by omega]
/-- One row more. -/
theorem OwnV.insert {w w' : World} {B p : Nat} {v s rv : Value} {vs : List Value} {rs : List (List Nat)} {r : List Nat} (h : OwnV w B v vs rs) (hr : Own w B rv r) (hd : ∀ u ∈ vs, Dis u rv) (hp : p ≤ rs.length)
    (htop : w'.ownsRow B 25 1 s (rs.length + 1) (vs.take p ++ rv :: vs.drop p)) (hg : w.grownBy w' v.ownBlock) : OwnV w' B s (vs.take p ++ rv :: vs.drop p) (insAt r p rs) := by
  have hl := h.len
  have hlt : (vs.take p).length = p := by rw [List.length_take]; omega
  refine ⟨by rw [insAt_length r p rs hp]; exact htop, fun i u hu => ?_, ?_⟩
  · rw [getD_insAt r p i rs hp]
    by_cases h1 : i < p
    · rw [if_pos h1]
      rw [List.getElem?_append_left (by omega), List.getElem?_take_of_lt h1] at hu
      exact (h.rows i u hu).kept hg (h.dis hu)
    · rw [if_neg h1]
      rw [List.getElem?_append_right (by omega), hlt] at hu
      by_cases h2 : i = p
      · subst h2
        rw [if_pos rfl]
        simp at hu
        subst hu
        exact hr.kept hg (dis_types h.top hr)
      · rw [if_neg h2]
        rw [show i - p = (i - p - 1) + 1 by omega, List.getElem?_cons_succ, List.getElem?_drop, show p + (i - p - 1) = i - 1 by omega] at hu
        exact (h.rows (i - 1) u hu).kept hg (h.dis hu)
  · refine (List.Perm.pairwise_iff (fun h => Dis.symm h) (List.perm_middle (a := rv) (l₁ := vs.take p) (l₂ := vs.drop p))).2 ?_
    rw [List.take_append_drop]
    exact List.pairwise_cons.2 ⟨fun u hu => (hd u hu).symm, h.apart⟩

set_option maxHeartbeats 400000 in
theorem in_any (a : Option Addr) (n c : Nat) (rs : List (List Nat)) (a' : Option Addr) (m c' : Nat) (xs : List Nat) (w : World) (ht : Tab w) (h : VecsAt w a n rs) (hf : Fit 1048576 rs) (h' : RowAt w a' m xs) (hn : n ≤ 1048576) (hm : m ≤ 1048576) :
    Calls Tryz.prog 143 #[.slice a n c, .slice a' m c'] w fun e w' => e = .returned (.bool (decide (firstI (reduceL rs xs) < 0))) ∧ Below w.heap.size w w' := by
  have HR := hide (reduce_any a n c rs a' m c' xs w ht h hf h' hn hm)
  have hl := (reduce_small hf h'.2.1 (by rw [h'.1]; exact hm)).2
  clear h h' hf
  generalize reduceL rs xs = r at *
  go_enter Tryz.func143, Tryz.ntmps143
  go_wp2_with fail
  refine (unhide HR).mono ?_
  rintro e w1 ⟨v, rfl, ho, hb⟩
  obtain ⟨a1, c1, rfl, hr⟩ := ho.row
  have HF := hide (first_any a1 r.length c1 r w1 (ht.below hb) hr hl)
  clear ho hr HR
  go_wp2_with (go_at_call 97; refine (unhide HF).mono ?_; rintro e w2 ⟨rfl, rfl⟩)
  go_ret
  exact ⟨rfl, hb⟩

end Go.Proofs.YtbcgiodgobmkaaaGreatDoor
namespace Go.Proofs.YtbcgiodgobmkaaaGreatDoor
open Go.RowKit
set_option linter.unusedVariables false
set_option linter.unusedSimpArgs false
set_option maxRecDepth 4000

theorem Tab.belowB {w w' : World} {B : Nat} (h : Tab w) (hb : Below B w w') (hB : 0 < B) : Tab w' := fun i hi => (hb.cell (p := ⟨0, i, none⟩) hB).trans (h i hi)
theorem OwnV.cell {w : World} {B g n cap : Nat} {vs : List Value} {rs : List (List Nat)} (h : OwnV w B (.slice (some ⟨g, 0, none⟩) n cap) vs rs) {k : Nat} {u : Value} (hu : vs[k]? = some u) :
    w.cell? ⟨g, k, none⟩ = some u ∧ w.frozen? ⟨g, k, none⟩ = false := by
  rcases h.top.2 with ⟨h0, _⟩ | ⟨g', cap', cur, h0, hb, hg, hnc, hcm, hcs, ht⟩
  · cases h0
  · simp only [Value.slice.injEq, Option.some.injEq, Addr.mk.injEq, and_true] at h0
    obtain ⟨rfl, _, rfl⟩ := h0
    have hk : k < vs.length := (List.getElem?_eq_some_iff.1 hu).1
    have hl := h.len
    refine ⟨?_, by simp [World.frozen?, hg]⟩
    rw [cell_of_row w g k _ _ _ hg, ← Array.getElem?_toList, ← hu, ← ht, List.getElem?_take_of_lt (by omega)]
theorem OwnV.some {w : World} {B n c : Nat} {a : Option Addr} {vs : List Value} {rs : List (List Nat)} (h : OwnV w B (.slice a n c) vs rs) (h0 : 0 < rs.length) : ∃ g, a = Option.some ⟨g, 0, none⟩ := by
  rcases h.top.2 with ⟨_, h1⟩ | ⟨g', cap', cur, h1, _⟩
  · omega
  · simp only [Value.slice.injEq] at h1
    exact ⟨g', h1.1⟩
theorem Own.keeps {w w' : World} {B : Nat} {v : Value} {xs : List Nat} {l0 l : List Value} (h : Own w B v xs) (k : Keeps w w' l0 l) (ho : ∀ b, v.ownBlock = some b → Off l0 b) : Own w' B v xs := by
  refine ⟨h.1, h.2.1, ?_⟩
  rcases h.2.2 with h0 | ⟨g, cap, cur, h1, hg, hgg, r⟩
  · exact .inl h0
  · exact .inr ⟨g, cap, cur, h1, hg, (k.block g (Array.getElem?_eq_some_iff.1 hgg).1 (ho g (by rw [h1]; rfl))).1.trans hgg, r⟩
theorem ByAt.keeps {w w' : World} {lo p : Nat} {a : Option Addr} {n c : Nat} {l0 l : List Value} (h : ByAt w lo p a n c) (k : Keeps w w' l0 l) (hp : Off l0 p) : ByAt w' lo p a n c :=
  ⟨h.1, k.cell h.2 hp⟩

end Go.Proofs.YtbcgiodgobmkaaaGreatDoor
namespace Go.Proofs.YtbcgiodgobmkaaaGreatDoor
open Go.RowKit Go.Sort
set_option linter.unusedVariables false
set_option linter.unusedSimpArgs false
set_option maxRecDepth 4000

theorem OwnV.push {w w' : World} {B : Nat} {v s rv : Value} {vs : List Value} {rs : List (List Nat)} {r : List Nat} (h : OwnV w B v vs rs) (hr : Own w B rv r) (hd : ∀ u ∈ vs, Dis u rv)
    (htop : w'.ownsRow B 25 1 s (rs.length + 1) (vs ++ [rv])) (hg : w.grownBy w' v.ownBlock) : OwnV w' B s (vs ++ [rv]) (rs ++ [r]) := by
  have hl := h.len
  have e1 : vs.take rs.length ++ rv :: vs.drop rs.length = vs ++ [rv] := by rw [List.take_of_length_le (by omega), List.drop_of_length_le (by omega)]
  have e2 : insAt r rs.length rs = rs ++ [r] := by unfold insAt; simp
  have := h.insert (p := rs.length) hr hd (Nat.le_refl _) (by rw [e1]; exact htop) hg
  rwa [e1, e2] at this
/-- append(out, row), out and the row the call's own. -/
theorem wpList_push {w : World} {ops : Array Oper} {rest : List Oper} {o : Oper} {act : Act} {Q : Exit → Act → World → Prop} (hgd : o.guard = none) (s x : Operand)
    (ho : o.op = .call { callee := .builtin .append, args := #[s, x], argTypes := #[105, 105] }) (B : Nat) (v : Value) (vs : List Value) (rs : List (List Nat)) (bv : Value) (r : List Nat)
    (hs : act.eval s = v) (hx : act.eval x = .slice (some ⟨w.heap.size, 0, none⟩) 1 1) (h : OwnV w B v vs rs) (hB : B ≤ w.heap.size) (hr : Own w B bv r) (hd : ∀ u ∈ vs, Dis u bv) (hn : rs.length ≤ 1048576)
    (hK : ∀ s' w', OwnV w' B s' (vs ++ [bv]) (rs ++ [r]) → w.grownBy w' v.ownBlock → wpList Tryz.prog ops Q rest (act.put o.dst s') w') : wpList Tryz.prog ops Q (o :: rest) act (w.alloc (.cells #[bv] 25)) := by
  obtain ⟨i0, hi, hz0, hz1, hz2⟩ := info_parts info_u64s
  have hb : Below w.heap.size w (w.alloc (.cells #[bv] 25)) := (Below.refl _ _).alloc (Nat.le_refl _) _
  have h1 := h.below hb
  have hone : bv.oneCell' = true := by
    obtain ⟨a, c, e, _⟩ := hr.row
    rw [e]; rfl
  refine wpList_append_own _ hgd s x 105 ho B 25 i0 (.slice none 0 0) 1 24 Tryz.underlying105 hi hz0 hz1 hz2 rfl (by decide) v rs.length vs hs h1.top ⟨w.heap.size, 0, none⟩ 1 1 [bv] hx rfl (fun j u hj => ?_)
    (fun u hu => by rw [List.mem_singleton.1 hu]; exact hone) (by unfold maxLen; omega) (by omega) (Nat.le_trans hB hb.size) ?_
  · match j with
    | 0 =>
      have hc : (w.alloc (.cells #[bv] 25)).cell? ⟨w.heap.size, 0, none⟩ = some bv := by rw [World.cell?_alloc_at _ _ _ _ rfl]; rfl
      simpa [Addr.add, hc] using hj
    | j + 1 => simp at hj
  · intro v' w' hown hgrow _
    exact hK v' w' (h1.push (hr.below hb) hd hown hgrow) (gb_trans (gb_of_below hb _) hgrow (.inl rfl))
/-- What lies in memory of before and what lies in memory of behind. -/
theorem dis_range {w w' : World} {B : Nat} {u v : Value} {xs ys : List Nat} (h : Own w B u xs) (k : Own w' w.heap.size v ys) : Dis u v := by
  by_cases hu : u.ownBlock = none
  · exact .inl hu
  · right
    intro e
    obtain ⟨b, hb⟩ := Option.ne_none_iff_exists'.1 hu
    have h1 := (h.lt hb).2
    have h2 := (k.lt (by rw [← e]; exact hb)).1
    omega
theorem OwnV.dis_new {w w' : World} {B : Nat} {v bv : Value} {vs : List Value} {rs : List (List Nat)} {ys : List Nat} (h : OwnV w B v vs rs) (k : Own w' w.heap.size bv ys) : ∀ u ∈ vs, Dis u bv := by
  intro u hu
  obtain ⟨i, hi, rfl⟩ := List.getElem_of_mem hu
  exact dis_range (h.rows i _ (List.getElem?_eq_getElem hi)) k
theorem OwnV.shape {w : World} {B : Nat} {v : Value} {vs : List Value} {rs : List (List Nat)} (h : OwnV w B v vs rs) : ∃ a c, v = .slice a rs.length c := by
  obtain ⟨a, c, e, _⟩ := h.vecs
  exact ⟨a, c, e⟩

end Go.Proofs.YtbcgiodgobmkaaaGreatDoor
namespace Go.Proofs.YtbcgiodgobmkaaaGreatDoor.Ech

/-- One row more, as it is left. -/
def addT (B : List Nat) (v : Nat) : List Nat := if red B v = 0 then B else B ++ [red B v]

end Go.Proofs.YtbcgiodgobmkaaaGreatDoor.Ech
namespace Go.Proofs.YtbcgiodgobmkaaaGreatDoor
open Go.RowKit
set_option linter.unusedVariables false
set_option linter.unusedSimpArgs false
set_option maxRecDepth 4000

/-- One row more, as it is left. -/
def addTL (B : List (List Nat)) (v : List Nat) : List (List Nat) := if firstI (reduceL B v) < 0 then B else B ++ [reduceL B v]
def broughtL (l : List (List Nat)) : List (List Nat) := l.foldl addTL []
theorem Fit.addT {M : Nat} {B : List (List Nat)} (h : Fit M B) {v : List Nat} (hv : smalls v) (hl : v.length ≤ M) : Fit M (addTL B v) := by
  unfold addTL
  split
  · exact h
  · intro x hx
    rcases List.mem_append.1 hx with hx | hx
    · exact h x hx
    · rw [List.mem_singleton.1 hx]; exact reduce_small h hv hl
theorem addT_val {M : Nat} {B : List (List Nat)} (h : Fit M B) {v : List Nat} (hv : smalls v) (hl : v.length ≤ M) : (addTL B v).map val = Ech.addT (B.map val) (val v) := by
  obtain ⟨h1, h2⟩ := reduce_small h hv hl
  unfold addTL Ech.addT
  rw [← reduce_val h hv]
  by_cases h0 : val (reduceL B v) = 0
  · rw [if_pos ((firstI_neg h1).2 h0), if_pos h0]
  · rw [if_neg (fun k => h0 ((firstI_neg h1).1 k)), if_neg h0]; simp
theorem addT_len (B : List (List Nat)) (v : List Nat) : (addTL B v).length ≤ B.length + 1 := by
  unfold addTL
  split
  · omega
  · simp
theorem foldl_addTL {M : Nat} : ∀ (l B : List (List Nat)), Fit M l → Fit M B → Fit M (l.foldl addTL B) ∧ (l.foldl addTL B).map val = (l.map val).foldl Ech.addT (B.map val) ∧ (l.foldl addTL B).length ≤ B.length + l.length
  | [], B, _, hB => ⟨hB, rfl, by simp⟩
  | v :: l, B, hl, hB => by
    have hv := hl v List.mem_cons_self
    obtain ⟨h1, h2, h3⟩ := foldl_addTL l (addTL B v) hl.tail (hB.addT hv.1 hv.2)
    refine ⟨h1, ?_, ?_⟩
    · show (l.foldl addTL (addTL B v)).map val = _
      rw [h2, addT_val hB hv.1 hv.2]; rfl
    · show (l.foldl addTL (addTL B v)).length ≤ _
      have := addT_len B v
      simp only [List.length_cons]
      omega
theorem brought_fit {M : Nat} {l : List (List Nat)} (h : Fit M l) : Fit M (broughtL l) := (foldl_addTL l [] h (.nil M)).1
theorem brought_len {M : Nat} {l : List (List Nat)} (h : Fit M l) : (broughtL l).length ≤ l.length := by
  have h1 : (l.foldl addTL []).length ≤ l.length := by simpa using (foldl_addTL l [] h (.nil M)).2.2
  exact h1
theorem brought_take {l : List (List Nat)} {k : Nat} (h : k < l.length) : broughtL (l.take (k + 1)) = addTL (broughtL (l.take k)) (l.getD k []) := by
  unfold broughtL
  rw [List.take_succ_eq_append_getElem h, List.foldl_append]
  simp [List.getD_eq_getElem?_getD, List.getElem?_eq_getElem h]

/-- The places that are kept of the first k rows. -/
def keepL (rs : List (List Nat)) : Nat → List Nat
  | 0 => []
  | k + 1 => if firstI (reduceL (broughtL (rs.take k)) (rs.getD k [])) < 0 then keepL rs k else keepL rs k ++ [k]
theorem keep_len (rs : List (List Nat)) : ∀ k, (keepL rs k).length ≤ k
  | 0 => Nat.le_refl _
  | k + 1 => by
    have := keep_len rs k
    simp only [keepL]
    split
    · omega
    · simp; omega

end Go.Proofs.YtbcgiodgobmkaaaGreatDoor
