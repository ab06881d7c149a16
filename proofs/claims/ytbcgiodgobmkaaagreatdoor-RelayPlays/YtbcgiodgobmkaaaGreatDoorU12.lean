/-
  Contract of slices.Insert at [][]uint64, one row put into a slice of the call's own: at its end, in place, in new memory. For at most 2^20 rows.
  Slices of rows of the call's own, each row in a block of its own ('OwnV'): what one store, one row more, another call leaves of them. Contracts of echelon.In, of insert's closure and of slices.IndexFunc over it.
  Contracts of slices.IndexFunc over insert's closure, of echelon.insert, Basis, Rank: for rows of at most 2^20 words, fewer than 2^20 rows, in every world that holds the table of math/bits.
  Contracts of echelon.Add and of bucketlineref03.Reduce, Same, bucketlinelaw03.Few: for rows of at most 2^20 words.
  Contracts of bucketlineref03.Same, Add, Basis, Rank and of bucketlinelaw03.Few: for rows of at most 2^20 words.
-/
import Derived.Test.YtbcgiodgobmkaaaGreatDoorEA
import Derived.Lib.Overlaps
import Derived.Lib.AppendZerosOnto
import Derived.Lib.AppendZeros
import Derived.Laws.Externs
import Derived.Laws.IdiomCopy
import Derived.Laws.NewBlocks
import Derived.Deep.RegionLaw
import Derived.Laws.MakeOwn
import Derived.Lib.QuietBelow
namespace Go.Proofs.YtbcgiodgobmkaaaGreatDoor
open Go.RowKit
set_option linter.unusedVariables false
set_option linter.unusedSimpArgs false
set_option maxRecDepth 4000

theorem info_u64s : (Tryz.prog.info? 25).map (fun i => (i.zero, i.size, i.bytes)) = some (some (.slice none 0 0), 1, 24) := by kernel_rfl

end Go.Proofs.YtbcgiodgobmkaaaGreatDoor
namespace Go.Proofs.YtbcgiodgobmkaaaGreatDoor
open Go.RowKit
set_option linter.unusedVariables false
set_option linter.unusedSimpArgs false
set_option maxRecDepth 4000

structure OwnV (w : World) (B : Nat) (v : Value) (vs : List Value) (rs : List (List Nat)) : Prop where
  top : w.ownsRow B 25 1 v rs.length vs
  rows : ∀ i u, vs[i]? = some u → Own w B u (rs.getD i [])
  apart : vs.Pairwise Dis
theorem OwnV.len {w : World} {B : Nat} {v : Value} {vs : List Value} {rs : List (List Nat)} (h : OwnV w B v vs rs) : vs.length = rs.length := by simpa using h.top.1
theorem OwnV.nil (w : World) (B : Nat) : OwnV w B (.slice none 0 0) [] [] := ⟨World.ownsRow_nil _ _ _ _, (fun i u h => by simp at h), .nil⟩
/-- A row of words and a row of rows lie in different blocks. -/
theorem dis_types {w : World} {B B' : Nat} {v u : Value} {n : Nat} {cs : List Value} {xs : List Nat} (h : w.ownsRow B 25 1 v n cs) (k : Own w B' u xs) : Dis u v := by
  rcases h.2 with ⟨rfl, _⟩ | ⟨g, cap, cur, rfl, hb, hg, _⟩
  · by_cases e : u.ownBlock = none
    · exact .inl e
    · exact .inr e
  · rcases k.2.2 with ⟨rfl, _⟩ | ⟨g', cap', cur', rfl, hb', hg', _⟩
    · exact .inl rfl
    · right
      intro e
      simp only [Value.ownBlock, Option.some.injEq] at e
      rw [e] at hg'
      rw [hg] at hg'
      simp at hg'
theorem OwnV.dis {w : World} {B : Nat} {v : Value} {vs : List Value} {rs : List (List Nat)} (h : OwnV w B v vs rs) {i : Nat} {u : Value} (hu : vs[i]? = some u) : Dis u v := dis_types h.top (h.rows i u hu)
theorem ownsRow_below {w w' : World} {B : Nat} {e : TypeId} {v : Value} {n : Nat} {cs : List Value} (h : w.ownsRow B e 1 v n cs) (hb : Below w.heap.size w w') : w'.ownsRow B e 1 v n cs :=
  h.kept (gb_of_below hb none) (by cases hv : v.ownBlock <;> simp)
theorem OwnV.below {w w' : World} {B : Nat} {v : Value} {vs : List Value} {rs : List (List Nat)} (h : OwnV w B v vs rs) (hb : Below w.heap.size w w') : OwnV w' B v vs rs :=
  ⟨ownsRow_below h.top hb, fun i u hu => (h.rows i u hu).below hb, h.apart⟩
theorem OwnV.mono {w : World} {B B' : Nat} {v : Value} {vs : List Value} {rs : List (List Nat)} (h : OwnV w B v vs rs) (hB : B' ≤ B) : OwnV w B' v vs rs := by
  refine ⟨⟨h.top.1, ?_⟩, fun i u hu => (h.rows i u hu).mono hB, h.apart⟩
  rcases h.top.2 with h0 | ⟨g, cap, cur, h1, hb, r⟩
  · exact .inl h0
  · exact .inr ⟨g, cap, cur, h1, Nat.le_trans hB hb, r⟩
/-- It can be read. -/
theorem OwnV.vecs {w : World} {B : Nat} {v : Value} {vs : List Value} {rs : List (List Nat)} (h : OwnV w B v vs rs) : ∃ a c, v = .slice a rs.length c ∧ VecsAt w a rs.length rs := by
  have hl := h.len
  rcases h.top.2 with ⟨rfl, h0⟩ | ⟨g, cap, cur, rfl, hb, hg, hnc, hcm, hcs, ht⟩
  · exact ⟨none, 0, by rw [h0], rfl, .inl h0, fun _ _ _ _ _ _ e => by cases e⟩
  · have hcell : ∀ i (hi : i < vs.length), w.cell? ⟨g, i, none⟩ = some vs[i] := fun i hi => by
      rw [cell_of_row w g i _ _ _ hg, ← Array.getElem?_toList, ← List.getElem?_eq_getElem hi, ← ht, List.getElem?_take_of_lt (by omega)]
    refine ⟨_, cap, rfl, rfl, .inr ⟨g, 0, rfl, fun i hi => ?_⟩, fun b off i ai k ci e hi hc => ?_⟩
    · have hiv : i < vs.length := by omega
      obtain ⟨a, c, e, hr⟩ := (h.rows i vs[i] (List.getElem?_eq_getElem hiv)).row
      refine ⟨a, c, ?_, hr⟩
      rw [Nat.zero_add, hcell i hiv, e]
    · simp only [Option.some.injEq, Addr.mk.injEq, and_true] at e
      obtain ⟨rfl, rfl⟩ := e
      have hiv : i < vs.length := by omega
      have ho := h.rows i vs[i] (List.getElem?_eq_getElem hiv)
      rw [Nat.zero_add, hcell i hiv] at hc
      rw [Option.some.inj hc] at ho
      exact ho.cap
/-- No one of these lies in block b. -/
def Off (l : List Value) (b : Nat) : Prop := ∀ u ∈ l, u.ownBlock ≠ some b
/-- The world went on, and what lay in none of the blocks of l0 is as it was, and lies in none of the blocks of l. -/
structure Keeps (w w' : World) (l0 l : List Value) : Prop where
  os : w'.os = w.os
  tape : w'.tape = w.tape
  output : w'.output = w.output
  size : w.heap.size ≤ w'.heap.size
  block : ∀ b, b < w.heap.size → Off l0 b → w'.heap[b]? = w.heap[b]? ∧ Off l b
theorem Keeps.refl (w : World) (l : List Value) : Keeps w w l l := ⟨rfl, rfl, rfl, Nat.le_refl _, fun _ _ h => ⟨rfl, h⟩⟩
theorem Keeps.trans {w w1 w2 : World} {l0 l1 l2 : List Value} (h : Keeps w w1 l0 l1) (k : Keeps w1 w2 l1 l2) : Keeps w w2 l0 l2 :=
  ⟨k.os.trans h.os, k.tape.trans h.tape, k.output.trans h.output, Nat.le_trans h.size k.size, fun b hb ho => by
    obtain ⟨h1, h2⟩ := h.block b hb ho
    obtain ⟨h3, h4⟩ := k.block b (Nat.lt_of_lt_of_le hb h.size) h2
    exact ⟨h3.trans h1, h4⟩⟩
theorem Keeps.of_below {w w' : World} (h : Below w.heap.size w w') (l : List Value) : Keeps w w' l l := ⟨h.os, h.tape, h.output, h.size, fun b hb ho => ⟨h.block b hb, ho⟩⟩
theorem OwnV.off {w : World} {B : Nat} {v : Value} {vs : List Value} {rs : List (List Nat)} (h : OwnV w B v vs rs) {b : Nat} (hb : b < B ∨ w.heap.size ≤ b) : Off (v :: vs) b := by
  intro u hu e
  rcases List.mem_cons.1 hu with rfl | hu
  · have := h.top.lt b e; omega
  · obtain ⟨i, hi, rfl⟩ := List.getElem_of_mem hu
    have := (h.rows i _ (List.getElem?_eq_getElem hi)).lt e; omega
theorem Keeps.below {w w' : World} {l0 l : List Value} (h : Keeps w w' l0 l) {B : Nat} (hB : B ≤ w.heap.size) (ho : ∀ b, b < B → Off l0 b) : Below B w w' :=
  ⟨h.os, h.tape, h.output, h.size, fun b hb => (h.block b (by omega) (ho b hb)).1⟩
theorem Keeps.cell {w w' : World} {l0 l : List Value} (h : Keeps w w' l0 l) {p : Addr} {u : Value} (hc : w.cell? p = some u) (ho : Off l0 p.block) : w'.cell? p = some u :=
  (World.cell?_of_block (h.block p.block (World.block_lt_of_cell? w _ hc) ho).1).trans hc

theorem getD_insAt (r : List Nat) (p i : Nat) (C : List (List Nat)) (hp : p ≤ C.length) : (insAt r p C).getD i [] = if i < p then C.getD i [] else if i = p then r else C.getD (i - 1) [] := by
  unfold insAt
  have hl : (C.take p).length = p := by rw [List.length_take]; omega
  rw [List.getD_eq_getElem?_getD]
  split
  · rename_i h1
    rw [List.getElem?_append_left (by omega), List.getElem?_take_of_lt h1, List.getD_eq_getElem?_getD]
  · rename_i h1
    rw [List.getElem?_append_right (by omega), hl]
    split
    · rename_i h2; subst h2; simp
    · rename_i h2
      rw [show i - p = (i - p - 1) + 1 by omega, List.getElem?_cons_succ, List.getElem?_drop, List.getD_eq_getElem?_getD, show p + (i - p - 1) = i - 1 by omega]
/-- One row more. -/
theorem OwnV.insert {w w' : World} {B p : Nat} {v s rv : Value} {vs : List Value} {rs : List (List Nat)} {r : List Nat} (h : OwnV w B v vs rs) (hr : Own w B rv r) (hd : ∀ u ∈ vs, Dis u rv) (hp : p ≤ rs.length)
    (htop : w'.ownsRow B 25 1 s (rs.length + 1) (vs.take p ++ rv :: vs.drop p)) (hg : w.grownBy w' v.ownBlock) : OwnV w' B s (vs.take p ++ rv :: vs.drop p) (insAt r p rs) := by
  have hl := h.len
  have hlt : (vs.take p).length = p := by rw [List.length_take]; omega
  refine ⟨by rw [insAt_length r p rs hp]; exact htop, fun i u hu => ?_, ?_⟩
  · rw [getD_insAt r p i rs hp]
    by_cases h1 : i < p
    · rw [if_pos h1]
      rw [List.getElem?_append_left (by omega), List.getElem?_take_of_lt h1] at hu
      exact (h.rows i u hu).kept hg (h.dis hu)
    · rw [if_neg h1]
      rw [List.getElem?_append_right (by omega), hlt] at hu
      by_cases h2 : i = p
      · subst h2
        rw [if_pos rfl]
        simp at hu
        subst hu
        exact hr.kept hg (dis_types h.top hr)
      · rw [if_neg h2]
        rw [show i - p = (i - p - 1) + 1 by omega, List.getElem?_cons_succ, List.getElem?_drop, show p + (i - p - 1) = i - 1 by omega] at hu
        exact (h.rows (i - 1) u hu).kept hg (h.dis hu)
  · refine (List.Perm.pairwise_iff (fun h => Dis.symm h) (List.perm_middle (a := rv) (l₁ := vs.take p) (l₂ := vs.drop p))).2 ?_
    rw [List.take_append_drop]
    exact List.pairwise_cons.2 ⟨fun u hu => (hd u hu).symm, h.apart⟩

set_option maxHeartbeats 400000 in
theorem in_any (a : Option Addr) (n c : Nat) (rs : List (List Nat)) (a' : Option Addr) (m c' : Nat) (xs : List Nat) (w : World) (ht : Tab w) (h : VecsAt w a n rs) (hf : Fit 1048576 rs) (h' : RowAt w a' m xs) (hn : n ≤ 1048576) (hm : m ≤ 1048576) :
    Calls Tryz.prog 143 #[.slice a n c, .slice a' m c'] w fun e w' => e = .returned (.bool (decide (firstI (reduceL rs xs) < 0))) ∧ Below w.heap.size w w' := by
  have HR := hide (reduce_any a n c rs a' m c' xs w ht h hf h' hn hm)
  have hl := (reduce_small hf h'.2.1 (by rw [h'.1]; exact hm)).2
  clear h h' hf
  generalize reduceL rs xs = r at *
  go_enter Tryz.func143, Tryz.ntmps143
  go_wp2_with fail
  refine (unhide HR).mono ?_
  rintro e w1 ⟨v, rfl, ho, hb⟩
  obtain ⟨a1, c1, rfl, hr⟩ := ho.row
  have HF := hide (first_any a1 r.length c1 r w1 (ht.below hb) hr hl)
  clear ho hr HR
  go_wp2_with (go_at_call 97; refine (unhide HF).mono ?_; rintro e w2 ⟨rfl, rfl⟩)
  go_ret
  exact ⟨rfl, hb⟩

end Go.Proofs.YtbcgiodgobmkaaaGreatDoor
namespace Go.Proofs.YtbcgiodgobmkaaaGreatDoor
open Go.RowKit
set_option linter.unusedVariables false
set_option linter.unusedSimpArgs false
set_option maxRecDepth 4000

theorem Tab.belowB {w w' : World} {B : Nat} (h : Tab w) (hb : Below B w w') (hB : 0 < B) : Tab w' := fun i hi => (hb.cell (p := ⟨0, i, none⟩) hB).trans (h i hi)
theorem OwnV.cell {w : World} {B g n cap : Nat} {vs : List Value} {rs : List (List Nat)} (h : OwnV w B (.slice (some ⟨g, 0, none⟩) n cap) vs rs) {k : Nat} {u : Value} (hu : vs[k]? = some u) :
    w.cell? ⟨g, k, none⟩ = some u ∧ w.frozen? ⟨g, k, none⟩ = false := by
  rcases h.top.2 with ⟨h0, _⟩ | ⟨g', cap', cur, h0, hb, hg, hnc, hcm, hcs, ht⟩
  · cases h0
  · simp only [Value.slice.injEq, Option.some.injEq, Addr.mk.injEq, and_true] at h0
    obtain ⟨rfl, _, rfl⟩ := h0
    have hk : k < vs.length := (List.getElem?_eq_some_iff.1 hu).1
    have hl := h.len
    refine ⟨?_, by simp [World.frozen?, hg]⟩
    rw [cell_of_row w g k _ _ _ hg, ← Array.getElem?_toList, ← hu, ← ht, List.getElem?_take_of_lt (by omega)]
theorem OwnV.some {w : World} {B n c : Nat} {a : Option Addr} {vs : List Value} {rs : List (List Nat)} (h : OwnV w B (.slice a n c) vs rs) (h0 : 0 < rs.length) : ∃ g, a = Option.some ⟨g, 0, none⟩ := by
  rcases h.top.2 with ⟨_, h1⟩ | ⟨g', cap', cur, h1, _⟩
  · omega
  · simp only [Value.slice.injEq] at h1
    exact ⟨g', h1.1⟩
theorem Own.keeps {w w' : World} {B : Nat} {v : Value} {xs : List Nat} {l0 l : List Value} (h : Own w B v xs) (k : Keeps w w' l0 l) (ho : ∀ b, v.ownBlock = some b → Off l0 b) : Own w' B v xs := by
  refine ⟨h.1, h.2.1, ?_⟩
  rcases h.2.2 with h0 | ⟨g, cap, cur, h1, hg, hgg, r⟩
  · exact .inl h0
  · exact .inr ⟨g, cap, cur, h1, hg, (k.block g (Array.getElem?_eq_some_iff.1 hgg).1 (ho g (by rw [h1]; rfl))).1.trans hgg, r⟩
theorem ByAt.keeps {w w' : World} {lo p : Nat} {a : Option Addr} {n c : Nat} {l0 l : List Value} (h : ByAt w lo p a n c) (k : Keeps w w' l0 l) (hp : Off l0 p) : ByAt w' lo p a n c :=
  ⟨h.1, k.cell h.2 hp⟩

end Go.Proofs.YtbcgiodgobmkaaaGreatDoor
namespace Go.Proofs.YtbcgiodgobmkaaaGreatDoor
open Go.RowKit
set_option linter.unusedVariables false
set_option linter.unusedSimpArgs false
set_option maxRecDepth 4000

set_option maxHeartbeats 2000000 in
theorem rreduce_any (a : Option Addr) (n c : Nat) (rs : List (List Nat)) (a' : Option Addr) (m c' : Nat) (xs : List Nat) (w : World) (h : VecsAt w a n rs) (hf : Fit 1048576 rs) (h' : RowAt w a' m xs) (hn : n ≤ 1048576) (hm : m ≤ 1048576) :
    Calls Tryz.prog 83 #[.slice a n c, .slice a' m c'] w fun e w' => ∃ v, e = .returned v ∧ Own w' w.heap.size v (reduceL rs xs) ∧ Below w.heap.size w w' := by
  obtain rfl : m = xs.length := h'.1.symm
  have hxs := h'.2.1
  go_enter Tryz.func83, Tryz.ntmps83
  go_wp2_with (first | (at_builtin; refine wpList_append_nil rfl _ _ rfl a' xs.length c' xs rfl rfl h' hm ?_; intro v w1 ho hb; obtain ⟨a1, c1, rfl, _⟩ := ho.row))
  go_loopw [5, 6] (fun r i wr => ∃ k : Nat, k ≤ n ∧ i = .int .i64 k ∧ ∃ a1 c1, r = .slice a1 (reduceL (rs.take k) xs).length c1 ∧ Hid (Own wr w.heap.size (.slice a1 (reduceL (rs.take k) xs).length c1) (reduceL (rs.take k) xs)) ∧ Hid (Below w.heap.size w wr)) (fun _ i _ => n - (intOf i).toNat)
  case atStart => exact ⟨0, Nat.zero_le _, rfl, a1, c1, rfl, hide ho, hide hb⟩
  case round =>
    obtain ⟨k, hk, rfl, a2, c2, rfl, HO, HB⟩ := hrel
    clear ho hb
    by_cases hlt : k < n
    · have hB := unhide HB
      obtain ⟨b, off, rfl, hc⟩ := (h.below hB).at hlt
      obtain ⟨ai, ci, hcell, hrow⟩ := hc k hlt
      have hlk := (hf.getD k).2
      have hrs := reduce_small (hf.take k) hxs hm
      have HE := hide (reduce_take (v := xs) (show k < rs.length by rw [h.1]; exact hlt))
      have hfl := firstI_le hrow.2.1
      have HF := hide (rfirst_any ai (rs.getD k []).length ci (rs.getD k []) wr hrow hlk)
      obtain ⟨_, _, e2, hr2⟩ := (unhide HO).row
      simp only [Value.slice.injEq, true_and] at e2
      obtain ⟨rfl, rfl⟩ := e2
      have hG := rget_any a2 _ c2 (reduceL (rs.take k) xs) (firstI (rs.getD k [])) wr hr2 hrs.2 (by omega)
      have HX := hide (rxor_any a2 _ c2 (reduceL (rs.take k) xs) ai _ ci (rs.getD k []) wr hr2 hrow hrs.2 hlk)
      have HS : Hid (stepL (reduceL (rs.take k) xs) (rs.getD k []) = if getI (reduceL (rs.take k) xs) (firstI (rs.getD k [])) = true then xorL (reduceL (rs.take k) xs) (rs.getD k []) else reduceL (rs.take k) xs) := rfl
      have HNEG := hide (getI_neg (reduceL (rs.take k) xs) (firstI (rs.getD k [])))
      clear hc hrow hr2 h h'
      generalize rs.getD k [] = y at *
      generalize reduceL (rs.take k) xs = r at *
      by_cases hpos : 0 ≤ firstI y
      · have hdp : decide (0 ≤ firstI y) = true := by simpa using hpos
        by_cases hget : getI r (firstI y) = true
        · have hst := unhide HS
          rw [if_pos hget] at hst
          rw [hget] at hG
          have HG := hide hG
          clear hG hget HS HNEG
          generalize firstI y = f at *
          go_wp2_with fail
          refine (unhide HF).mono ?_
          rintro e w' ⟨rfl, hw⟩
          obtain rfl := hw.symm
          go_wp2_with fail
          refine (unhide HG).mono ?_
          rintro e w' ⟨rfl, hw⟩
          obtain rfl := hw.symm
          go_wp2_with fail
          refine (unhide HX).mono ?_
          rintro e w3 ⟨v, rfl, ho3, hb3⟩
          obtain ⟨a3, c3, rfl, _⟩ := ho3.row
          rw [← hst, ← unhide HE]
          rw [← hst, ← unhide HE] at ho3
          have HO3 := hide (ho3.mono hB.size)
          have HB3 := hide (below0 hB hb3)
          clear ho3 hb3 HX HG HF hst HO HB hB
          go_wp2
          go_roundw
          case rel => exact ⟨k + 1, by omega, by go_num, a3, c3, rfl, HO3, HB3⟩
          case measure => simp [intOf]; omega
        · have hst := unhide HS
          rw [if_neg hget] at hst
          rw [show getI r (firstI y) = false by simpa using hget] at hG
          have HG := hide hG
          clear hG hget HS HNEG HX
          generalize firstI y = f at *
          go_wp2_with fail
          refine (unhide HF).mono ?_
          rintro e w' ⟨rfl, hw⟩
          obtain rfl := hw.symm
          go_wp2_with fail
          refine (unhide HG).mono ?_
          rintro e w' ⟨rfl, hw⟩
          obtain rfl := hw.symm
          rw [← hst, ← unhide HE]
          rw [← hst, ← unhide HE] at HO
          clear HG HF hst hB
          go_wp2
          go_roundw
          case rel => exact ⟨k + 1, by omega, by go_num, a2, c2, rfl, HO, HB⟩
          case measure => simp [intOf]; omega
      · have hdp : decide (0 ≤ firstI y) = false := by simpa using hpos
        have hst := unhide HS
        rw [unhide HNEG (by omega), if_neg (by decide)] at hst
        clear hG HS HNEG HX hpos
        generalize firstI y = f at *
        go_wp2_with fail
        refine (unhide HF).mono ?_
        rintro e w' ⟨rfl, hw⟩
        obtain rfl := hw.symm
        rw [← hst, ← unhide HE]
        rw [← hst, ← unhide HE] at HO
        clear HF hst hB
        go_wp2
        go_roundw
        case rel => exact ⟨k + 1, by omega, by go_num, a2, c2, rfl, HO, HB⟩
        case measure => simp [intOf]; omega
    · have hke : reduceL (rs.take k) xs = reduceL rs xs := reduce_all (by rw [h.1]; omega)
      rw [hke] at HO
      rw [hke]
      clear h hke h'
      go_wp2
      go_ret
      exact ⟨_, rfl, unhide HO, unhide HB⟩
end Go.Proofs.YtbcgiodgobmkaaaGreatDoor
namespace Go.Proofs.YtbcgiodgobmkaaaGreatDoor
open Go.RowKit Go.Sort
set_option linter.unusedVariables false
set_option linter.unusedSimpArgs false
set_option maxRecDepth 4000

theorem OwnV.push {w w' : World} {B : Nat} {v s rv : Value} {vs : List Value} {rs : List (List Nat)} {r : List Nat} (h : OwnV w B v vs rs) (hr : Own w B rv r) (hd : ∀ u ∈ vs, Dis u rv)
    (htop : w'.ownsRow B 25 1 s (rs.length + 1) (vs ++ [rv])) (hg : w.grownBy w' v.ownBlock) : OwnV w' B s (vs ++ [rv]) (rs ++ [r]) := by
  have hl := h.len
  have e1 : vs.take rs.length ++ rv :: vs.drop rs.length = vs ++ [rv] := by rw [List.take_of_length_le (by omega), List.drop_of_length_le (by omega)]
  have e2 : insAt r rs.length rs = rs ++ [r] := by unfold insAt; simp
  have := h.insert (p := rs.length) hr hd (Nat.le_refl _) (by rw [e1]; exact htop) hg
  rwa [e1, e2] at this
/-- append(out, row), out and the row the call's own. -/
theorem wpList_push {w : World} {ops : Array Oper} {rest : List Oper} {o : Oper} {act : Act} {Q : Exit → Act → World → Prop} (hgd : o.guard = none) (s x : Operand)
    (ho : o.op = .call { callee := .builtin .append, args := #[s, x], argTypes := #[105, 105] }) (B : Nat) (v : Value) (vs : List Value) (rs : List (List Nat)) (bv : Value) (r : List Nat)
    (hs : act.eval s = v) (hx : act.eval x = .slice (some ⟨w.heap.size, 0, none⟩) 1 1) (h : OwnV w B v vs rs) (hB : B ≤ w.heap.size) (hr : Own w B bv r) (hd : ∀ u ∈ vs, Dis u bv) (hn : rs.length ≤ 1048576)
    (hK : ∀ s' w', OwnV w' B s' (vs ++ [bv]) (rs ++ [r]) → w.grownBy w' v.ownBlock → wpList Tryz.prog ops Q rest (act.put o.dst s') w') : wpList Tryz.prog ops Q (o :: rest) act (w.alloc (.cells #[bv] 25)) := by
  obtain ⟨i0, hi, hz0, hz1, hz2⟩ := info_parts info_u64s
  have hb : Below w.heap.size w (w.alloc (.cells #[bv] 25)) := (Below.refl _ _).alloc (Nat.le_refl _) _
  have h1 := h.below hb
  have hone : bv.oneCell' = true := by
    obtain ⟨a, c, e, _⟩ := hr.row
    rw [e]; rfl
  refine wpList_append_own _ hgd s x 105 ho B 25 i0 (.slice none 0 0) 1 24 Tryz.underlying105 hi hz0 hz1 hz2 rfl (by decide) v rs.length vs hs h1.top ⟨w.heap.size, 0, none⟩ 1 1 [bv] hx rfl (fun j u hj => ?_)
    (fun u hu => by rw [List.mem_singleton.1 hu]; exact hone) (by unfold maxLen; omega) (by omega) (Nat.le_trans hB hb.size) ?_
  · match j with
    | 0 =>
      have hc : (w.alloc (.cells #[bv] 25)).cell? ⟨w.heap.size, 0, none⟩ = some bv := by rw [World.cell?_alloc_at _ _ _ _ rfl]; rfl
      simpa [Addr.add, hc] using hj
    | j + 1 => simp at hj
  · intro v' w' hown hgrow _
    exact hK v' w' (h1.push (hr.below hb) hd hown hgrow) (gb_trans (gb_of_below hb _) hgrow (.inl rfl))
/-- What lies in memory of before and what lies in memory of behind. -/
theorem dis_range {w w' : World} {B : Nat} {u v : Value} {xs ys : List Nat} (h : Own w B u xs) (k : Own w' w.heap.size v ys) : Dis u v := by
  by_cases hu : u.ownBlock = none
  · exact .inl hu
  · right
    intro e
    obtain ⟨b, hb⟩ := Option.ne_none_iff_exists'.1 hu
    have h1 := (h.lt hb).2
    have h2 := (k.lt (by rw [← e]; exact hb)).1
    omega
theorem OwnV.dis_new {w w' : World} {B : Nat} {v bv : Value} {vs : List Value} {rs : List (List Nat)} {ys : List Nat} (h : OwnV w B v vs rs) (k : Own w' w.heap.size bv ys) : ∀ u ∈ vs, Dis u bv := by
  intro u hu
  obtain ⟨i, hi, rfl⟩ := List.getElem_of_mem hu
  exact dis_range (h.rows i _ (List.getElem?_eq_getElem hi)) k
theorem take_snoc (rs : List (List Nat)) (k : Nat) (hk : k < rs.length) : rs.take k ++ [rs.getD k []] = rs.take (k + 1) := by
  rw [List.take_succ_eq_append_getElem hk]
  simp [List.getD_eq_getElem?_getD, List.getElem?_eq_getElem hk]
theorem OwnV.shape {w : World} {B : Nat} {v : Value} {vs : List Value} {rs : List (List Nat)} (h : OwnV w B v vs rs) : ∃ a c, v = .slice a rs.length c := by
  obtain ⟨a, c, e, _⟩ := h.vecs
  exact ⟨a, c, e⟩

set_option maxHeartbeats 2000000 in
theorem radd_no (a : Option Addr) (n c : Nat) (rs : List (List Nat)) (a' : Option Addr) (m c' : Nat) (xs : List Nat) (w : World) (h : VecsAt w a n rs) (hf : Fit 1048576 rs) (h' : RowAt w a' m xs) (hn : n ≤ 100000) (hm : m ≤ 1048576) (hneg : firstI (reduceL rs xs) < 0) :
    Calls Tryz.prog 84 #[.slice a n c, .slice a' m c'] w fun e w' => ∃ v vs, e = .returned (.tuple #[v, .bool false]) ∧ OwnV w' w.heap.size v vs rs ∧ Below w.heap.size w w' := by
  have HR := hide (rreduce_any a n c rs a' m c' xs w h hf h' (by omega) hm)
  obtain ⟨hrs, hrl⟩ := reduce_small hf h'.2.1 (by rw [h'.1]; exact hm)
  have hfl := firstI_le hrs
  generalize reduceL rs xs = r at *
  have HF := hide (fun (w1 : World) (ar : Option Addr) (cr : Nat) (hr : RowAt w1 ar r.length r) => rfirst_any ar r.length cr r w1 hr hrl)
  have hdn : decide (0 ≤ firstI r) = false := by simp; omega
  clear h'
  generalize firstI r = f at *
  go_enter Tryz.func84, Tryz.ntmps84
  go_wp2_with fail
  refine (unhide HR).mono ?_
  rintro e w1 ⟨v, rfl, ho, hb⟩
  obtain ⟨ar, cr, rfl, hr⟩ := ho.row
  have HF1 := hide (unhide HF w1 ar cr hr)
  have HB := hide hb
  clear HF hr ho HR hb
  go_wp2_with fail
  refine (unhide HF1).mono ?_
  rintro e w2 ⟨rfl, hw⟩
  obtain rfl := hw.symm
  clear HF1
  go_wp2
  go_loopw [8, 9, 10] (fun o pl i wr => ∃ k : Nat, k ≤ n ∧ i = .int .i64 k ∧ pl = .bool true ∧ ∃ a1 c1 vs, o = .slice a1 k c1 ∧ Hid (OwnV wr w.heap.size (.slice a1 k c1) vs (rs.take k)) ∧ Hid (Below w.heap.size w wr)) (fun _ _ i _ => n - (intOf i).toNat)
  case atStart => exact ⟨0, Nat.zero_le _, rfl, by simp, none, 0, [], rfl, hide (OwnV.nil _ _), HB⟩
  case round =>
    obtain ⟨k, hk, rfl, rfl, a1, c1, vs, rfl, HV, HB2⟩ := hrel
    by_cases hlt : k < n
    · have hB := unhide HB2
      obtain ⟨b, off, rfl, hc⟩ := (h.below hB).at hlt
      obtain ⟨ai, ci, hcell, hrow⟩ := hc k hlt
      have hlk := (hf.getD k).2
      have HE := hide (take_snoc rs k (by rw [h.1]; exact hlt))
      have HL := hide (show (rs.take k).length = k by rw [List.length_take, h.1]; omega)
      have HL1 := hide (show (rs.take (k + 1)).length = k + 1 by rw [List.length_take, h.1]; omega)
      have HROW := hide hrow
      clear hc hrow h HB
      generalize rs.getD k [] = y at *
      go_wp2_with (first
        | (at_builtin; refine wpList_append_nil rfl _ _ rfl ai y.length ci y rfl rfl (unhide HROW) hlk ?_; intro bv w3 hob hb3; have hV3 := (unhide HV).below hb3; have hbv := hob.mono hB.size; have hd3 := (unhide HV).dis_new hob; have hB3 := below0 hB hb3; obtain ⟨ab, cb, rfl, hrb⟩ := hob.row; clear hob hb3)
        | (at_builtin; refine wpList_push rfl _ _ rfl w.heap.size (.slice a1 k c1) vs (rs.take k) (.slice ab y.length cb) y rfl rfl hV3 hB3.size hbv hd3 (by rw [unhide HL]; omega) ?_; intro s4 w4 hV4 hg4; have hB4 := hB3.trans (gb_below hg4 hB3.size (fun k hk => (hV3.top.lt k hk).1)); rw [unhide HE] at hV4; obtain ⟨a4, c4, rfl⟩ := hV4.shape; rw [unhide HL1] at hV4; rw [unhide HL1]; have HV4 := hide hV4; have HB4 := hide hB4; clear hV4 hg4 hB4 hV3 hbv hd3 hB3))
      go_roundw
      case rel => exact ⟨k + 1, by omega, by go_num, rfl, a4, c4, _, rfl, HV4, HB4⟩
      case measure => simp [intOf]; omega
    · have hke : rs.take k = rs := List.take_of_length_le (by rw [h.1]; omega)
      rw [hke] at HV
      clear h hke HB
      go_wp2
      go_ret2
      exact ⟨_, _, rfl, unhide HV, unhide HB2⟩
end Go.Proofs.YtbcgiodgobmkaaaGreatDoor
