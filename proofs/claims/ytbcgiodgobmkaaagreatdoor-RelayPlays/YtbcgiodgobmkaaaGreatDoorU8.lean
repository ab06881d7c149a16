/-
  Memory of which only some blocks have turned ('Tu'). No condition.
  A block of many cells ('BkA'). No condition.
  Slices of packets of one's own ('OwnP'), and 'append' of one packet.
  Contracts of words.Unit, bucketlineref01.Unit: for all ints.
  Which packets may be (CheckP); bools and errors' numbers that tell a proposition. No condition.
  How many of the first k bits of a row are set; the xor of two rows bit by bit. Plain lists of words; no condition.
  Packets as data ('PD'): which may be ('okD'), which are of one object ('alkD'). No condition.
-/
import Derived.Test.YtbcgiodgobmkaaaGreatDoorU3
import Derived.Test.YtbcgiodgobmkaaaGreatDoorU0
import Derived.Test.YtbcgiodgobmkaaaGreatDoorU6
import Derived.Deep.AppendLies
import Derived.OwnWalk
import Derived.Test.YtbcgiodgobmkaaaGreatDoorU4
import Derived.Test.YtbcgiodgobmkaaaGreatDoorU5
namespace Go.Proofs.YtbcgiodgobmkaaaGreatDoor
open Go.RowKit
set_option linter.unusedVariables false
set_option linter.unusedSimpArgs false
set_option maxRecDepth 4000

/-- Nothing that was there has turned but blocks of F. -/
structure Tu (F : Nat → Prop) (w w' : World) : Prop where
  os : w'.os = w.os
  tape : w'.tape = w.tape
  output : w'.output = w.output
  size : w.heap.size ≤ w'.heap.size
  block : ∀ k, k < w.heap.size → ¬ F k → w'.heap[k]? = w.heap[k]?
theorem Tu.refl (F : Nat → Prop) (w : World) : Tu F w w := ⟨rfl, rfl, rfl, Nat.le_refl _, fun _ _ _ => rfl⟩
theorem Tu.trans {F G : Nat → Prop} {w w1 w2 : World} (h : Tu F w w1) (k : Tu G w1 w2) (hr : ∀ j, j < w.heap.size → G j → F j) : Tu F w w2 :=
  ⟨k.os.trans h.os, k.tape.trans h.tape, k.output.trans h.output, Nat.le_trans h.size k.size, fun j hj hn => (k.block j (Nat.lt_of_lt_of_le hj h.size) fun hg => hn (hr j hj hg)).trans (h.block j hj hn)⟩
theorem Tu.of_below {F : Nat → Prop} {w w' : World} (h : Below w.heap.size w w') : Tu F w w' := ⟨h.os, h.tape, h.output, h.size, fun j hj _ => h.block j hj⟩
theorem Tu.of_gb {F : Nat → Prop} {w w' : World} {r : Option Nat} (h : w.grownBy w' r) (hr : ∀ j, j < w.heap.size → r = some j → F j) : Tu F w w' :=
  ⟨h.os, h.tape, h.output, h.size, fun j hj hn => h.block j hj fun e => hn (hr j hj e.symm)⟩
theorem Tu.below {F : Nat → Prop} {w w' : World} (h : Tu F w w') {B : Nat} (hB : B ≤ w.heap.size) (hF : ∀ j, j < B → ¬ F j) : Below B w w' :=
  ⟨h.os, h.tape, h.output, h.size, fun j hj => h.block j (Nat.lt_of_lt_of_le hj hB) (hF j hj)⟩
theorem Tu.then {F : Nat → Prop} {w w1 w2 : World} (h : Tu F w w1) (k : Below w1.heap.size w1 w2) : Tu F w w2 := h.trans (Tu.of_below (F := F) k) fun _ _ h => h
theorem Tu.after {F : Nat → Prop} {w w1 w2 : World} (h : Below w.heap.size w w1) (k : Tu F w1 w2) : Tu F w w2 := (Tu.of_below (F := F) h).trans k fun _ _ h => h
theorem Own.blkU {w : World} {B g : Nat} {v : Value} {xs : List Nat} (h : Own w B v xs) (hk : v.ownBlock = some g) : ∃ cur, w.heap[g]? = some (.cells cur 59 (0, 0)) := by
  rcases h.2.2 with ⟨rfl, _⟩ | ⟨g', cap, cur, rfl, _, hg, _⟩
  · cases hk
  · simp only [Value.ownBlock, Option.some.injEq] at hk
    exact ⟨cur, hk ▸ hg⟩
theorem Own.tu {F : Nat → Prop} {w w' : World} {B : Nat} {v : Value} {xs : List Nat} (h : Own w B v xs) (ht : Tu F w w') (hF : ∀ j, v.ownBlock = some j → ¬ F j) : Own w' B v xs := by
  refine ⟨h.1, h.2.1, ?_⟩
  rcases h.2.2 with h0 | ⟨g, cap, cur, h1, hg, hgg, r⟩
  · exact .inl h0
  · exact .inr ⟨g, cap, cur, h1, hg, (ht.block g (Array.getElem?_eq_some_iff.1 hgg).1 (hF g (by rw [h1]; rfl))).trans hgg, r⟩
end Go.Proofs.YtbcgiodgobmkaaaGreatDoor
namespace Go.Proofs.YtbcgiodgobmkaaaGreatDoor
open Go.RowKit
set_option linter.unusedVariables false
set_option linter.unusedSimpArgs false
set_option maxRecDepth 4000

/-- A block of cells, none of them frozen. -/
def BkA (T : TypeId) (w : World) (g : Nat) (cs : List Value) : Prop := w.heap[g]? = some (.cells cs.toArray T (0, 0))
theorem bkA_new (T : TypeId) (w : World) (cs : List Value) : BkA T (w.alloc (.cells cs.toArray T)) w.heap.size cs := by
  show (w.heap.push _)[w.heap.size]? = _
  simp
theorem BkA.lt {T : TypeId} {w : World} {g : Nat} {cs : List Value} (h : BkA T w g cs) : g < w.heap.size := (Array.getElem?_eq_some_iff.1 h).1
theorem BkA.belowB {T : TypeId} {w w' : World} {g B : Nat} {cs : List Value} (h : BkA T w g cs) (hb : Below B w w') (hg : g < B) : BkA T w' g cs := (hb.block g hg).trans h
theorem BkA.below {T : TypeId} {w w' : World} {g : Nat} {cs : List Value} (h : BkA T w g cs) (hb : Below w.heap.size w w') : BkA T w' g cs := h.belowB hb h.lt
theorem BkA.at {T : TypeId} {w : World} {g : Nat} {cs : List Value} (h : BkA T w g cs) (i : Nat) {v : Value} (hv : cs[i]? = some v) : w.cell? ⟨g, i, none⟩ = some v := by
  unfold BkA at h
  rw [cell_of_row w g _ _ _ _ h]
  simpa using hv
theorem BkA.frz {T : TypeId} {w : World} {g : Nat} {cs : List Value} (h : BkA T w g cs) (i : Nat) : w.frozen? ⟨g, i, none⟩ = false := by
  unfold BkA at h
  simp [World.frozen?, h]
theorem BkA.set {T : TypeId} {w : World} {g : Nat} {cs : List Value} (h : BkA T w g cs) (i : Nat) (v : Value) : BkA T (w.setCell ⟨g, i, none⟩ v) g (cs.set i v) := by
  have := heap_setCell_same w g i _ _ v h
  rw [List.setIfInBounds_toArray] at this
  exact this
theorem BkA.kept {T : TypeId} {w w' : World} {g : Nat} {cs : List Value} {row : Option Nat} (h : BkA T w g cs) (hg : w.grownBy w' row) (hne : some g ≠ row) : BkA T w' g cs := (hg.block g h.lt hne).trans h
theorem BkA.tu {T : TypeId} {F : Nat → Prop} {w w' : World} {g : Nat} {cs : List Value} (h : BkA T w g cs) (ht : Tu F w w') (hF : ¬ F g) : BkA T w' g cs := (ht.block g h.lt hF).trans h
theorem BkA.ne {T T' : TypeId} {w : World} {g g' : Nat} {cs : List Value} {cur : Array Value} {fz : Nat × Nat} (h : BkA T w g cs) (h' : w.heap[g']? = some (.cells cur T' fz)) (hT : T ≠ T') : g ≠ g' := fun e => by
  subst e
  unfold BkA at h
  rw [h] at h'
  simp only [Option.some.injEq, Obj.cells.injEq] at h'
  exact hT h'.2.1
theorem tu_set (w : World) (g i : Nat) (u : Value) : Tu (fun j => j = g) w (w.setCell ⟨g, i, none⟩ u) := Tu.of_gb (gb_setCell _ _ _ _) fun j _ e => (Option.some.inj e).symm
end Go.Proofs.YtbcgiodgobmkaaaGreatDoor
namespace Go.Proofs.YtbcgiodgobmkaaaGreatDoor
open Go.RowKit Go.Sort
set_option linter.unusedVariables false
set_option linter.unusedSimpArgs false
set_option maxRecDepth 4000

theorem info_pktZ : (Tryz.prog.info? 42).map (fun i => (i.zero, i.size, i.bytes)) = some (some (.agg #[.int .i64 0, .int .i64 0, .int .i64 0, .int .i64 0, .int .i64 0, .slice none 0 0, .string ⟨#[]⟩]), 7, 80) := by kernel_rfl
/-- The cells of a packet, of packets. -/
def PKV.cells (p : PKV) : List Value := [.int .i64 p.o, .int .i64 p.l, .int .i64 p.k, .int .i64 p.z, .int .i64 p.h, .slice p.r.a p.r.n p.r.c, .string p.r.s]
def cellsK (ps : List PKV) : List Value := ps.flatMap PKV.cells
theorem cellsK_length : ∀ ps : List PKV, (cellsK ps).length = ps.length * 7
  | [] => rfl
  | p :: ps => by
    show (p.cells ++ cellsK ps).length = _
    rw [List.length_append, cellsK_length ps, List.length_cons, Nat.add_mul, Nat.one_mul, Nat.add_comm]
    rfl
theorem cellsK_append (a b : List PKV) : cellsK (a ++ b) = cellsK a ++ cellsK b := List.flatMap_append
theorem cellsK_get : ∀ (ps : List PKV) (i j : Nat), i < ps.length → j < 7 → (cellsK ps)[i * 7 + j]? = (ps.getD i .dflt).cells[j]?
  | [], i, j, h, _ => by simp at h
  | p :: ps, 0, j, _, hj => by
    show (p.cells ++ cellsK ps)[0 * 7 + j]? = _
    rw [Nat.zero_mul, Nat.zero_add, List.getElem?_append_left (by show j < 7; exact hj)]
    rfl
  | p :: ps, i + 1, j, h, hj => by
    have := cellsK_get ps i j (by simpa using h) hj
    show (p.cells ++ cellsK ps)[(i + 1) * 7 + j]? = _
    rw [List.getElem?_append_right (by show 7 ≤ _; omega), show (i + 1) * 7 + j - p.cells.length = i * 7 + j from by show (i + 1) * 7 + j - 7 = _; omega, this]
    rfl
theorem pcells_one (p : PKV) : ∀ u ∈ p.cells, u.oneCell' = true := fun u hu => by
  unfold PKV.cells at hu
  simp only [List.mem_cons, List.not_mem_nil, or_false] at hu
  rcases hu with h | h | h | h | h | h | h <;> (rw [h]; rfl)
theorem cellsK_one (ps : List PKV) : ∀ u ∈ cellsK ps, u.oneCell' = true := fun u hu => by
  obtain ⟨p, _, hp⟩ := List.mem_flatMap.1 hu
  exact pcells_one p u hp
/-- Each packet's row can be read, and has as much room as words. -/
def KsIn (w : World) (ps : List PKV) : Prop := ∀ p ∈ ps, RowAt w p.r.a p.r.n p.r.xs ∧ p.r.n ≤ p.r.c
theorem KsIn.below {w w' : World} {ps : List PKV} (h : KsIn w ps) (hb : Below w.heap.size w w') : KsIn w' ps := fun p hp => ⟨(h p hp).1.below hb, (h p hp).2⟩
theorem KsIn.nil (w : World) : KsIn w [] := fun p hp => by cases hp
theorem KsIn.append {w : World} {a b : List PKV} (h : KsIn w a) (k : KsIn w b) : KsIn w (a ++ b) := fun p hp => (List.mem_append.1 hp).elim (h p) (k p)
theorem KsIn.get {w : World} {ps : List PKV} (h : KsIn w ps) {i : Nat} (hi : i < ps.length) : RowAt w (ps.getD i .dflt).r.a (ps.getD i .dflt).r.n (ps.getD i .dflt).r.xs ∧ (ps.getD i .dflt).r.n ≤ (ps.getD i .dflt).r.c := by
  have := h ps[i] (List.getElem_mem hi)
  rwa [List.getD_eq_getElem?_getD, List.getElem?_eq_getElem hi]
theorem KsIn.sub {w : World} {a b : List PKV} (h : KsIn w b) (hs : ∀ p ∈ a, p ∈ b) : KsIn w a := fun p hp => h p (hs p hp)
/-- A slice of packets of the call's own. -/
def OwnP (w : World) (B : Nat) (v : Value) (ps : List PKV) : Prop := w.ownsRow B 42 7 v ps.length (cellsK ps)
theorem OwnP.nil (w : World) (B : Nat) : OwnP w B (.slice none 0 0) [] := World.ownsRow_nil _ _ _ _
theorem OwnP.cellAt {w : World} {B : Nat} {g n c : Nat} {ps : List PKV} (h : OwnP w B (.slice (some ⟨g, 0, none⟩) n c) ps) {j : Nat} {u : Value} (hu : (cellsK ps)[j]? = some u) : w.cell? ⟨g, j, none⟩ = some u := by
  have := World.ownsRow.cells h (g := g) rfl j u hu
  rwa [show (⟨g, 0, none⟩ : Addr).add j = ⟨g, j, none⟩ by unfold Addr.add; split <;> simp_all] at this
theorem OwnP.pks {w : World} {B : Nat} {v : Value} {ps : List PKV} (h : OwnP w B v ps) (hr : KsIn w ps) : ∃ a c, v = .slice a ps.length c ∧ PksAt w a ps.length ps ∧ ps.length ≤ c ∧ c ≤ 9223372036854775807 := by
  have h' := h
  rcases h.2 with ⟨rfl, h0⟩ | ⟨g, cap, cur, rfl, hb, hg, hn, hm, hsz, ht⟩
  · exact ⟨none, 0, by rw [h0], ⟨rfl, fun i hi => by omega, .inl h0⟩, by omega, by omega⟩
  · refine ⟨_, cap, rfl, ⟨rfl, fun i hi => (hr.get hi).1, .inr ⟨g, 0, rfl, fun i hi => ?_⟩⟩, hn, by simpa [maxLen] using hm⟩
    have hc : ∀ j, j < 7 → ∀ u, (ps.getD i .dflt).cells[j]? = some u → w.cell? ⟨g, i * 7 + j, none⟩ = some u := fun j hj u hu => h'.cellAt (by rw [cellsK_get ps i j hi hj]; exact hu)
    rw [Nat.zero_add]
    exact ⟨hc 0 (by decide) _ rfl, hc 1 (by decide) _ rfl, hc 2 (by decide) _ rfl, hc 3 (by decide) _ rfl, hc 4 (by decide) _ rfl, hc 5 (by decide) _ rfl, hc 6 (by decide) _ rfl⟩
theorem OwnP.shape {w : World} {B : Nat} {v : Value} {ps : List PKV} (h : OwnP w B v ps) : ∃ a c, v = .slice a ps.length c := by
  rcases h.2 with ⟨rfl, h0⟩ | ⟨g, cap, cur, rfl, _⟩
  · exact ⟨none, 0, by rw [h0]⟩
  · exact ⟨_, cap, rfl⟩
theorem OwnP.at' {w : World} {B : Nat} {a : Option Addr} {m c : Nat} {ps : List PKV} (h : OwnP w B (.slice a m c) ps) (hr : KsIn w ps) : PksAt w a m ps ∧ m = ps.length ∧ m ≤ c ∧ c ≤ 9223372036854775807 := by
  obtain ⟨a', c', e, h1, h2, h3⟩ := h.pks hr
  simp only [Value.slice.injEq] at e
  obtain ⟨rfl, rfl, rfl⟩ := e
  exact ⟨h1, rfl, h2, h3⟩
theorem OwnP.mono {w : World} {B B' : Nat} {v : Value} {ps : List PKV} (h : OwnP w B v ps) (hB : B' ≤ B) : OwnP w B' v ps := by
  refine ⟨h.1, ?_⟩
  rcases h.2 with h0 | ⟨g, cap, cur, h1, hb, r⟩
  · exact .inl h0
  · exact .inr ⟨g, cap, cur, h1, Nat.le_trans hB hb, r⟩
theorem OwnP.below {w w' : World} {B : Nat} {v : Value} {ps : List PKV} (h : OwnP w B v ps) (hb : Below w.heap.size w w') : OwnP w' B v ps := by
  refine ⟨h.1, ?_⟩
  rcases h.2 with h0 | ⟨g, cap, cur, h1, hg, hgg, r⟩
  · exact .inl h0
  · exact .inr ⟨g, cap, cur, h1, hg, (hb.block g (Array.getElem?_eq_some_iff.1 hgg).1).trans hgg, r⟩
theorem OwnP.tu {F : Nat → Prop} {w w' : World} {B : Nat} {v : Value} {ps : List PKV} (h : OwnP w B v ps) (ht : Tu F w w') (hF : ∀ j, v.ownBlock = some j → ¬ F j) : OwnP w' B v ps := by
  refine ⟨h.1, ?_⟩
  rcases h.2 with h0 | ⟨g, cap, cur, h1, hg, hgg, r⟩
  · exact .inl h0
  · exact .inr ⟨g, cap, cur, h1, hg, (ht.block g (Array.getElem?_eq_some_iff.1 hgg).1 (hF g (by rw [h1]; rfl))).trans hgg, r⟩
theorem OwnP.blk {w : World} {B g : Nat} {v : Value} {ps : List PKV} (h : OwnP w B v ps) (hk : v.ownBlock = some g) : ∃ cur, w.heap[g]? = some (.cells cur 42 (0, 0)) := by
  rcases h.2 with ⟨rfl, _⟩ | ⟨g', cap, cur, rfl, _, hg, _⟩
  · cases hk
  · simp only [Value.ownBlock, Option.some.injEq] at hk
    exact ⟨cur, hk ▸ hg⟩
theorem BkA.neP {T : TypeId} {w : World} {g B : Nat} {cs : List Value} {v : Value} {ps : List PKV} (h : BkA T w g cs) (ho : OwnP w B v ps) (hT : T ≠ 42) : v.ownBlock ≠ some g := fun e => by
  obtain ⟨cur, hc⟩ := ho.blk e
  exact h.ne hc hT rfl
/-- 'append(own, packet)': the new value, where it lies. -/
theorem wpList_pushP {w : World} {ops : Array Oper} {rest : List Oper} {o : Oper} {act : Act} {Q : Exit → Act → World → Prop} (hgd : o.guard = none) (s x : Operand)
    (ho : o.op = .call { callee := .builtin .append, args := #[s, x], argTypes := #[30, 30] }) (B : Nat) (v : Value) (ps : List PKV) (p : PKV)
    (hs : act.eval s = v) (hx : act.eval x = .slice (some ⟨w.heap.size, 0, none⟩) 1 1) (h : OwnP w B v ps) (hB : B ≤ w.heap.size) (hn : ps.length ≤ 1000000)
    (hK : ∀ g cap w', OwnP w' B (.slice (some ⟨g, 0, none⟩) (ps.length + 1) cap) (ps ++ [p]) → w.grownBy w' v.ownBlock → (v.ownBlock = some g ∨ w.heap.size ≤ g) → wpList Tryz.prog ops Q rest (act.put o.dst (.slice (some ⟨g, 0, none⟩) (ps.length + 1) cap)) w') :
    wpList Tryz.prog ops Q (o :: rest) act (w.alloc (.cells #[.int .i64 p.o, .int .i64 p.l, .int .i64 p.k, .int .i64 p.z, .int .i64 p.h, .slice p.r.a p.r.n p.r.c, .string p.r.s] 42)) := by
  obtain ⟨i0, hi, hz0, hz1, hz2⟩ := info_parts info_pktZ
  have hb : Below w.heap.size w (w.alloc (.cells #[.int .i64 p.o, .int .i64 p.l, .int .i64 p.k, .int .i64 p.z, .int .i64 p.h, .slice p.r.a p.r.n p.r.c, .string p.r.s] 42)) := (Below.refl _ _).alloc (Nat.le_refl _) _
  have h1 : (w.alloc (.cells #[.int .i64 p.o, .int .i64 p.l, .int .i64 p.k, .int .i64 p.z, .int .i64 p.h, .slice p.r.a p.r.n p.r.c, .string p.r.s] 42)).ownsRow B 42 7 v ps.length (cellsK ps) := h.below hb
  have hbk : (w.alloc (.cells #[.int .i64 p.o, .int .i64 p.l, .int .i64 p.k, .int .i64 p.z, .int .i64 p.h, .slice p.r.a p.r.n p.r.c, .string p.r.s] 42)).heap[w.heap.size]? = some (.cells #[.int .i64 p.o, .int .i64 p.l, .int .i64 p.k, .int .i64 p.z, .int .i64 p.h, .slice p.r.a p.r.n p.r.c, .string p.r.s] 42 (0, 0)) := bkA_new 42 w p.cells
  refine wpList_append_lies _ hgd s x 30 ho B 42 i0 _ 7 80 Tryz.underlying30 hi hz0 hz1 hz2 rfl (by decide) v ps.length (cellsK ps) hs h1 ⟨w.heap.size, 0, none⟩ 1 1 p.cells hx rfl
    (World.news_of_block hbk) (pcells_one p) (by decide) (by unfold maxLen; omega) (by omega) (Nat.le_trans hB hb.size) _ rfl (fun g cap w' h2 h3 h4 _ => hK g cap w' ?_ (gb_trans (gb_of_below hb _) h3 (.inl rfl)) (h4.imp id fun e => by rw [e]; exact hb.size))
  show w'.ownsRow B 42 7 _ (ps ++ [p]).length (cellsK (ps ++ [p]))
  rw [List.length_append, cellsK_append, show cellsK [p] = p.cells from List.append_nil _]
  exact h2
end Go.Proofs.YtbcgiodgobmkaaaGreatDoor
namespace Go.Proofs.YtbcgiodgobmkaaaGreatDoor
open Go.RowKit
set_option linter.unusedVariables false
set_option linter.unusedSimpArgs false
set_option maxRecDepth 4000

theorem sizeOfK_le (k : Int) : sizeOfK k ≤ 2 := by
  unfold sizeOfK
  split
  · omega
  · omega

end Go.Proofs.YtbcgiodgobmkaaaGreatDoor
namespace Go.Proofs.YtbcgiodgobmkaaaGreatDoor
set_option linter.unusedVariables false
set_option linter.unusedSimpArgs false
set_option maxRecDepth 4000

/-- A bool that tells P. -/
def TB (b : Bool) (P : Prop) : Prop := b = true ↔ P
theorem tb_ex (P : Prop) : ∃ b, TB b P := by
  by_cases h : P
  · exact ⟨true, by simp [TB, h]⟩
  · exact ⟨false, by simp [TB, h]⟩
theorem TB.no {b : Bool} {P : Prop} (h : TB b P) (hp : ¬ P) : b = false := by
  cases b
  · rfl
  · exact absurd (h.1 rfl) hp
theorem TB.yes {b : Bool} {P : Prop} (h : TB b P) (hp : P) : b = true := h.2 hp
/-- The error's number of what may be, or not. -/
def CkP (en : Nat) (P : Prop) : Prop := (P ∧ en = 0) ∨ (¬ P ∧ en = 1)
theorem CkP.yes {en : Nat} {P : Prop} (h : CkP en P) (hp : P) : en = 0 := by
  rcases h with ⟨_, h⟩ | ⟨h, _⟩
  · exact h
  · exact absurd hp h
theorem CkP.no {en : Nat} {P : Prop} (h : CkP en P) (hp : ¬ P) : en = 1 := by
  rcases h with ⟨h, _⟩ | ⟨_, h⟩
  · exact absurd h hp
  · exact h

def shapedP (k z : Int) : Prop := (1 ≤ k ∧ k ≤ 128) ∧ 1 ≤ z ∧ z ≤ 64
def boundP (o l k z h : Int) : Prop := shapedP k z ∧ (0 ≤ o ∧ o ≤ 4294967295) ∧ (0 ≤ l ∧ l ≤ k * z) ∧ 0 ≤ h ∧ h ≤ 15
def rowedP (k z : Int) (xs : List Nat) (n : Nat) : Prop := ValidP k xs ∧ 0 < cnt xs ∧ (n : Int) = z
/-- A packet that may be: n is how many bytes its text has. -/
def CheckP (o l k z h : Int) (xs : List Nat) (n : Nat) : Prop := boundP o l k z h ∧ rowedP k z xs n
theorem mul_le {k z : Int} (h : shapedP k z) : 0 ≤ k * z ∧ k * z ≤ 8192 := by
  obtain ⟨⟨h1, h2⟩, h3, h4⟩ := h
  have e1 : 0 ≤ k * z := Int.mul_nonneg (by omega) (by omega)
  have e2 : k * z ≤ 128 * z := Int.mul_le_mul_of_nonneg_right h2 (by omega)
  omega

end Go.Proofs.YtbcgiodgobmkaaaGreatDoor
namespace Go.Proofs.YtbcgiodgobmkaaaGreatDoor

/-- How many of the first k bits are set. -/
def upTo (vs : List Nat) : Nat → Nat
  | 0 => 0
  | k + 1 => upTo vs k + if getB vs k then 1 else 0
theorem upTo_le (vs : List Nat) : ∀ k, upTo vs k ≤ k
  | 0 => Nat.le_refl _
  | k + 1 => by
    have := upTo_le vs k
    unfold upTo
    split <;> omega
theorem upTo_mono (vs : List Nat) (n : Nat) : ∀ d, upTo vs n ≤ upTo vs (n + d)
  | 0 => Nat.le_refl _
  | d + 1 => by
    have := upTo_mono vs n d
    show _ ≤ upTo vs (n + d) + _
    omega
theorem upTo_same (vs : List Nat) (n : Nat) (h : ∀ i, n ≤ i → getB vs i = false) : ∀ d, upTo vs (n + d) = upTo vs n
  | 0 => rfl
  | d + 1 => by
    show upTo vs (n + d) + (if getB vs (n + d) then 1 else 0) = _
    rw [upTo_same vs n h d, h (n + d) (by omega)]
    simp
theorem upTo_more (vs : List Nat) (n d i : Nat) (h1 : n ≤ i) (h2 : i < n + d) (hg : getB vs i = true) : upTo vs n < upTo vs (n + d) := by
  have a := upTo_mono vs n (i - n)
  have b := upTo_mono vs (i + 1) (n + d - (i + 1))
  rw [show n + (i - n) = i from by omega] at a
  rw [show i + 1 + (n + d - (i + 1)) = n + d from by omega] at b
  have c : upTo vs (i + 1) = upTo vs i + 1 := by simp [upTo, hg]
  omega
/-- The bits of one word. -/
def tbs (x : Nat) : Nat → Nat
  | 0 => 0
  | f + 1 => tbs x f + if x.testBit f then 1 else 0
theorem tbs_low (x : Nat) : ∀ f, tbs x (f + 1) = x % 2 + tbs (x / 2) f
  | 0 => by
    have : x.testBit 0 = decide (x % 2 = 1) := Nat.testBit_zero x
    simp only [tbs, this]
    by_cases h : x % 2 = 1
    · simp [h]
    · simp [h]; omega
  | f + 1 => by
    have e : x.testBit (f + 1) = (x / 2).testBit f := by rw [Nat.testBit_succ]
    show tbs x (f + 1) + (if x.testBit (f + 1) then 1 else 0) = x % 2 + (tbs (x / 2) f + if (x / 2).testBit f then 1 else 0)
    rw [tbs_low x f, e]
    omega
theorem popF_tbs : ∀ f x, popF f x = tbs x f
  | 0, x => rfl
  | f + 1, x => by
    rw [tbs_low, ← popF_tbs f (x / 2)]
    rfl
theorem getB_cons_lt (x : Nat) (xs : List Nat) (i : Nat) (h : i < 64) : getB (x :: xs) i = x.testBit i := by
  unfold getB
  rw [show i / 64 = 0 from by omega, show i % 64 = i from by omega]
  rfl
theorem getB_cons_ge (x : Nat) (xs : List Nat) (i : Nat) : getB (x :: xs) (64 + i) = getB xs i := by
  unfold getB
  rw [show (64 + i) / 64 = i / 64 + 1 from by omega, show (64 + i) % 64 = i % 64 from by omega]
  rfl
theorem upTo_head (x : Nat) (xs : List Nat) : ∀ f, f ≤ 64 → upTo (x :: xs) f = tbs x f
  | 0, _ => rfl
  | f + 1, h => by
    show upTo (x :: xs) f + _ = tbs x f + _
    rw [upTo_head x xs f (by omega), getB_cons_lt x xs f (by omega)]
theorem upTo_tail (x : Nat) (xs : List Nat) : ∀ k, upTo (x :: xs) (64 + k) = pop x + upTo xs k
  | 0 => by rw [Nat.add_zero, upTo_head x xs 64 (Nat.le_refl _)]; unfold pop; rw [popF_tbs]; rfl
  | k + 1 => by
    show upTo (x :: xs) (64 + k) + (if getB (x :: xs) (64 + k) then 1 else 0) = pop x + (upTo xs k + if getB xs k then 1 else 0)
    rw [upTo_tail x xs k, getB_cons_ge]
    omega
theorem cnt_upTo : ∀ xs, cnt xs = upTo xs (64 * xs.length)
  | [] => rfl
  | x :: xs => by
    rw [cnt_cons, List.length_cons, show 64 * (xs.length + 1) = 64 + 64 * xs.length from by omega, upTo_tail, cnt_upTo xs]
/-- All bits are among the first n just if no bit is set from n on. -/
theorem upTo_cnt (vs : List Nat) (n : Nat) : upTo vs n = cnt vs ↔ ∀ i, n ≤ i → getB vs i = false := by
  rw [cnt_upTo]
  constructor
  · intro h i hi
    by_cases hl : i < 64 * vs.length
    · cases hg : getB vs i with
      | false => rfl
      | true =>
        have := upTo_more vs n (64 * vs.length - n) i hi (by omega) hg
        rw [show n + (64 * vs.length - n) = 64 * vs.length from by omega] at this
        omega
    · exact getB_out vs i (by omega)
  · intro h
    by_cases hl : n ≤ 64 * vs.length
    · have := upTo_same vs n h (64 * vs.length - n)
      rw [show n + (64 * vs.length - n) = 64 * vs.length from by omega] at this
      omega
    · have := upTo_same vs (64 * vs.length) (fun i hi => getB_out vs i hi) (n - 64 * vs.length)
      rw [show 64 * vs.length + (n - 64 * vs.length) = n from by omega] at this
      omega
theorem getB_xorL (a b : List Nat) (i : Nat) : getB (xorL a b) i = (getB a i ^^ getB b i) := by
  unfold getB
  rw [xorL_getD, Nat.testBit_xor]
end Go.Proofs.YtbcgiodgobmkaaaGreatDoor
namespace Go.Proofs.YtbcgiodgobmkaaaGreatDoor
open Go.RowKit Go.Sort
set_option linter.unusedVariables false
set_option linter.unusedSimpArgs false
set_option maxRecDepth 4000

/-- A packet as data. -/
structure PD where
  o : Int
  l : Int
  k : Int
  z : Int
  h : Int
  xs : List Nat
  s : ByteArray
/-- What stands behind the end of a list of packets. -/
def PD.dflt : PD := ⟨0, 0, 0, 0, 0, [], ⟨#[]⟩⟩
def PKV.pd (p : PKV) : PD := ⟨p.o, p.l, p.k, p.z, p.h, p.r.xs, p.r.s⟩
/-- May it be? -/
def okD (p : PD) : Bool := decide (((1 ≤ p.k ∧ p.k ≤ 128) ∧ 1 ≤ p.z ∧ p.z ≤ 64) ∧ (0 ≤ p.o ∧ p.o ≤ 4294967295) ∧ (0 ≤ p.l ∧ p.l ≤ p.k * p.z) ∧ 0 ≤ p.h ∧ p.h ≤ 15) && (validB p.k p.xs && decide (0 < cnt p.xs) && decide ((p.s.size : Int) = p.z))
theorem okD_iff {p : PD} : okD p = true ↔ CheckP p.o p.l p.k p.z p.h p.xs p.s.size := by
  unfold okD CheckP
  rw [Bool.and_eq_true, Bool.and_eq_true, Bool.and_eq_true, validB_iff, decide_eq_true_eq, decide_eq_true_eq, decide_eq_true_eq]
  unfold boundP shapedP rowedP
  rw [and_assoc (a := ValidP p.k p.xs)]
theorem okD_ck (p : PD) : CkP (if okD p = true then 0 else 1) (CheckP p.o p.l p.k p.z p.h p.xs p.s.size) := by
  by_cases h : okD p = true
  · rw [if_pos h]; exact .inl ⟨okD_iff.1 h, rfl⟩
  · rw [if_neg h]; exact .inr ⟨fun hc => h (okD_iff.2 hc), rfl⟩
theorem okD_valid {p : PD} (h : okD p = true) : ValidP p.k p.xs ∧ 0 < cnt p.xs ∧ (p.s.size : Int) = p.z ∧ 1 ≤ p.k ∧ p.k ≤ 128 ∧ p.z ≤ 64 := by
  obtain ⟨⟨⟨h1, h2⟩, _⟩, h3, h4, h5⟩ := okD_iff.1 h
  exact ⟨h3, h4, h5, h1.1, h1.2, h2.2⟩
theorem okD_len {p : PD} (h : okD p = true) : p.xs.length ≤ 2 := by
  obtain ⟨⟨h1, h2, _⟩, _⟩ := okD_valid h
  have := sizeOfK_le p.k
  omega
theorem okD_cnt {p : PD} (h : okD p = true) : (cnt p.xs : Int) ≤ p.k := by
  obtain ⟨⟨_, _, h3⟩, _, _, hk, _⟩ := okD_valid h
  have h1 := (upTo_cnt p.xs p.k.toNat).2 h3
  have h2 := upTo_le p.xs p.k.toNat
  omega
def vecsD (L : List PD) : List (List Nat) := L.map fun p => p.xs
/-- Are they of the same object? -/
def alkD (q p : PD) : Bool := decide (q.o = p.o ∧ q.l = p.l ∧ q.k = p.k ∧ q.z = p.z)
theorem alk_symm {p q : PD} (h : alkD p q = true) : alkD q p = true := by
  unfold alkD at *
  rw [decide_eq_true_eq] at *
  exact ⟨h.1.symm, h.2.1.symm, h.2.2.1.symm, h.2.2.2.symm⟩
theorem alk_trans {p q r : PD} (h : alkD p q = true) (k : alkD q r = true) : alkD p r = true := by
  unfold alkD at *
  rw [decide_eq_true_eq] at *
  exact ⟨h.1.trans k.1, h.2.1.trans k.2.1, h.2.2.1.trans k.2.2.1, h.2.2.2.trans k.2.2.2⟩
theorem alk_refl (p : PD) : alkD p p = true := by unfold alkD; rw [decide_eq_true_eq]; exact ⟨rfl, rfl, rfl, rfl⟩
theorem ckD_no {p : PKV} (h : okD p.pd = false) : CkP 1 (CheckP p.o p.l p.k p.z p.h p.r.xs p.r.s.size) := by
  have := okD_ck p.pd
  rw [h] at this
  exact this
theorem ckD_yes {p : PKV} (h : okD p.pd = true) : CkP 0 (CheckP p.o p.l p.k p.z p.h p.r.xs p.r.s.size) := by
  have := okD_ck p.pd
  rw [h] at this
  exact this
theorem pdGet {ps : List PKV} {i : Nat} (hi : i < ps.length) : (ps.map PKV.pd).getD i .dflt = (ps.getD i .dflt).pd := by
  rw [List.getD_eq_getElem?_getD, List.getElem?_map, List.getElem?_eq_getElem hi, List.getD_eq_getElem?_getD, List.getElem?_eq_getElem hi]
  rfl
end Go.Proofs.YtbcgiodgobmkaaaGreatDoor
