/-
  Slices of packets of one's own ('OwnP'), and 'append' of one packet.
-/
import Derived.Test.YtbcgiodgobmkaaaGreatDoorU10
import Derived.Test.YtbcgiodgobmkaaaGreatDoorU11
import Derived.Deep.AppendLies
import Derived.OwnWalk
namespace Go.Proofs.YtbcgiodgobmkaaaGreatDoor
open Go.RowKit Go.Sort
set_option linter.unusedVariables false
set_option linter.unusedSimpArgs false
set_option maxRecDepth 4000

theorem info_pktZ : (Tryz.prog.info? 42).map (fun i => (i.zero, i.size, i.bytes)) = some (some (.agg #[.int .i64 0, .int .i64 0, .int .i64 0, .int .i64 0, .int .i64 0, .slice none 0 0, .string ⟨#[]⟩]), 7, 80) := by kernel_rfl
/-- The cells of a packet, of packets. -/
def PKV.cells (p : PKV) : List Value := [.int .i64 p.o, .int .i64 p.l, .int .i64 p.k, .int .i64 p.z, .int .i64 p.h, .slice p.r.a p.r.n p.r.c, .string p.r.s]
def cellsK (ps : List PKV) : List Value := ps.flatMap PKV.cells
theorem cellsK_length : ∀ ps : List PKV, (cellsK ps).length = ps.length * 7
  | [] => rfl
  | p :: ps => by
    show (p.cells ++ cellsK ps).length = _
    rw [List.length_append, cellsK_length ps, List.length_cons, Nat.add_mul, Nat.one_mul, Nat.add_comm]
    rfl
theorem cellsK_append (a b : List PKV) : cellsK (a ++ b) = cellsK a ++ cellsK b := List.flatMap_append
theorem cellsK_get : ∀ (ps : List PKV) (i j : Nat), i < ps.length → j < 7 → (cellsK ps)[i * 7 + j]? = (ps.getD i .dflt).cells[j]?
  | [], i, j, h, _ => by simp at h
  | p :: ps, 0, j, _, hj => by
    show (p.cells ++ cellsK ps)[0 * 7 + j]? = _
    rw [Nat.zero_mul, Nat.zero_add, List.getElem?_append_left (by show j < 7; exact hj)]
    rfl
  | p :: ps, i + 1, j, h, hj => by
    have := cellsK_get ps i j (by simpa using h) hj
    show (p.cells ++ cellsK ps)[(i + 1) * 7 + j]? = _
    rw [List.getElem?_append_right (by show 7 ≤ _; omega), show (i + 1) * 7 + j - p.cells.length = i * 7 + j from by show (i + 1) * 7 + j - 7 = _; omega, this]
    rfl
theorem pcells_one (p : PKV) : ∀ u ∈ p.cells, u.oneCell' = true := fun u hu => by
  unfold PKV.cells at hu
  simp only [List.mem_cons, List.not_mem_nil, or_false] at hu
  rcases hu with h | h | h | h | h | h | h <;> (rw [h]; rfl)
theorem cellsK_one (ps : List PKV) : ∀ u ∈ cellsK ps, u.oneCell' = true := fun u hu => by
  obtain ⟨p, _, hp⟩ := List.mem_flatMap.1 hu
  exact pcells_one p u hp
/-- Each packet's row can be read, and has as much room as words. -/
def KsIn (w : World) (ps : List PKV) : Prop := ∀ p ∈ ps, RowAt w p.r.a p.r.n p.r.xs ∧ p.r.n ≤ p.r.c
theorem KsIn.below {w w' : World} {ps : List PKV} (h : KsIn w ps) (hb : Below w.heap.size w w') : KsIn w' ps := fun p hp => ⟨(h p hp).1.below hb, (h p hp).2⟩
theorem KsIn.nil (w : World) : KsIn w [] := fun p hp => by cases hp
theorem KsIn.append {w : World} {a b : List PKV} (h : KsIn w a) (k : KsIn w b) : KsIn w (a ++ b) := fun p hp => (List.mem_append.1 hp).elim (h p) (k p)
theorem KsIn.get {w : World} {ps : List PKV} (h : KsIn w ps) {i : Nat} (hi : i < ps.length) : RowAt w (ps.getD i .dflt).r.a (ps.getD i .dflt).r.n (ps.getD i .dflt).r.xs ∧ (ps.getD i .dflt).r.n ≤ (ps.getD i .dflt).r.c := by
  have := h ps[i] (List.getElem_mem hi)
  rwa [List.getD_eq_getElem?_getD, List.getElem?_eq_getElem hi]
theorem KsIn.sub {w : World} {a b : List PKV} (h : KsIn w b) (hs : ∀ p ∈ a, p ∈ b) : KsIn w a := fun p hp => h p (hs p hp)
/-- A slice of packets of the call's own. -/
def OwnP (w : World) (B : Nat) (v : Value) (ps : List PKV) : Prop := w.ownsRow B 42 7 v ps.length (cellsK ps)
theorem OwnP.nil (w : World) (B : Nat) : OwnP w B (.slice none 0 0) [] := World.ownsRow_nil _ _ _ _
theorem OwnP.cellAt {w : World} {B : Nat} {g n c : Nat} {ps : List PKV} (h : OwnP w B (.slice (some ⟨g, 0, none⟩) n c) ps) {j : Nat} {u : Value} (hu : (cellsK ps)[j]? = some u) : w.cell? ⟨g, j, none⟩ = some u := by
  have := World.ownsRow.cells h (g := g) rfl j u hu
  rwa [show (⟨g, 0, none⟩ : Addr).add j = ⟨g, j, none⟩ by unfold Addr.add; split <;> simp_all] at this
theorem OwnP.pks {w : World} {B : Nat} {v : Value} {ps : List PKV} (h : OwnP w B v ps) (hr : KsIn w ps) : ∃ a c, v = .slice a ps.length c ∧ PksAt w a ps.length ps ∧ ps.length ≤ c ∧ c ≤ 9223372036854775807 := by
  have h' := h
  rcases h.2 with ⟨rfl, h0⟩ | ⟨g, cap, cur, rfl, hb, hg, hn, hm, hsz, ht⟩
  · exact ⟨none, 0, by rw [h0], ⟨rfl, fun i hi => by omega, .inl h0⟩, by omega, by omega⟩
  · refine ⟨_, cap, rfl, ⟨rfl, fun i hi => (hr.get hi).1, .inr ⟨g, 0, rfl, fun i hi => ?_⟩⟩, hn, by simpa [maxLen] using hm⟩
    have hc : ∀ j, j < 7 → ∀ u, (ps.getD i .dflt).cells[j]? = some u → w.cell? ⟨g, i * 7 + j, none⟩ = some u := fun j hj u hu => h'.cellAt (by rw [cellsK_get ps i j hi hj]; exact hu)
    rw [Nat.zero_add]
    exact ⟨hc 0 (by decide) _ rfl, hc 1 (by decide) _ rfl, hc 2 (by decide) _ rfl, hc 3 (by decide) _ rfl, hc 4 (by decide) _ rfl, hc 5 (by decide) _ rfl, hc 6 (by decide) _ rfl⟩
theorem OwnP.shape {w : World} {B : Nat} {v : Value} {ps : List PKV} (h : OwnP w B v ps) : ∃ a c, v = .slice a ps.length c := by
  rcases h.2 with ⟨rfl, h0⟩ | ⟨g, cap, cur, rfl, _⟩
  · exact ⟨none, 0, by rw [h0]⟩
  · exact ⟨_, cap, rfl⟩
theorem OwnP.at' {w : World} {B : Nat} {a : Option Addr} {m c : Nat} {ps : List PKV} (h : OwnP w B (.slice a m c) ps) (hr : KsIn w ps) : PksAt w a m ps ∧ m = ps.length ∧ m ≤ c ∧ c ≤ 9223372036854775807 := by
  obtain ⟨a', c', e, h1, h2, h3⟩ := h.pks hr
  simp only [Value.slice.injEq] at e
  obtain ⟨rfl, rfl, rfl⟩ := e
  exact ⟨h1, rfl, h2, h3⟩
theorem OwnP.mono {w : World} {B B' : Nat} {v : Value} {ps : List PKV} (h : OwnP w B v ps) (hB : B' ≤ B) : OwnP w B' v ps := by
  refine ⟨h.1, ?_⟩
  rcases h.2 with h0 | ⟨g, cap, cur, h1, hb, r⟩
  · exact .inl h0
  · exact .inr ⟨g, cap, cur, h1, Nat.le_trans hB hb, r⟩
theorem OwnP.below {w w' : World} {B : Nat} {v : Value} {ps : List PKV} (h : OwnP w B v ps) (hb : Below w.heap.size w w') : OwnP w' B v ps := by
  refine ⟨h.1, ?_⟩
  rcases h.2 with h0 | ⟨g, cap, cur, h1, hg, hgg, r⟩
  · exact .inl h0
  · exact .inr ⟨g, cap, cur, h1, hg, (hb.block g (Array.getElem?_eq_some_iff.1 hgg).1).trans hgg, r⟩
theorem OwnP.tu {F : Nat → Prop} {w w' : World} {B : Nat} {v : Value} {ps : List PKV} (h : OwnP w B v ps) (ht : Tu F w w') (hF : ∀ j, v.ownBlock = some j → ¬ F j) : OwnP w' B v ps := by
  refine ⟨h.1, ?_⟩
  rcases h.2 with h0 | ⟨g, cap, cur, h1, hg, hgg, r⟩
  · exact .inl h0
  · exact .inr ⟨g, cap, cur, h1, hg, (ht.block g (Array.getElem?_eq_some_iff.1 hgg).1 (hF g (by rw [h1]; rfl))).trans hgg, r⟩
theorem OwnP.blk {w : World} {B g : Nat} {v : Value} {ps : List PKV} (h : OwnP w B v ps) (hk : v.ownBlock = some g) : ∃ cur, w.heap[g]? = some (.cells cur 42 (0, 0)) := by
  rcases h.2 with ⟨rfl, _⟩ | ⟨g', cap, cur, rfl, _, hg, _⟩
  · cases hk
  · simp only [Value.ownBlock, Option.some.injEq] at hk
    exact ⟨cur, hk ▸ hg⟩
theorem BkA.neP {T : TypeId} {w : World} {g B : Nat} {cs : List Value} {v : Value} {ps : List PKV} (h : BkA T w g cs) (ho : OwnP w B v ps) (hT : T ≠ 42) : v.ownBlock ≠ some g := fun e => by
  obtain ⟨cur, hc⟩ := ho.blk e
  exact h.ne hc hT rfl
/-- 'append(own, packet)': the new value, where it lies. -/
theorem wpList_pushP {w : World} {ops : Array Oper} {rest : List Oper} {o : Oper} {act : Act} {Q : Exit → Act → World → Prop} (hgd : o.guard = none) (s x : Operand)
    (ho : o.op = .call { callee := .builtin .append, args := #[s, x], argTypes := #[30, 30] }) (B : Nat) (v : Value) (ps : List PKV) (p : PKV)
    (hs : act.eval s = v) (hx : act.eval x = .slice (some ⟨w.heap.size, 0, none⟩) 1 1) (h : OwnP w B v ps) (hB : B ≤ w.heap.size) (hn : ps.length ≤ 1000000)
    (hK : ∀ g cap w', OwnP w' B (.slice (some ⟨g, 0, none⟩) (ps.length + 1) cap) (ps ++ [p]) → w.grownBy w' v.ownBlock → (v.ownBlock = some g ∨ w.heap.size ≤ g) → wpList Tryz.prog ops Q rest (act.put o.dst (.slice (some ⟨g, 0, none⟩) (ps.length + 1) cap)) w') :
    wpList Tryz.prog ops Q (o :: rest) act (w.alloc (.cells #[.int .i64 p.o, .int .i64 p.l, .int .i64 p.k, .int .i64 p.z, .int .i64 p.h, .slice p.r.a p.r.n p.r.c, .string p.r.s] 42)) := by
  obtain ⟨i0, hi, hz0, hz1, hz2⟩ := info_parts info_pktZ
  have hb : Below w.heap.size w (w.alloc (.cells #[.int .i64 p.o, .int .i64 p.l, .int .i64 p.k, .int .i64 p.z, .int .i64 p.h, .slice p.r.a p.r.n p.r.c, .string p.r.s] 42)) := (Below.refl _ _).alloc (Nat.le_refl _) _
  have h1 : (w.alloc (.cells #[.int .i64 p.o, .int .i64 p.l, .int .i64 p.k, .int .i64 p.z, .int .i64 p.h, .slice p.r.a p.r.n p.r.c, .string p.r.s] 42)).ownsRow B 42 7 v ps.length (cellsK ps) := h.below hb
  have hbk : (w.alloc (.cells #[.int .i64 p.o, .int .i64 p.l, .int .i64 p.k, .int .i64 p.z, .int .i64 p.h, .slice p.r.a p.r.n p.r.c, .string p.r.s] 42)).heap[w.heap.size]? = some (.cells #[.int .i64 p.o, .int .i64 p.l, .int .i64 p.k, .int .i64 p.z, .int .i64 p.h, .slice p.r.a p.r.n p.r.c, .string p.r.s] 42 (0, 0)) := bkA_new 42 w p.cells
  refine wpList_append_lies _ hgd s x 30 ho B 42 i0 _ 7 80 Tryz.underlying30 hi hz0 hz1 hz2 rfl (by decide) v ps.length (cellsK ps) hs h1 ⟨w.heap.size, 0, none⟩ 1 1 p.cells hx rfl
    (World.news_of_block hbk) (pcells_one p) (by decide) (by unfold maxLen; omega) (by omega) (Nat.le_trans hB hb.size) _ rfl (fun g cap w' h2 h3 h4 _ => hK g cap w' ?_ (gb_trans (gb_of_below hb _) h3 (.inl rfl)) (h4.imp id fun e => by rw [e]; exact hb.size))
  show w'.ownsRow B 42 7 _ (ps ++ [p]).length (cellsK (ps ++ [p]))
  rw [List.length_append, cellsK_append, show cellsK [p] = p.cells from List.append_nil _]
  exact h2
end Go.Proofs.YtbcgiodgobmkaaaGreatDoor
