/-
  Rows in memory, on: their cores, slices of rows that are made and filled, or that two slices share; contract of bucketlineref02.All, of equal rows.
  Contracts of peel.units, peel.Ripple and bucketlineref13.Ripple.
  Slices of texts that are made and written.
-/
import Derived.Test.YtnjdldbdkafnaaaGreatDoorU10
import Derived.Test.YtnjdldbdkafnaaaGreatDoorU1
import Derived.Laws.MathBits
import Derived.OwnWalk
import Derived.Laws.MakeOwn
import Derived.Deep.QuietTactic
import Derived.BigQuiet
import Derived.Test.YtnjdldbdkafnaaaGreatDoorU5
namespace Go.Proofs.YtnjdldbdkafnaaaGreatDoor
open Go.RowKit Go.Sort
set_option linter.unusedVariables false
set_option linter.unusedSimpArgs false
set_option maxRecDepth 4000

/-- A row, as it is compared. -/
def core (r : RV) : List Nat × ByteArray := (r.xs, r.s)
/-- Each of the rows lies below B, or in a block of words. -/
def Tys (w : World) (B : Nat) (ts : List RV) : Prop := ∀ r ∈ ts, r.n = 0 ∨ ∃ b off, r.a = some ⟨b, off, none⟩ ∧ (b < B ∨ ∃ cur m, w.heap[b]? = some (.cells cur 53 m))
theorem Tys.nil (w : World) (B : Nat) : Tys w B [] := fun r hr => by cases hr
theorem Tys.below {w w' : World} {B : Nat} {ts : List RV} (h : Tys w B ts) (hb : Below w.heap.size w w') : Tys w' B ts := fun r hr => by
  rcases h r hr with h0 | ⟨b, off, e, h1 | ⟨cur, m, hc⟩⟩
  · exact .inl h0
  · exact .inr ⟨b, off, e, .inl h1⟩
  · exact .inr ⟨b, off, e, .inr ⟨cur, m, (hb.block b (Array.getElem?_eq_some_iff.1 hc).1).trans hc⟩⟩
theorem Tys.mono {w : World} {B B' : Nat} {ts : List RV} (h : Tys w B ts) (hB : B ≤ B') : Tys w B' ts := fun r hr => by
  rcases h r hr with h0 | ⟨b, off, e, h1 | h1⟩
  · exact .inl h0
  · exact .inr ⟨b, off, e, .inl (by omega)⟩
  · exact .inr ⟨b, off, e, .inr h1⟩
theorem Tys.append {w : World} {B : Nat} {ts us : List RV} (h : Tys w B ts) (k : Tys w B us) : Tys w B (ts ++ us) := fun r hr => (List.mem_append.1 hr).elim (h r) (k r)
theorem OwnS.lt' {w : World} {B : Nat} {v : Value} {rs : List RV} (h : OwnS w B v rs) {k : Nat} (hk : v.ownBlock = some k) : B ≤ k ∧ k < w.heap.size := World.ownsRow.lt h k hk
theorem OwnS.blk {w : World} {B g : Nat} {v : Value} {rs : List RV} (h : OwnS w B v rs) (hk : v.ownBlock = some g) : ∃ cur, w.heap[g]? = some (.cells cur 29 (0, 0)) := by
  rcases h.2 with ⟨rfl, _⟩ | ⟨g', cap, cur, rfl, _, hg, _⟩
  · cases hk
  · simp only [Value.ownBlock, Option.some.injEq] at hk
    exact ⟨cur, by rw [← hk]; exact hg⟩
theorem tys_ne {w : World} {B b : Nat} {v : Value} {rs : List RV} (ho : OwnS w B v rs) (h : b < B ∨ ∃ cur m, w.heap[b]? = some (.cells cur 53 m)) : some b ≠ v.ownBlock := fun e => by
  obtain ⟨cur, hc⟩ := ho.blk e.symm
  rcases h with h | ⟨cur2, m, h⟩
  · have := (ho.lt' e.symm).1; omega
  · rw [hc] at h
    simp only [Option.some.injEq, Obj.cells.injEq] at h
    exact absurd h.2.1 (by decide)
theorem Tys.pushed {w w' : World} {B : Nat} {v : Value} {rs ts : List RV} (h : Tys w B ts) (ho : OwnS w B v rs) (hg : w.grownBy w' v.ownBlock) : Tys w' B ts := fun r hr => by
  rcases h r hr with h0 | ⟨b, off, e, h1⟩
  · exact .inl h0
  · have hne := tys_ne ho h1
    rcases h1 with h1 | ⟨cur, m, hc⟩
    · exact .inr ⟨b, off, e, .inl h1⟩
    · exact .inr ⟨b, off, e, .inr ⟨cur, m, (hg.block b (Array.getElem?_eq_some_iff.1 hc).1 hne).trans hc⟩⟩
theorem RowsIn.pushed {w w' : World} {B : Nat} {v : Value} {rs ts : List RV} (h : RowsIn w ts) (ht : Tys w B ts) (ho : OwnS w B v rs) (hg : w.grownBy w' v.ownBlock) : RowsIn w' ts := fun r hr => ⟨by
  refine (h r hr).1.kept hg ?_
  rcases ht r hr with h0 | ⟨b, off, e, h1⟩
  · exact .inl h0
  · refine .inr fun ad e2 => ?_
    rw [e] at e2
    simp only [Option.some.injEq] at e2
    subst e2
    exact tys_ne ho h1, (h r hr).2⟩
theorem Tys.own {w : World} {B B' : Nat} {a : Option Addr} {n c : Nat} {xs : List Nat} {s : ByteArray} (h : Own w B' (.slice a n c) xs) : Tys w B [⟨a, n, c, xs, s⟩] := fun r hr => by
  rw [List.mem_singleton.1 hr]
  rcases h.2.2 with ⟨e, h0⟩ | ⟨g, cap, cur, e, _, hg, _⟩
  · simp only [Value.slice.injEq] at e
    exact .inl e.2.1
  · simp only [Value.slice.injEq] at e
    exact .inr ⟨g, 0, e.1, .inr ⟨cur, _, hg⟩⟩
/-- What a round that gathers rows leaves. -/
def GaS (w wr : World) (a1 : Option Addr) (m1 c1 : Nat) (L : List (List Nat × ByteArray)) (ts : List RV) : Prop :=
  OwnS wr w.heap.size (.slice a1 m1 c1) ts ∧ RowsIn wr ts ∧ Tys wr w.heap.size ts ∧ ts.map core = L ∧ Below w.heap.size w wr
theorem GaS.nil (w : World) : GaS w w none 0 0 [] [] := ⟨OwnS.nil _ _, RowsIn.nil _, Tys.nil _ _, rfl, Below.refl _ _⟩
theorem GaS.below {w wr w1 : World} {a1 : Option Addr} {m1 c1 : Nat} {L : List (List Nat × ByteArray)} {ts : List RV} (h : GaS w wr a1 m1 c1 L ts) (hb : Below wr.heap.size wr w1) : GaS w w1 a1 m1 c1 L ts := ⟨h.1.below hb, h.2.1.below hb, h.2.2.1.below hb, h.2.2.2.1, below0 h.2.2.2.2 hb⟩
theorem GaS.push {w wr w1 : World} {a1 : Option Addr} {m1 c1 : Nat} {L : List (List Nat × ByteArray)} {ts : List RV} {r : RV} {v2 : Value} (h : GaS w wr a1 m1 c1 L ts) (hr : RowsIn wr [r]) (ht : Tys wr w.heap.size [r]) (ho : OwnS w1 w.heap.size v2 (ts ++ [r])) (hg : wr.grownBy w1 (Value.slice a1 m1 c1).ownBlock) (hb : Below w.heap.size wr w1) :
    ∃ a2 m2 c2, v2 = .slice a2 m2 c2 ∧ GaS w w1 a2 m2 c2 (L ++ [core r]) (ts ++ [r]) := by
  obtain ⟨h1, h2, h3, h4, h5⟩ := h
  have hR := (h2.append hr).pushed (h3.append ht) h1 hg
  obtain ⟨a2, c2, e, _⟩ := ho.rows hR
  exact ⟨a2, _, c2, e, by rw [← e]; exact ho, hR, (h3.append ht).pushed h1 hg, by rw [List.map_append, h4]; rfl, h5.trans hb⟩
/-- Each row has as much room as words. -/
def CapR (rs : List RV) : Prop := ∀ i, i < rs.length → (rs.getD i .dflt).n ≤ (rs.getD i .dflt).c
theorem take_snocR (ks : List RV) (k : Nat) (hk : k < ks.length) : ks.take k ++ [ks.getD k .dflt] = ks.take (k + 1) := by
  rw [List.take_succ_eq_append_getElem hk]
  simp [List.getD_eq_getElem?_getD, List.getElem?_eq_getElem hk]
theorem OwnS.shape {w : World} {B : Nat} {v : Value} {rs : List RV} (h : OwnS w B v rs) : ∃ a c, v = .slice a rs.length c := by
  rcases h.2 with ⟨rfl, h0⟩ | ⟨g, cap, cur, rfl, _⟩
  · exact ⟨none, 0, by rw [h0]⟩
  · exact ⟨_, cap, rfl⟩
theorem OwnS.at' {w : World} {B : Nat} {a : Option Addr} {m c : Nat} {ts : List RV} (h : OwnS w B (.slice a m c) ts) (hr : RowsIn w ts) : RowsAt w a m ts ∧ m = ts.length ∧ m ≤ c ∧ c ≤ 9223372036854775807 := by
  obtain ⟨a', c', e, h1, h2, h3⟩ := h.rows hr
  simp only [Value.slice.injEq] at e
  obtain ⟨rfl, rfl, rfl⟩ := e
  exact ⟨h1, rfl, h2, h3⟩
theorem short_core {w : World} {ts : List RV} {L : List (List Nat × ByteArray)} (hr : RowsIn w ts) (h : ts.map core = L) (hL : ∀ x ∈ L, x.1.length ≤ 10 ∧ x.2.size ≤ 1000) : shortR ts := fun i => by
  by_cases hi : i < ts.length
  · have hm : core (ts.getD i .dflt) ∈ L := by
      rw [← h, List.getD_eq_getElem?_getD, List.getElem?_eq_getElem hi]
      exact List.mem_map.2 ⟨_, List.getElem_mem hi, rfl⟩
    have := hL _ hm
    have hl := (hr.get hi).1.1
    exact ⟨by rw [← hl]; exact this.1, this.2⟩
  · rw [List.getD_eq_getElem?_getD, List.getElem?_eq_none (by omega)]
    exact ⟨Nat.zero_le _, Nat.zero_le _⟩
theorem short_nil : shortR [] := fun i => ⟨Nat.zero_le _, Nat.zero_le _⟩
theorem CapR.of {w : World} {rs : List RV} (h : RowsIn w rs) : CapR rs := fun i hi => (h.get hi).2
theorem RowsIn.of {w : World} {a : Option Addr} {n : Nat} {rs : List RV} (h : RowsAt w a n rs) (hc : CapR rs) : RowsIn w rs := fun r hr => by
  obtain ⟨i, hi, rfl⟩ := List.mem_iff_getElem.1 hr
  have h1 := h.2.1 i (by rw [← h.1]; exact hi)
  have h2 := hc i hi
  rw [List.getD_eq_getElem?_getD, List.getElem?_eq_getElem hi] at h1 h2
  exact ⟨h1, h2⟩
/-- No row. -/
def zR : RV := ⟨none, 0, 0, [], ⟨#[]⟩⟩
def filR (us : List RV) (k : Nat) : List RV := us.take k ++ List.replicate (us.length - k) zR
theorem filR_zero (us : List RV) : filR us 0 = List.replicate us.length zR := by simp [filR]
theorem filR_all (us : List RV) : filR us us.length = us := by simp [filR]
theorem filR_length (us : List RV) (k : Nat) (hk : k ≤ us.length) : (filR us k).length = us.length := by simp [filR]; omega
theorem filR_succ (us : List RV) (k : Nat) (hk : k < us.length) : (filR us k).set k (us.getD k .dflt) = filR us (k + 1) := by
  unfold filR
  have hl : (us.take k).length = k := by simp; omega
  rw [List.set_append_right _ _ (by omega), hl, Nat.sub_self, List.take_succ_eq_append_getElem hk, List.append_assoc, show us.length - k = (us.length - (k + 1)) + 1 by omega, List.replicate_succ, List.set_cons_zero]
  simp [List.getD_eq_getElem?_getD, List.getElem?_eq_getElem hk]
theorem cellsR_set : ∀ (rs : List RV) (k : Nat) (r : RV), ((cellsR rs).set (k * 2) (.slice r.a r.n r.c)).set (k * 2 + 1) (.string r.s) = cellsR (rs.set k r)
  | [], k, r => by simp [cellsR]
  | x :: rs, 0, r => by simp [cellsR]
  | x :: rs, k + 1, r => by
    rw [show (k + 1) * 2 = k * 2 + 1 + 1 by omega]
    simp only [cellsR, List.set_cons_succ]
    rw [cellsR_set rs k r]
theorem cellsR_zeros : ∀ n : Nat, (madeCells #[.slice none 0 0, .string ⟨#[]⟩] (n * 2)).toList = cellsR (List.replicate n zR)
  | 0 => by simp [madeCells, cellsR]
  | n + 1 => by
    rw [List.replicate_succ', cellsR_append, ← cellsR_zeros n]
    unfold madeCells
    rw [show (n + 1) * 2 = n * 2 + 1 + 1 by omega]
    simp only [Array.toList_map, Array.toList_range]
    rw [List.range_succ, List.range_succ]
    simp [cellsR, zR, Nat.mul_mod_left]
theorem make_r (n : Nat) (hn : n ≤ 1048576) (wx : World) : (Instr.makeSlice 32 (.int .i64 (n : Int)) (.int .i64 (n : Int))).run Tryz.prog wx = .ok (.slice (some ⟨wx.heap.size, 0, none⟩) n n) (wx.alloc (.cells (madeCells #[.slice none 0 0, .string ⟨#[]⟩] (n * 2)) 29)) := by
  obtain ⟨i0, hi0, hz0, hzs, hzb⟩ := info_parts info_rowZ
  have := run_make (P := Tryz.prog) wx 32 29 i0 (.agg #[.slice none 0 0, .string ⟨#[]⟩]) Tryz.underlying32 hi0 hz0 .i64 .i64 (n : Int) (n : Int) (by omega) (Int.le_refl _) (by rw [hzb]; omega) (by omega)
  rw [hzs] at this
  simpa [Value.cells] using this
theorem made_r (w : World) (n : Nat) (hn : n ≤ 1048576) (rs : List RV) (hrs : rs = List.replicate n zR) : OwnS (w.alloc (.cells (madeCells #[.slice none 0 0, .string ⟨#[]⟩] (n * 2)) 29)) w.heap.size (.slice (some ⟨w.heap.size, 0, none⟩) n n) rs := by
  subst hrs
  refine ⟨cellsR_length _, .inr ⟨w.heap.size, n, madeCells #[.slice none 0 0, .string ⟨#[]⟩] (n * 2), by simp, Nat.le_refl _, heap_alloc_new w _, by simp, by unfold maxLen; omega, by simp [size_madeCells], ?_⟩⟩
  rw [cellsR_zeros, List.take_of_length_le (by rw [cellsR_length]; exact Nat.le_refl _)]
theorem OwnS.stored {w : World} {B g cap n : Nat} {rs : List RV} (h : OwnS w B (.slice (some ⟨g, 0, none⟩) n cap) rs) (k : Nat) (r : RV) :
    OwnS ((w.setCell ⟨g, k * 2, none⟩ (.slice r.a r.n r.c)).setCell ⟨g, k * 2 + 1, none⟩ (.string r.s)) B (.slice (some ⟨g, 0, none⟩) n cap) (rs.set k r) := by
  obtain rfl : n = rs.length := by
    rcases h.2 with ⟨e, _⟩ | ⟨g1, cap1, cur, e, _⟩
    · cases e
    · simp only [Value.slice.injEq] at e; exact e.2.1
  have ho : w.ownsRow B 29 2 (.slice (some ⟨g, 0, none⟩) rs.length cap) rs.length (cellsR rs) := h
  have := ((ho.stored (k * 2) (.slice r.a r.n r.c)).1.stored (k * 2 + 1) (.string r.s)).1
  rw [cellsR_set] at this
  show World.ownsRow _ B 29 2 _ (rs.set k r).length _
  rw [List.length_set]
  exact this
theorem OwnS.keptB {w w' : World} {B g : Nat} {v : Value} {rs : List RV} (h : OwnS w B v rs) (hg : w.grownBy w' (some g)) (hB : g < B) : OwnS w' B v rs := by
  refine World.ownsRow.kept h hg (.inr fun e => ?_)
  have := (World.ownsRow.lt h g e).1
  omega
/-- 'append(own, rows...)'. -/
theorem wpList_appendS {w : World} {ops : Array Oper} {rest : List Oper} {o : Oper} {act : Act} {Q : Exit → Act → World → Prop} (hgd : o.guard = none) (s x : Operand)
    (ho : o.op = .call { callee := .builtin .append, args := #[s, x], argTypes := #[32, 32] }) (B B' : Nat) (v v2 : Value) (ts us : List RV)
    (hs : act.eval s = v) (hx : act.eval x = v2) (h : OwnS w B v ts) (hB : B ≤ w.heap.size) (h2 : OwnS w B' v2 us) (hn : ts.length + us.length ≤ 1048576)
    (hK : ∀ s' w', OwnS w' B s' (ts ++ us) → Below B w w' → wpList Tryz.prog ops Q rest (act.put o.dst s') w') : wpList Tryz.prog ops Q (o :: rest) act w := by
  obtain ⟨i0, hi, hz0, hz1, hz2⟩ := info_parts info_rowZ
  have h2' := h2
  rcases h2.2 with ⟨rfl, h0⟩ | ⟨g, cap, cur, rfl, hb, hg, hnc, hm, hsz, ht⟩
  · have hus : us = [] := List.eq_nil_of_length_eq_zero h0
    subst hus
    refine wpList_append_own_none hgd s x 32 ho B 29 i0 2 Tryz.underlying32 hi v ts.length (cellsR ts) hs h hx ?_
    exact hK v w (by rw [List.append_nil]; exact h) (Below.refl _ _)
  · refine wpList_append_own _ hgd s x 32 ho B 29 i0 (.agg #[.slice none 0 0, .string ⟨#[]⟩]) 2 40 Tryz.underlying32 hi hz0 hz1 hz2 rfl (by decide) v ts.length (cellsR ts) hs h ⟨g, 0, none⟩ us.length cap (cellsR us) hx (cellsR_length us) (World.ownsRow.cells h2' (g := g) rfl) (cellsR_one us) (by unfold maxLen; omega) (by omega) hB ?_
    intro v' w' hown hgrow _
    refine hK v' w' ?_ ((Below.refl _ _).grown hgrow hB fun k hk => (World.ownsRow.lt h k hk).1)
    show w'.ownsRow B 29 2 v' (ts ++ us).length (cellsR (ts ++ us))
    rw [List.length_append, cellsR_append]
    exact hown
end Go.Proofs.YtnjdldbdkafnaaaGreatDoor
namespace Go.Proofs.YtnjdldbdkafnaaaGreatDoor
open Go.RowKit Go.Sort
set_option linter.unusedVariables false
set_option linter.unusedSimpArgs false
set_option maxRecDepth 4000

theorem Own.at' {w : World} {B : Nat} {a : Option Addr} {n c : Nat} {xs : List Nat} (h : Own w B (.slice a n c) xs) : n = xs.length ∧ RowAt w a xs.length xs := by
  obtain ⟨a1, c1, e, hr⟩ := h.row
  simp only [Value.slice.injEq] at e
  obtain ⟨rfl, rfl, rfl⟩ := e
  exact ⟨rfl, hr⟩

end Go.Proofs.YtnjdldbdkafnaaaGreatDoor
namespace Go.Proofs.YtnjdldbdkafnaaaGreatDoor
open Go.RowKit
set_option linter.unusedVariables false
set_option linter.unusedSimpArgs false
set_option maxRecDepth 4000

theorem OwnT.at {w : World} {B : Nat} {v : Value} {ss : List ByteArray} (h : OwnT w B v ss) (hn : 0 < ss.length) :
    ∃ g cap, v = .slice (some ⟨g, 0, none⟩) ss.length cap ∧ B ≤ g ∧ g < w.heap.size ∧ (∀ i, i < ss.length → w.cell? ⟨g, i, none⟩ = some (.string (ss.getD i ByteArray.empty))) ∧ ∀ i, w.frozen? ⟨g, i, none⟩ = false := by
  have ho' : w.ownsRow B 9 1 v ss.length (cellsT ss) := h
  rcases h.2 with ⟨rfl, h0⟩ | ⟨g, cap, cur, rfl, hb, hg, hn, hm, hsz, ht⟩
  · omega
  · refine ⟨g, cap, rfl, hb, (Array.getElem?_eq_some_iff.1 hg).1, fun i hi => ?_, fun i => ho'.frozenAt i⟩
    rw [ho'.cellAt i (by omega), cellsT_get ss i hi]
theorem OwnT.stored {w : World} {B g cap n : Nat} {ss : List ByteArray} (h : OwnT w B (.slice (some ⟨g, 0, none⟩) n cap) ss) (i : Nat) (x : ByteArray) :
    OwnT (w.setCell ⟨g, i, none⟩ (.string x)) B (.slice (some ⟨g, 0, none⟩) n cap) (ss.set i x) := by
  obtain rfl : n = ss.length := by
    obtain ⟨a, c, e, _⟩ := h.texts
    simp only [Value.slice.injEq] at e
    exact e.2.1
  have ho : w.ownsRow B 9 1 (.slice (some ⟨g, 0, none⟩) ss.length cap) ss.length (cellsT ss) := h
  have := (ho.stored i (.string x)).1
  rw [show (cellsT ss).set i (.string x) = cellsT (ss.set i x) by simp [cellsT, List.map_set]] at this
  show World.ownsRow _ B 9 1 _ (ss.set i x).length _
  rw [List.length_set]
  exact this
theorem made_texts (w : World) (n : Nat) (hn : n ≤ 1048576) (ss : List ByteArray) (hss : ss = List.replicate n ByteArray.empty) :
    OwnT (w.alloc (.cells (madeCells #[.string ByteArray.empty] n) 9)) w.heap.size (.slice (some ⟨w.heap.size, 0, none⟩) n n) ss := by
  subst hss
  refine ⟨by simp [cellsT], .inr ⟨w.heap.size, n, madeCells #[.string ByteArray.empty] n, by simp, Nat.le_refl _, heap_alloc_new w _, by simp, by unfold maxLen; omega, by simp [size_madeCells], ?_⟩⟩
  rw [toList_madeCells_one, List.take_of_length_le (by simp)]
  simp [cellsT]
theorem make_texts (n : Nat) (hn : n ≤ 1048576) (wx : World) : (Instr.makeSlice 46 (.int .i64 (n : Int)) (.int .i64 (n : Int))).run Tryz.prog wx = .ok (.slice (some ⟨wx.heap.size, 0, none⟩) n n) (wx.alloc (.cells (madeCells #[.string ByteArray.empty] n) 9)) := by
  obtain ⟨i0, hi0, hz0, hzs, hzb⟩ := info_parts info_strT
  have := run_make (P := Tryz.prog) wx 46 9 i0 (.string ByteArray.empty) Tryz.underlying46 hi0 hz0 .i64 .i64 (n : Int) (n : Int) (by omega) (Int.le_refl _) (by rw [hzb]; omega) (by omega)
  rw [hzs] at this
  simpa [Value.cells] using this
end Go.Proofs.YtnjdldbdkafnaaaGreatDoor
