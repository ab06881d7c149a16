/-
  Contracts of slices.IndexFunc over insert's closure, of echelon.insert, Basis, Rank: for rows of at most 2^20 words, fewer than 2^20 rows, in every world that holds the table of math/bits.
  Contracts of echelon.Add and of bucketlineref03.Reduce, Same, bucketlinelaw03.Few: for rows of at most 2^20 words.
  Contracts of bucketlineref03.Same, Add, Basis, Rank and of bucketlinelaw03.Few: for rows of at most 2^20 words.
  Slices of the rows' vectors, of one's own.
  The walk of PeelRank: for every input it tells true and writes nothing that was there.
-/
import Derived.Test.YtnjdldbdkafnaaaGreatDoorU21
import Derived.Laws.MakeOwn
import Derived.Lib.QuietBelow
import Derived.Test.YtnjdldbdkafnaaaGreatDoorU7
import Derived.Test.YtnjdldbdkafnaaaGreatDoorU19
import Derived.Test.YtnjdldbdkafnaaaGreatDoorU11
namespace Go.Proofs.YtnjdldbdkafnaaaGreatDoor
open Go.RowKit
set_option linter.unusedVariables false
set_option linter.unusedSimpArgs false
set_option maxRecDepth 4000

theorem Tab.belowB {w w' : World} {B : Nat} (h : Tab w) (hb : Below B w w') (hB : 1 < B) : Tab w' := fun i hi => (hb.cell (p := ⟨1, i, none⟩) hB).trans (h i hi)
theorem OwnV.cell {w : World} {B g n cap : Nat} {vs : List Value} {rs : List (List Nat)} (h : OwnV w B (.slice (some ⟨g, 0, none⟩) n cap) vs rs) {k : Nat} {u : Value} (hu : vs[k]? = some u) :
    w.cell? ⟨g, k, none⟩ = some u ∧ w.frozen? ⟨g, k, none⟩ = false := by
  rcases h.top.2 with ⟨h0, _⟩ | ⟨g', cap', cur, h0, hb, hg, hnc, hcm, hcs, ht⟩
  · cases h0
  · simp only [Value.slice.injEq, Option.some.injEq, Addr.mk.injEq, and_true] at h0
    obtain ⟨rfl, _, rfl⟩ := h0
    have hk : k < vs.length := (List.getElem?_eq_some_iff.1 hu).1
    have hl := h.len
    refine ⟨?_, by simp [World.frozen?, hg]⟩
    rw [cell_of_row w g k _ _ _ hg, ← Array.getElem?_toList, ← hu, ← ht, List.getElem?_take_of_lt (by omega)]
theorem OwnV.some {w : World} {B n c : Nat} {a : Option Addr} {vs : List Value} {rs : List (List Nat)} (h : OwnV w B (.slice a n c) vs rs) (h0 : 0 < rs.length) : ∃ g, a = Option.some ⟨g, 0, none⟩ := by
  rcases h.top.2 with ⟨_, h1⟩ | ⟨g', cap', cur, h1, _⟩
  · omega
  · simp only [Value.slice.injEq] at h1
    exact ⟨g', h1.1⟩
theorem OwnV.one {w : World} {B : Nat} {v : Value} {vs : List Value} {rs : List (List Nat)} (h : OwnV w B v vs rs) : ∀ u ∈ vs, u.oneCell' = true := by
  intro u hu
  obtain ⟨i, hi, rfl⟩ := List.getElem_of_mem hu
  obtain ⟨a, c, e, _⟩ := (h.rows i _ (List.getElem?_eq_getElem hi)).row
  rw [e]; rfl
theorem Own.keeps {w w' : World} {B : Nat} {v : Value} {xs : List Nat} {l0 l : List Value} (h : Own w B v xs) (k : Keeps w w' l0 l) (ho : ∀ b, v.ownBlock = some b → Off l0 b) : Own w' B v xs := by
  refine ⟨h.1, h.2.1, ?_⟩
  rcases h.2.2 with h0 | ⟨g, cap, cur, h1, hg, hgg, r⟩
  · exact .inl h0
  · exact .inr ⟨g, cap, cur, h1, hg, (k.block g (Array.getElem?_eq_some_iff.1 hgg).1 (ho g (by rw [h1]; rfl))).1.trans hgg, r⟩
theorem ByAt.keeps {w w' : World} {lo p : Nat} {a : Option Addr} {n c : Nat} {l0 l : List Value} (h : ByAt w lo p a n c) (k : Keeps w w' l0 l) (hp : Off l0 p) : ByAt w' lo p a n c :=
  ⟨h.1, k.cell h.2 hp⟩

end Go.Proofs.YtnjdldbdkafnaaaGreatDoor
namespace Go.Proofs.YtnjdldbdkafnaaaGreatDoor
open Go.RowKit
set_option linter.unusedVariables false
set_option linter.unusedSimpArgs false
set_option maxRecDepth 4000

theorem made_own (w : World) (n : Nat) (hn : n ≤ 1048576) (rs : List (List Nat)) (hrs : rs = List.replicate n []) :
    OwnV (w.alloc (.cells (madeCells #[.slice none 0 0] n) 27)) w.heap.size (.slice (some ⟨w.heap.size, 0, none⟩) n n) (List.replicate n (.slice none 0 0)) rs := by
  subst hrs
  refine ⟨⟨by simp, .inr ⟨w.heap.size, n, madeCells #[.slice none 0 0] n, by simp, Nat.le_refl _, heap_alloc_new w _, by simp, by unfold maxLen; omega, by simp [size_madeCells], ?_⟩⟩, fun i u hu => ?_, ?_⟩
  · rw [toList_madeCells_one, List.take_of_length_le (by simp)]
  · rw [List.getElem?_replicate] at hu
    split at hu
    · rename_i hi
      obtain rfl := Option.some.inj hu
      rw [List.getD_eq_getElem?_getD, List.getElem?_replicate, if_pos hi]
      exact Own.nil _ _
    · cases hu
  · refine List.pairwise_replicate.2 (.inr (.inl rfl))
end Go.Proofs.YtnjdldbdkafnaaaGreatDoor
namespace Go.Proofs.YtnjdldbdkafnaaaGreatDoor
open Go.RowKit Go.Sort
set_option linter.unusedVariables false
set_option linter.unusedSimpArgs false
set_option maxRecDepth 4000

theorem OwnV.push {w w' : World} {B : Nat} {v s rv : Value} {vs : List Value} {rs : List (List Nat)} {r : List Nat} (h : OwnV w B v vs rs) (hr : Own w B rv r) (hd : ∀ u ∈ vs, Dis u rv)
    (htop : w'.ownsRow B 27 1 s (rs.length + 1) (vs ++ [rv])) (hg : w.grownBy w' v.ownBlock) : OwnV w' B s (vs ++ [rv]) (rs ++ [r]) := by
  have hl := h.len
  have e1 : vs.take rs.length ++ rv :: vs.drop rs.length = vs ++ [rv] := by rw [List.take_of_length_le (by omega), List.drop_of_length_le (by omega)]
  have e2 : insAt r rs.length rs = rs ++ [r] := by unfold insAt; simp
  have := h.insert (p := rs.length) hr hd (Nat.le_refl _) (by rw [e1]; exact htop) hg
  rwa [e1, e2] at this
/-- append(out, row), out and the row the call's own. -/
theorem wpList_push {w : World} {ops : Array Oper} {rest : List Oper} {o : Oper} {act : Act} {Q : Exit → Act → World → Prop} (hgd : o.guard = none) (s x : Operand)
    (ho : o.op = .call { callee := .builtin .append, args := #[s, x], argTypes := #[70, 70] }) (B : Nat) (v : Value) (vs : List Value) (rs : List (List Nat)) (bv : Value) (r : List Nat)
    (hs : act.eval s = v) (hx : act.eval x = .slice (some ⟨w.heap.size, 0, none⟩) 1 1) (h : OwnV w B v vs rs) (hB : B ≤ w.heap.size) (hr : Own w B bv r) (hd : ∀ u ∈ vs, Dis u bv) (hn : rs.length ≤ 1048576)
    (hK : ∀ s' w', OwnV w' B s' (vs ++ [bv]) (rs ++ [r]) → w.grownBy w' v.ownBlock → wpList Tryz.prog ops Q rest (act.put o.dst s') w') : wpList Tryz.prog ops Q (o :: rest) act (w.alloc (.cells #[bv] 27)) := by
  obtain ⟨i0, hi, hz0, hz1, hz2⟩ := info_parts info_u64s
  have hb : Below w.heap.size w (w.alloc (.cells #[bv] 27)) := (Below.refl _ _).alloc (Nat.le_refl _) _
  have h1 := h.below hb
  have hone : bv.oneCell' = true := by
    obtain ⟨a, c, e, _⟩ := hr.row
    rw [e]; rfl
  refine wpList_append_own _ hgd s x 70 ho B 27 i0 (.slice none 0 0) 1 24 Tryz.underlying70 hi hz0 hz1 hz2 rfl (by decide) v rs.length vs hs h1.top ⟨w.heap.size, 0, none⟩ 1 1 [bv] hx rfl (fun j u hj => ?_)
    (fun u hu => by rw [List.mem_singleton.1 hu]; exact hone) (by unfold maxLen; omega) (by omega) (Nat.le_trans hB hb.size) ?_
  · match j with
    | 0 =>
      have hc : (w.alloc (.cells #[bv] 27)).cell? ⟨w.heap.size, 0, none⟩ = some bv := by rw [World.cell?_alloc_at _ _ _ _ rfl]; rfl
      simpa [Addr.add, hc] using hj
    | j + 1 => simp at hj
  · intro v' w' hown hgrow _
    exact hK v' w' (h1.push (hr.below hb) hd hown hgrow) (gb_trans (gb_of_below hb _) hgrow (.inl rfl))
/-- What lies in memory of before and what lies in memory of behind. -/
theorem dis_range {w w' : World} {B : Nat} {u v : Value} {xs ys : List Nat} (h : Own w B u xs) (k : Own w' w.heap.size v ys) : Dis u v := by
  by_cases hu : u.ownBlock = none
  · exact .inl hu
  · right
    intro e
    obtain ⟨b, hb⟩ := Option.ne_none_iff_exists'.1 hu
    have h1 := (h.lt hb).2
    have h2 := (k.lt (by rw [← e]; exact hb)).1
    omega
theorem OwnV.dis_new {w w' : World} {B : Nat} {v bv : Value} {vs : List Value} {rs : List (List Nat)} {ys : List Nat} (h : OwnV w B v vs rs) (k : Own w' w.heap.size bv ys) : ∀ u ∈ vs, Dis u bv := by
  intro u hu
  obtain ⟨i, hi, rfl⟩ := List.getElem_of_mem hu
  exact dis_range (h.rows i _ (List.getElem?_eq_getElem hi)) k
theorem OwnV.shape {w : World} {B : Nat} {v : Value} {vs : List Value} {rs : List (List Nat)} (h : OwnV w B v vs rs) : ∃ a c, v = .slice a rs.length c := by
  obtain ⟨a, c, e, _⟩ := h.vecs
  exact ⟨a, c, e⟩

end Go.Proofs.YtnjdldbdkafnaaaGreatDoor
namespace Go.Proofs.YtnjdldbdkafnaaaGreatDoor
open Go.RowKit Go.Sort
set_option linter.unusedVariables false
set_option linter.unusedSimpArgs false
set_option maxRecDepth 4000

/-- The rows' vectors. -/
def vecsL (rs : List RV) : List (List Nat) := rs.map fun r => r.xs
/-- A slice of the rows' vectors, of one's own. -/
def OwnW (w : World) (B : Nat) (v : Value) (ts : List RV) : Prop := w.ownsRow B 27 1 v ts.length (ts.map fun r => .slice r.a r.n r.c)
theorem OwnW.nil (w : World) (B : Nat) : OwnW w B (.slice none 0 0) [] := World.ownsRow_nil _ _ _ _
theorem OwnW.vecs {w : World} {B : Nat} {v : Value} {ts : List RV} (h : OwnW w B v ts) (hr : RowsIn w ts) : ∃ a c, v = .slice a ts.length c ∧ VecsAt w a ts.length (vecsL ts) := by
  have h' : w.ownsRow B 27 1 v ts.length (ts.map fun r => .slice r.a r.n r.c) := h
  rcases h.2 with ⟨rfl, h0⟩ | ⟨g, cap, cur, rfl, hb, hg, hn, hm, hsz, ht⟩
  · exact ⟨none, 0, by rw [h0], by simp [vecsL], .inl h0, fun b off i ai k ci e => by cases e⟩
  · have hcell : ∀ i, i < ts.length → w.cell? ⟨g, 0 + i, none⟩ = some (.slice (ts.getD i .dflt).a (ts.getD i .dflt).n (ts.getD i .dflt).c) := fun i hi => by
      rw [Nat.zero_add, h'.cellAt i (by omega), List.getElem?_map, List.getElem?_eq_getElem hi, List.getD_eq_getElem?_getD, List.getElem?_eq_getElem hi]
      rfl
    have hxs : ∀ i, i < ts.length → (vecsL ts).getD i [] = (ts.getD i .dflt).xs := fun i hi => by
      unfold vecsL
      rw [List.getD_eq_getElem?_getD, List.getElem?_map, List.getElem?_eq_getElem hi, List.getD_eq_getElem?_getD, List.getElem?_eq_getElem hi]
      rfl
    refine ⟨_, cap, rfl, by simp [vecsL], .inr ⟨g, 0, rfl, fun i hi => ?_⟩, fun b off i ai k ci e hi hc => ?_⟩
    · have hri := hr.get hi
      rw [hxs i hi]
      refine ⟨(ts.getD i .dflt).a, (ts.getD i .dflt).c, ?_, ?_⟩
      · rw [hri.1.1]; exact hcell i hi
      · rw [hri.1.1]; exact hri.1
    · simp only [Option.some.injEq, Addr.mk.injEq, and_true] at e
      obtain ⟨rfl, rfl⟩ := e
      rw [hcell i hi] at hc
      simp only [Option.some.injEq, Value.slice.injEq] at hc
      have := (hr.get hi).2
      omega
theorem fit_of {w : World} {ts : List RV} (hr : RowsIn w ts) (hs : shortR ts) : Fit 1048576 (vecsL ts) := fun b hb => by
  obtain ⟨r, hm, rfl⟩ := List.mem_map.1 hb
  obtain ⟨i, hi, rfl⟩ := List.mem_iff_getElem.1 hm
  have h1 := hr _ (List.getElem_mem hi)
  have h2 := hs i
  rw [List.getD_eq_getElem?_getD, List.getElem?_eq_getElem hi] at h2
  simp only [Option.getD_some] at h2
  exact ⟨h1.1.2.1, by rw [h1.1.1]; omega⟩
theorem OwnW.below {w w' : World} {B : Nat} {v : Value} {ts : List RV} (h : OwnW w B v ts) (hb : Below w.heap.size w w') : OwnW w' B v ts := ownsRow_below h hb
/-- The rows' vectors, of the first k; the others none yet. -/
def fillW (ts : List RV) (k : Nat) : List Value := (ts.take k).map (fun r => Value.slice r.a r.n r.c) ++ List.replicate (ts.length - k) (.slice none 0 0)
theorem fillW_zero (ts : List RV) : fillW ts 0 = List.replicate ts.length (.slice none 0 0) := by simp [fillW]
theorem fillW_all (ts : List RV) : fillW ts ts.length = ts.map fun r => Value.slice r.a r.n r.c := by simp [fillW]
theorem fillW_succ (ts : List RV) (k : Nat) (hk : k < ts.length) : (fillW ts k).set k (.slice (ts.getD k .dflt).a (ts.getD k .dflt).n (ts.getD k .dflt).c) = fillW ts (k + 1) := by
  unfold fillW
  have hl : ((ts.take k).map fun r => Value.slice r.a r.n r.c).length = k := by simp; omega
  rw [List.set_append_right _ _ (by omega), hl, Nat.sub_self, List.take_succ_eq_append_getElem hk, List.map_append, List.append_assoc, show ts.length - k = (ts.length - (k + 1)) + 1 by omega, List.replicate_succ, List.set_cons_zero]
  simp [List.getD_eq_getElem?_getD, List.getElem?_eq_getElem hk]
theorem make_v (n : Nat) (hn : n ≤ 1048576) (wx : World) : (Instr.makeSlice 70 (.int .i64 (n : Int)) (.int .i64 (n : Int))).run Tryz.prog wx = .ok (.slice (some ⟨wx.heap.size, 0, none⟩) n n) (wx.alloc (.cells (madeCells #[.slice none 0 0] n) 27)) := by
  obtain ⟨i0, hi0, hz0, hzs, hzb⟩ := info_parts info_u64s
  have := run_make (P := Tryz.prog) wx 70 27 i0 (.slice none 0 0) Tryz.underlying70 hi0 hz0 .i64 .i64 (n : Int) (n : Int) (by omega) (Int.le_refl _) (by rw [hzb]; omega) (by omega)
  rw [hzs] at this
  simpa [Value.cells] using this
theorem made_v (w : World) (n : Nat) (hn : n ≤ 1048576) :
    (w.alloc (.cells (madeCells #[.slice none 0 0] n) 27)).ownsRow w.heap.size 27 1 (.slice (some ⟨w.heap.size, 0, none⟩) n n) n (List.replicate n (.slice none 0 0)) := by
  refine ⟨by simp, .inr ⟨w.heap.size, n, madeCells #[.slice none 0 0] n, by simp, Nat.le_refl _, heap_alloc_new w _, by simp, by unfold maxLen; omega, by simp [size_madeCells], ?_⟩⟩
  rw [toList_madeCells_one, List.take_of_length_le (by simp)]
end Go.Proofs.YtnjdldbdkafnaaaGreatDoor
namespace Go.Proofs.YtnjdldbdkafnaaaGreatDoor
open Go.RowKit Go.Sort
set_option linter.unusedVariables false
set_option linter.unusedSimpArgs false
set_option maxRecDepth 4000

/-- A number without the known bits below n. -/
def clr (x : Nat) (kn : List Nat) : Nat → Nat
  | 0 => x
  | n + 1 => if (getB kn n && (clr x kn n).testBit n) = true then clr x kn n ^^^ 2 ^ n else clr x kn n
theorem clr_bit (x : Nat) (kn : List Nat) : ∀ n i, (clr x kn n).testBit i = (x.testBit i && !(getB kn i && decide (i < n)))
  | 0, i => by simp [clr]
  | n + 1, i => by
    have ih := clr_bit x kn n
    unfold clr
    by_cases e : i = n
    · subst e
      split
      · rename_i h
        rw [Bool.and_eq_true] at h
        rw [Nat.testBit_xor, Nat.testBit_two_pow, h.2, h.1]
        simp
      · rename_i h
        rw [ih]
        rw [ih] at h
        cases hg : getB kn i <;> cases hx : x.testBit i <;> simp_all
    · have hlt : (i < n + 1) = (i < n) := propext (by omega)
      split
      · have hni : decide (n = i) = false := decide_eq_false (fun h => e h.symm)
        rw [Nat.testBit_xor, Nat.testBit_two_pow, ih, hni, Bool.xor_false]
        simp only [hlt]
      · rw [ih]
        simp only [hlt]
theorem clr_sp {S : List Nat} {kn : List Nat} (h : ∀ b, getB kn b = true → Ech.Sp S (2 ^ b)) (x : Nat) : ∀ n, Ech.Sp S (clr x kn n) ↔ Ech.Sp S x
  | 0 => Iff.rfl
  | n + 1 => by
    rw [← clr_sp h x n, show clr x kn (n + 1) = (if (getB kn n && (clr x kn n).testBit n) = true then clr x kn n ^^^ 2 ^ n else clr x kn n) from rfl]
    split
    · rename_i hc
      rw [Bool.and_eq_true] at hc
      have hb := h n hc.1
      constructor
      · intro hs
        have := hs.xor hb
        rwa [Nat.xor_assoc, Nat.xor_self, Nat.xor_zero] at this
      · intro hs
        exact hs.xor hb
    · exact Iff.rfl
theorem val_drop {xs kn : List Nat} (hx : smalls xs) : val (dropL xs kn) = clr (val xs) kn (64 * xs.length) := by
  apply Nat.eq_of_testBit_eq
  intro i
  rw [val_bit (dropL_small hx _), dropL_bit, clr_bit, val_bit hx]
  by_cases hi : i < 64 * xs.length
  · simp [hi]
  · rw [getB_out xs i (by omega)]; simp
theorem drop_sp {S : List Nat} {xs kn : List Nat} (hx : smalls xs) (h : ∀ b, getB kn b = true → Ech.Sp S (2 ^ b)) : Ech.Sp S (val (dropL xs kn)) ↔ Ech.Sp S (val xs) := by
  rw [val_drop hx, clr_sp h]
theorem val_one {xs : List Nat} {b : Nat} (hx : smalls xs) (h : ∀ i, getB xs i = decide (i = b)) : val xs = 2 ^ b := by
  apply Nat.eq_of_testBit_eq
  intro i
  rw [val_bit hx, h, Nat.testBit_two_pow]
  by_cases e : i = b
  · simp [e]
  · rw [decide_eq_false e, decide_eq_false (fun h => e h.symm)]
theorem val_none {xs : List Nat} (hx : smalls xs) (h : cnt xs = 0) : val xs = 0 := by
  apply Nat.eq_of_testBit_eq
  intro i
  rw [val_bit hx, cnt_none.1 h, Nat.zero_testBit]
/-- What is known lies in the span of the rows. -/
theorem Run.sp {k : Int} {rs : List RV} (hg : Good rs) {S : List Nat} (hS : ∀ r ∈ rs, validB k r.xs = true → Ech.Sp S (val r.xs)) : ∀ {j : Nat} {kn : List Nat} {bs : List ByteArray}, Run k rs j kn bs → ∀ b, getB kn b = true → Ech.Sp S (2 ^ b)
  | 0, kn, bs, ⟨h1, h2⟩, b, hb => by rw [h1, bit_zeros] at hb; cases hb
  | j + 1, kn, bs, ⟨kn0, bs0, r, h1, h2, h3, h4⟩, b, hb => by
    have ih := Run.sp hg hS h1
    have hm := List.mem_of_find?_eq_some h2
    obtain ⟨hv, hbits, hk0, hx0, hbk, hfi⟩ := tells_bit (hg r hm).1 (List.find?_some h2)
    have hK := Run.known (valid_size hv).1 hg h1
    have hroom := size_room hK.size
    rw [h3, bit_setB _ _ _ _ (by rw [hK.len]; omega)] at hb
    by_cases e : b = blkOf kn0 r
    · have := (drop_sp (hg r hm).1 ih).2 (hS r hm hv)
      rw [val_one (dropL_small (hg r hm).1 _) hbits] at this
      rw [e]; exact this
    · rw [if_neg e] at hb
      exact ih b hb
/-- Peeling changes no span. -/
theorem peel_span {k : Int} {rs : List RV} {kn : List Nat} {bs : List ByteArray} (hP : PeelP k rs kn bs) (hg : Good rs) (x : Nat) :
    Ech.Sp (((toldTo k kn bs k.toNat ++ restL k rs kn bs).map Prod.fst).map val) x ↔ Ech.Sp ((vecsL (rs.filter fun r => validB k r.xs)).map val) x := by
  by_cases hz : sizeOfK k = 0
  · obtain ⟨p1, p2, p3⟩ := peelP_none (rs := rs) hz
    obtain ⟨rfl, rfl⟩ := hP.uniq p1
    have : (rs.filter fun r => validB k r.xs) = [] := List.filter_eq_nil_iff.2 fun r _ hv => by have := (valid_size hv).1; omega
    rw [p2, p3, this]
    exact Iff.rfl
  · obtain ⟨j, hK⟩ := hP.kn hg (by omega)
    have hroom := size_room hK.size
    have hmV : ∀ r ∈ rs, validB k r.xs = true → val r.xs ∈ (vecsL (rs.filter fun r => validB k r.xs)).map val := fun r hr hv =>
      List.mem_map.2 ⟨r.xs, List.mem_map.2 ⟨r, List.mem_filter.2 ⟨hr, hv⟩, rfl⟩, rfl⟩
    have hV : ∀ b, getB kn b = true → Ech.Sp ((vecsL (rs.filter fun r => validB k r.xs)).map val) (2 ^ b) := by
      obtain ⟨⟨j', hj'⟩, _⟩ := hP
      exact Run.sp hg (fun r hr hv => .of_mem (hmV r hr hv)) hj'
    have hA : ∀ b, getB kn b = true → Ech.Sp (((toldTo k kn bs k.toNat ++ restL k rs kn bs).map Prod.fst).map val) (2 ^ b) := fun b hb => by
      have hbk := hK.below b hb
      refine .of_mem (List.mem_map.2 ⟨unitL k (b : Int), List.mem_map.2 ⟨(unitL k (b : Int), bs.getD b ByteArray.empty), List.mem_append.2 (.inl ?_), rfl⟩, val_one (unit_small (by omega)) (unit_bit hK.size (by omega))⟩)
      unfold toldTo
      exact List.mem_map.2 ⟨b, List.mem_filter.2 ⟨List.mem_range.2 hbk, hb⟩, rfl⟩
    constructor
    · refine fun h => h.of fun y hy => ?_
      obtain ⟨v, hv, rfl⟩ := List.mem_map.1 hy
      obtain ⟨c, hc, rfl⟩ := List.mem_map.1 hv
      rcases List.mem_append.1 hc with hc | hc
      · obtain ⟨b, hb, hgb, rfl⟩ := told_mem hK hc
        show Ech.Sp _ (val (unitL k (b : Int)))
        rw [val_one (unit_small (by omega)) (unit_bit hK.size (by omega))]
        exact hV b hgb
      · unfold restL at hc
        obtain ⟨r, hr, rfl⟩ := List.mem_map.1 hc
        have hm := List.mem_filter.1 hr
        have hv : validB k r.xs = true := by
          have := hm.2
          unfold restB at this
          rw [Bool.and_eq_true, Bool.and_eq_true] at this
          exact this.1.1
        exact (drop_sp (hg r hm.1).1 hV).2 (.of_mem (hmV r hm.1 hv))
    · refine fun h => h.of fun y hy => ?_
      obtain ⟨v, hv, rfl⟩ := List.mem_map.1 hy
      obtain ⟨r, hr, rfl⟩ := List.mem_map.1 hv
      have hm := List.mem_filter.1 hr
      refine (drop_sp (hg r hm.1).1 hA).1 ?_
      by_cases h0 : cnt (dropL r.xs kn) = 0
      · rw [val_none (dropL_small (hg r hm.1).1 _) h0]; exact .zero
      · have hno := List.find?_eq_none.1 hP.2 r hm.1
        unfold tellsB at hno
        rw [hm.2, Bool.true_and, decide_eq_true_eq] at hno
        refine .of_mem (List.mem_map.2 ⟨dropL r.xs kn, List.mem_map.2 ⟨(dropL r.xs kn, txtL bs r.xs r.s), List.mem_append.2 (.inr ?_), rfl⟩, rfl⟩)
        unfold restL
        refine List.mem_map.2 ⟨r, List.mem_filter.2 ⟨hm.1, ?_⟩, rfl⟩
        unfold restB
        rw [hm.2, decide_eq_false h0, decide_eq_false hno]; rfl
theorem rank_eq {A V : List (List Nat)} (hA : Fit 1048576 A) (hV : Fit 1048576 V) (h : ∀ x, Ech.Sp (A.map val) x ↔ Ech.Sp (V.map val) x) : (basisL A).length = (basisL V).length := by
  have h1 := basis_val hA
  have h2 := basis_val hV
  have e : Ech.basis (A.map val) = Ech.basis (V.map val) := Ech.uniq (Ech.red_basis _) (Ech.red_basis _) fun x => by rw [Ech.sp_basis, Ech.sp_basis]; exact h x
  have := congrArg List.length (h1.trans (e.trans h2.symm))
  rwa [List.length_map, List.length_map] at this

theorem short_append {ts us : List RV} (h1 : shortR ts) (h2 : shortR us) : shortR (ts ++ us) := fun i => by
  by_cases hi : i < ts.length
  · rw [List.getD_eq_getElem?_getD, List.getElem?_append_left hi, ← List.getD_eq_getElem?_getD]; exact h1 i
  · rw [List.getD_eq_getElem?_getD, List.getElem?_append_right (by omega), ← List.getD_eq_getElem?_getD]; exact h2 _

end Go.Proofs.YtnjdldbdkafnaaaGreatDoor
