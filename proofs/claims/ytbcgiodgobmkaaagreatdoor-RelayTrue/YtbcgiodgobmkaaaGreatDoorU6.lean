/-
  Memory in which one block is turned ('grownBy' with that block), rows beside it, and 'copy' as a step of a walk. No condition.
  Contracts of words.Set and bucketlineref01.Set: for every row of at most 2^20 words, every int, both values.
  Contracts of words.from, words.Valid and bucketlineref01.Valid: for every int and every row.
-/
import Derived.Test.YtbcgiodgobmkaaaGreatDoorU1
import Derived.Laws.IdiomCopy
import Derived.Laws.NewBlocks
import Derived.Deep.RegionLaw
import Derived.Test.YtbcgiodgobmkaaaGreatDoorU3
import Derived.Lib.SliceRun
namespace Go.Proofs.YtbcgiodgobmkaaaGreatDoor
open Go.RowKit
set_option linter.unusedVariables false
set_option linter.unusedSimpArgs false
set_option maxRecDepth 4000

theorem gb_refl (w : World) (r : Option Nat) : w.grownBy w r := ⟨rfl, rfl, rfl, Nat.le_refl _, fun _ _ _ => rfl⟩
theorem gb_of_below {w w' : World} (h : Below w.heap.size w w') (r : Option Nat) : w.grownBy w' r := ⟨h.os, h.tape, h.output, h.size, fun k hk _ => h.block k hk⟩
theorem gb_trans {w w1 w2 : World} {r r' : Option Nat} (h : w.grownBy w1 r) (k : w1.grownBy w2 r') (hr : r' = r ∨ ∀ j, r' = some j → w.heap.size ≤ j) : w.grownBy w2 r := by
  refine ⟨k.os.trans h.os, k.tape.trans h.tape, k.output.trans h.output, Nat.le_trans h.size k.size, fun j hj hne => ?_⟩
  refine (k.block j (Nat.lt_of_lt_of_le hj h.size) fun e => ?_).trans (h.block j hj hne)
  rcases hr with hr | hr
  · exact hne (e.trans hr)
  · have := hr j e.symm; omega
theorem gb_below {w w' : World} {r : Option Nat} (h : w.grownBy w' r) {B : Nat} (hB : B ≤ w.heap.size) (hr : ∀ k, r = some k → B ≤ k) : Below B w w' := (Below.refl B w).grown h hB hr
theorem gb_setCell (w : World) (g i : Nat) (u : Value) : w.grownBy (w.setCell ⟨g, i, none⟩ u) (some g) :=
  ⟨rfl, rfl, rfl, by simp [World.setCell], fun k _ hk => Below.heap_setCell _ _ _ _ (fun e => hk (by rw [e]))⟩
theorem gb_drew {w w' : World} {r : Option Nat} (h : w.grownBy w' r) : w.grownBy w'.drew r := ⟨h.os, h.tape, h.output, h.size, h.block⟩
theorem Own.kept {w w' : World} {B : Nat} {v : Value} {xs : List Nat} {row : Option Nat} (h : Own w B v xs) (hg : w.grownBy w' row) (hd : v.ownBlock = none ∨ v.ownBlock ≠ row) : Own w' B v xs := ⟨h.1, h.2.kept hg hd⟩
theorem Own.lt {w : World} {B : Nat} {v : Value} {xs : List Nat} (h : Own w B v xs) {k : Nat} (hk : v.ownBlock = some k) : B ≤ k ∧ k < w.heap.size := h.2.lt k hk
theorem RowAt.kept {w w' : World} {a : Option Addr} {n : Nat} {xs : List Nat} {row : Option Nat} (h : RowAt w a n xs) (hg : w.grownBy w' row) (hd : n = 0 ∨ ∀ ad, a = some ad → some ad.block ≠ row) : RowAt w' a n xs := by
  refine ⟨h.1, h.2.1, ?_⟩
  rcases h.2.2 with h0 | ⟨b, off, rfl, hc⟩
  · exact .inl h0
  · rcases hd with h0 | hd
    · exact .inl h0
    · exact .inr ⟨b, off, rfl, fun i hi => hg.cell (hc i hi) (hd ⟨b, off, none⟩ rfl)⟩
theorem RowAt.lt {w : World} {a : Option Addr} {n : Nat} {xs : List Nat} (h : RowAt w a n xs) : n = 0 ∨ ∀ ad, a = some ad → ad.block < w.heap.size := by
  rcases h.2.2 with h0 | ⟨b, off, rfl, hc⟩
  · exact .inl h0
  · by_cases h0 : n = 0
    · exact .inl h0
    · right
      intro ad e
      simp only [Option.some.injEq] at e
      subst e
      exact World.block_lt_of_cell? w _ (hc 0 (by omega))

/-- A block of one's own behind a row of stores. -/
theorem setCells_block (g : Nat) (e : TypeId) : ∀ (vs : List Value) (o : Nat) (w : World) (cur : Array Value), w.heap[g]? = some (.cells cur e (0, 0)) →
    ∃ cur', (w.setCells g o vs).heap[g]? = some (.cells cur' e (0, 0)) ∧ cur'.size = cur.size ∧ ∀ j, j < cur.size → cur'[j]? = if o ≤ j ∧ j < o + vs.length then vs[j - o]? else cur[j]?
  | [], o, w, cur, h => ⟨cur, h, rfl, fun j hj => by rw [if_neg (by simp only [List.length_nil]; omega)]⟩
  | v :: r, o, w, cur, h => by
    obtain ⟨cur', h1, h2, h3⟩ := setCells_block g e r (o + 1) (w.setCell ⟨g, o, none⟩ v) (cur.setIfInBounds o v) (heap_setCell_same w g o cur e v h)
    refine ⟨cur', h1, by simpa using h2, fun j hj => ?_⟩
    rw [h3 j (by simpa using hj)]
    by_cases hjo : j = o
    · subst hjo
      rw [if_neg (by omega), if_pos (by simp)]
      simp [hj]
    · by_cases hin : o + 1 ≤ j ∧ j < o + 1 + r.length
      · rw [if_pos hin, if_pos (by simp; omega)]
        rw [show j - o = (j - (o + 1)) + 1 by omega, List.getElem?_cons_succ]
      · rw [if_neg hin, if_neg (by simp; omega)]
        rw [Array.getElem?_setIfInBounds_ne (by omega)]
theorem setCells_gb (g : Nat) : ∀ (vs : List Value) (o : Nat) (w : World), w.grownBy (w.setCells g o vs) (some g)
  | [], o, w => gb_refl _ _
  | v :: r, o, w => gb_trans (gb_setCell w g o v) (setCells_gb g r (o + 1) _) (.inl rfl)
end Go.Proofs.YtbcgiodgobmkaaaGreatDoor
namespace Go.Proofs.YtbcgiodgobmkaaaGreatDoor
open Go.RowKit
set_option linter.unusedVariables false
set_option linter.unusedSimpArgs false
set_option maxRecDepth 4000

theorem div_wrap (i : Int) (q : Nat) (h0 : 0 ≤ i) (hi : i ≤ 9223372036854775807) (hq : i / 64 = (q : Int)) : IntKind.i64.wrap (i.tdiv 64) = (q : Int) := by
  rw [Int.tdiv_eq_ediv_of_nonneg h0, hq]
  simp [IntKind.wrap, IntKind.bits, IntKind.signed]
  omega
theorem Own.drew {w : World} {B : Nat} {v : Value} {xs : List Nat} (h : Own w B v xs) : Own w.drew B v xs := ⟨h.1, h.2.drew⟩

end Go.Proofs.YtbcgiodgobmkaaaGreatDoor
namespace Go.Proofs.YtbcgiodgobmkaaaGreatDoor
open Go.RowKit
set_option linter.unusedVariables false
set_option linter.unusedSimpArgs false
set_option maxRecDepth 4000

def zer (xs : List Nat) : Nat → Nat → List Nat
  | _, 0 => xs
  | o, m + 1 => zer (xs.set o 0) (o + 1) m
theorem zer_length : ∀ (m o : Nat) (xs : List Nat), (zer xs o m).length = xs.length
  | 0, _, _ => rfl
  | m + 1, o, xs => by rw [zer, zer_length m]; simp
theorem zer_getD : ∀ (m o : Nat) (xs : List Nat) (j : Nat), (zer xs o m).getD j 0 = if o ≤ j ∧ j < o + m then 0 else xs.getD j 0
  | 0, o, xs, j => by simp [zer]; omega
  | m + 1, o, xs, j => by
    rw [zer, zer_getD m (o + 1), getD_set]
    by_cases h1 : o + 1 ≤ j ∧ j < o + 1 + m
    · rw [if_pos h1, if_pos (by omega)]
    · rw [if_neg h1]
      by_cases h2 : j = o
      · subst h2
        rw [if_pos (c := j ≤ j ∧ j < j + (m + 1)) (by omega)]
        split
        · rfl
        · exact getD_of_le (by omega)
      · rw [if_neg (by omega), if_neg (by omega)]
theorem Own.cleared {B g cap : Nat} : ∀ (m o : Nat) (xs : List Nat) (w : World), Own w B (.slice (some ⟨g, 0, none⟩) xs.length cap) xs →
    Own (w.setCells g o (List.replicate m (.int .u64 0))) B (.slice (some ⟨g, 0, none⟩) xs.length cap) (zer xs o m)
  | 0, _, _, _, h => h
  | m + 1, o, xs, w, h => by
    have h1 := h.stored o 0 (by decide)
    have h2 := Own.cleared m (o + 1) (xs.set o 0) (w.setCell ⟨g, o, none⟩ (.int .u64 0)) (by simpa using h1)
    rw [List.replicate_succ]
    have h3 : (xs.set o 0).length = xs.length := by simp
    rw [h3] at h2
    exact h2
theorem Below.cells {B g : Nat} {w0 : World} (hg : B ≤ g) : ∀ (vs : List Value) (o : Nat) (w : World), Below B w0 w → Below B w0 (w.setCells g o vs)
  | [], _, _, h => h
  | v :: r, o, w, h => Below.cells hg r (o + 1) (w.setCell ⟨g, o, none⟩ v) (h.setCell (by exact hg) v)

/-- The mask from bit r on. -/
def fmask (r : Nat) : Nat := 18446744073709551615 * 2 ^ r % 18446744073709551616
theorem fmask_lt (r : Nat) : fmask r < 18446744073709551616 := Nat.mod_lt _ (by decide)
theorem zero_u64 (w : World) : (zeroValue 59).run Tryz.prog w = .ok (.int .u64 0) w := by kernel_rfl

theorem clear_run {w1 : World} {B g cap : Nat} {xs : List Nat} {q : Nat} (ho : Own w1 B (.slice (some ⟨g, 0, none⟩) xs.length cap) xs) (hq : q ≤ xs.length) :
    ∀ ty, (Builtin.clear_ #[25] ty #[.slice (some ⟨g, 0, none⟩) q cap]).run Tryz.prog w1 = .ok (.tuple #[]) (w1.setCells g 0 (List.replicate q (.int .u64 0))) := by
  intro ty
  by_cases e : q = 0
  · subst e
    simp [Builtin.clear_, run_underlying Tryz.underlying25, World.setCells]
  · obtain ⟨g', cap', hv, _, _, hcg, hfg⟩ := ho.at (by omega)
    simp only [Value.slice.injEq, Option.some.injEq, Addr.mk.injEq, and_true, true_and] at hv
    obtain ⟨rfl, rfl⟩ := hv
    exact Lib.run_clear_slice w1 25 59 ty (.int .u64 0) Tryz.underlying25 zero_u64 rfl rfl g 0 q cap (by omega) (fun j hj => by rw [Nat.zero_add, hcg j (by omega)]; rfl) (fun j hj => by rw [Nat.zero_add]; exact hfg j)

theorem from_num (x r : Nat) (hx : x < 18446744073709551616) : bits .and .u64 (x : Int) (IntKind.u64.wrap (18446744073709551615 * 2 ^ r)) = ((x &&& fmask r : Nat) : Int) := by
  have e : IntKind.u64.wrap (18446744073709551615 * 2 ^ r) = ((fmask r : Nat) : Int) := by
    rw [IntKind.wrap_u64]; unfold fmask; simp
  rw [e, u64_and_nat x _ hx (fmask_lt r)]

set_option maxHeartbeats 1000000 in
theorem from_lt (a : Option Addr) (n c : Nat) (xs : List Nat) (k : Int) (q : Nat) (w : World) (h : RowAt w a n xs) (hn : n ≤ 1048576) (h0 : 0 ≤ k) (hk : k ≤ 9223372036854775807) (hq : k / 64 = (q : Int)) (hqn : q < n) :
    Calls Tryz.prog 149 #[.slice a n c, .int .i64 k] w fun e w' => ∃ v, e = .returned v ∧ Own w' w.heap.size v ((zer xs 0 q).set q (xs.getD q 0 &&& fmask (k % 64).toNat)) ∧ Below w.heap.size w w' := by
  obtain rfl : n = xs.length := h.1.symm
  have hqw := div_wrap k q h0 hk hq
  have hql' : (q : Int) < (xs.length : Int) := by omega
  go_enter Tryz.func149, Tryz.ntmps149
  go_wp2_with fail
  refine (clone_any a xs.length c xs _ h (by omega)).mono ?_
  rintro e w1 ⟨v, rfl, ho, hb⟩
  obtain ⟨g, cap, rfl, hBg, hgs, hcg, hfg⟩ := ho.at (by omega)
  have hcap := ho.cap
  have hcl := clear_run ho (by omega : q ≤ xs.length)
  have ho2 := Own.cleared q 0 xs w1 ho
  have hb2 := Below.cells (w0 := w) hBg (List.replicate q (.int .u64 0)) 0 w1 hb
  generalize w1.setCells g 0 (List.replicate q (.int .u64 0)) = w2 at *
  have hlz := zer_length q 0 xs
  rw [← hlz] at ho2
  obtain ⟨g', cap', hv, _, hgs2, hcg2, hfg2⟩ := ho2.at (by omega)
  simp only [Value.slice.injEq, Option.some.injEq, Addr.mk.injEq, and_true, true_and] at hv
  obtain ⟨rfl, rfl⟩ := hv
  have hcell := hcg2 q (by omega)
  have hfz := hfg2 q
  rw [zer_getD, if_neg (by omega)] at hcell
  have hnum := from_num (xs.getD q 0) (k % 64).toNat (h.2.1.get q)
  have hlt2 : xs.getD q 0 &&& fmask (k % 64).toNat < 18446744073709551616 := Nat.lt_of_le_of_lt Nat.and_le_left (h.2.1.get q)
  have hst := ho2.stored q (xs.getD q 0 &&& fmask (k % 64).toNat) hlt2
  have hbs := hb2.setCell (p := ⟨g, q, none⟩) (by exact hBg) (.int .u64 ((xs.getD q 0 &&& fmask (k % 64).toNat : Nat) : Int))
  rw [hlz] at hst
  obtain ⟨y, hy⟩ : ∃ y, y = xs.getD q 0 &&& fmask (k % 64).toNat := ⟨_, rfl⟩
  rw [← hy] at hnum hst hbs
  have HST := hide hst
  have HBS := hide hbs
  have HY := hide hy
  clear hcg hfg hcg2 hfg2 ho ho2 hb hb2 h hlz hst hbs hlt2 hy
  generalize xs.getD q 0 = x at hnum hcell
  go_wp2
  go_ret
  exact ⟨_, rfl, by rw [← unhide HY]; exact unhide HST, unhide HBS⟩

set_option maxHeartbeats 1000000 in
theorem from_all (a : Option Addr) (n c : Nat) (xs : List Nat) (k : Int) (w : World) (h : RowAt w a n xs) (hn : n ≤ 1048576) (hn0 : 0 < n) (h0 : 0 ≤ k) (hk : k ≤ 9223372036854775807) (hq : k / 64 = (n : Int)) :
    Calls Tryz.prog 149 #[.slice a n c, .int .i64 k] w fun e w' => ∃ v, e = .returned v ∧ Own w' w.heap.size v (zer xs 0 n) ∧ Below w.heap.size w w' := by
  obtain rfl : n = xs.length := h.1.symm
  have hqw := div_wrap k xs.length h0 hk hq
  go_enter Tryz.func149, Tryz.ntmps149
  go_wp2_with fail
  refine (clone_any a xs.length c xs _ h (by omega)).mono ?_
  rintro e w1 ⟨v, rfl, ho, hb⟩
  obtain ⟨g, cap, rfl, hBg, hgs, hcg, hfg⟩ := ho.at (by omega)
  have hcap := ho.cap
  have hcl := clear_run ho (Nat.le_refl _)
  have ho2 := Own.cleared xs.length 0 xs w1 ho
  have hb2 := Below.cells (w0 := w) hBg (List.replicate xs.length (.int .u64 0)) 0 w1 hb
  generalize w1.setCells g 0 (List.replicate xs.length (.int .u64 0)) = w2 at *
  have HST := hide ho2
  have HBS := hide hb2
  clear hcg hfg ho ho2 hb hb2 h
  go_wp2
  go_ret
  exact ⟨_, rfl, unhide HST, unhide HBS⟩
end Go.Proofs.YtbcgiodgobmkaaaGreatDoor
