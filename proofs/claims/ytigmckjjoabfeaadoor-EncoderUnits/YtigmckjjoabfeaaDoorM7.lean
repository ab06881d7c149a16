/-
  Memory in which one block is turned ('grownBy' with that block), rows beside it, and 'copy' as a step of a walk. No condition.
  Plain lists for draws: the n-th draw of a list ('drawN'), numbers taken one after the other of those that are left ('leftL', 'picksL'), the same rising ('distL'), and what is taken by marks ('untaken', 'marked'). No condition.
  Plain mathematics of shares: their sum, the degree that a draw picks, the table of shares. Of no program. No condition but where it is said.
  Slices of ints of any sign in memory: what can be read ('IntzAt'), what is the call's own ('OwnZ'): made, written, appended to. No condition.
  Contract of bucketlineref01.Ints, of equal slices of at most 2^20 ints.
  Contracts of bucketlinelaw10.few, soliton.Sum, bucketlineref10.Sum, soliton.Pick, bucketlineref10.Pick: for shares whose sum is at most 2^62.
-/
import Derived.Test.YtigmckjjoabfeaaDoorM1
import Derived.Laws.IdiomCopy
import Derived.Laws.NewBlocks
import Derived.Deep.RegionLaw
import Derived.Laws.MathBits
import Derived.OwnWalk
import Derived.Laws.MakeOwn
import Derived.Deep.QuietTactic
import Derived.BigQuiet
namespace Go.Proofs.YtigmckjjoabfeaaDoor
open Go.RowKit
set_option linter.unusedVariables false
set_option maxRecDepth 4000

theorem gb_refl (w : World) (r : Option Nat) : w.grownBy w r := ⟨rfl, rfl, rfl, Nat.le_refl _, fun _ _ _ => rfl⟩
theorem gb_of_below {w w' : World} (h : Below w.heap.size w w') (r : Option Nat) : w.grownBy w' r := ⟨h.os, h.tape, h.output, h.size, fun k hk _ => h.block k hk⟩
theorem gb_trans {w w1 w2 : World} {r r' : Option Nat} (h : w.grownBy w1 r) (k : w1.grownBy w2 r') (hr : r' = r ∨ ∀ j, r' = some j → w.heap.size ≤ j) : w.grownBy w2 r := by
  refine ⟨k.os.trans h.os, k.tape.trans h.tape, k.output.trans h.output, Nat.le_trans h.size k.size, fun j hj hne => ?_⟩
  refine (k.block j (Nat.lt_of_lt_of_le hj h.size) fun e => ?_).trans (h.block j hj hne)
  rcases hr with hr | hr
  · exact hne (e.trans hr)
  · have := hr j e.symm; omega
theorem gb_below {w w' : World} {r : Option Nat} (h : w.grownBy w' r) {B : Nat} (hB : B ≤ w.heap.size) (hr : ∀ k, r = some k → B ≤ k) : Below B w w' := (Below.refl B w).grown h hB hr
theorem gb_setCell (w : World) (g i : Nat) (u : Value) : w.grownBy (w.setCell ⟨g, i, none⟩ u) (some g) :=
  ⟨rfl, rfl, rfl, by simp [World.setCell], fun k _ hk => Below.heap_setCell _ _ _ _ (fun e => hk (by rw [e]))⟩
theorem gb_drew {w w' : World} {r : Option Nat} (h : w.grownBy w' r) : w.grownBy w'.drew r := ⟨h.os, h.tape, h.output, h.size, h.block⟩
theorem Own.kept {w w' : World} {B : Nat} {v : Value} {xs : List Nat} {row : Option Nat} (h : Own w B v xs) (hg : w.grownBy w' row) (hd : v.ownBlock = none ∨ v.ownBlock ≠ row) : Own w' B v xs := ⟨h.1, h.2.kept hg hd⟩
theorem Own.lt {w : World} {B : Nat} {v : Value} {xs : List Nat} (h : Own w B v xs) {k : Nat} (hk : v.ownBlock = some k) : B ≤ k ∧ k < w.heap.size := h.2.lt k hk
theorem RowAt.kept {w w' : World} {a : Option Addr} {n : Nat} {xs : List Nat} {row : Option Nat} (h : RowAt w a n xs) (hg : w.grownBy w' row) (hd : n = 0 ∨ ∀ ad, a = some ad → some ad.block ≠ row) : RowAt w' a n xs := by
  refine ⟨h.1, h.2.1, ?_⟩
  rcases h.2.2 with h0 | ⟨b, off, rfl, hc⟩
  · exact .inl h0
  · rcases hd with h0 | hd
    · exact .inl h0
    · exact .inr ⟨b, off, rfl, fun i hi => hg.cell (hc i hi) (hd ⟨b, off, none⟩ rfl)⟩
theorem RowAt.lt {w : World} {a : Option Addr} {n : Nat} {xs : List Nat} (h : RowAt w a n xs) : n = 0 ∨ ∀ ad, a = some ad → ad.block < w.heap.size := by
  rcases h.2.2 with h0 | ⟨b, off, rfl, hc⟩
  · exact .inl h0
  · by_cases h0 : n = 0
    · exact .inl h0
    · right
      intro ad e
      simp only [Option.some.injEq] at e
      subst e
      exact World.block_lt_of_cell? w _ (hc 0 (by omega))
theorem copy_step {o : Oper} {a : Act} {w : World} {K : Act → World → Prop} {Q : Exit → Act → World → Prop} (d s : Operand) (t : TypeId)
    (ho : o.op = .call { callee := .builtin .copy, args := #[d, s], argTypes := #[t, t] }) (v u : Value) (hd : a.eval d = v) (hs : a.eval s = u) {v' : Value} {w' : World}
    (hr : (Builtin.copy_ #[t, t] o.type #[v, u]).run Tryd.prog w = .ok v' w') (h : K (a.put o.dst v') w') : o.wp Tryd.prog a w K Q := by
  unfold Oper.wp execOp
  simp only [ho, resolve, invoke, builtin, Sem.run_bind, Sem.run_pure, Result.andThen_ok, List.map_toArray, List.map_cons, List.map_nil, hd, hs, hr]
  exact h
theorem copy_list {w : World} {ops : Array Oper} {rest : List Oper} {o : Oper} {a : Act} {Q : Exit → Act → World → Prop} (hgd : o.guard = none) (d s : Operand) (t : TypeId)
    (ho : o.op = .call { callee := .builtin .copy, args := #[d, s], argTypes := #[t, t] }) (v u : Value) (hd : a.eval d = v) (hs : a.eval s = u) {v' : Value} {w' : World}
    (hr : (Builtin.copy_ #[t, t] o.type #[v, u]).run Tryd.prog w = .ok v' w') (h : wpList Tryd.prog ops Q rest (a.put o.dst v') w') : wpList Tryd.prog ops Q (o :: rest) a w :=
  wpList_plain hgd fun _ hK => copy_step d s t ho v u hd hs hr (hK _ _ h)
theorem copy_region {ops : Array Oper} {o : Oper} {a : Act} {w : World} {K : Act → World → Prop} {Q : Exit → Act → World → Prop} {E : Prop} (hg : o.guard = none) (d s : Operand) (t : TypeId)
    (ho : o.op = .call { callee := .builtin .copy, args := #[d, s], argTypes := #[t, t] }) (v u : Value) (hd : a.eval d = v) (hs : a.eval s = u) {v' : Value} {w' : World}
    (hr : (Builtin.copy_ #[t, t] o.type #[v, u]).run Tryd.prog w = .ok v' w') (h : K (a.put o.dst v') w') :
    if Region.wanted o (yielded ops a.tmps) = true then Oper.wp Tryd.prog o a w K Q else E := by
  rw [if_pos (by simp [Region.wanted, hg])]
  exact copy_step d s t ho v u hd hs hr h

/-- A block of one's own behind a row of stores. -/
theorem setCells_block (g : Nat) (e : TypeId) : ∀ (vs : List Value) (o : Nat) (w : World) (cur : Array Value), w.heap[g]? = some (.cells cur e (0, 0)) →
    ∃ cur', (w.setCells g o vs).heap[g]? = some (.cells cur' e (0, 0)) ∧ cur'.size = cur.size ∧ ∀ j, j < cur.size → cur'[j]? = if o ≤ j ∧ j < o + vs.length then vs[j - o]? else cur[j]?
  | [], o, w, cur, h => ⟨cur, h, rfl, fun j hj => by rw [if_neg (by simp only [List.length_nil]; omega)]⟩
  | v :: r, o, w, cur, h => by
    obtain ⟨cur', h1, h2, h3⟩ := setCells_block g e r (o + 1) (w.setCell ⟨g, o, none⟩ v) (cur.setIfInBounds o v) (heap_setCell_same w g o cur e v h)
    refine ⟨cur', h1, by simpa using h2, fun j hj => ?_⟩
    rw [h3 j (by simpa using hj)]
    by_cases hjo : j = o
    · subst hjo
      rw [if_neg (by omega), if_pos (by simp)]
      simp [hj]
    · by_cases hin : o + 1 ≤ j ∧ j < o + 1 + r.length
      · rw [if_pos hin, if_pos (by simp; omega)]
        rw [show j - o = (j - (o + 1)) + 1 by omega, List.getElem?_cons_succ]
      · rw [if_neg hin, if_neg (by simp; omega)]
        rw [Array.getElem?_setIfInBounds_ne (by omega)]
theorem setCells_gb (g : Nat) : ∀ (vs : List Value) (o : Nat) (w : World), w.grownBy (w.setCells g o vs) (some g)
  | [], o, w => gb_refl _ _
  | v :: r, o, w => gb_trans (gb_setCell w g o v) (setCells_gb g r (o + 1) _) (.inl rfl)
end Go.Proofs.YtigmckjjoabfeaaDoor
namespace Go.Proofs.YtigmckjjoabfeaaDoor
set_option linter.unusedVariables false
set_option maxRecDepth 4000

/-- The n-th draw, from 1 on. -/
def drawN (L : List Nat) (n : Nat) : Nat := if n ≤ L.length then L.getD (n - 1) 0 else n * 11400714819323198485 % 18446744073709551616
theorem drawN_in {L : List Nat} {n : Nat} (h : n < L.length) : drawN L (n + 1) = L.getD n 0 := by
  unfold drawN
  rw [if_pos (by omega), Nat.add_sub_cancel]
theorem drawN_out {L : List Nat} {n : Nat} (h : L.length < n) : drawN L n = n * 11400714819323198485 % 18446744073709551616 := by
  unfold drawN
  rw [if_neg (by omega)]
theorem drawN_lt {L : List Nat} (h : smalls L) (n : Nat) : drawN L n < 18446744073709551616 := by
  unfold drawN
  split
  · exact h.get _
  · omega

/-- What is left of zs when k were taken, N draws having been used ahead. -/
def leftL (L : List Nat) (N : Nat) (zs : List Nat) : Nat → List Nat
  | 0 => zs
  | k + 1 => (leftL L N zs k).eraseIdx (drawN L (N + k + 1) % (leftL L N zs k).length)
/-- What was taken, one behind the other. -/
def picksL (L : List Nat) (N : Nat) (zs : List Nat) : Nat → List Nat
  | 0 => []
  | k + 1 => picksL L N zs k ++ [(leftL L N zs k).getD (drawN L (N + k + 1) % (leftL L N zs k).length) 0]
theorem leftL_length (L : List Nat) (N : Nat) (zs : List Nat) : ∀ k, k ≤ zs.length → (leftL L N zs k).length = zs.length - k
  | 0, _ => rfl
  | k + 1, h => by
    have ih := leftL_length L N zs k (by omega)
    have hlt : drawN L (N + k + 1) % (leftL L N zs k).length < (leftL L N zs k).length := Nat.mod_lt _ (by omega)
    show ((leftL L N zs k).eraseIdx _).length = _
    rw [List.length_eraseIdx, if_pos hlt, ih]
    omega
theorem picksL_length (L : List Nat) (N : Nat) (zs : List Nat) : ∀ k, (picksL L N zs k).length = k
  | 0 => rfl
  | k + 1 => by
    show (picksL L N zs k ++ [_]).length = _
    rw [List.length_append, picksL_length L N zs k]; rfl
theorem erase_perm (l : List Nat) (j : Nat) (h : j < l.length) : (l.getD j 0 :: l.eraseIdx j).Perm l := by
  rw [List.eraseIdx_eq_take_drop_succ]
  have e : l = l.take j ++ l.getD j 0 :: l.drop (j + 1) := by
    rw [List.getD_eq_getElem?_getD, List.getElem?_eq_getElem h]
    simp
  exact (List.perm_middle.symm).trans (List.Perm.of_eq e.symm)
theorem picks_perm (L : List Nat) (N : Nat) (zs : List Nat) : ∀ k, k ≤ zs.length → (picksL L N zs k ++ leftL L N zs k).Perm zs
  | 0, _ => List.Perm.refl _
  | k + 1, h => by
    have ih := picks_perm L N zs k (by omega)
    have hl := leftL_length L N zs k (by omega)
    have hlt : drawN L (N + k + 1) % (leftL L N zs k).length < (leftL L N zs k).length := Nat.mod_lt _ (by omega)
    show ((picksL L N zs k ++ [_]) ++ (leftL L N zs k).eraseIdx _).Perm zs
    rw [List.append_assoc]
    exact (List.Perm.append_left _ (erase_perm _ _ hlt)).trans ih
/-- What was taken of the numbers below n, rising. -/
def distL (L : List Nat) (N n k : Nat) : List Nat := (List.range n).filter fun i => decide (i ∉ leftL L N (List.range n) k)
theorem dist_perm (L : List Nat) (N n k : Nat) (h : k ≤ n) : (picksL L N (List.range n) k).Perm (distL L N n k) := by
  have hp := picks_perm L N (List.range n) k (by simpa using h)
  have hn := hp.symm.nodup List.nodup_range
  obtain ⟨_, _, hd⟩ := List.nodup_append.1 hn
  have hf := hp.filter fun i => decide (i ∉ leftL L N (List.range n) k)
  have h1 : (picksL L N (List.range n) k).filter (fun i => decide (i ∉ leftL L N (List.range n) k)) = picksL L N (List.range n) k := List.filter_eq_self.2 fun a ha => by simpa using fun hb => hd a ha a hb rfl
  have h2 : (leftL L N (List.range n) k).filter (fun i => decide (i ∉ leftL L N (List.range n) k)) = [] := List.filter_eq_nil_iff.2 fun a ha => by simp [ha]
  rw [List.filter_append, h1, h2, List.append_nil] at hf
  exact hf
theorem distL_length (L : List Nat) (N n k : Nat) (h : k ≤ n) : (distL L N n k).length = k := by
  rw [← (dist_perm L N n k h).length_eq, picksL_length]
def castZ (l : List Nat) : List Int := l.map fun (x : Nat) => (x : Int)
theorem castZ_length (l : List Nat) : (castZ l).length = l.length := by simp [castZ]
theorem castZ_getD (l : List Nat) (i : Nat) : (castZ l).getD i 0 = ((l.getD i 0 : Nat) : Int) := by
  simp only [castZ, List.getD_eq_getElem?_getD, List.getElem?_map]
  cases l[i]? <;> rfl
theorem castZ_append (l m : List Nat) : castZ (l ++ m) = castZ l ++ castZ m := by simp [castZ]
theorem castZ_erase (l : List Nat) (j : Nat) : castZ (l.eraseIdx j) = (castZ l).eraseIdx j := by
  simp [castZ, List.eraseIdx_eq_take_drop_succ, List.map_take, List.map_drop]
theorem dist_sort (L : List Nat) (N n k : Nat) (h : k ≤ n) : (castZ (picksL L N (List.range n) k)).mergeSort (fun x y => decide (x ≤ y)) = castZ (distL L N n k) := by
  have hp : ((castZ (picksL L N (List.range n) k)).mergeSort fun x y => decide (x ≤ y)).Perm (castZ (distL L N n k)) := (List.mergeSort_perm _ _).trans ((dist_perm L N n k h).map _)
  refine List.Perm.eq_of_pairwise (le := fun x y : Int => x ≤ y) (fun a b _ _ h1 h2 => Int.le_antisymm h1 h2) ?_ ?_ hp
  · have := List.pairwise_mergeSort (le := fun x y : Int => decide (x ≤ y)) (fun a b c h1 h2 => by simp at *; omega) (fun a b => by simp; omega) (castZ (picksL L N (List.range n) k))
    exact this.imp fun h => by simpa using h
  · have : (distL L N n k).Pairwise (· < ·) := List.Pairwise.filter _ List.pairwise_lt_range
    exact List.Pairwise.map _ (fun a b hab => by omega) this
theorem distL_rise (L : List Nat) (N n k i : Nat) (h : i + 1 < (distL L N n k).length) : (distL L N n k).getD i 0 < (distL L N n k).getD (i + 1) 0 := by
  have hr : (distL L N n k).Pairwise (· < ·) := List.Pairwise.filter _ List.pairwise_lt_range
  have := List.pairwise_iff_getElem.1 hr i (i + 1) (by omega) h (by omega)
  simpa [List.getD_eq_getElem?_getD, List.getElem?_eq_getElem h, List.getElem?_eq_getElem (show i < (distL L N n k).length by omega)] using this
theorem distL_lt (L : List Nat) (N n k i : Nat) (h : i < (distL L N n k).length) : (distL L N n k).getD i 0 < n := by
  have hm : (distL L N n k)[i] ∈ distL L N n k := List.getElem_mem h
  have := (List.mem_filter.1 hm).1
  simpa [List.getD_eq_getElem?_getD, List.getElem?_eq_getElem h] using this

/-- The numbers below n that bear no mark. -/
def untaken (bs : List Bool) (n : Nat) : List Nat := (List.range n).filter fun i => !bs.getD i false
/-- .. and those that do. -/
def marked (bs : List Bool) (n : Nat) : List Nat := (List.range n).filter fun i => bs.getD i false
theorem untaken_no {bs : List Bool} {n : Nat} (h : bs.getD n false = true) : untaken bs (n + 1) = untaken bs n := by
  unfold untaken
  rw [List.range_succ, List.filter_append, List.filter_cons, if_neg (by rw [h]; simp)]
  simp
theorem untaken_yes {bs : List Bool} {n : Nat} (h : bs.getD n false = false) : untaken bs (n + 1) = untaken bs n ++ [n] := by
  unfold untaken
  rw [List.range_succ, List.filter_append, List.filter_cons, if_pos (by rw [h]; rfl)]
  simp
theorem marked_yes {bs : List Bool} {n : Nat} (h : bs.getD n false = true) : marked bs (n + 1) = marked bs n ++ [n] := by
  unfold marked
  rw [List.range_succ, List.filter_append, List.filter_cons, if_pos h]
  simp
theorem marked_no {bs : List Bool} {n : Nat} (h : bs.getD n false = false) : marked bs (n + 1) = marked bs n := by
  unfold marked
  rw [List.range_succ, List.filter_append, List.filter_cons, if_neg (by rw [h]; simp)]
  simp
theorem marked_le (bs : List Bool) (n : Nat) : (marked bs n).length ≤ n := by
  have := List.length_filter_le (fun i => bs.getD i false) (List.range n)
  rwa [List.length_range] at this
theorem range_cut {n t : Nat} (h : t < n) : List.range n = List.range t ++ t :: List.range' (t + 1) (n - t - 1) := by
  rw [List.range_eq_range', List.range_eq_range']
  have h1 : List.range' 0 n = List.range' 0 (t + (n - t)) := by rw [show t + (n - t) = n by omega]
  rw [h1, ← List.range'_append, Nat.one_mul, Nat.zero_add]
  congr 1
  rw [show n - t = (n - t - 1) + 1 by omega, List.range'_succ]
  rfl
theorem set_other (bs : List Bool) (t i : Nat) (h : i ≠ t) : (bs.set t true).getD i false = bs.getD i false := by
  simp only [List.getD_eq_getElem?_getD]
  rw [List.getElem?_set_ne (by omega)]
theorem set_same (bs : List Bool) (t : Nat) (h : t < bs.length) : (bs.set t true).getD t false = true := by
  simp [List.getD_eq_getElem?_getD, h]
/-- The number that is marked is the one that so many untaken ones stand ahead of. -/
theorem untaken_set (bs : List Bool) (n t : Nat) (hl : bs.length = n) (h : t < n) (hf : bs.getD t false = false) :
    untaken (bs.set t true) n = (untaken bs n).eraseIdx (untaken bs t).length := by
  unfold untaken
  rw [range_cut h, List.filter_append, List.filter_append, List.filter_cons, List.filter_cons, if_neg (by rw [set_same bs t (by omega)]; simp), if_pos (by rw [hf]; rfl),
    List.eraseIdx_append_of_length_le (Nat.le_refl _), Nat.sub_self, List.eraseIdx_cons_zero]
  congr 1
  · refine List.filter_congr fun i hi => ?_
    rw [set_other bs t i (by have := List.mem_range.1 hi; omega)]
  · refine List.filter_congr fun i hi => ?_
    obtain ⟨j, _, rfl⟩ := List.mem_range'.1 hi
    rw [set_other bs t _ (by omega)]
theorem marked_dist {L : List Nat} {N n k : Nat} {bs : List Bool} (h : untaken bs n = leftL L N (List.range n) k) : marked bs n = distL L N n k := by
  unfold marked distL
  refine List.filter_congr fun i hi => ?_
  rw [← h]
  unfold untaken
  cases hb : bs.getD i false
  · simp only [List.mem_filter, hi, hb, true_and]
    simp
  · simp only [List.mem_filter, hi, hb, true_and]
    simp
theorem untaken_new (n : Nat) : untaken (List.replicate n false) n = List.range n := by
  unfold untaken
  refine List.filter_eq_self.2 fun a ha => ?_
  simp [List.getD_eq_getElem?_getD, List.mem_range.1 ha]
end Go.Proofs.YtigmckjjoabfeaaDoor
namespace Go.Proofs.YtigmckjjoabfeaaDoor
set_option linter.unusedVariables false
set_option maxRecDepth 4000

/-- The sum of the shares above 0. -/
def sumZ : List Int → Nat
  | [] => 0
  | x :: r => x.toNat + sumZ r
theorem sumZ_append : ∀ (a b : List Int), sumZ (a ++ b) = sumZ a + sumZ b
  | [], b => by simp [sumZ]
  | x :: a, b => by simp only [List.cons_append, sumZ, sumZ_append a b]; omega
theorem sumZ_take (l : List Int) (k : Nat) (hk : k < l.length) : sumZ (l.take (k + 1)) = sumZ (l.take k) + (l.getD k 0).toNat := by
  rw [List.take_succ_eq_append_getElem hk, sumZ_append]
  simp [sumZ, List.getD_eq_getElem?_getD, List.getElem?_eq_getElem hk]
theorem sumZ_take_le (l : List Int) (k : Nat) : sumZ (l.take k) ≤ sumZ l := by
  have h := sumZ_append (l.take k) (l.drop k)
  rw [List.take_append_drop] at h
  omega
theorem sumZ_le (M : Nat) : ∀ (l : List Int), (∀ x ∈ l, x ≤ (M : Int)) → sumZ l ≤ l.length * M
  | [], _ => by simp [sumZ]
  | x :: r, h => by
    have h1 := sumZ_le M r (fun y hy => h y (by simp [hy]))
    have h2 := h x (by simp)
    simp only [sumZ, List.length_cons, Nat.add_mul, Nat.one_mul]
    omega

/-- The degree in whose share x falls, of shares that begin at degree j + 1. -/
def pickZ : List Int → Nat → Nat → Nat
  | [], _, _ => 0
  | y :: r, j, x => if x < y.toNat then j + 1 else pickZ r (j + 1) (x - y.toNat)
theorem drop_cons_getD (l : List Int) (k : Nat) (hk : k < l.length) : l.drop k = l.getD k 0 :: l.drop (k + 1) := by
  rw [List.drop_eq_getElem_cons hk]
  simp [List.getD_eq_getElem?_getD, List.getElem?_eq_getElem hk]
theorem pickZ_yes (l : List Int) (k x : Nat) (hk : k < l.length) (h : x < (l.getD k 0).toNat) : pickZ (l.drop k) k x = k + 1 := by
  rw [drop_cons_getD l k hk, pickZ, if_pos h]
theorem pickZ_no (l : List Int) (k x : Nat) (hk : k < l.length) (h : ¬ x < (l.getD k 0).toNat) : pickZ (l.drop k) k x = pickZ (l.drop (k + 1)) (k + 1) (x - (l.getD k 0).toNat) := by
  rw [drop_cons_getD l k hk, pickZ, if_neg h]
theorem pickZ_end (l : List Int) (j x : Nat) : pickZ (l.drop l.length) j x = 0 := by simp [pickZ]
theorem pickZ_in : ∀ (l : List Int) (j x : Nat), x < sumZ l → j + 1 ≤ pickZ l j x ∧ pickZ l j x ≤ j + l.length
  | [], j, x, h => by simp [sumZ] at h
  | y :: r, j, x, h => by
    simp only [sumZ] at h
    simp only [pickZ, List.length_cons]
    by_cases hx : x < y.toNat
    · rw [if_pos hx]; omega
    · rw [if_neg hx]
      have := pickZ_in r (j + 1) (x - y.toNat) (by omega)
      omega
theorem pickZ_at : ∀ (l : List Int) (j i y : Nat), i < l.length → y < (l.getD i 0).toNat → pickZ l j (sumZ (l.take i) + y) = j + i + 1
  | [], j, i, y, h, _ => by simp at h
  | a :: r, j, 0, y, h, hy => by
    simp only [List.take_zero, sumZ, Nat.zero_add, pickZ]
    rw [if_pos (by simpa using hy)]
  | a :: r, j, i + 1, y, h, hy => by
    simp only [List.take_succ_cons, sumZ, pickZ]
    rw [if_neg (by omega), show a.toNat + sumZ (r.take i) + y - a.toNat = sumZ (r.take i) + y by omega, pickZ_at r (j + 1) i y (by simpa using h) (by simpa using hy)]
    omega
/-- What Pick answers. -/
def pickD (l : List Int) (draw : Nat) : Nat := if sumZ l = 0 then 0 else pickZ l 0 (draw % sumZ l)
theorem pickD_none {l : List Int} (h : sumZ l = 0) (draw : Nat) : pickD l draw = 0 := if_pos h
theorem pickD_some {l : List Int} (h : sumZ l ≠ 0) (draw : Nat) : pickD l draw = pickZ l 0 (draw % sumZ l) := if_neg h
theorem pickD_turn (l : List Int) (draw : Nat) : pickD l (draw + sumZ l) = pickD l draw := by
  by_cases h : sumZ l = 0
  · rw [pickD_none h, pickD_none h]
  · rw [pickD_some h, pickD_some h, Nat.add_mod_right]
theorem pickD_le (l : List Int) (draw : Nat) : pickD l draw ≤ l.length := by
  by_cases h : sumZ l = 0
  · rw [pickD_none h]; omega
  · rw [pickD_some h]
    have := pickZ_in l 0 (draw % sumZ l) (Nat.mod_lt _ (by omega))
    omega
theorem pickD_in {l : List Int} (h : sumZ l ≠ 0) (draw : Nat) : 1 ≤ pickD l draw ∧ pickD l draw ≤ l.length := by
  rw [pickD_some h]
  have := pickZ_in l 0 (draw % sumZ l) (Nat.mod_lt _ (by omega))
  omega
theorem pickD_at (l : List Int) (i y : Nat) (hi : i < l.length) (hy : y < (l.getD i 0).toNat) : pickD l (sumZ (l.take i) + y) = i + 1 := by
  have h1 := sumZ_take l i hi
  have h2 := sumZ_take_le l (i + 1)
  rw [pickD_some (by omega), Nat.mod_eq_of_lt (by omega), pickZ_at l 0 i y hi hy]
  omega

/-- Not too many shares, and none too great. -/
def fewZ (l : List Int) : Bool := decide (l.length ≤ 1000) && l.all fun x => decide (x ≤ 1125899906842624)
theorem fewZ_sum {l : List Int} (h : fewZ l = true) : l.length ≤ 1000 ∧ sumZ l ≤ 1125899906842624000 := by
  simp only [fewZ, Bool.and_eq_true, decide_eq_true_eq, List.all_eq_true] at h
  have := sumZ_le 1125899906842624 l h.2
  exact ⟨h.1, by omega⟩
theorem fewZ_no {l : List Int} (k : Nat) (hk : k < l.length) (h : 1125899906842624 < l.getD k 0) : fewZ l = false := by
  rw [← Bool.not_eq_true]
  intro e
  simp only [fewZ, Bool.and_eq_true, decide_eq_true_eq, List.all_eq_true] at e
  have := e.2 (l.getD k 0) (by rw [List.getD_eq_getElem?_getD, List.getElem?_eq_getElem hk]; exact List.getElem_mem hk)
  omega
theorem fewZ_yes {l : List Int} (hl : l.length ≤ 1000) (h : ∀ i, i < l.length → l.getD i 0 ≤ 1125899906842624) : fewZ l = true := by
  simp only [fewZ, Bool.and_eq_true, decide_eq_true_eq, List.all_eq_true]
  refine ⟨hl, fun x hx => ?_⟩
  obtain ⟨i, hi, rfl⟩ := List.mem_iff_getElem.1 hx
  have := h i hi
  rwa [List.getD_eq_getElem?_getD, List.getElem?_eq_getElem hi] at this
theorem fewZ_long {l : List Int} (h : 1000 < l.length) : fewZ l = false := by
  unfold fewZ
  rw [decide_eq_false (by omega)]
  rfl

/-- How many bits, one by one. -/
theorem bitLen_half (x : Nat) (h : 0 < x) : bitLen x = bitLen (x / 2) + 1 := by
  by_cases h2 : x / 2 = 0
  · have : x = 1 := by omega
    subst this
    decide
  · have := bitLen_shift x 1 (by simpa using h2)
    simpa [Nat.add_comm] using this
theorem bitLen_zero : bitLen 0 = 0 := rfl

/-- The share of degree d ahead of what the spread adds. -/
def baseN (k d : Nat) : Nat := if d = 1 then 1048576 / k else 1048576 / (d * (d - 1))
/-- What the spread adds. -/
def moreN (k s d : Nat) : Nat := if s = 0 then 0 else if d < k / s then 1048576 * s / (k * d) else if d = k / s then 1048576 * s * bitLen s / k else 0
def shareN (k s d : Nat) : Nat := max 1 (baseN k d + moreN k s d)
def tableL (k s : Nat) : List Int := (List.range k).map fun i => ((shareN k s (i + 1) : Nat) : Int)
theorem baseN_one (k : Nat) : baseN k 1 = 1048576 / k := if_pos rfl
theorem baseN_more {k d : Nat} (h : d ≠ 1) : baseN k d = 1048576 / (d * (d - 1)) := if_neg h
theorem moreN_none (k d : Nat) : moreN k 0 d = 0 := if_pos rfl
theorem moreN_less {k s d : Nat} (hs : s ≠ 0) (h : d < k / s) : moreN k s d = 1048576 * s / (k * d) := by rw [moreN, if_neg hs, if_pos h]
theorem moreN_same {k s d : Nat} (hs : s ≠ 0) (h : d = k / s) : moreN k s d = 1048576 * s * bitLen s / k := by rw [moreN, if_neg hs, if_neg (by omega), if_pos h]
theorem moreN_over {k s d : Nat} (hs : s ≠ 0) (h : k / s < d) : moreN k s d = 0 := by rw [moreN, if_neg hs, if_neg (by omega), if_neg (by omega)]
theorem baseN_le (k d : Nat) : baseN k d ≤ 1048576 := by
  unfold baseN
  split
  · exact Nat.div_le_self _ _
  · exact Nat.div_le_self _ _
theorem moreN_le (k s d : Nat) (hs : s ≤ 128) : moreN k s d ≤ 1073741824 := by
  unfold moreN
  have hb := bitLen_le8 s (by omega)
  have h1 : 1048576 * s * bitLen s ≤ 1048576 * 128 * 8 := Nat.mul_le_mul (Nat.mul_le_mul_left _ hs) hb
  have h2 := Nat.div_le_self (1048576 * s * bitLen s) k
  have h3 := Nat.div_le_self (1048576 * s) (k * d)
  split
  · omega
  · split
    · omega
    · split
      · omega
      · omega
theorem shareN_le (k s d : Nat) (hs : s ≤ 128) : 1 ≤ shareN k s d ∧ shareN k s d ≤ 1074790400 := by
  have h1 := baseN_le k d
  have h2 := moreN_le k s d hs
  unfold shareN
  omega
theorem tableL_len (k s : Nat) : (tableL k s).length = k := by simp [tableL]
theorem tableL_get (k s i : Nat) (h : i < k) : (tableL k s).getD i 0 = ((shareN k s (i + 1) : Nat) : Int) := by
  simp [tableL, List.getD_eq_getElem?_getD, h]
theorem tableL_sum (k s : Nat) (hk : k ≤ 128) (hs : s ≤ 128) : sumZ (tableL k s) ≤ 137573171200 := by
  have := sumZ_le 1074790400 (tableL k s) (fun x hx => by
    obtain ⟨i, _, rfl⟩ := List.mem_map.1 hx
    have := (shareN_le k s (i + 1) hs).2
    omega)
  rw [tableL_len] at this
  omega
theorem tableL_pos (k s : Nat) (hk : 1 ≤ k) (hs : s ≤ 128) : sumZ (tableL k s) ≠ 0 := by
  have h1 := sumZ_take (tableL k s) 0 (by rw [tableL_len]; omega)
  have h2 := sumZ_take_le (tableL k s) (0 + 1)
  rw [tableL_get k s 0 (by omega)] at h1
  have := (shareN_le k s (0 + 1) hs).1
  omega
/-- Without a spread: in sum about the whole. -/
theorem ideal : ∀ k, 1 ≤ k → k ≤ 128 → 1048576 ≤ sumZ (tableL k 0) + 2 * k ∧ sumZ (tableL k 0) ≤ 1048576 + k := by
  have h : ∀ k : Fin 129, 1 ≤ k.val → 1048576 ≤ sumZ (tableL k.val 0) + 2 * k.val ∧ sumZ (tableL k.val 0) ≤ 1048576 + k.val := by decide +kernel
  intro k h1 h2
  exact h ⟨k, by omega⟩ h1
theorem table_two : tableL 2 0 = [524288, 524288] := by decide +kernel
end Go.Proofs.YtigmckjjoabfeaaDoor
namespace Go.Proofs.YtigmckjjoabfeaaDoor
open Go.RowKit
set_option linter.unusedVariables false
set_option maxRecDepth 4000

def cellsZ (xs : List Int) : List Value := xs.map fun x => Value.int .i64 x
theorem cellsZ_length (xs : List Int) : (cellsZ xs).length = xs.length := by simp [cellsZ]
theorem cellsZ_get (xs : List Int) (i : Nat) (h : i < xs.length) : (cellsZ xs)[i]? = some (.int .i64 (xs.getD i 0)) := by
  simp [cellsZ, List.getElem?_eq_getElem h, List.getD_eq_getElem?_getD]
theorem cellsZ_set (xs : List Int) (i : Nat) (x : Int) : (cellsZ xs).set i (.int .i64 x) = cellsZ (xs.set i x) := by
  simp [cellsZ, List.map_set]
/-- A slice of n ints that can be read: they are xs. -/
def IntzAt (w : World) (a : Option Addr) (n : Nat) (xs : List Int) : Prop :=
  xs.length = n ∧ (n = 0 ∨ ∃ b off, a = some ⟨b, off, none⟩ ∧ ∀ i, i < n → w.cell? ⟨b, off + i, none⟩ = some (.int .i64 (xs.getD i 0)))
theorem IntzAt.at {w : World} {a : Option Addr} {n : Nat} {xs : List Int} (h : IntzAt w a n xs) {i : Nat} (hi : i < n) :
    ∃ b off, a = some ⟨b, off, none⟩ ∧ ∀ i, i < n → w.cell? ⟨b, off + i, none⟩ = some (.int .i64 (xs.getD i 0)) := by
  rcases h.2 with h0 | h0
  · omega
  · exact h0
theorem IntzAt.below {w w' : World} {a : Option Addr} {n : Nat} {xs : List Int} (h : IntzAt w a n xs) (hb : Below w.heap.size w w') : IntzAt w' a n xs := by
  refine ⟨h.1, ?_⟩
  rcases h.2 with h0 | ⟨b, off, rfl, hc⟩
  · exact .inl h0
  · exact .inr ⟨b, off, rfl, fun i hi => (hb.cell (World.block_lt_of_cell? w _ (hc i hi))).trans (hc i hi)⟩
theorem IntzAt.none (w : World) (a : Option Addr) : IntzAt w a 0 [] := ⟨rfl, .inl rfl⟩
/-- A slice of ints of the call's own. -/
def OwnZ (w : World) (B : Nat) (v : Value) (xs : List Int) : Prop := w.ownsRow B 3 1 v xs.length (cellsZ xs)
theorem OwnZ.ints {w : World} {B : Nat} {v : Value} {xs : List Int} (h : OwnZ w B v xs) : ∃ a c, v = .slice a xs.length c ∧ IntzAt w a xs.length xs := by
  have ho' : w.ownsRow B 3 1 v xs.length (cellsZ xs) := h
  rcases h.2 with ⟨rfl, h0⟩ | ⟨g, cap, cur, rfl, hb, hg, hn, hm, hsz, ht⟩
  · exact ⟨Option.none, 0, by rw [h0], rfl, .inl h0⟩
  · refine ⟨_, cap, rfl, rfl, .inr ⟨g, 0, rfl, fun i hi => ?_⟩⟩
    rw [Nat.zero_add, ho'.cellAt i (by omega), cellsZ_get xs i hi]
theorem OwnZ.nil (w : World) (B : Nat) : OwnZ w B (.slice none 0 0) [] := World.ownsRow_nil _ _ _ _
theorem OwnZ.mono {w : World} {B B' : Nat} {v : Value} {xs : List Int} (h : OwnZ w B v xs) (hB : B' ≤ B) : OwnZ w B' v xs := by
  refine ⟨h.1, ?_⟩
  rcases h.2 with h0 | ⟨g, cap, cur, h1, hb, r⟩
  · exact .inl h0
  · exact .inr ⟨g, cap, cur, h1, Nat.le_trans hB hb, r⟩
theorem OwnZ.below {w w' : World} {B : Nat} {v : Value} {xs : List Int} (h : OwnZ w B v xs) (hb : Below w.heap.size w w') : OwnZ w' B v xs := by
  refine ⟨h.1, ?_⟩
  rcases h.2 with h0 | ⟨g, cap, cur, h1, hg, hgg, r⟩
  · exact .inl h0
  · exact .inr ⟨g, cap, cur, h1, hg, (hb.block g (Array.getElem?_eq_some_iff.1 hgg).1).trans hgg, r⟩
theorem OwnZ.at {w : World} {B : Nat} {v : Value} {xs : List Int} (h : OwnZ w B v xs) (hn : 0 < xs.length) :
    ∃ g cap, v = .slice (some ⟨g, 0, none⟩) xs.length cap ∧ B ≤ g ∧ g < w.heap.size ∧ (∀ i, i < xs.length → w.cell? ⟨g, i, none⟩ = some (.int .i64 (xs.getD i 0))) ∧ ∀ i, w.frozen? ⟨g, i, none⟩ = false := by
  have ho' : w.ownsRow B 3 1 v xs.length (cellsZ xs) := h
  rcases h.2 with ⟨rfl, h0⟩ | ⟨g, cap, cur, rfl, hb, hg, hn, hm, hsz, ht⟩
  · omega
  · refine ⟨g, cap, rfl, hb, (Array.getElem?_eq_some_iff.1 hg).1, fun i hi => ?_, fun i => ho'.frozenAt i⟩
    rw [ho'.cellAt i (by omega), cellsZ_get xs i hi]
theorem OwnZ.stored {w : World} {B g cap n : Nat} {xs : List Int} (h : OwnZ w B (.slice (some ⟨g, 0, none⟩) n cap) xs) (i : Nat) (x : Int) :
    OwnZ (w.setCell ⟨g, i, none⟩ (.int .i64 x)) B (.slice (some ⟨g, 0, none⟩) n cap) (xs.set i x) := by
  obtain rfl : n = xs.length := by
    obtain ⟨a, c, e, _⟩ := h.ints
    simp only [Value.slice.injEq] at e
    exact e.2.1
  have ho : w.ownsRow B 3 1 (.slice (some ⟨g, 0, none⟩) xs.length cap) xs.length (cellsZ xs) := h
  have := (ho.stored i (.int .i64 x)).1
  rw [cellsZ_set] at this
  show World.ownsRow _ B 3 1 _ (xs.set i x).length _
  rw [List.length_set]
  exact this
theorem info_intZ : (Tryd.prog.info? 3).map (fun i => (i.zero, i.size, i.bytes)) = some (some (.int .i64 0), 1, 8) := by kernel_rfl
theorem made_intz (w : World) (n : Nat) (hn : n ≤ 1048576) (xs : List Int) (hxs : xs = List.replicate n 0) :
    OwnZ (w.alloc (.cells (madeCells #[.int .i64 0] n) 3)) w.heap.size (.slice (some ⟨w.heap.size, 0, none⟩) n n) xs := by
  subst hxs
  refine ⟨by simp [cellsZ], .inr ⟨w.heap.size, n, madeCells #[.int .i64 0] n, by simp, Nat.le_refl _, heap_alloc_new w _, by simp, by unfold maxLen; omega, by simp [size_madeCells], ?_⟩⟩
  rw [toList_madeCells_one, List.take_of_length_le (by simp)]
  simp [cellsZ]
theorem make_intz (n : Nat) (hn : n ≤ 1048576) (wx : World) : (Instr.makeSlice 74 (.int .i64 (n : Int)) (.int .i64 (n : Int))).run Tryd.prog wx = .ok (.slice (some ⟨wx.heap.size, 0, none⟩) n n) (wx.alloc (.cells (madeCells #[.int .i64 0] n) 3)) := by
  obtain ⟨i0, hi0, hz0, hzs, hzb⟩ := info_parts info_intZ
  have := run_make (P := Tryd.prog) wx 74 3 i0 (.int .i64 0) Tryd.underlying74 hi0 hz0 .i64 .i64 (n : Int) (n : Int) (by omega) (Int.le_refl _) (by rw [hzb]; omega) (by omega)
  rw [hzs] at this
  simpa [Value.cells] using this
/-- What is written so far. -/
def filledZ (fs : List Int) (k : Nat) : List Int := fs.take k ++ List.replicate (fs.length - k) 0
theorem filledZ_zero (fs : List Int) : filledZ fs 0 = List.replicate fs.length 0 := by simp [filledZ]
theorem filledZ_all (fs : List Int) : filledZ fs fs.length = fs := by simp [filledZ]
theorem filledZ_length (fs : List Int) (k : Nat) (hk : k ≤ fs.length) : (filledZ fs k).length = fs.length := by simp [filledZ]; omega
theorem filledZ_succ (fs : List Int) (k : Nat) (hk : k < fs.length) : (filledZ fs k).set k (fs.getD k 0) = filledZ fs (k + 1) := by
  unfold filledZ
  have hl : (fs.take k).length = k := by simp; omega
  rw [List.set_append_right _ _ (by omega), hl, Nat.sub_self, List.take_succ_eq_append_getElem hk, List.append_assoc, show fs.length - k = (fs.length - (k + 1)) + 1 by omega, List.replicate_succ, List.set_cons_zero]
  simp [List.getD_eq_getElem?_getD, List.getElem?_eq_getElem hk]
/-- 'append(own, x)'. -/
theorem wpList_pushZ {w : World} {ops : Array Oper} {rest : List Oper} {o : Oper} {act : Act} {Q : Exit → Act → World → Prop} (hgd : o.guard = none) (s x : Operand)
    (ho : o.op = .call { callee := .builtin .append, args := #[s, x], argTypes := #[74, 74] }) (B : Nat) (v : Value) (xs : List Int) (y : Int)
    (hs : act.eval s = v) (hx : act.eval x = .slice (some ⟨w.heap.size, 0, none⟩) 1 1) (h : OwnZ w B v xs) (hB : B ≤ w.heap.size) (hn : xs.length ≤ 1048576)
    (hK : ∀ s' w', OwnZ w' B s' (xs ++ [y]) → Below B w w' → wpList Tryd.prog ops Q rest (act.put o.dst s') w') : wpList Tryd.prog ops Q (o :: rest) act (w.alloc (.cells #[.int .i64 y] 3)) := by
  obtain ⟨i0, hi, hz0, hz1, hz2⟩ := info_parts info_intZ
  have hb : Below w.heap.size w (w.alloc (.cells #[.int .i64 y] 3)) := (Below.refl _ _).alloc (Nat.le_refl _) _
  have h1 : (w.alloc (.cells #[.int .i64 y] 3)).ownsRow B 3 1 v xs.length (cellsZ xs) := h.below hb
  refine wpList_append_own _ hgd s x 74 ho B 3 i0 (.int .i64 0) 1 8 Tryd.underlying74 hi hz0 hz1 hz2 rfl (by decide) v xs.length (cellsZ xs) hs h1 ⟨w.heap.size, 0, none⟩ 1 1 [.int .i64 y] hx rfl (fun j u hj => ?_)
    (fun u hu => by rw [List.mem_singleton.1 hu]; rfl) (by unfold maxLen; omega) (by omega) (Nat.le_trans hB hb.size) ?_
  · match j with
    | 0 =>
      have hc : (w.alloc (.cells #[.int .i64 y] 3)).cell? ⟨w.heap.size, 0, none⟩ = some (.int .i64 y) := by rw [World.cell?_alloc_at _ _ _ _ rfl]; rfl
      simpa [Addr.add, hc] using hj
    | j + 1 => simp at hj
  · intro v' w' hown hgrow _
    refine hK v' w' ?_ ((hb.mono hB).grown hgrow (Nat.le_trans hB hb.size) fun k hk => (h1.lt k hk).1)
    rw [show cellsZ xs ++ [.int .i64 y] = cellsZ (xs ++ [y]) by simp [cellsZ]] at hown
    show w'.ownsRow B 3 1 v' (xs ++ [y]).length (cellsZ (xs ++ [y]))
    rw [List.length_append]
    exact hown
theorem intz_lit2 (w : World) (x y : Int) : IntzAt (w.alloc (.cells #[.int .i64 x, .int .i64 y] 3)) (some ⟨w.heap.size, 0, Option.none⟩) 2 [x, y] := by
  refine ⟨rfl, .inr ⟨w.heap.size, 0, rfl, fun i hi => ?_⟩⟩
  match i, hi with
  | 0, _ => simp
  | 1, _ => simp
theorem intz_lit3 (w : World) (x y z : Int) : IntzAt (w.alloc (.cells #[.int .i64 x, .int .i64 y, .int .i64 z] 3)) (some ⟨w.heap.size, 0, Option.none⟩) 3 [x, y, z] := by
  refine ⟨rfl, .inr ⟨w.heap.size, 0, rfl, fun i hi => ?_⟩⟩
  match i, hi with
  | 0, _ => simp
  | 1, _ => simp
  | 2, _ => simp
/-- 'max(0, x)', 'max(x, 0)'. -/
theorem max0_run (x : Int) (ts : Array TypeId) (t : TypeId) (w : World) : (Builtin.max_ ts t #[.int .i64 0, .int .i64 x]).run Tryd.prog w = .ok (.int .i64 ((x.toNat : Nat) : Int)) w := by
  rw [run_max_int2]
  congr 2
  split <;> omega
theorem max0_run' (x : Int) (ts : Array TypeId) (t : TypeId) (w : World) : (Builtin.max_ ts t #[.int .i64 x, .int .i64 0]).run Tryd.prog w = .ok (.int .i64 ((x.toNat : Nat) : Int)) w := by
  rw [run_max_int2]
  congr 2
  split <;> omega
theorem max1_run (x : Nat) (ts : Array TypeId) (t : TypeId) (w : World) : (Builtin.max_ ts t #[.int .i64 1, .int .i64 (x : Int)]).run Tryd.prog w = .ok (.int .i64 ((max 1 x : Nat) : Int)) w := by
  rw [run_max_int2]
  congr 2
  split <;> omega
theorem max1_run' (x : Nat) (ts : Array TypeId) (t : TypeId) (w : World) : (Builtin.max_ ts t #[.int .i64 (x : Int), .int .i64 1]).run Tryd.prog w = .ok (.int .i64 ((max 1 x : Nat) : Int)) w := by
  rw [run_max_int2]
  congr 2
  split <;> omega
end Go.Proofs.YtigmckjjoabfeaaDoor
namespace Go.Proofs.YtigmckjjoabfeaaDoor
open Go.RowKit
set_option linter.unusedVariables false
set_option maxRecDepth 4000

end Go.Proofs.YtigmckjjoabfeaaDoor
namespace Go.Proofs.YtigmckjjoabfeaaDoor
open Go.RowKit
set_option linter.unusedVariables false
set_option maxRecDepth 4000


set_option maxHeartbeats 400000 in
theorem sum_any (a : Option Addr) (n c : Nat) (xs : List Int) (w : World) (h : IntzAt w a n xs) (hn : n ≤ 1048576) (hs : sumZ xs ≤ 4611686018427387904) :
    Calls Tryd.prog 50 #[.slice a n c] w fun e w' => e = .returned (.int .i64 ((sumZ xs : Nat) : Int)) ∧ w' = w := by
  obtain rfl : n = xs.length := h.1.symm
  obtain ⟨S, hS⟩ : ∃ S, sumZ xs = S := ⟨_, rfl⟩
  have HE := hide (show sumZ (xs.take xs.length) = S by rw [List.take_length]; exact hS)
  have HL := hide (fun k => Nat.le_trans (sumZ_take_le xs k) (Nat.le_of_eq hS))
  have HT := hide (fun k hk => sumZ_take xs k hk)
  rw [hS] at hs ⊢
  clear hS
  go_enter Tryd.func50, Tryd.ntmps50
  go_wp2
  go_loop [3, 8] (fun t i => ∃ k q : Nat, k ≤ xs.length ∧ i = .int .i64 k ∧ t = .int .i64 (q : Int) ∧ Hid (q = sumZ (xs.take k))) (fun _ i => xs.length - (intOf i).toNat)
  case atStart => exact ⟨0, 0, Nat.zero_le _, rfl, rfl, hide rfl⟩
  case round =>
    obtain ⟨k, q, hk, rfl, rfl, HQ⟩ := hrel
    by_cases hlt : k < xs.length
    · obtain ⟨b, off, rfl, hc⟩ := h.at hlt
      have hcell := hc k hlt
      have ht := unhide HT k hlt
      have hle := unhide HL (k + 1)
      rw [← unhide HQ] at ht
      rw [ht] at hle
      have HQ1 := hide ht
      clear hc h HT HL HE HQ ht
      generalize xs.getD k 0 = x at *
      have hm := max0_run x
      generalize x.toNat = z at *
      go_wp2
      go_round
      case rel => exact ⟨k + 1, q + z, by omega, by go_num, by go_num, hide (unhide HQ1).symm⟩
      case measure => simp [intOf]; omega
    · obtain rfl : k = xs.length := by omega
      have HR := hide ((unhide HQ).trans (unhide HE))
      clear h HT HL HE HQ
      go_wp2
      go_ret
      exact ⟨ret_int (by rw [unhide HR]), rfl⟩

set_option maxHeartbeats 400000 in
theorem sum10_any (a : Option Addr) (n c : Nat) (xs : List Int) (w : World) (h : IntzAt w a n xs) (hn : n ≤ 1048576) (hs : sumZ xs ≤ 4611686018427387904) :
    Calls Tryd.prog 62 #[.slice a n c] w fun e w' => e = .returned (.int .i64 ((sumZ xs : Nat) : Int)) ∧ w' = w := by
  obtain rfl : n = xs.length := h.1.symm
  obtain ⟨S, hS⟩ : ∃ S, sumZ xs = S := ⟨_, rfl⟩
  have HE := hide (show sumZ (xs.take xs.length) = S by rw [List.take_length]; exact hS)
  have HL := hide (fun k => Nat.le_trans (sumZ_take_le xs k) (Nat.le_of_eq hS))
  have HT := hide (fun k hk => sumZ_take xs k hk)
  rw [hS] at hs ⊢
  clear hS
  go_enter Tryd.func62, Tryd.ntmps62
  go_wp2
  go_loop [3, 4] (fun t i => ∃ k q : Nat, k ≤ xs.length ∧ i = .int .i64 k ∧ t = .int .i64 (q : Int) ∧ Hid (q = sumZ (xs.take k))) (fun _ i => xs.length - (intOf i).toNat)
  case atStart => exact ⟨0, 0, Nat.zero_le _, rfl, rfl, hide rfl⟩
  case round =>
    obtain ⟨k, q, hk, rfl, rfl, HQ⟩ := hrel
    by_cases hlt : k < xs.length
    · obtain ⟨b, off, rfl, hc⟩ := h.at hlt
      have hcell := hc k hlt
      have ht := unhide HT k hlt
      have hle := unhide HL (k + 1)
      rw [← unhide HQ] at ht
      rw [ht] at hle
      have HQ1 := hide ht
      clear hc h HT HL HE HQ ht
      generalize xs.getD k 0 = x at *
      have hm := max0_run' x
      generalize x.toNat = z at *
      go_wp2
      go_round
      case rel => exact ⟨k + 1, q + z, by omega, by go_num, by go_num, hide (unhide HQ1).symm⟩
      case measure => simp [intOf]; omega
    · obtain rfl : k = xs.length := by omega
      have HR := hide ((unhide HQ).trans (unhide HE))
      clear h HT HL HE HQ
      go_wp2
      go_ret
      exact ⟨ret_int (by rw [unhide HR]), rfl⟩

theorem getZ_le (l : List Int) (k : Nat) (hk : k < l.length) : (l.getD k 0).toNat ≤ sumZ l := by
  have h1 := sumZ_take l k hk
  have h2 := sumZ_take_le l (k + 1)
  omega

set_option maxHeartbeats 400000 in
theorem pick_any (a : Option Addr) (n c : Nat) (xs : List Int) (draw : Nat) (w : World) (h : IntzAt w a n xs) (hn : n ≤ 1048576) (hs : sumZ xs ≤ 4611686018427387904) (hd : draw < 18446744073709551616) :
    Calls Tryd.prog 28 #[.slice a n c, .int .u64 (draw : Int)] w fun e w' => e = .returned (.int .i64 ((pickD xs draw : Nat) : Int)) ∧ w' = w := by
  have HS := hide (sum_any a n c xs w h hn hs)
  obtain rfl : n = xs.length := h.1.symm
  obtain ⟨S, hS⟩ : ∃ S, sumZ xs = S := ⟨_, rfl⟩
  obtain ⟨R, hR⟩ : ∃ R, pickD xs draw = R := ⟨_, rfl⟩
  have H0 := hide (fun (h0 : S = 0) => hR.symm.trans (pickD_none (hS.trans h0) draw))
  have H1 := hide (fun (h1 : S ≠ 0) => hR.symm.trans (pickD_some (by rw [hS]; exact h1) draw))
  have HV := hide (fun k hk => Nat.le_trans (getZ_le xs k hk) (Nat.le_of_eq hS))
  rw [hS] at hs HS H1
  rw [hR]
  clear hS hR
  by_cases hz : S = 0
  · subst hz
    have HR := hide (unhide H0 rfl)
    clear H0 H1 h
    go_enter Tryd.func28, Tryd.ntmps28
    go_wp2_with (go_at_call 50; refine (unhide HS).mono ?_; rintro e w1 ⟨rfl, hw⟩; obtain rfl := hw.symm)
    go_ret
    exact ⟨ret_int (by rw [unhide HR]; rfl), rfl⟩
  · have HR := hide (unhide H1 hz)
    have hml : draw % S < S := Nat.mod_lt _ (by omega)
    have hmz : (draw : Int) % (S : Int) = ((draw % S : Nat) : Int) := by simp
    have hze : ((S : Int) == 0) = false := by simp; omega
    clear H0 H1
    generalize draw % S = x0 at *
    go_enter Tryd.func28, Tryd.ntmps28
    go_wp2_with (go_at_call 50; refine (unhide HS).mono ?_; rintro e w1 ⟨rfl, hw⟩; obtain rfl := hw.symm)
    go_loop [6, 20] (fun t i => ∃ k x : Nat, k ≤ xs.length ∧ i = .int .i64 k ∧ t = .int .u64 (x : Int) ∧ x ≤ x0 ∧ Hid (R = pickZ (xs.drop k) k x)) (fun _ i => xs.length - (intOf i).toNat)
    case atStart => exact ⟨0, x0, Nat.zero_le _, rfl, by first | rfl | rw [hmz], Nat.le_refl _, hide (unhide HR)⟩
    case round =>
      obtain ⟨k, x, hk, rfl, rfl, hx, HQ⟩ := hrel
      by_cases hlt : k < xs.length
      · obtain ⟨b, off, rfl, hc⟩ := h.at hlt
        have hcell := hc k hlt
        have HY := hide (fun hh => (unhide HQ).trans (pickZ_yes xs k x hlt hh))
        have HN := hide (fun hh => (unhide HQ).trans (pickZ_no xs k x hlt hh))
        clear hc h HQ HR HS
        have hsz := unhide HV k hlt
        clear HV
        generalize xs.getD k 0 = y at *
        have hm := max0_run y
        generalize y.toNat = z at *
        by_cases hxz : x < z
        · have HR := hide (unhide HY hxz)
          clear HY HN
          go_wp2
          go_ret
          exact ⟨ret_int (by rw [unhide HR]; go_num), rfl⟩
        · have HR := hide (unhide HN hxz)
          clear HY HN
          go_wp2
          go_round
          case rel => exact ⟨k + 1, x - z, by omega, by go_num, by go_num, by omega, HR⟩
          case measure => simp [intOf]; omega
      · obtain rfl : k = xs.length := by omega
        have HR := hide ((unhide HQ).trans (pickZ_end xs _ _))
        clear h HQ HS
        go_wp2
        go_ret
        exact ⟨ret_int (by rw [unhide HR]; rfl), rfl⟩

set_option maxHeartbeats 400000 in
theorem pick10_any (a : Option Addr) (n c : Nat) (xs : List Int) (draw : Nat) (w : World) (h : IntzAt w a n xs) (hn : n ≤ 1048576) (hs : sumZ xs ≤ 4611686018427387904) (hd : draw < 18446744073709551616) :
    Calls Tryd.prog 34 #[.slice a n c, .int .u64 (draw : Int)] w fun e w' => e = .returned (.int .i64 ((pickD xs draw : Nat) : Int)) ∧ w' = w := by
  have HS := hide (sum10_any a n c xs w h hn hs)
  obtain rfl : n = xs.length := h.1.symm
  obtain ⟨S, hS⟩ : ∃ S, sumZ xs = S := ⟨_, rfl⟩
  obtain ⟨R, hR⟩ : ∃ R, pickD xs draw = R := ⟨_, rfl⟩
  have H0 := hide (fun (h0 : S = 0) => hR.symm.trans (pickD_none (hS.trans h0) draw))
  have H1 := hide (fun (h1 : S ≠ 0) => hR.symm.trans (pickD_some (by rw [hS]; exact h1) draw))
  have HV := hide (fun k hk => Nat.le_trans (getZ_le xs k hk) (Nat.le_of_eq hS))
  rw [hS] at hs HS H1
  rw [hR]
  clear hS hR
  by_cases hz : S = 0
  · subst hz
    have HR := hide (unhide H0 rfl)
    clear H0 H1 h
    go_enter Tryd.func34, Tryd.ntmps34
    go_wp2_with (go_at_call 62; refine (unhide HS).mono ?_; rintro e w1 ⟨rfl, hw⟩; obtain rfl := hw.symm)
    go_ret
    exact ⟨ret_int (by rw [unhide HR]; rfl), rfl⟩
  · have HR := hide (unhide H1 hz)
    have hml : draw % S < S := Nat.mod_lt _ (by omega)
    have hmz : (draw : Int) % (S : Int) = ((draw % S : Nat) : Int) := by simp
    have hze : ((S : Int) == 0) = false := by simp; omega
    clear H0 H1
    generalize draw % S = x0 at *
    go_enter Tryd.func34, Tryd.ntmps34
    go_wp2_with (go_at_call 62; refine (unhide HS).mono ?_; rintro e w1 ⟨rfl, hw⟩; obtain rfl := hw.symm)
    go_loop [6, 7] (fun t i => ∃ k x : Nat, k ≤ xs.length ∧ i = .int .i64 k ∧ t = .int .i64 (x : Int) ∧ x ≤ x0 ∧ Hid (R = pickZ (xs.drop k) k x)) (fun _ i => xs.length - (intOf i).toNat)
    case atStart => exact ⟨0, x0, Nat.zero_le _, rfl, by first | rfl | rw [hmz], Nat.le_refl _, hide (unhide HR)⟩
    case round =>
      obtain ⟨k, x, hk, rfl, rfl, hx, HQ⟩ := hrel
      by_cases hlt : k < xs.length
      · obtain ⟨b, off, rfl, hc⟩ := h.at hlt
        have hcell := hc k hlt
        have HY := hide (fun hh => (unhide HQ).trans (pickZ_yes xs k x hlt hh))
        have HN := hide (fun hh => (unhide HQ).trans (pickZ_no xs k x hlt hh))
        clear hc h HQ HR HS
        have hsz := unhide HV k hlt
        clear HV
        generalize xs.getD k 0 = y at *
        have hm := max0_run' y
        generalize y.toNat = z at *
        by_cases hxz : x < z
        · have HR := hide (unhide HY hxz)
          clear HY HN
          go_wp2
          go_ret
          exact ⟨ret_int (by rw [unhide HR]; go_num), rfl⟩
        · have HR := hide (unhide HN hxz)
          clear HY HN
          go_wp2
          go_round
          case rel => exact ⟨k + 1, x - z, by omega, by go_num, by go_num, by omega, HR⟩
          case measure => simp [intOf]; omega
      · obtain rfl : k = xs.length := by omega
        have HR := hide ((unhide HQ).trans (pickZ_end xs _ _))
        clear h HQ HS
        go_wp2
        go_ret
        exact ⟨ret_int (by rw [unhide HR]; rfl), rfl⟩
end Go.Proofs.YtigmckjjoabfeaaDoor
