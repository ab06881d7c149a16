/-
  Plain mathematics of choosing rows: a distance ('distZ'), the first row that brings the degree nearest ('nearTo', 'near_is'), what is chosen step by step ('chTo') and what always holds of it; the xor of what is chosen ('sumCh'). No condition.
  Plain lists for draws: the n-th draw of a list ('drawN'), numbers taken one after the other of those that are left ('leftL', 'picksL'), the same rising ('distL'), and what is taken by marks ('untaken', 'marked'). No condition.
  Plain mathematics of what is chosen as a list of places ('Chn'): it is what 'chTo' holds, its sort is 'placesCh'; a degree that is told from the words that meet ('deg_with'); a distance as a number without sign. No condition.
-/
import Derived.Test.YtbcgiodgobmkaaaGreatDoorU14
import Derived.Test.YtbcgiodgobmkaaaGreatDoorU3
import Derived.Test.YtbcgiodgobmkaaaGreatDoorU8
import Derived.Test.YtbcgiodgobmkaaaGreatDoorU0
namespace Go.Proofs.YtbcgiodgobmkaaaGreatDoor
open Go.RowKit
set_option linter.unusedVariables false
set_option linter.unusedSimpArgs false
set_option maxRecDepth 4000

/-- The distance of two numbers. -/
def distZ (d : Nat) (t : Int) : Int := if (d : Int) < t then t - d else d - t
theorem distZ_pos (d : Nat) (t : Int) : 0 ≤ distZ d t := by unfold distZ; split <;> omega
/-- The degree that row i brings. -/
def brD (V : List (List Nat)) (v : List Nat) (i : Nat) : Nat := cnt (xorL v (V.getD i []))
/-- May row i be chosen, and is it nearer than z? -/
def nearer (V : List (List Nat)) (ch : List Bool) (v : List Nat) (t : Int) (i : Nat) (z : Int) : Prop := ch.getD i false = false ∧ 0 < brD V v i ∧ distZ (brD V v i) t < z
def nearerD (V : List (List Nat)) (ch : List Bool) (v : List Nat) (t : Int) (i : Nat) (z : Int) : Decidable (nearer V ch v t i z) :=
  inferInstanceAs (Decidable (ch.getD i false = false ∧ 0 < brD V v i ∧ distZ (brD V v i) t < z))
/-- The best of the first i rows, and how near that is. -/
def nearTo (V : List (List Nat)) (ch : List Bool) (v : List Nat) (t : Int) : Nat → Option Nat × Int
  | 0 => (none, distZ (cnt v) t)
  | i + 1 => @ite _ (nearer V ch v t i (nearTo V ch v t i).2) (nearerD V ch v t i (nearTo V ch v t i).2) (some i, distZ (brD V v i) t) (nearTo V ch v t i)
theorem nearTo_yes {V : List (List Nat)} {ch : List Bool} {v : List Nat} {t : Int} {i : Nat} (h : nearer V ch v t i (nearTo V ch v t i).2) : nearTo V ch v t (i + 1) = (some i, distZ (brD V v i) t) := by
  exact if_pos h
theorem nearTo_no {V : List (List Nat)} {ch : List Bool} {v : List Nat} {t : Int} {i : Nat} (h : ¬ nearer V ch v t i (nearTo V ch v t i).2) : nearTo V ch v t (i + 1) = nearTo V ch v t i := by
  exact if_neg h
/-- What the best is: nothing is nearer than it is, or the first one of the nearest. -/
theorem near_spec (V : List (List Nat)) (ch : List Bool) (v : List Nat) (t : Int) : ∀ n, (nearTo V ch v t n).2 ≤ distZ (cnt v) t ∧ (∀ j, j < n → ¬ nearer V ch v t j (nearTo V ch v t n).2) ∧
    match (nearTo V ch v t n).1 with
    | none => (nearTo V ch v t n).2 = distZ (cnt v) t
    | some b => b < n ∧ nearer V ch v t b (distZ (cnt v) t) ∧ (nearTo V ch v t n).2 = distZ (brD V v b) t ∧ ∀ j, j < b → ¬ nearer V ch v t j (distZ (brD V v b) t + 1)
  | 0 => ⟨Int.le_refl _, fun j hj => by omega, rfl⟩
  | n + 1 => by
    obtain ⟨h1, h2, h3⟩ := near_spec V ch v t n
    by_cases h : nearer V ch v t n (nearTo V ch v t n).2
    · rw [nearTo_yes h]
      refine ⟨by have := h.2.2; omega, fun j hj hn => ?_, by omega, ⟨h.1, h.2.1, by have := h.2.2; omega⟩, rfl, fun j hj hn => h2 j hj ⟨hn.1, hn.2.1, by have := hn.2.2; have := h.2.2; omega⟩⟩
      rcases Nat.lt_or_ge j n with e | e
      · exact h2 j e ⟨hn.1, hn.2.1, Int.lt_trans hn.2.2 h.2.2⟩
      · obtain rfl : j = n := by omega
        have := hn.2.2
        dsimp only at this
        omega
    · rw [nearTo_no h]
      refine ⟨h1, fun j hj => ?_, ?_⟩
      · rcases Nat.lt_or_ge j n with e | e
        · exact h2 j e
        · obtain rfl : j = n := by omega
          exact h
      · cases hb : (nearTo V ch v t n).1 with
        | none => rw [hb] at h3; exact h3
        | some b => rw [hb] at h3; exact ⟨by have := h3.1; omega, h3.2⟩

theorem set_at {ch : List Bool} {b : Nat} {x : Bool} (hl : b < ch.length) : (ch.set b x).getD b false = x := by
  rw [List.getD_eq_getElem?_getD, List.getElem?_set_self hl]
  rfl
theorem set_else {ch : List Bool} {b i : Nat} {x : Bool} (h : i ≠ b) : (ch.set b x).getD i false = ch.getD i false := by
  rw [List.getD_eq_getElem?_getD, List.getD_eq_getElem?_getD, List.getElem?_set_ne (fun e => h e.symm)]
/-- The places that are chosen, rising. -/
def placesCh (ch : List Bool) (n : Nat) : List Nat := (List.range n).filter fun i => ch.getD i false
theorem places_succ (ch : List Bool) (n : Nat) : placesCh ch (n + 1) = if ch.getD n false = true then placesCh ch n ++ [n] else placesCh ch n := by
  unfold placesCh
  rw [List.range_succ, List.filter_append, List.filter_cons, List.filter_nil]
  cases ch.getD n false
  · rw [if_neg (by decide), if_neg (by decide), List.append_nil]
  · rw [if_pos rfl, if_pos rfl]
theorem places_rise (ch : List Bool) (n : Nat) : (placesCh ch n).Pairwise (· < ·) := List.Pairwise.filter _ List.pairwise_lt_range
theorem places_mem {ch : List Bool} {n i : Nat} : i ∈ placesCh ch n ↔ i < n ∧ ch.getD i false = true := by
  unfold placesCh
  rw [List.mem_filter, List.mem_range]

/-- What is chosen, and its xor. -/
structure CS where
  ch : List Bool
  v : List Nat
def chStep (V : List (List Nat)) (t : Int) (s : CS) : CS := match (nearTo V s.ch s.v t V.length).1 with
  | none => s
  | some b => ⟨s.ch.set b true, xorL s.v (V.getD b [])⟩
/-- What is chosen behind k steps, from place p on. -/
def chTo (V : List (List Nat)) (t : Int) (p : Nat) : Nat → CS
  | 0 => ⟨(List.replicate V.length false).set p true, V.getD p []⟩
  | k + 1 => chStep V t (chTo V t p k)
theorem step_none {V : List (List Nat)} {t : Int} {s : CS} (h : (nearTo V s.ch s.v t V.length).1 = none) : chStep V t s = s := by unfold chStep; rw [h]
theorem step_some {V : List (List Nat)} {t : Int} {s : CS} {b : Nat} (h : (nearTo V s.ch s.v t V.length).1 = some b) : chStep V t s = ⟨s.ch.set b true, xorL s.v (V.getD b [])⟩ := by unfold chStep; rw [h]
/-- Where no more is chosen, that is the end. -/
theorem chTo_end {V : List (List Nat)} {t : Int} {p k : Nat} (h : (nearTo V (chTo V t p k).ch (chTo V t p k).v t V.length).1 = none) : ∀ j, chTo V t p (k + j) = chTo V t p k
  | 0 => rfl
  | j + 1 => by
    show chStep V t (chTo V t p (k + j)) = _
    rw [chTo_end h j, step_none h]
end Go.Proofs.YtbcgiodgobmkaaaGreatDoor
namespace Go.Proofs.YtbcgiodgobmkaaaGreatDoor
set_option linter.unusedVariables false
set_option linter.unusedSimpArgs false
set_option maxRecDepth 4000

/-- The n-th draw, from 1 on. -/
def drawN (L : List Nat) (n : Nat) : Nat := if n ≤ L.length then L.getD (n - 1) 0 else n * 11400714819323198485 % 18446744073709551616
theorem drawN_in {L : List Nat} {n : Nat} (h : n < L.length) : drawN L (n + 1) = L.getD n 0 := by
  unfold drawN
  rw [if_pos (by omega), Nat.add_sub_cancel]
theorem drawN_out {L : List Nat} {n : Nat} (h : L.length < n) : drawN L n = n * 11400714819323198485 % 18446744073709551616 := by
  unfold drawN
  rw [if_neg (by omega)]
theorem drawN_lt {L : List Nat} (h : smalls L) (n : Nat) : drawN L n < 18446744073709551616 := by
  unfold drawN
  split
  · exact h.get _
  · omega

def castZ (l : List Nat) : List Int := l.map fun (x : Nat) => (x : Int)
theorem castZ_length (l : List Nat) : (castZ l).length = l.length := by simp [castZ]
theorem castZ_getD (l : List Nat) (i : Nat) : (castZ l).getD i 0 = ((l.getD i 0 : Nat) : Int) := by
  simp only [castZ, List.getD_eq_getElem?_getD, List.getElem?_map]
  cases l[i]? <;> rfl
theorem castZ_append (l m : List Nat) : castZ (l ++ m) = castZ l ++ castZ m := by simp [castZ]

end Go.Proofs.YtbcgiodgobmkaaaGreatDoor
namespace Go.Proofs.YtbcgiodgobmkaaaGreatDoor
open Go.RowKit
set_option linter.unusedVariables false
set_option linter.unusedSimpArgs false
set_option maxRecDepth 4000

/-- The places as they were chosen, and the marks: the same. -/
structure Chn (n : Nat) (ch : List Bool) (ps : List Nat) : Prop where
  len : ch.length = n
  nodup : ps.Nodup
  lt : ∀ i ∈ ps, i < n
  mem : ∀ i, i < n → ch.getD i false = decide (i ∈ ps)
theorem chn_one {n p : Nat} (hp : p < n) : Chn n ((List.replicate n false).set p true) [p] := by
  refine ⟨by rw [List.length_set, List.length_replicate], by simp, fun i hi => by rw [List.mem_singleton.1 hi]; exact hp, fun i hi => ?_⟩
  by_cases e : i = p
  · subst e
    rw [set_at (by rw [List.length_replicate]; exact hi)]
    simp
  · rw [set_else e, List.getD_eq_getElem?_getD, List.getElem?_replicate, if_pos hi]
    simp [e]
theorem Chn.snoc {n : Nat} {ch : List Bool} {ps : List Nat} (h : Chn n ch ps) {b : Nat} (hb : b < n) (hf : ch.getD b false = false) : Chn n (ch.set b true) (ps ++ [b]) := by
  have hn : b ∉ ps := by
    have := h.mem b hb
    rw [hf] at this
    exact fun e => by rw [decide_eq_true e] at this; cases this
  refine ⟨by rw [List.length_set, h.len], ?_, fun i hi => ?_, fun i hi => ?_⟩
  · rw [List.nodup_append]
    refine ⟨h.nodup, by simp, fun a ha c hc e => hn ?_⟩
    rw [← List.mem_singleton.1 hc, ← e]
    exact ha
  · rcases List.mem_append.1 hi with e | e
    · exact h.lt i e
    · rw [List.mem_singleton.1 e]; exact hb
  · by_cases e : i = b
    · subst e
      rw [set_at (by rw [h.len]; exact hi)]
      simp
    · rw [set_else e, h.mem i hi]
      simp [e]
theorem Chn.many {n : Nat} {ch : List Bool} {ps : List Nat} (h : Chn n ch ps) : ps.Perm (placesCh ch n) := by
  have h2 : (placesCh ch n).Nodup := (places_rise ch n).imp fun h => Nat.ne_of_lt h
  refine (List.perm_ext_iff_of_nodup h.nodup h2).2 fun i => ?_
  rw [places_mem]
  constructor
  · intro hi
    exact ⟨h.lt i hi, by rw [h.mem i (h.lt i hi)]; exact decide_eq_true hi⟩
  · rintro ⟨h3, h4⟩
    rw [h.mem i h3] at h4
    exact of_decide_eq_true h4
theorem Chn.sort {n : Nat} {ch : List Bool} {ps : List Nat} (h : Chn n ch ps) : (castZ ps).mergeSort (fun x y => decide (x ≤ y)) = castZ (placesCh ch n) := by
  have hp : ((castZ ps).mergeSort fun x y => decide (x ≤ y)).Perm (castZ (placesCh ch n)) := (List.mergeSort_perm _ _).trans (h.many.map _)
  refine List.Perm.eq_of_pairwise (le := fun x y : Int => x ≤ y) (fun a b _ _ h1 h2 => Int.le_antisymm h1 h2) ?_ ?_ hp
  · have := List.pairwise_mergeSort (le := fun x y : Int => decide (x ≤ y)) (fun a b c h1 h2 => by simp at *; omega) (fun a b => by simp; omega) (castZ ps)
    exact this.imp fun h => by simpa using h
  · exact List.Pairwise.map _ (fun a b hab => by omega) (places_rise ch n)
theorem has_cast (ps : List Nat) (i : Nat) : decide ((i : Int) ∈ castZ ps) = decide (i ∈ ps) := by
  have : ((i : Int) ∈ castZ ps) ↔ i ∈ ps := by
    unfold castZ
    rw [List.mem_map]
    constructor
    · rintro ⟨j, h1, h2⟩
      have : j = i := by omega
      rw [← this]; exact h1
    · exact fun h => ⟨i, h, rfl⟩
  simp only [this]
/-- The degree, told from the words that meet. -/
theorem deg_with (a v : List Nat) : cnt (a.take (min a.length v.length)) ≤ cnt a ∧ cnt a - cnt (a.take (min a.length v.length)) + cnt (xorL (a.take (min a.length v.length)) v) = cnt (xorL a v) := by
  have h1 : cnt (a.take (min a.length v.length)) + cnt (a.drop (min a.length v.length)) = cnt a := by rw [← cnt_append, List.take_append_drop]
  refine ⟨by omega, ?_⟩
  rcases Nat.lt_or_ge a.length v.length with h | h
  · rw [Nat.min_eq_left (Nat.le_of_lt h), List.take_length]
    omega
  · have h2 : xorL a v = xorL (a.take (min a.length v.length)) v ++ a.drop (min a.length v.length) := by
      rw [Nat.min_eq_right h]
      apply ext_getD
      · rw [xorL_length, List.length_append, xorL_length, List.length_take, List.length_drop]
        omega
      · intro i hi
        rw [xorL_getD, List.getD_eq_getElem?_getD (l := _ ++ _), List.getElem?_append]
        have hl : (xorL (a.take v.length) v).length = v.length := by rw [xorL_length, List.length_take]; omega
        rw [hl]
        by_cases e : i < v.length
        · rw [if_pos e, ← List.getD_eq_getElem?_getD, xorL_getD]
          congr 1
          rw [List.getD_eq_getElem?_getD, List.getD_eq_getElem?_getD, List.getElem?_take, if_pos e]
        · rw [if_neg e, getD_of_le (a := v) (by omega), Nat.xor_zero, List.getElem?_drop, List.getD_eq_getElem?_getD]
          congr 2
          omega
    have h3 : cnt (xorL a v) = cnt (xorL (a.take (min a.length v.length)) v) + cnt (a.drop (min a.length v.length)) := by rw [h2, cnt_append]
    omega
/-- The distance as a number without sign. -/
def distN (d : Nat) (t : Int) : Nat := (distZ d t).toNat
theorem distN_cast (d : Nat) (t : Int) : ((distN d t : Nat) : Int) = distZ d t := Int.toNat_of_nonneg (distZ_pos d t)
/-- What is chosen at last: behind 31 steps, or earlier, where no more is. -/
theorem chTo_last {V : List (List Nat)} {t : Int} {p k : Nat} (hk : k ≤ 31) (h : (nearTo V (chTo V t p k).ch (chTo V t p k).v t V.length).1 = none) : chTo V t p k = chTo V t p 31 := by
  have := chTo_end h (31 - k)
  rw [show k + (31 - k) = 31 by omega] at this
  exact this.symm
theorem chTo_len {V : List (List Nat)} {t : Int} {p : Nat} {m : Nat} (hV : ∀ i, (V.getD i []).length ≤ m) : ∀ k, (chTo V t p k).v.length ≤ m
  | 0 => hV p
  | k + 1 => by
    have ih := chTo_len (t := t) (p := p) hV k
    show (chStep V t (chTo V t p k)).v.length ≤ m
    unfold chStep
    split
    · exact ih
    · rename_i b _
      show (xorL _ _).length ≤ m
      rw [xorL_length]
      have := hV b
      omega
/-- The place where it begins. -/
def placeN (b : Int) (n : Nat) : Nat := ((b.tmod n + n).tmod n).toNat
theorem place_is (b : Int) {n : Nat} (hn : 0 < n) : ((placeN b n : Nat) : Int) = (b.tmod n + n).tmod n ∧ placeN b n < n := by
  have h1 : -(n : Int) < b.tmod n := by
    have := Int.lt_tmod_of_pos b (show (0 : Int) < n by omega)
    omega
  have h2 : 0 ≤ (b.tmod n + n).tmod n := Int.tmod_nonneg _ (by omega)
  have h3 : (b.tmod n + n).tmod n < n := Int.tmod_lt_of_pos _ (by omega)
  unfold placeN
  omega
end Go.Proofs.YtbcgiodgobmkaaaGreatDoor
