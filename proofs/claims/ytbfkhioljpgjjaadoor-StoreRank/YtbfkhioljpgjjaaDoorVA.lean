/-
  Contracts of words.from, words.Valid and bucketlineref01.Valid: for every int and every row.
-/
import Derived.Test.YtbfkhioljpgjjaaDoorSA
import Derived.Lib.SliceRun
namespace Go.Proofs.YtbfkhioljpgjjaaDoor
open Go.RowKit
set_option linter.unusedVariables false
set_option maxRecDepth 4000

def zer (xs : List Nat) : Nat → Nat → List Nat
  | _, 0 => xs
  | o, m + 1 => zer (xs.set o 0) (o + 1) m
theorem zer_length : ∀ (m o : Nat) (xs : List Nat), (zer xs o m).length = xs.length
  | 0, _, _ => rfl
  | m + 1, o, xs => by rw [zer, zer_length m]; simp
theorem zer_getD : ∀ (m o : Nat) (xs : List Nat) (j : Nat), (zer xs o m).getD j 0 = if o ≤ j ∧ j < o + m then 0 else xs.getD j 0
  | 0, o, xs, j => by simp [zer]; omega
  | m + 1, o, xs, j => by
    rw [zer, zer_getD m (o + 1), getD_set]
    by_cases h1 : o + 1 ≤ j ∧ j < o + 1 + m
    · rw [if_pos h1, if_pos (by omega)]
    · rw [if_neg h1]
      by_cases h2 : j = o
      · subst h2
        rw [if_pos (c := j ≤ j ∧ j < j + (m + 1)) (by omega)]
        split
        · rfl
        · exact getD_of_le (by omega)
      · rw [if_neg (by omega), if_neg (by omega)]
theorem Own.cleared {B g cap : Nat} : ∀ (m o : Nat) (xs : List Nat) (w : World), Own w B (.slice (some ⟨g, 0, none⟩) xs.length cap) xs →
    Own (w.setCells g o (List.replicate m (.int .u64 0))) B (.slice (some ⟨g, 0, none⟩) xs.length cap) (zer xs o m)
  | 0, _, _, _, h => h
  | m + 1, o, xs, w, h => by
    have h1 := h.stored o 0 (by decide)
    have h2 := Own.cleared m (o + 1) (xs.set o 0) (w.setCell ⟨g, o, none⟩ (.int .u64 0)) (by simpa using h1)
    rw [List.replicate_succ]
    have h3 : (xs.set o 0).length = xs.length := by simp
    rw [h3] at h2
    exact h2
theorem Below.cells {B g : Nat} {w0 : World} (hg : B ≤ g) : ∀ (vs : List Value) (o : Nat) (w : World), Below B w0 w → Below B w0 (w.setCells g o vs)
  | [], _, _, h => h
  | v :: r, o, w, h => Below.cells hg r (o + 1) (w.setCell ⟨g, o, none⟩ v) (h.setCell (by exact hg) v)

/-- The mask from bit r on. -/
def fmask (r : Nat) : Nat := 18446744073709551615 * 2 ^ r % 18446744073709551616
theorem fmask_lt (r : Nat) : fmask r < 18446744073709551616 := Nat.mod_lt _ (by decide)
theorem zero_u64 (w : World) : (zeroValue 46).run Tryd.prog w = .ok (.int .u64 0) w := by kernel_rfl

theorem clear_run {w1 : World} {B g cap : Nat} {xs : List Nat} {q : Nat} (ho : Own w1 B (.slice (some ⟨g, 0, none⟩) xs.length cap) xs) (hq : q ≤ xs.length) :
    ∀ ty, (Builtin.clear_ #[34] ty #[.slice (some ⟨g, 0, none⟩) q cap]).run Tryd.prog w1 = .ok (.tuple #[]) (w1.setCells g 0 (List.replicate q (.int .u64 0))) := by
  intro ty
  by_cases e : q = 0
  · subst e
    simp [Builtin.clear_, run_underlying Tryd.underlying34, World.setCells]
  · obtain ⟨g', cap', hv, _, _, hcg, hfg⟩ := ho.at (by omega)
    simp only [Value.slice.injEq, Option.some.injEq, Addr.mk.injEq, and_true, true_and] at hv
    obtain ⟨rfl, rfl⟩ := hv
    exact Lib.run_clear_slice w1 34 46 ty (.int .u64 0) Tryd.underlying34 zero_u64 rfl rfl g 0 q cap (by omega) (fun j hj => by rw [Nat.zero_add, hcg j (by omega)]; rfl) (fun j hj => by rw [Nat.zero_add]; exact hfg j)

theorem from_num (x r : Nat) (hx : x < 18446744073709551616) : bits .and .u64 (x : Int) (IntKind.u64.wrap (18446744073709551615 * 2 ^ r)) = ((x &&& fmask r : Nat) : Int) := by
  have e : IntKind.u64.wrap (18446744073709551615 * 2 ^ r) = ((fmask r : Nat) : Int) := by
    rw [IntKind.wrap_u64]; unfold fmask; simp
  rw [e, u64_and_nat x _ hx (fmask_lt r)]

set_option maxHeartbeats 1000000 in
theorem from_lt (a : Option Addr) (n c : Nat) (xs : List Nat) (k : Int) (q : Nat) (w : World) (h : RowAt w a n xs) (hn : n ≤ 1048576) (h0 : 0 ≤ k) (hk : k ≤ 9223372036854775807) (hq : k / 64 = (q : Int)) (hqn : q < n) :
    Calls Tryd.prog 48 #[.slice a n c, .int .i64 k] w fun e w' => ∃ v, e = .returned v ∧ Own w' w.heap.size v ((zer xs 0 q).set q (xs.getD q 0 &&& fmask (k % 64).toNat)) ∧ Below w.heap.size w w' := by
  obtain rfl : n = xs.length := h.1.symm
  have hqw := div_wrap k q h0 hk hq
  have hql' : (q : Int) < (xs.length : Int) := by omega
  go_enter Tryd.func48, Tryd.ntmps48
  go_wp2_with fail
  refine (clone_any a xs.length c xs _ h (by omega)).mono ?_
  rintro e w1 ⟨v, rfl, ho, hb⟩
  obtain ⟨g, cap, rfl, hBg, hgs, hcg, hfg⟩ := ho.at (by omega)
  have hcap := ho.cap
  have hcl := clear_run ho (by omega : q ≤ xs.length)
  have ho2 := Own.cleared q 0 xs w1 ho
  have hb2 := Below.cells (w0 := w) hBg (List.replicate q (.int .u64 0)) 0 w1 hb
  generalize w1.setCells g 0 (List.replicate q (.int .u64 0)) = w2 at *
  have hlz := zer_length q 0 xs
  rw [← hlz] at ho2
  obtain ⟨g', cap', hv, _, hgs2, hcg2, hfg2⟩ := ho2.at (by omega)
  simp only [Value.slice.injEq, Option.some.injEq, Addr.mk.injEq, and_true, true_and] at hv
  obtain ⟨rfl, rfl⟩ := hv
  have hcell := hcg2 q (by omega)
  have hfz := hfg2 q
  rw [zer_getD, if_neg (by omega)] at hcell
  have hnum := from_num (xs.getD q 0) (k % 64).toNat (h.2.1.get q)
  have hlt2 : xs.getD q 0 &&& fmask (k % 64).toNat < 18446744073709551616 := Nat.lt_of_le_of_lt Nat.and_le_left (h.2.1.get q)
  have hst := ho2.stored q (xs.getD q 0 &&& fmask (k % 64).toNat) hlt2
  have hbs := hb2.setCell (p := ⟨g, q, none⟩) (by exact hBg) (.int .u64 ((xs.getD q 0 &&& fmask (k % 64).toNat : Nat) : Int))
  rw [hlz] at hst
  obtain ⟨y, hy⟩ : ∃ y, y = xs.getD q 0 &&& fmask (k % 64).toNat := ⟨_, rfl⟩
  rw [← hy] at hnum hst hbs
  have HST := hide hst
  have HBS := hide hbs
  have HY := hide hy
  clear hcg hfg hcg2 hfg2 ho ho2 hb hb2 h hlz hst hbs hlt2 hy
  generalize xs.getD q 0 = x at hnum hcell
  go_wp2
  go_ret
  exact ⟨_, rfl, by rw [← unhide HY]; exact unhide HST, unhide HBS⟩

set_option maxHeartbeats 1000000 in
theorem from_all (a : Option Addr) (n c : Nat) (xs : List Nat) (k : Int) (w : World) (h : RowAt w a n xs) (hn : n ≤ 1048576) (hn0 : 0 < n) (h0 : 0 ≤ k) (hk : k ≤ 9223372036854775807) (hq : k / 64 = (n : Int)) :
    Calls Tryd.prog 48 #[.slice a n c, .int .i64 k] w fun e w' => ∃ v, e = .returned v ∧ Own w' w.heap.size v (zer xs 0 n) ∧ Below w.heap.size w w' := by
  obtain rfl : n = xs.length := h.1.symm
  have hqw := div_wrap k xs.length h0 hk hq
  go_enter Tryd.func48, Tryd.ntmps48
  go_wp2_with fail
  refine (clone_any a xs.length c xs _ h (by omega)).mono ?_
  rintro e w1 ⟨v, rfl, ho, hb⟩
  obtain ⟨g, cap, rfl, hBg, hgs, hcg, hfg⟩ := ho.at (by omega)
  have hcap := ho.cap
  have hcl := clear_run ho (Nat.le_refl _)
  have ho2 := Own.cleared xs.length 0 xs w1 ho
  have hb2 := Below.cells (w0 := w) hBg (List.replicate xs.length (.int .u64 0)) 0 w1 hb
  generalize w1.setCells g 0 (List.replicate xs.length (.int .u64 0)) = w2 at *
  have HST := hide ho2
  have HBS := hide hb2
  clear hcg hfg ho ho2 hb hb2 h
  go_wp2
  go_ret
  exact ⟨_, rfl, unhide HST, unhide HBS⟩
end Go.Proofs.YtbfkhioljpgjjaaDoor
