/-
  Contracts of slices.Clone at []uint64, words.within, words.mask, words.Get, bucketlineref01.Get: for every row of fewer than 2^47 bytes and every int.
-/
import Derived.Test.YtdiondgkkanamaaDoorMem
import Derived.BigQuiet
import Derived.Deep.QuietTactic
namespace Go.Proofs.YtdiondgkkanamaaDoor
open Go.RowKit
set_option linter.unusedVariables false
set_option maxRecDepth 4000

set_option maxHeartbeats 400000 in
theorem clone_any (a : Option Addr) (n c : Nat) (xs : List Nat) (w : World) (h : RowAt w a n xs) (hn : n * 8 ≤ 140737488351232) :
    Calls Tryd.prog 75 #[.slice a n c] w fun e w' => ∃ v, e = .returned v ∧ Own w' w.heap.size v xs ∧ Below w.heap.size w w' := by
  have hnil := fun wx => Lib.run_eql_slice_nil (P := Tryd.prog) wx 30 72 a n c 0 0 Tryd.underlying30
  obtain ⟨i0, hi, hz0, hz1, hz2⟩ := info_parts info_u64
  cases a with
  | none =>
    have h0 : n = 0 := by
      rcases h.2.2 with h0 | ⟨b, off, h1, _⟩
      · exact h0
      · cases h1
    subst h0
    have hx : xs = [] := List.eq_nil_of_length_eq_zero h.1
    subst hx
    go_enter Tryd.func75, Tryd.ntmps75
    go_wp2
    go_ret
    exact ⟨_, rfl, Own.nil _ _, Below.refl _ _⟩
  | some ad =>
    go_enter Tryd.func75, Tryd.ntmps75
    go_wp2_with (first | (at_builtin; refine wpList_append_own _ rfl (.tmp 5) (.tmp 6) 30 rfl w.heap.size 72 i0 (.int .u64 0) 1 8 Tryd.underlying30 hi hz0 hz1 hz2 rfl (by decide) _ _ _ rfl (World.ownsRow_lit _ #[] 0 (Nat.le_refl _) (by decide) rfl) ad n c (cellsU xs) rfl ?c0 ?c1 ?c2 ?c3 ?c4 ?c5 ?_))
    case c0 => rw [cellsU_length, h.1, Nat.mul_one]
    case c1 => exact (h.below ((Below.refl _ _).alloc (Nat.le_refl _) _)).news
    case c2 => exact cellsU_one xs
    case c3 => unfold maxLen; omega
    case c4 => omega
    case c5 => simp
    intro v' w1 hown hgrow _
    have hb : Below w.heap.size w w1 := ((Below.refl _ _).alloc (Nat.le_refl _) _).grown hgrow (by simp) (fun k hk => by simp [Value.ownBlock] at hk; omega)
    have ho : Own w1 w.heap.size v' xs := ⟨h.2.1, by rw [h.1]; simpa using hown⟩
    have HO := hide ho
    have HB := hide hb
    clear hown hgrow hb ho hnil h
    go_wp2
    go_ret
    exact ⟨_, rfl, unhide HO, unhide HB⟩


theorem mask_num (i : Int) : IntKind.u64.wrap (2 ^ (i % 64).toNat) = ((2 ^ (i % 64).toNat : Nat) : Int) := by
  have h : (i % 64).toNat < 64 := by omega
  have h2 : 2 ^ (i % 64).toNat < 2 ^ 64 := Nat.pow_lt_pow_right (by decide) h
  rw [IntKind.wrap_u64]
  have h3 : ((2 : Int) ^ (i % 64).toNat) = ((2 ^ (i % 64).toNat : Nat) : Int) := by simp
  rw [h3]
  exact Int.emod_eq_of_lt (Int.natCast_nonneg _) (by omega)

theorem get_num (x : Nat) (i : Int) (hx : x < 18446744073709551616) : (bits .and .u64 (x : Int) ((2 ^ (i % 64).toNat : Nat) : Int) != 0) = x.testBit (i % 64).toNat := by
  have h : (i % 64).toNat < 64 := by omega
  have h2 : 2 ^ (i % 64).toNat < 2 ^ 64 := Nat.pow_lt_pow_right (by decide) h
  rw [u64_and_nat x _ hx (by omega), nat_bit, Nat.testBit_eq_decide_div_mod_eq]
  have hp : 0 < 2 ^ (i % 64).toNat := Nat.pow_pos (by decide)
  rcases Nat.mod_two_eq_zero_or_one (x / 2 ^ (i % 64).toNat) with e | e
  · rw [e]; simp
  · rw [e]
    rw [bne_iff_ne.2 (by omega)]
    simp


theorem rget_num (x k : Nat) (hx : x < 18446744073709551616) : (bits .and .u64 ((x : Int) / 2 ^ k) 1 == 1) = x.testBit k := by
  have e : ((x : Int) / 2 ^ k) = ((x / 2 ^ k : Nat) : Int) := by simp
  have h := u64_and_nat (x / 2 ^ k) 1 (Nat.lt_of_le_of_lt (Nat.div_le_self _ _) hx) (by omega)
  rw [nat_mask1] at h
  rw [e, show (1 : Int) = ((1 : Nat) : Int) from rfl, h, Nat.testBit_eq_decide_div_mod_eq]
  rcases Nat.mod_two_eq_zero_or_one (x / 2 ^ k) with e | e
  · rw [e]; rfl
  · rw [e]; rfl
end Go.Proofs.YtdiondgkkanamaaDoor
