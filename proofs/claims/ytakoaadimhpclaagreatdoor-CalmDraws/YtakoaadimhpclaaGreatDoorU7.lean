/-
  Contracts of slices.Clone at []uint64, words.within, words.mask, words.Get, bucketlineref01.Get: for every row of fewer than 2^47 bytes and every int.
  Plain mathematics of math/bits.OnesCount64: the sum of bits in parallel is how many bits there are, for every number below 2^64. Of no program.
  Contracts of words.First, words.Xor, words.Same: for every row of at most 2^20 words.
  'append(nil, xs...)' and 'append(own, xs...)' of words, as steps of a walk: rows of the call's own. At most 2^20 words.
-/
import Derived.Test.YtakoaadimhpclaaGreatDoorU1
import Derived.BigQuiet
import Derived.Deep.QuietTactic
import Derived.Test.YtakoaadimhpclaaGreatDoorU0
import Derived.WalkKit
import Derived.Laws.Bits128
import Derived.OwnWalk
namespace Go.Proofs.YtakoaadimhpclaaGreatDoor
open Go.RowKit
set_option linter.unusedVariables false
set_option linter.unusedSimpArgs false
set_option maxRecDepth 4000

set_option maxHeartbeats 400000 in
theorem clone_any (a : Option Addr) (n c : Nat) (xs : List Nat) (w : World) (h : RowAt w a n xs) (hn : n * 8 ≤ 140737488351232) :
    Calls Tryz.prog 65 #[.slice a n c] w fun e w' => ∃ v, e = .returned v ∧ Own w' w.heap.size v xs ∧ Below w.heap.size w w' := by
  have hnil := fun wx => Lib.run_eql_slice_nil (P := Tryz.prog) wx 28 53 a n c 0 0 Tryz.underlying28
  obtain ⟨i0, hi, hz0, hz1, hz2⟩ := info_parts info_u64
  cases a with
  | none =>
    have h0 : n = 0 := by
      rcases h.2.2 with h0 | ⟨b, off, h1, _⟩
      · exact h0
      · cases h1
    subst h0
    have hx : xs = [] := List.eq_nil_of_length_eq_zero h.1
    subst hx
    go_enter Tryz.func65, Tryz.ntmps65
    go_wp2
    go_ret
    exact ⟨_, rfl, Own.nil _ _, Below.refl _ _⟩
  | some ad =>
    go_enter Tryz.func65, Tryz.ntmps65
    go_wp2_with (first | (at_builtin; refine wpList_append_own _ rfl (.tmp 5) (.tmp 6) 28 rfl w.heap.size 53 i0 (.int .u64 0) 1 8 Tryz.underlying28 hi hz0 hz1 hz2 rfl (by decide) _ _ _ rfl (World.ownsRow_lit _ #[] 0 (Nat.le_refl _) (by decide) rfl) ad n c (cellsU xs) rfl ?c0 ?c1 ?c2 ?c3 ?c4 ?c5 ?_))
    case c0 => rw [cellsU_length, h.1, Nat.mul_one]
    case c1 => exact (h.below ((Below.refl _ _).alloc (Nat.le_refl _) _)).news
    case c2 => exact cellsU_one xs
    case c3 => unfold maxLen; omega
    case c4 => omega
    case c5 => simp
    intro v' w1 hown hgrow _
    have hb : Below w.heap.size w w1 := ((Below.refl _ _).alloc (Nat.le_refl _) _).grown hgrow (by simp) (fun k hk => by simp [Value.ownBlock] at hk; omega)
    have ho : Own w1 w.heap.size v' xs := ⟨h.2.1, by rw [h.1]; simpa using hown⟩
    have HO := hide ho
    have HB := hide hb
    clear hown hgrow hb ho hnil h
    go_wp2
    go_ret
    exact ⟨_, rfl, unhide HO, unhide HB⟩

set_option maxHeartbeats 400000 in
theorem within_pos (a : Option Addr) (n c : Nat) (i : Int) (h0 : 0 ≤ i) (hi : i ≤ 9223372036854775807) (w : World) :
    Calls Tryz.prog 66 #[.slice a n c, .int .i64 i] w fun e w' => e = .returned (.bool (decide (i / 64 < (n : Int)))) ∧ w' = w := by
  go_enter Tryz.func66, Tryz.ntmps66
  go_wp2
  go_ret
  exact ⟨rfl, rfl⟩
set_option maxHeartbeats 400000 in
theorem within_neg (a : Option Addr) (n c : Nat) (i : Int) (h0 : i < 0) (w : World) :
    Calls Tryz.prog 66 #[.slice a n c, .int .i64 i] w fun e w' => e = .returned (.bool false) ∧ w' = w := by
  have h1 : decide (0 ≤ i) = false := by simp; omega
  go_enter Tryz.func66, Tryz.ntmps66
  go_wp2
  go_ret
  exact ⟨rfl, rfl⟩

theorem mask_num (i : Int) : IntKind.u64.wrap (2 ^ (i % 64).toNat) = ((2 ^ (i % 64).toNat : Nat) : Int) := by
  have h : (i % 64).toNat < 64 := by omega
  have h2 : 2 ^ (i % 64).toNat < 2 ^ 64 := Nat.pow_lt_pow_right (by decide) h
  rw [IntKind.wrap_u64]
  have h3 : ((2 : Int) ^ (i % 64).toNat) = ((2 ^ (i % 64).toNat : Nat) : Int) := by simp
  rw [h3]
  exact Int.emod_eq_of_lt (Int.natCast_nonneg _) (by omega)
set_option maxHeartbeats 400000 in
theorem mask_any (i : Int) (h0 : 0 ≤ i) (hi : i ≤ 9223372036854775807) (w : World) :
    Calls Tryz.prog 67 #[.int .i64 i] w fun e w' => e = .returned (.int .u64 ((2 ^ (i % 64).toNat : Nat) : Int)) ∧ w' = w := by
  go_enter Tryz.func67, Tryz.ntmps67
  go_wp2
  go_ret
  exact ⟨ret_int (mask_num i), rfl⟩

theorem get_num (x : Nat) (i : Int) (hx : x < 18446744073709551616) : (bits .and .u64 (x : Int) ((2 ^ (i % 64).toNat : Nat) : Int) != 0) = x.testBit (i % 64).toNat := by
  have h : (i % 64).toNat < 64 := by omega
  have h2 : 2 ^ (i % 64).toNat < 2 ^ 64 := Nat.pow_lt_pow_right (by decide) h
  rw [u64_and_nat x _ hx (by omega), nat_bit, Nat.testBit_eq_decide_div_mod_eq]
  have hp : 0 < 2 ^ (i % 64).toNat := Nat.pow_pos (by decide)
  rcases Nat.mod_two_eq_zero_or_one (x / 2 ^ (i % 64).toNat) with e | e
  · rw [e]; simp
  · rw [e]
    rw [bne_iff_ne.2 (by omega)]
    simp

set_option maxHeartbeats 400000 in
theorem get_out (a : Option Addr) (n c : Nat) (i : Int) (w : World) (hi : i ≤ 9223372036854775807) (ho : i < 0 ∨ (n : Int) ≤ i / 64) :
    Calls Tryz.prog 50 #[.slice a n c, .int .i64 i] w fun e w' => e = .returned (.bool false) ∧ ∃ d, w' = w.drewN d := by
  have hc : ∀ wx : World, Calls Tryz.prog 66 #[.slice a n c, .int .i64 i] wx fun e w' => e = .returned (.bool false) ∧ w' = wx := by
    by_cases h0 : 0 ≤ i
    · have hd : decide (i / 64 < (n : Int)) = false := by simp; omega
      intro wx
      have := within_pos a n c i h0 hi wx
      rwa [hd] at this
    · exact fun wx => within_neg a n c i (by omega) wx
  have HC := hide hc
  clear hc
  go_enter Tryz.func50, Tryz.ntmps50
  go_wp2_with fail
  go_quiet ((go_at_call 66; exact Calls.quiet_of_same (unhide HC _)))
  go_wp2
  go_ret
  exact ⟨rfl, _, rfl⟩

set_option maxHeartbeats 400000 in
theorem get_in (a : Option Addr) (n c : Nat) (xs : List Nat) (i : Int) (w : World) (h : RowAt w a n xs) (h0 : 0 ≤ i) (hi : i ≤ 9223372036854775807) (hlt : i / 64 < (n : Int)) (hn : n * 8 ≤ 140737488351232) :
    Calls Tryz.prog 50 #[.slice a n c, .int .i64 i] w fun e w' => e = .returned (.bool (getB xs i.toNat)) ∧ ∃ d, w' = w.drewN d := by
  obtain ⟨b, off, rfl, hc⟩ := h.at (i := (i / 64).toNat) (by omega)
  have hcell := hc (i / 64).toNat (by omega)
  have hnum := get_num (xs.getD (i / 64).toNat 0) i (h.2.1.get _)
  have HN := hide hnum
  have hW : ∀ wx : World, Calls Tryz.prog 66 #[.slice (some ⟨b, off, none⟩) n c, .int .i64 i] wx fun e w' => e = .returned (.bool true) ∧ w' = wx := by
    intro wx
    have := within_pos (some ⟨b, off, none⟩) n c i h0 hi wx
    rwa [show decide (i / 64 < (n : Int)) = true by simp; omega] at this
  have HW := hide hW
  have hM := fun wx => mask_any i h0 hi wx
  have HM := hide hM
  have he : getB xs i.toNat = (xs.getD (i / 64).toNat 0).testBit (i % 64).toNat := by
    unfold getB
    rw [show i.toNat / 64 = (i / 64).toNat by omega, show i.toNat % 64 = (i % 64).toNat by omega]
  have HE := hide he
  generalize xs.getD (i / 64).toNat 0 = x at *
  clear hnum hW hM he hc h
  go_enter Tryz.func50, Tryz.ntmps50
  go_wp2_with fail
  go_quiet ((first | (go_at_call 66; exact Calls.quiet_of_same (unhide HW _)) | (go_at_call 67; exact Calls.quiet_of_same (unhide HM _))))
  go_wp2
  go_ret
  exact ⟨ret_bool ((unhide HN).trans (unhide HE).symm), _, rfl⟩

theorem rget_num (x k : Nat) (hx : x < 18446744073709551616) : (bits .and .u64 ((x : Int) / 2 ^ k) 1 == 1) = x.testBit k := by
  have e : ((x : Int) / 2 ^ k) = ((x / 2 ^ k : Nat) : Int) := by simp
  have h := u64_and_nat (x / 2 ^ k) 1 (Nat.lt_of_le_of_lt (Nat.div_le_self _ _) hx) (by omega)
  rw [nat_mask1] at h
  rw [e, show (1 : Int) = ((1 : Nat) : Int) from rfl, h, Nat.testBit_eq_decide_div_mod_eq]
  rcases Nat.mod_two_eq_zero_or_one (x / 2 ^ k) with e | e
  · rw [e]; rfl
  · rw [e]; rfl
set_option maxHeartbeats 400000 in
theorem rget_in (a : Option Addr) (n c : Nat) (xs : List Nat) (i : Int) (w : World) (h : RowAt w a n xs) (h0 : 0 ≤ i) (hi : i ≤ 9223372036854775807) (hlt : i / 64 < (n : Int)) (hn : n * 8 ≤ 140737488351232) :
    Calls Tryz.prog 52 #[.slice a n c, .int .i64 i] w fun e w' => e = .returned (.bool (getB xs i.toNat)) ∧ w' = w := by
  obtain ⟨b, off, rfl, hc⟩ := h.at (i := (i / 64).toNat) (by omega)
  have hcell := hc (i / 64).toNat (by omega)
  have he : getB xs i.toNat = (xs.getD (i / 64).toNat 0).testBit (i % 64).toNat := by
    unfold getB
    rw [show i.toNat / 64 = (i / 64).toNat by omega, show i.toNat % 64 = (i % 64).toNat by omega]
  have HE := hide he
  have hnum := rget_num (xs.getD (i / 64).toNat 0) (i % 64).toNat (h.2.1.get _)
  have HN := hide hnum
  generalize xs.getD (i / 64).toNat 0 = x at *
  clear he hc h hnum
  go_enter Tryz.func52, Tryz.ntmps52
  go_wp2
  go_ret
  exact ⟨ret_bool ((unhide HN).trans (unhide HE).symm), rfl⟩
end Go.Proofs.YtakoaadimhpclaaGreatDoor
namespace Go.Proofs.YtakoaadimhpclaaGreatDoor
open Go.RowKit

def y8 (x : Nat) : Nat := (x / 2 &&& 85) + (x &&& 85)
def z8 (x : Nat) : Nat := (x / 4 &&& 51) + (x &&& 51)

end Go.Proofs.YtakoaadimhpclaaGreatDoor
namespace Go.Proofs.YtakoaadimhpclaaGreatDoor
open Go.RowKit
set_option linter.unusedVariables false
set_option linter.unusedSimpArgs false
set_option maxRecDepth 4000

theorem xor_round {w wr : World} {B g cap : Nat} {xs ys : List Nat} {k : Nat} (hx : smalls xs) (hy : smalls ys) (hk : k < xs.length) (hB : B ≤ g)
    (ho : Own wr B (.slice (some ⟨g, 0, none⟩) xs.length cap) (xorTo xs ys k)) (hb : Below B w wr) :
    Own (wr.setCell ⟨g, k, none⟩ (.int .u64 ((xs.getD k 0 ^^^ ys.getD k 0 : Nat) : Int))) B (.slice (some ⟨g, 0, none⟩) xs.length cap) (xorTo xs ys (k + 1)) ∧
    Below B w (wr.setCell ⟨g, k, none⟩ (.int .u64 ((xs.getD k 0 ^^^ ys.getD k 0 : Nat) : Int))) := by
  have hl := xorTo_length xs ys k
  rw [← hl] at ho
  have h1 := ho.stored k (xs.getD k 0 ^^^ ys.getD k 0) (Nat.xor_lt_two_pow (n := 64) (by have := hx.get k; omega) (by have := hy.get k; omega))
  rw [xorTo_succ xs ys k hk, hl] at h1
  exact ⟨h1, hb.setCell (by exact hB) _⟩

end Go.Proofs.YtakoaadimhpclaaGreatDoor
namespace Go.Proofs.YtakoaadimhpclaaGreatDoor
open Go.RowKit
set_option linter.unusedVariables false
set_option linter.unusedSimpArgs false
set_option maxRecDepth 4000

/-- append(nil, xs...): a row of the call's own, whatever xs is. -/
theorem run_append_nil_any (t ty e : TypeId) (ht : Tryz.prog.underlying t = some (.slice e)) (i : TypeInfo) (hi : Tryz.prog.info? e = some i) (c : Nat) (w : World) :
    (Builtin.append_ #[t, t] ty #[.slice none 0 0, .slice none 0 c]).run Tryz.prog w = .ok (.slice none 0 0) w := by
  simp [Builtin.append_, run_underlying ht, sizeOf, typeInfo, hi, Builtin.lenOf, Builtin.firstCells]
theorem wpList_append_nil {w : World} {ops : Array Oper} {rest : List Oper} {o : Oper} {act : Act} {Q : Exit → Act → World → Prop} (hgd : o.guard = none) (s x : Operand)
    (ho : o.op = .call { callee := .builtin .append, args := #[s, x], argTypes := #[28, 28] }) (a : Option Addr) (n c : Nat) (xs : List Nat)
    (hs : act.eval s = .slice none 0 0) (hx : act.eval x = .slice a n c) (h : RowAt w a n xs) (hn : n ≤ 1048576)
    (hK : ∀ v' w', Own w' w.heap.size v' xs → Below w.heap.size w w' → wpList Tryz.prog ops Q rest (act.put o.dst v') w') : wpList Tryz.prog ops Q (o :: rest) act w := by
  obtain ⟨i0, hi, hz0, hz1, hz2⟩ := info_parts info_u64
  cases a with
  | none =>
    have h0 : n = 0 := by
      rcases h.2.2 with h0 | ⟨b, off, h1, _⟩
      · exact h0
      · cases h1
    subst h0
    have hxs : xs = [] := List.eq_nil_of_length_eq_zero h.1
    subst hxs
    refine wpList_plain hgd fun K hK' => ?_
    have hrun := run_append_nil_any 28 o.type 53 Tryz.underlying28 i0 hi c w
    unfold Oper.wp
    simp [execOp, ho, resolve, invoke, builtin, hs, hx, hrun, Result.andThen]
    exact hK' _ _ (hK _ _ (Own.nil _ _) (Below.refl _ _))
  | some ad =>
    refine wpList_append_own w hgd s x 28 ho w.heap.size 53 i0 (.int .u64 0) 1 8 Tryz.underlying28 hi hz0 hz1 hz2 rfl (by decide) (.slice none 0 0) 0 [] hs (World.ownsRow_nil _ _ _ _) ad n c (cellsU xs) hx
      (by rw [cellsU_length, h.1, Nat.mul_one]) h.news (cellsU_one xs) (by unfold maxLen; omega) (by omega) (Nat.le_refl _) ?_
    intro v' w' hown hgrow _
    exact hK v' w' ⟨h.2.1, by rw [h.1]; simpa using hown⟩ ((Below.refl _ _).grown hgrow (Nat.le_refl _) (fun k hk => by simp [Value.ownBlock] at hk))
end Go.Proofs.YtakoaadimhpclaaGreatDoor
