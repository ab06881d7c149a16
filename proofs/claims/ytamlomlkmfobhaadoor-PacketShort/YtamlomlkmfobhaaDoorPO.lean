/-
  bucketlinelaw07.one, and what awake's packet is.
-/
import Derived.Test.YtamlomlkmfobhaaDoorPE
import Derived.Test.YtamlomlkmfobhaaDoorPJ
namespace Go.Proofs.YtamlomlkmfobhaaDoor
open Go.RowKit Go.Sort
set_option linter.unusedVariables false

set_option maxHeartbeats 400000 in
theorem one_any (w : World) : Calls Tryd.prog 18 #[] w fun e w' => ∃ a c, e = .returned (.agg #[.int .i64 0, .int .i64 1, .int .i64 1, .int .i64 1, .int .i64 0, .slice a 1 c, .string ⟨#[97]⟩]) ∧ RowAt w' a 1 [1] ∧ Below w.heap.size w w' := by
  have hr := row_new1 (w.alloc (.cells #[.int .i64 0, .int .i64 1, .int .i64 1, .int .i64 1, .int .i64 0, .slice (some ⟨w.heap.size + 1, 0, none⟩) 1 1, .string ⟨#[97]⟩] 26)) 1 (by decide)
  rw [alloc_size] at hr
  have HR := hide hr
  clear hr
  go_enter Tryd.func18, Tryd.ntmps18
  go_wp2
  exact bodyPost_ret (v := .agg #[.int .i64 0, .int .i64 1, .int .i64 1, .int .i64 1, .int .i64 0, .slice (some ⟨w.heap.size + 1, 0, none⟩) 1 1, .string ⟨#[97]⟩]) (by simp [results, Tryd.results18, go_sem]) rfl ⟨_, _, rfl, unhide HR, below2' w _ _⟩
theorem one_valid : ValidP 1 [1] := by
  refine ⟨by decide, by decide, fun i hi => ?_⟩
  by_cases h : i < 64
  · unfold getB
    rw [show i / 64 = 0 by omega, show i % 64 = i by omega]
    show (1 : Nat).testBit i = false
    exact Nat.testBit_lt_two_pow (Nat.lt_of_lt_of_le (show 1 < 2 ^ 1 by decide) (Nat.pow_le_pow_right (by decide) (by simpa using hi)))
  · exact getB_out _ _ (by simp; omega)
theorem one_ok : CheckP 0 1 1 1 0 [1] (ByteArray.mk #[97]).size :=
  ⟨⟨⟨⟨by decide, by decide⟩, by decide, by decide⟩, ⟨by decide, by decide⟩, ⟨by decide, by decide⟩, by decide, by decide⟩, one_valid, by decide, rfl⟩
theorem one_small : smalls [1] := by intro x hx; simp at hx; subst hx; show 1 < 18446744073709551616; decide
/-- Its bytes. -/
def oneS : ByteArray := st (encL 0 1 1 1 0 [1] (tx ⟨#[97]⟩))
theorem one_size : oneS.size = 20 := by unfold oneS; rw [enc_size]; rfl
theorem one_dec {o l k z h : Int} {xs : List Nat} {t : ByteArray} {en : Nat} (hd : DecP oneS o l k z h xs t en) : (o = 0 ∧ l = 1 ∧ k = 1 ∧ z = 1 ∧ h = 0) ∧ xs = [1] ∧ t = ⟨#[97]⟩ ∧ en = 0 := by
  have h := dec_enc one_small one_ok
  exact hd.uniq (.inr (.inr ⟨h.1, h.2.1, rfl, h.2.2⟩))
theorem one_more {o l k z h : Int} {xs : List Nat} {t : ByteArray} {en : Nat} (hd : DecP (oneS ++ ⟨#[120]⟩) o l k z h xs t en) : en = 3 := by
  have h := dec_more (b := ⟨#[120]⟩) one_small one_ok (by decide)
  exact hd.bad h.1 h.2
theorem none_dec {o l k z h : Int} {xs : List Nat} {t : ByteArray} {en : Nat} (hd : DecP ⟨#[]⟩ o l k z h xs t en) : en = 2 := hd.short (.inl (by decide))
theorem one_same : SameP 0 1 1 1 0 [1] ⟨#[97]⟩ 0 1 1 1 0 [1] ⟨#[97]⟩ := ⟨⟨⟨rfl, rfl, rfl, rfl, rfl⟩, rfl⟩, cnt_of_zero _ (xorL_self_zero _)⟩
theorem zero_ck : ¬ CheckP 0 0 0 0 0 [] (ByteArray.mk #[]).size := zero_no ⟨rfl, rfl, rfl, rfl, rfl, rfl, rfl⟩
end Go.Proofs.YtamlomlkmfobhaaDoor
