/-
  Contracts of split.Split and bucketlineref09.Split: for every text and int.
-/
import Derived.Test.YtmegeoiilpciiaaTD
namespace Go.Proofs.Ytmegeoiilpciiaa
open Go.RowKit
set_option linter.unusedVariables false
set_option maxRecDepth 4000

set_option maxHeartbeats 400000 in
theorem split_no (s : ByteArray) (z : Int) (w : World) (hs : s.size ≤ 9223372036854775807) (h : planE (s.size : Int) z ≠ 0) :
    Calls Try.prog 11 #[.string s, .int .i64 z] w fun e w' => e = .returned (.tuple #[.slice none 0 0, .int .i64 (planE (s.size : Int) z)]) ∧ w' = w := by
  have HP := hide (plan_any (s.size : Int) z w (by omega))
  generalize planE (s.size : Int) z = E0 at *
  generalize planK (s.size : Int) z = K0 at *
  go_enter Try.func11, Try.ntmps11
  go_wp2_with (go_at_call 8; refine (unhide HP).mono ?_; rintro e w1 ⟨rfl, hw⟩; obtain rfl := hw.symm)
  go_ret2
  exact ⟨rfl, rfl⟩

set_option maxHeartbeats 400000 in
theorem split_yes (s : ByteArray) (Z : Nat) (w : World) (hz1 : 1 ≤ Z) (hz2 : Z ≤ 64) (hk2 : kc s.size Z ≤ 128) :
    Calls Try.prog 11 #[.string s, .int .i64 (Z : Int)] w fun e w' => ∃ v, e = .returned (.tuple #[v, .int .i64 0]) ∧ OwnT w' w.heap.size v (blocksL (tx s) Z (kc s.size Z)) ∧ Below w.heap.size w w' := by
  have hs : s.size ≤ 8192 := by
    have h1 := kc_enough s.size Z hz1
    have h2 : kc s.size Z * Z ≤ 128 * 64 := Nat.mul_le_mul hk2 hz2
    omega
  have hp := plan_any (s.size : Int) (Z : Int) w (by omega)
  rw [(plan_ok hz1 hz2 hk2).1, (plan_ok hz1 hz2 hk2).2] at hp
  have HP := hide hp
  have HC := hide (cut_any s Z (kc s.size Z) w hz1 hz2 rfl hk2)
  clear hp
  generalize kc s.size Z = k at *
  go_enter Try.func11, Try.ntmps11
  go_wp2_with (first | (go_at_call 8; refine (unhide HP).mono ?_; rintro e w1 ⟨rfl, hw⟩; obtain rfl := hw.symm) | (go_at_call 16; refine (unhide HC).mono ?_; rintro e w2 ⟨v, rfl, ho, hb⟩))
  go_ret2
  exact ⟨_, rfl, ho, hb⟩

/-- 'string(b[o:o+n])'. -/
theorem OwnB.textAt {w : World} {B g cap : Nat} {m : Nat} {xs : List Nat} (h : OwnB w B (.slice (some ⟨g, 0, none⟩) m cap) xs) (hm : xs.length = m) (o n c : Nat) (hn : o + n ≤ m) :
    (convert 42 9 (.slice (some ⟨g, o, none⟩) n c)).run Try.prog w = .ok (.string (st ((xs.drop o).take n))) w := by
  subst hm
  rcases h.2 with ⟨e, _⟩ | ⟨g', cap', e, hg, hgg, hc, hf⟩
  · cases e
  · simp only [Value.slice.injEq, Option.some.injEq, Addr.mk.injEq, and_true, true_and] at e
    obtain ⟨rfl, rfl⟩ := e
    have hl : ((xs.drop o).take n).length = n := by rw [List.length_take, List.length_drop]; omega
    have := run_convert_bytes_back (P := Try.prog) w 42 9 5 ⟨g, o, none⟩ c (((xs.drop o).take n).map UInt8.ofNat) Try.underlying42 Try.underlying5 Try.underlying9 (fun j hj => by
      have hj' : j < n := by rw [List.length_map, hl] at hj; exact hj
      have e : (⟨g, o, none⟩ : Addr).add j = ⟨g, o + j, none⟩ := by unfold Addr.add; split <;> simp_all
      rw [e, hc (o + j) (by omega)]
      have hb := h.1.get (o + j)
      have hx : ((xs.drop o).take n)[j]'(by rw [hl]; exact hj') = xs.getD (o + j) 0 := by
        have h1 := getD_take (xs.drop o) n j
        rw [if_pos hj', getD_drop] at h1
        rw [← h1, List.getD_eq_getElem?_getD, List.getElem?_eq_getElem (by rw [hl]; exact hj')]
        rfl
      simp only [List.getElem_map]
      rw [hx, UInt8.toNat_ofNat_of_lt' hb])
    rw [List.length_map, hl] at this
    exact this

set_option maxHeartbeats 400000 in
theorem rsplit_no (s : ByteArray) (z : Int) (w : World) (hs : s.size ≤ 9223372036854775807) (h : planE (s.size : Int) z ≠ 0) :
    Calls Try.prog 12 #[.string s, .int .i64 z] w fun e w' => e = .returned (.tuple #[.slice none 0 0, .int .i64 (planE (s.size : Int) z)]) ∧ w' = w := by
  have HP := hide (rplan_any (s.size : Int) z w (by omega))
  generalize planE (s.size : Int) z = E0 at *
  generalize planK (s.size : Int) z = K0 at *
  go_enter Try.func12, Try.ntmps12
  go_wp2_with (go_at_call 9; refine (unhide HP).mono ?_; rintro e w1 ⟨rfl, hw⟩; obtain rfl := hw.symm)
  go_ret2
  exact ⟨rfl, rfl⟩

set_option maxHeartbeats 1000000 in
theorem rsplit_yes (s : ByteArray) (Z : Nat) (w : World) (hz1 : 1 ≤ Z) (hz2 : Z ≤ 64) (hk2 : kc s.size Z ≤ 128) :
    Calls Try.prog 12 #[.string s, .int .i64 (Z : Int)] w fun e w' => ∃ v, e = .returned (.tuple #[v, .int .i64 0]) ∧ OwnT w' w.heap.size v (blocksL (tx s) Z (kc s.size Z)) ∧ Below w.heap.size w w' := by
  have hke := kc_enough s.size Z hz1
  have hkz : kc s.size Z * Z ≤ 128 * 64 := Nat.mul_le_mul hk2 hz2
  have hp := rplan_any (s.size : Int) (Z : Int) w (by omega)
  rw [(plan_ok hz1 hz2 hk2).1, (plan_ok hz1 hz2 hk2).2] at hp
  have HP := hide hp
  clear hp
  generalize kc s.size Z = k at *
  have emul : (k : Int) * (Z : Int) = ((k * Z : Nat) : Int) := by simp
  have esub : ((k * Z : Nat) : Int) - (s.size : Int) = ((k * Z - s.size : Nat) : Int) := by omega
  obtain ⟨w1, C, w2, g, cap, hr1, hr2, hob, hb2, hcap, hcap2⟩ := made_bytes w s (k * Z - s.size) (by omega) (by omega)
  have e1 : s.size + (k * Z - s.size) = k * Z := by omega
  rw [e1] at hr2 hob hcap
  have HPD := hide (show tx s ++ List.replicate (k * Z - s.size) 0 = pad (k * Z) (tx s) by rw [pad, tx_length])
  have HM := hide (fun i (h : i < k) => (Nat.mul_le_mul_right Z h : (i + 1) * Z ≤ k * Z))
  have HPL := hide (show (pad (k * Z) (tx s)).length = k * Z from pad_length _ _ (by rw [tx_length]; exact hke))
  rw [unhide HPD] at hob
  have HOB := hide hob
  have HB2 := hide hb2
  have HREF := hide (fun i (h : i < k) => blk_ref (tx s) Z k i h)
  generalize k * Z - s.size = d at *
  obtain ⟨m, hm⟩ : ∃ m, k * Z = m := ⟨_, rfl⟩
  rw [hm] at emul esub hr2 hob hcap HPD HM HPL HOB HREF hke hkz
  have hcz : (m : Int) ≤ (cap : Int) := by omega
  have HR2 := hide hr2
  clear hob hb2 e1 hm HPD hr2
  go_enter Try.func12, Try.ntmps12
  go_wp2_with (first | (go_at_call 9; refine (unhide HP).mono ?_; rintro e w1 ⟨rfl, hw⟩; obtain rfl := hw.symm) | (at_builtin; refine wpList_append_run rfl _ _ _ _ rfl (.slice (some ⟨w.heap.size, 0, none⟩) s.size C) (.int .i64 (d : Int)) _ rfl rfl (unhide HR2) ?_))
  clear HP HR2 hr1
  go_loopw [9, 10] (fun v i wr => ∃ (j : Nat) (b : Option Addr) (c : Nat), j ≤ k ∧ i = .int .i64 j ∧ v = .slice b j c ∧ Hid (OwnT wr w2.heap.size (.slice b j c) (blocksL (tx s) Z j)) ∧ Hid (Below w2.heap.size w2 wr)) (fun _ i _ => k - (intOf i).toNat)
  case atStart => exact ⟨0, none, 0, Nat.zero_le _, rfl, rfl, hide (OwnT.nil _ _), hide (Below.refl _ _)⟩
  case round =>
    rename_i wr
    obtain ⟨j, b, c, hj, rfl, rfl, HO, HB⟩ := hrel
    by_cases hlt : j < k
    · obtain ⟨A, hA⟩ : ∃ A, j * Z = A := ⟨_, rfl⟩
      obtain ⟨H, hH⟩ : ∃ H, (j + 1) * Z = H := ⟨_, rfl⟩
      have eA : (j : Int) * (Z : Int) = (A : Int) := by rw [← hA]; simp
      have eH : ((j : Int) + 1) * (Z : Int) = (H : Int) := by rw [← hH]; simp
      have hHm : H ≤ m := by rw [← hH]; exact unhide HM j hlt
      have hAH : A + Z = H := by rw [← hA, ← hH, Nat.add_mul, Nat.one_mul]
      have HE := hide (unhide HREF j hlt)
      rw [hA] at HE
      have hAH2 : A ≤ H := by omega
      have hAH3 : A < m := by omega
      have htx := ((unhide HOB).below (unhide HB)).textAt (unhide HPL) A (H - A) (cap - A) (by omega)
      have hZ : H - A = Z := by omega
      rw [show List.take (H - A) (List.drop A (pad m (tx s))) = blk (tx s) Z j by rw [hZ]; exact unhide HE] at htx
      have hHA : (H : Int) - (A : Int) = (Z : Int) := by omega
      have HQ := hide (blocksL_succ (tx s) Z j)
      have HQL := hide (blocksL_length (tx s) Z j)
      have hsb := (unhide HB).size
      have HAHZ := hide hAH
      have HZ := hide hZ
      clear hA hH hAH HE HM HREF hZ
      go_wp2_with (at_builtin; refine wpList_pushT rfl _ _ rfl w2.heap.size (.slice b j c) _ _ rfl rfl (unhide HO) hsb (by rw [unhide HQL]; omega) ?_)
      intro v2 w3 ho2 hb2
      rw [← unhide HQ] at ho2
      obtain ⟨b2, c2, rfl, -⟩ := ho2.texts
      rw [blocksL_length] at ho2 ⊢
      have HO2 := hide ho2
      have HB3 := hide ((unhide HB).trans hb2)
      clear ho2 hb2 HO HB HOB htx
      go_wp2
      go_roundw
      case rel => exact ⟨j + 1, b2, c2, by omega, by go_num, rfl, HO2, HB3⟩
      case measure => simp [intOf]; omega
    · obtain rfl : j = k := by omega
      clear HREF HM
      go_wp2
      go_ret2
      exact ⟨_, rfl, (unhide HO).mono (unhide HB2).size, (unhide HB2).trans ((unhide HB).mono (unhide HB2).size)⟩
end Go.Proofs.Ytmegeoiilpciiaa
