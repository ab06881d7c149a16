/-
  Contracts of split.filled, cut, Split: for every text and int.
-/
import Derived.Test.YtakoaadimhpclaaGreatDoorU15
import Derived.Test.YtakoaadimhpclaaGreatDoorU16
import Derived.WalkMore
import Derived.ScopeJumps
namespace Go.Proofs.YtakoaadimhpclaaGreatDoor
open Go.RowKit
set_option linter.unusedVariables false
set_option linter.unusedSimpArgs false
set_option maxRecDepth 4000

theorem st_append (xs ys : List Nat) : st xs ++ st ys = st (xs ++ ys) := by
  apply ByteArray.ext
  unfold st
  rw [ByteArray.data_append]
  simp
theorem add_pad (s : ByteArray) (z : Nat) : s ++ st (List.replicate (z - s.size) 0) = st (pad z (tx s)) := by
  conv => lhs; rw [← st_tx s]
  rw [st_append, st_tx, pad, tx_length]

set_option maxHeartbeats 400000 in
theorem filled_any (s : ByteArray) (Z : Nat) (w : World) (hs : s.size ≤ Z) (hZ : Z ≤ 64) :
    Calls Tryz.prog 69 #[.string s, .int .i64 (Z : Int)] w fun e w' => e = .returned (.string (st (pad Z (tx s)))) ∧ Below w.heap.size w w' := by
  have HE := hide (add_pad s Z)
  have HL := hide (show (st (List.replicate (Z - s.size) 0)).size = Z - s.size by rw [st_len, List.length_replicate])
  have esub : (Z : Int) - (s.size : Int) = ((Z - s.size : Nat) : Int) := by omega
  have HR := hide (fun wx => repeat_zeros (Z - s.size) wx (by omega))
  have hd : Z - s.size ≤ 64 := by omega
  generalize Z - s.size = d at *
  generalize st (List.replicate d 0) = t at *
  have hts : t.size ≤ 64 := by have := unhide HL; omega
  have hadd : (9223372036854775807 < s.size + t.size) = False := by simp; omega
  have HC := hide (fun wx => sclone_any (s ++ t) wx (by rw [ByteArray.size_append]; omega))
  go_enter Tryz.func69, Tryz.ntmps69
  go_wp2_with (first | (go_at_call 89; refine (unhide HR _).mono ?_; rintro e w1 ⟨rfl, hb⟩) | (go_at_call 88; refine (unhide HC _).mono ?_; rintro e w2 ⟨rfl, hb2⟩))
  go_ret
  exact ⟨ret_str (unhide HE), below0 hb hb2⟩

theorem wp_scope_once {P : Program} {a : Act} {w : World} {Q : Exit → Act → World → Prop} {c X : Code} (l : Nat) (J : Act → World → Prop) (μ : Act → World → Nat) (hf : findLabel c l = some (Code.skip.seq X))
    (pass : ∀ a w, J a w → X.wp P (Exit.jump l (fun a' w' => J a' w' ∧ μ a' w' < μ a w) Q) a w)
    (first : (∀ a w, J a w → X.wp P (Exit.jump l J Q) a w) → c.wp P (Exit.jump l J Q) a w) : (Code.scope c).wp P Q a w :=
  wp_scope_jumps l J μ hf (first fun a w h => wp_mono (pass a w h) fun e a w h => by
    cases e with
    | goto l' => exact ⟨h.1, h.2.1⟩
    | _ => exact h) fun a w h => wp_seq (wp_skip (pass a w h))
def txtOf : Value → Nat | .string s => s.size | _ => 0
theorem cut_step (xs : List Nat) (Z i n : Nat) (h : n = min Z (xs.drop (i * Z)).length) :
    ((xs.drop (i * Z)).drop 0).take (n - 0) = (xs.drop (i * Z)).take Z ∧ ((xs.drop (i * Z)).drop n).take ((xs.drop (i * Z)).length - n) = xs.drop ((i + 1) * Z) := by
  have hl := List.length_drop (i := i * Z) (l := xs)
  constructor
  · rw [List.drop_zero, Nat.sub_zero]
    by_cases hc : Z ≤ (xs.drop (i * Z)).length
    · rw [show n = Z by omega]
    · rw [List.take_of_length_le (by omega), List.take_of_length_le (by omega)]
  · rw [List.take_of_length_le (by rw [List.length_drop]; omega), List.drop_drop, Nat.add_mul, Nat.one_mul]
    by_cases hc : Z ≤ (xs.drop (i * Z)).length
    · rw [show n = Z by omega]
    · rw [List.drop_eq_nil_of_le (by omega), List.drop_eq_nil_of_le (by omega)]

/-- What holds at each jump. -/
def CutJ (s : ByteArray) (Z k : Nat) (w : World) (a' : Act) (w' : World) : Prop := ∃ (i : Nat) (t : ByteArray) (b : Option Addr) (c : Nat) (u8 u9 u10 u11 u12 u13 u14 u15 u16 u17 u18 u19 u20 u21 u22 u23 u24 u25 u26 u27 u28 : Value),
      a' = { tmps := #[.string t, .int .i64 (Z : Int), .int .i64 (k : Int), undef, undef, undef, .slice none 0 0, .slice b i c, u8, u9, u10, u11, u12, u13, u14, u15, u16, u17, u18, u19, u20, u21, u22, u23, u24, u25, u26, u27, u28], defers := [] }
      ∧ i < k ∧ Hid (tx t = (tx s).drop (i * Z)) ∧ Hid (OwnT w' w.heap.size (.slice b i c) (blocksL (tx s) Z i)) ∧ Hid (Below w.heap.size w w')
theorem CutJ.mk (s : ByteArray) (Z k : Nat) (w : World) {w' : World} (i : Nat) {t : ByteArray} {b : Option Addr} {c : Nat} {u8 u9 u10 u11 u12 u13 u14 u15 u16 u17 u18 u19 u20 u21 u22 u23 u24 u25 u26 u27 u28 : Value} (hi : i < k) (HT : Hid (tx t = (tx s).drop (i * Z)))
    (HO : Hid (OwnT w' w.heap.size (.slice b i c) (blocksL (tx s) Z i))) (HB : Hid (Below w.heap.size w w')) :
    CutJ s Z k w { tmps := #[.string t, .int .i64 (Z : Int), .int .i64 (k : Int), undef, undef, undef, .slice none 0 0, .slice b i c, u8, u9, u10, u11, u12, u13, u14, u15, u16, u17, u18, u19, u20, u21, u22, u23, u24, u25, u26, u27, u28], defers := [] } w' :=
  ⟨i, t, b, c, u8, u9, u10, u11, u12, u13, u14, u15, u16, u17, u18, u19, u20, u21, u22, u23, u24, u25, u26, u27, u28, rfl, hi, HT, HO, HB⟩
theorem isEmpty_tx (x : ByteArray) : x.toList.isEmpty = (tx x).isEmpty := by
  rw [ByteArray.toList_eq]
  unfold tx
  simp

set_option maxHeartbeats 1000000 in
theorem scut_any (s : ByteArray) (Z k : Nat) (w : World) (hz1 : 1 ≤ Z) (hz2 : Z ≤ 64) (hk : kc s.size Z = k) (hk2 : k ≤ 128) :
    Calls Tryz.prog 53 #[.string s, .int .i64 (Z : Int), .int .i64 (k : Int)] w fun e w' => ∃ v, e = .returned v ∧ OwnT w' w.heap.size v (blocksL (tx s) Z k) ∧ Below w.heap.size w w' := by
  obtain ⟨i0, hi0, hz0, hzs, hzb⟩ := info_parts info_strT
  obtain ⟨wm, hrun, hown, hgr⟩ := run_make_own (P := Tryz.prog) w w.heap.size 39 9 i0 (.string ByteArray.empty) 1 Tryz.underlying39 hi0 hz0 hzs .i64 .i64 k (by rw [hzb]; omega) (by unfold maxLen; omega) (Nat.le_refl _)
  have HOm : Hid (OwnT wm w.heap.size (.slice (some ⟨w.heap.size, 0, none⟩) 0 k) (blocksL (tx s) Z 0)) := hide hown
  have HBm := hide ((Below.refl w.heap.size w).grown hgr (Nat.le_refl _) (fun _ h => by cases h))
  have HK1 := hide (kc_pos s.size Z)
  have HKE := hide (kc_enough s.size Z hz1)
  have HKL := hide (fun j h1 h2 => kc_least s.size Z j hz1 h1 h2)
  rw [hk] at HK1 HKE HKL
  have HX := hide (tx_length s)
  have HXB := hide (tx_bytes s)
  have hst := st_tx s
  have hss : s.size ≤ 8192 := by
    have h1 := unhide HKE
    have h2 : k * Z ≤ 128 * 64 := Nat.mul_le_mul hk2 hz2
    omega
  have HS := hide hst
  clear hown hgr hi0 hz0 hzs hzb hk hst
  go_enter Tryz.func53, Tryz.ntmps53
  go_wp2
  refine wp_scope_once 0 (CutJ s Z k w) (fun a' _ => txtOf (a'.tmps.getD 0 undef)) rfl ?_ ?_
  · rintro a' w' ⟨i, t, b, c, u8, u9, u10, u11, u12, u13, u14, u15, u16, u17, u18, u19, u20, u21, u22, u23, u24, u25, u26, u27, u28, rfl, hi, HT, HO, HB⟩
    have hts : t.size ≤ 8192 := by
      rw [← tx_length, unhide HT, List.length_drop, unhide HX]
      omega
    have htl : t.size = ((tx s).drop (i * Z)).length := by rw [← tx_length, unhide HT]
    have HTL := hide htl
    have M := min_run Z t.size
    obtain ⟨n, hn⟩ : ∃ n, n = min Z t.size := ⟨_, rfl⟩
    rw [← hn] at M
    have hnz : n ≤ Z := by omega
    have hnt : n ≤ t.size := by omega
    have HN := hide hn
    obtain ⟨hc1, hc2⟩ := cut_step (tx s) Z i n (by rw [← htl]; exact hn)
    rw [← unhide HT, ← tx_cut] at hc1
    rw [← unhide HT, tx_length, ← tx_cut] at hc2
    have HC1 := hide hc1
    have HC2 := hide hc2
    have hx1 : (t.extract 0 n).size = n := by rw [ByteArray.size_extract]; omega
    have HF := hide (fun wx => filled_any (t.extract 0 n) Z wx (by rw [hx1]; exact hnz) hz2)
    rw [hc1] at HF
    rw [unhide HT] at HF
    change Hid (∀ wx, Calls Tryz.prog _ _ wx fun e w' => e = .returned (.string (st (blk (tx s) Z i))) ∧ _) at HF
    have HQ := hide (blocksL_succ (tx s) Z i)
    have HQL := hide (blocksL_length (tx s) Z i)
    clear hn htl hc1 hc2 hx1
    have hsb := (unhide HB).size
    go_wp2_with (first | (go_at_call 69; refine (unhide HF _).mono ?_; rintro e w1 ⟨rfl, hb1⟩) | (at_builtin; refine wpList_pushT rfl _ _ rfl w.heap.size (.slice b i c) _ _ rfl rfl ((unhide HO).below hb1) (by have := hb1.size; omega) (by rw [unhide HQL]; omega) ?_))
    intro v2 w2 ho2 hb2
    rw [← unhide HQ] at ho2
    obtain ⟨b2, c2, rfl, -⟩ := ho2.texts
    rw [blocksL_length] at ho2 ⊢
    have HO2 := hide ho2
    have HB2 := hide ((below0 (unhide HB) hb1).trans hb2)
    have hem := isEmpty_tx (t.extract n t.size)
    have hlast := hide (unhide HC2)
    by_cases hl : (i + 1) * Z < s.size
    · have hi2 : i + 1 < k := by
        rcases Nat.lt_or_ge (i + 1) k with h | h
        · exact h
        · have h1 := Nat.mul_le_mul_right Z h
          have h2 := unhide HKE
          omega
      have hne : ((tx s).drop ((i + 1) * Z)).isEmpty = false := by
        rw [List.isEmpty_eq_false_iff]
        intro h
        have h2 := congrArg List.length h
        rw [List.length_drop, unhide HX] at h2
        simp at h2
        omega
      have hmu : (t.extract n t.size).size < t.size := by
        have h1 := tx_length (t.extract n t.size)
        rw [unhide HC2, List.length_drop, unhide HX] at h1
        have h2 := tx_length t
        rw [unhide HT, List.length_drop, unhide HX] at h2
        rw [Nat.add_mul] at h1 hl
        omega
      rw [unhide HC2, hne] at hem
      have HMU := hide hmu
      clear ho2 hb1 hb2 HO HB HF hne hmu hl hlast
      go_wp2
      go_step3
      exact ⟨rfl, CutJ.mk s Z k w (i + 1) hi2 HC2 HO2 HB2, unhide HMU⟩
    · have hi2 : i + 1 = k := by
        have := unhide HKL (i + 1) (by omega) (by omega)
        omega
      have hne : ((tx s).drop ((i + 1) * Z)).isEmpty = true := by
        rw [List.isEmpty_iff]
        apply List.drop_eq_nil_of_le
        rw [unhide HX]
        omega
      rw [unhide HC2, hne] at hem
      subst hi2
      clear ho2 hb1 hb2 HO HB HF hne hl hlast
      go_wp2
      simp only [Exit.jump]
      go_ret
      exact ⟨_, rfl, unhide HO2, unhide HB2⟩
  · intro hpass
    go_wp2
    go_step3
    rename_i K hK
    exact hK _ _ (hpass _ _ (CutJ.mk s Z k w 0 (unhide HK1) (hide (by simp)) HOm HBm))
end Go.Proofs.YtakoaadimhpclaaGreatDoor
