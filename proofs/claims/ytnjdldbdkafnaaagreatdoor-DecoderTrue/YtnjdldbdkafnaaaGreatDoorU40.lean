/-
  Contracts of split.Split and bucketlineref09.Split: for every text and int.
  Contracts of split.lacking, split.Join, bucketlineref09.Join: for up to 2^20 texts, in sum of at most 2^30 bytes.
-/
import Derived.Test.YtnjdldbdkafnaaaGreatDoorU39
namespace Go.Proofs.YtnjdldbdkafnaaaGreatDoor
open Go.RowKit
set_option linter.unusedVariables false
set_option linter.unusedSimpArgs false
set_option maxRecDepth 4000

/-- 'string(b[o:o+n])'. -/
theorem OwnB.textAt {w : World} {B g cap : Nat} {m : Nat} {xs : List Nat} (h : OwnB w B (.slice (some ⟨g, 0, none⟩) m cap) xs) (hm : xs.length = m) (o n c : Nat) (hn : o + n ≤ m) :
    (convert 74 9 (.slice (some ⟨g, o, none⟩) n c)).run Tryz.prog w = .ok (.string (st ((xs.drop o).take n))) w := by
  subst hm
  rcases h.2 with ⟨e, _⟩ | ⟨g', cap', e, hg, hgg, hc, hf⟩
  · cases e
  · simp only [Value.slice.injEq, Option.some.injEq, Addr.mk.injEq, and_true, true_and] at e
    obtain ⟨rfl, rfl⟩ := e
    have hl : ((xs.drop o).take n).length = n := by rw [List.length_take, List.length_drop]; omega
    have := run_convert_bytes_back (P := Tryz.prog) w 74 9 5 ⟨g, o, none⟩ c (((xs.drop o).take n).map UInt8.ofNat) Tryz.underlying74 Tryz.underlying5 Tryz.underlying9 (fun j hj => by
      have hj' : j < n := by rw [List.length_map, hl] at hj; exact hj
      have e : (⟨g, o, none⟩ : Addr).add j = ⟨g, o + j, none⟩ := by unfold Addr.add; split <;> simp_all
      rw [e, hc (o + j) (by omega)]
      have hb := h.1.get (o + j)
      have hx : ((xs.drop o).take n)[j]'(by rw [hl]; exact hj') = xs.getD (o + j) 0 := by
        have h1 := getD_take (xs.drop o) n j
        rw [if_pos hj', getD_drop] at h1
        rw [← h1, List.getD_eq_getElem?_getD, List.getElem?_eq_getElem (by rw [hl]; exact hj')]
        rfl
      simp only [List.getElem_map]
      rw [hx, UInt8.toNat_ofNat_of_lt' hb])
    rw [List.length_map, hl] at this
    exact this

set_option maxHeartbeats 400000 in
theorem rsplit_no (s : ByteArray) (z : Int) (w : World) (hs : s.size ≤ 9223372036854775807) (h : planE (s.size : Int) z ≠ 0) :
    Calls Tryz.prog 18 #[.string s, .int .i64 z] w fun e w' => e = .returned (.tuple #[.slice none 0 0, .int .i64 (planE (s.size : Int) z)]) ∧ w' = w := by
  have HP := hide (rplan_any (s.size : Int) z w (by omega))
  generalize planE (s.size : Int) z = E0 at *
  generalize planK (s.size : Int) z = K0 at *
  go_enter Tryz.func18, Tryz.ntmps18
  go_wp2_with (go_at_call 35; refine (unhide HP).mono ?_; rintro e w1 ⟨rfl, hw⟩; obtain rfl := hw.symm)
  go_ret2
  exact ⟨rfl, rfl⟩

set_option maxHeartbeats 1000000 in
theorem rsplit_yes (s : ByteArray) (Z : Nat) (w : World) (hz1 : 1 ≤ Z) (hz2 : Z ≤ 64) (hk2 : kc s.size Z ≤ 128) :
    Calls Tryz.prog 18 #[.string s, .int .i64 (Z : Int)] w fun e w' => ∃ v, e = .returned (.tuple #[v, .int .i64 0]) ∧ OwnT w' w.heap.size v (blocksL (tx s) Z (kc s.size Z)) ∧ Below w.heap.size w w' := by
  have hke := kc_enough s.size Z hz1
  have hkz : kc s.size Z * Z ≤ 128 * 64 := Nat.mul_le_mul hk2 hz2
  have hp := rplan_any (s.size : Int) (Z : Int) w (by omega)
  rw [(plan_ok hz1 hz2 hk2).1, (plan_ok hz1 hz2 hk2).2] at hp
  have HP := hide hp
  clear hp
  generalize kc s.size Z = k at *
  have emul : (k : Int) * (Z : Int) = ((k * Z : Nat) : Int) := by simp
  have esub : ((k * Z : Nat) : Int) - (s.size : Int) = ((k * Z - s.size : Nat) : Int) := by omega
  obtain ⟨w1, C, w2, g, cap, hr1, hr2, hob, hb2, hcap, hcap2⟩ := made_bytes w s (k * Z - s.size) (by omega) (by omega)
  have e1 : s.size + (k * Z - s.size) = k * Z := by omega
  rw [e1] at hr2 hob hcap
  have HPD := hide (show tx s ++ List.replicate (k * Z - s.size) 0 = pad (k * Z) (tx s) by rw [pad, tx_length])
  have HM := hide (fun i (h : i < k) => (Nat.mul_le_mul_right Z h : (i + 1) * Z ≤ k * Z))
  have HPL := hide (show (pad (k * Z) (tx s)).length = k * Z from pad_length _ _ (by rw [tx_length]; exact hke))
  rw [unhide HPD] at hob
  have HOB := hide hob
  have HB2 := hide hb2
  have HREF := hide (fun i (h : i < k) => blk_ref (tx s) Z k i h)
  generalize k * Z - s.size = d at *
  obtain ⟨m, hm⟩ : ∃ m, k * Z = m := ⟨_, rfl⟩
  rw [hm] at emul esub hr2 hob hcap HPD HM HPL HOB HREF hke hkz
  have hcz : (m : Int) ≤ (cap : Int) := by omega
  have HR2 := hide hr2
  clear hob hb2 e1 hm HPD hr2
  go_enter Tryz.func18, Tryz.ntmps18
  go_wp2_with (first | (go_at_call 35; refine (unhide HP).mono ?_; rintro e w1 ⟨rfl, hw⟩; obtain rfl := hw.symm) | (at_builtin; refine wpList_append_run rfl _ _ _ _ rfl (.slice (some ⟨w.heap.size, 0, none⟩) s.size C) (.int .i64 (d : Int)) _ rfl rfl (unhide HR2) ?_))
  clear HP HR2 hr1
  go_loopw [9, 10] (fun v i wr => ∃ (j : Nat) (b : Option Addr) (c : Nat), j ≤ k ∧ i = .int .i64 j ∧ v = .slice b j c ∧ Hid (OwnT wr w2.heap.size (.slice b j c) (blocksL (tx s) Z j)) ∧ Hid (Below w2.heap.size w2 wr)) (fun _ i _ => k - (intOf i).toNat)
  case atStart => exact ⟨0, none, 0, Nat.zero_le _, rfl, rfl, hide (OwnT.nil _ _), hide (Below.refl _ _)⟩
  case round =>
    rename_i wr
    obtain ⟨j, b, c, hj, rfl, rfl, HO, HB⟩ := hrel
    by_cases hlt : j < k
    · obtain ⟨A, hA⟩ : ∃ A, j * Z = A := ⟨_, rfl⟩
      obtain ⟨H, hH⟩ : ∃ H, (j + 1) * Z = H := ⟨_, rfl⟩
      have eA : (j : Int) * (Z : Int) = (A : Int) := by rw [← hA]; simp
      have eH : ((j : Int) + 1) * (Z : Int) = (H : Int) := by rw [← hH]; simp
      have hHm : H ≤ m := by rw [← hH]; exact unhide HM j hlt
      have hAH : A + Z = H := by rw [← hA, ← hH, Nat.add_mul, Nat.one_mul]
      have HE := hide (unhide HREF j hlt)
      rw [hA] at HE
      have hAH2 : A ≤ H := by omega
      have hAH3 : A < m := by omega
      have htx := ((unhide HOB).below (unhide HB)).textAt (unhide HPL) A (H - A) (cap - A) (by omega)
      have hZ : H - A = Z := by omega
      rw [show List.take (H - A) (List.drop A (pad m (tx s))) = blk (tx s) Z j by rw [hZ]; exact unhide HE] at htx
      have hHA : (H : Int) - (A : Int) = (Z : Int) := by omega
      have HQ := hide (blocksL_succ (tx s) Z j)
      have HQL := hide (blocksL_length (tx s) Z j)
      have hsb := (unhide HB).size
      have HAHZ := hide hAH
      have HZ := hide hZ
      clear hA hH hAH HE HM HREF hZ
      go_wp2_with (at_builtin; refine wpList_pushT rfl _ _ rfl w2.heap.size (.slice b j c) _ _ rfl rfl (unhide HO) hsb (by rw [unhide HQL]; omega) ?_)
      intro v2 w3 ho2 hb2
      rw [← unhide HQ] at ho2
      obtain ⟨b2, c2, rfl, -⟩ := ho2.texts
      rw [blocksL_length] at ho2 ⊢
      have HO2 := hide ho2
      have HB3 := hide ((unhide HB).trans hb2)
      clear ho2 hb2 HO HB HOB htx
      go_wp2
      go_roundw
      case rel => exact ⟨j + 1, b2, c2, by omega, by go_num, rfl, HO2, HB3⟩
      case measure => simp [intOf]; omega
    · obtain rfl : j = k := by omega
      clear HREF HM
      go_wp2
      go_ret2
      exact ⟨_, rfl, (unhide HO).mono (unhide HB2).size, (unhide HB2).trans ((unhide HB).mono (unhide HB2).size)⟩
end Go.Proofs.YtnjdldbdkafnaaaGreatDoor
namespace Go.Proofs.YtnjdldbdkafnaaaGreatDoor
open Go.RowKit
set_option linter.unusedVariables false
set_option linter.unusedSimpArgs false
set_option maxRecDepth 4000

theorem heap_new (w : World) (o : Obj) : (w.alloc o).heap[w.heap.size]? = some o := by
  show (w.heap.push o)[w.heap.size]? = _
  simp
set_option maxHeartbeats 400000 in
theorem lacking_any (a : Option Addr) (l c : Nat) (ss : List ByteArray) (n : Nat) (w : World) (h : TextsAt w a l ss) (hl : l ≤ 1048576) (hn : n ≤ 9223372036854775807) :
    Calls Tryz.prog 86 #[.slice a l c, .int .i64 (n : Int)] w fun e w' => e = .returned (.int .i64 ((n - (joinL ss).length : Nat) : Int)) ∧ w' = w := by
  obtain rfl := h.1
  go_enter Tryz.func86, Tryz.ntmps86
  go_wp2
  go_loop [1, 9] (fun v i => ∃ k r : Nat, k ≤ ss.length ∧ i = .int .i64 k ∧ v = .int .i64 (r : Int) ∧ r ≤ n ∧ Hid (r = n - (joinL (ss.take k)).length)) (fun _ i => ss.length - (intOf i).toNat)
  case atStart => exact ⟨0, n, Nat.zero_le _, rfl, rfl, Nat.le_refl _, hide (by simp [joinL])⟩
  case round =>
    obtain ⟨k, r, hk, rfl, rfl, hr, HR⟩ := hrel
    by_cases hlt : k < ss.length
    · obtain ⟨b, off, rfl, hc⟩ := h.at hlt
      have hcell := hc k hlt
      have hj := joinL_take ss k hlt
      have hjl := congrArg List.length hj
      rw [List.length_append, tx_length] at hjl
      have HJ := hide hjl
      generalize ss.getD k ByteArray.empty = t at *
      have M := min_run t.size r
      obtain ⟨q, hq⟩ : ∃ q, min t.size r = q := ⟨_, rfl⟩
      rw [hq] at M
      have esub : (r : Int) - (q : Int) = ((r - q : Nat) : Int) := by omega
      have hqr : q ≤ r := by omega
      have hlt' : (k : Int) < (ss.length : Int) := by omega
      have HR2 := hide (show r - q = n - (joinL (ss.take (k + 1))).length by have := unhide HR; have := unhide HJ; omega)
      clear hc hj hjl hq h
      go_wp2
      go_round
      case rel => exact ⟨k + 1, r - q, by omega, by go_num, by first | rfl | rw [esub], by omega, HR2⟩
      case measure => simp [intOf]; omega
    · obtain rfl : k = ss.length := by omega
      rw [List.take_length] at HR
      clear h
      go_wp2
      go_ret
      exact ⟨ret_int (by rw [unhide HR]), rfl⟩

set_option maxHeartbeats 2000000 in
theorem join_yes (a : Option Addr) (l c : Nat) (ss : List ByteArray) (n : Nat) (w : World) (h : TextsAt w a l ss) (hl : l ≤ 1048576) (hn : n ≤ 1073741824) (hj : n ≤ (joinL ss).length) :
    Calls Tryz.prog 67 #[.slice a l c, .int .i64 (n : Int)] w fun e w' => e = .returned (.tuple #[.string (st ((joinL ss).take n)), .int .i64 0]) ∧ Below w.heap.size w w' := by
  obtain rfl := h.1
  have hlk := lacking_any a ss.length c ss n w h hl (by omega)
  rw [show n - (joinL ss).length = 0 by omega] at hlk
  have HL := hide hlk
  have HG := hide (bgrow_new w.heap.size w.heap.size n (w.alloc (.cells #[.pointer none, .slice none 0 0] 119)) (Nat.le_refl _) (heap_new w _) (by simp) hn)
  have hb0 : Below w.heap.size w (w.alloc (.cells #[.pointer none, .slice none 0 0] 119)) := (Below.refl _ _).alloc (Nat.le_refl _) _
  have hnn : (0 : Int) ≤ (n : Int) := by omega
  clear hlk
  go_enter Tryz.func67, Tryz.ntmps67
  go_wp2_with (first | (go_at_call 86; refine (unhide HL).mono ?_; rintro e w1 ⟨rfl, hw⟩; obtain rfl := hw.symm) | (go_at_call 87; refine (unhide HG).mono ?_; rintro e w1 ⟨rfl, hB1, hb1⟩))
  have HB0 := hide hB1
  have HBB := hide (hb0.trans hb1)
  clear hb0 hb1 hB1 HG HL
  go_loopw [21] (fun i wr => ∃ k : Nat, k ≤ ss.length ∧ i = .int .i64 k ∧ Hid (Bld wr w.heap.size w.heap.size ((joinL (ss.take k)).take n)) ∧ Hid (Below w.heap.size w wr)) (fun i _ => ss.length - (intOf i).toNat)
  case atStart => exact ⟨0, Nat.zero_le _, rfl, hide (by simpa [joinL] using unhide HB0), HBB⟩
  case round =>
    obtain ⟨k, hk, rfl, HO, HB⟩ := hrel
    clear HB0 HBB
    by_cases hlt : k < ss.length
    · obtain ⟨b, off, rfl, hc⟩ := (h.below (unhide HB)).at hlt
      have hcell := hc k hlt
      have HT := hide (joinL_take ss k hlt)
      generalize ss.getD k ByteArray.empty = t at *
      obtain ⟨P, hP⟩ : ∃ P, joinL (ss.take k) = P := ⟨_, rfl⟩
      rw [hP] at HO HT
      have hPl : (P.take n).length ≤ n := List.length_take_le _ _
      obtain ⟨q, hq⟩ : ∃ q, (P.take n).length = q := ⟨_, rfl⟩
      have HLn := hide (blen_any w.heap.size w.heap.size (P.take n) _ (unhide HO))
      rw [hq] at HLn hPl
      have esub : (n : Int) - (q : Int) = ((n - q : Nat) : Int) := by omega
      have M := min_run t.size (n - q)
      obtain ⟨r, hr⟩ : ∃ r, min t.size (n - q) = r := ⟨_, rfl⟩
      rw [hr] at M
      have hrt : r ≤ t.size := by omega
      have hx1 : (t.extract 0 r).size = r := by rw [ByteArray.size_extract]; omega
      have HW := hide (bwstr_any w.heap.size w.heap.size (P.take n) (t.extract 0 r) _ (unhide HO) (by rw [hq, hx1]; omega) (unhide HB).size)
      have HE := hide (show P.take n ++ tx (t.extract 0 r) = (joinL (ss.take (k + 1))).take n by
        rw [unhide HT, List.take_append, tx_cut, List.drop_zero, Nat.sub_zero]
        congr 1
        rw [List.length_take] at hq
        by_cases hc : n ≤ P.length
        · rw [show r = 0 by omega, show n - P.length = 0 by omega]
        · by_cases hc2 : t.size ≤ n - P.length
          · rw [List.take_of_length_le (by rw [tx_length]; omega), List.take_of_length_le (by rw [tx_length]; omega)]
          · rw [show r = n - P.length by omega])
      have hlt' : (k : Int) < (ss.length : Int) := by omega
      clear hc hP hq hr hx1 HT
      go_wp2_with (first | (go_at_call 89; refine (unhide HLn).mono ?_; rintro e w1 ⟨rfl, hw⟩; obtain rfl := hw.symm) | (go_at_call 88; refine (unhide HW).mono ?_; rintro e w2 ⟨rfl, hB2, hb2⟩))
      rw [unhide HE] at hB2
      have HB2 := hide hB2
      have HBB2 := hide ((unhide HB).trans hb2)
      clear hB2 hb2 HO HB
      go_wp2
      go_roundw
      case rel => exact ⟨k + 1, by omega, by go_num, HB2, HBB2⟩
      case measure => simp [intOf]; omega
    · obtain rfl : k = ss.length := by omega
      rw [List.take_length] at HO
      have HS := hide (bstr_any w.heap.size w.heap.size _ _ (unhide HO) (unhide HB).size)
      clear h HO
      go_wp2_with (go_at_call 90; refine (unhide HS).mono ?_; rintro e w1 ⟨rfl, hb1⟩)
      go_ret2
      exact ⟨rfl, (unhide HB).trans hb1⟩

end Go.Proofs.YtnjdldbdkafnaaaGreatDoor
