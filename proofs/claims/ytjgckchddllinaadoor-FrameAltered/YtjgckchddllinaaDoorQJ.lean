/-
  The walk of FrameAltered: every frame.
-/
import Derived.Test.YtjgckchddllinaaDoorQI
namespace Go.Proofs.YtjgckchddllinaaDoor
open Go.RowKit Go.Sort
set_option linter.unusedVariables false
set_option maxRecDepth 4000

theorem mask_at (n : Int) (j : Nat) (c : Int) (hc : (BitVec.ofInt 64 c).toNat = 2 ^ j - 1) (hj : 2 ^ j ≤ 4294967296) : bits .and .i64 n c = ((m64 n % 2 ^ j : Nat) : Int) := by
  have key : (BitVec.ofInt 64 n &&& BitVec.ofInt 64 c).toNat = m64 n % 2 ^ j := by
    rw [BitVec.toNat_and, BitVec.toNat_ofInt, hc, Nat.and_two_pow_sub_one_eq_mod]
    rfl
  show IntKind.i64.wrap ((BitVec.ofInt 64 n &&& BitVec.ofInt 64 c).toNat : Nat) = _
  rw [key, IntKind.wrap_i64]
  have := Nat.mod_lt (m64 n) (show 0 < 2 ^ j from Nat.pow_pos (by decide))
  generalize m64 n % 2 ^ j = x at *
  omega
theorem low8 (n : Int) : ∃ y : Nat, y < 256 ∧ bits .and .i64 n 255 = (y : Int) ∧ n % 256 = (y : Int) := by
  refine ⟨m64 n % 2 ^ 8, Nat.mod_lt _ (by decide), mask_at n 8 255 (by decide) (by decide), ?_⟩
  unfold m64
  omega
theorem at_in (a : Int) (n : Nat) (h : 0 < n) : ∃ k : Nat, (IntKind.u64.wrap a).tmod (n : Int) = (k : Int) ∧ k < n := by
  have h0 : 0 ≤ IntKind.u64.wrap a := by
    rw [IntKind.wrap_u64]
    exact Int.emod_nonneg _ (by decide)
  rw [Int.tmod_eq_emod_of_nonneg h0]
  have h1 := Int.emod_nonneg (IntKind.u64.wrap a) (b := (n : Int)) (by omega)
  have h2 := Int.emod_lt_of_pos (IntKind.u64.wrap a) (b := (n : Int)) (by omega)
  exact ⟨(IntKind.u64.wrap a % (n : Int)).toNat, by omega, by omega⟩
/-- One byte of a frame's is another one. -/
theorem alt_dec {kd fr ic o l k z h : Int} {xs : List Nat} {s : ByteArray} {j y : Nat} (hj : j < (fencS kd fr ic o l k z h xs s).size) (hy : y < 256) (h0 : y ≠ 0) {kd' fr' ic' o' l' k' z' h' : Int} {ys : List Nat} {t : ByteArray} {en : Nat}
    (hd : FDecP (st ((tx (fencS kd fr ic o l k z h xs s)).set j ((tx (fencS kd fr ic o l k z h xs s)).getD j 0 ^^^ y))) kd' fr' ic' o' l' k' z' h' ys t en) : en = 4 ∧ FZ kd' fr' ic' o' l' k' z' h' ys t := by
  unfold fencS at hj hd
  rw [sealS_size] at hj
  have h4 := (one_open _ j y hj hy h0).1
  have := hd.1 (by rw [h4]; decide)
  rw [h4] at this
  exact this
theorem fencS_ge (kd fr ic o l k z h : Int) (xs : List Nat) (s : ByteArray) : 10 ≤ (fencS kd fr ic o l k z h xs s).size := by
  unfold fencS
  rw [sealS_size, st_len, fencL_len]
  omega

set_option maxHeartbeats 8000000 in
theorem falt_walk (kd fr ic o l k z h : Int) (a : Option Addr) (n c : Nat) (xs : List Nat) (s : ByteArray) (at' by' : Int) (w : World) (ht : Tab w) (hr : RowAt w a n xs) :
    Calls Tryd.prog 7 #[.agg #[.int .i64 kd, .int .i64 fr, .int .i64 ic, .int .i64 o, .int .i64 l, .int .i64 k, .int .i64 z, .int .i64 h, .slice a n c, .string s], .int .i64 at', .int .i64 by'] w fun e w' => e = .returned (.bool true) ∧ Below w.heap.size w w' := by
  have HT := hide ht
  obtain ⟨b, hb⟩ := tb_ex (n ≤ 100 ∧ s.size ≤ 10000)
  obtain ⟨y, hy, hand, hmod⟩ := low8 by'
  have HB := hide hb
  have HM := hide hmod
  have HY := hide hy
  have B0 := hide (below_new w (.cells #[.int .i64 kd, .int .i64 fr, .int .i64 ic, .int .i64 o, .int .i64 l, .int .i64 k, .int .i64 z, .int .i64 h, .slice a n c, .string s] 28))
  have X0 := hide (frb_new w (.int .i64 kd) (.int .i64 fr) (.int .i64 ic) (.int .i64 o) (.int .i64 l) (.int .i64 k) (.int .i64 z) (.int .i64 h) (.slice a n c) (.string s))
  have R0 := hide (row_alloc hr (.cells #[.int .i64 kd, .int .i64 fr, .int .i64 ic, .int .i64 o, .int .i64 l, .int .i64 k, .int .i64 z, .int .i64 h, .slice a n c, .string s] 28))
  clear ht hr hb hmod hy
  go_enter Tryd.func7, Tryd.ntmps7
  go_wp2_with fail
  refine (ffew_any _ _ _ _ _ _ _ _ a n c s _ b (unhide HB)).mono ?_
  rintro e w1 ⟨rfl, hb1⟩
  have B1 := hide (below0 (unhide B0) hb1)
  have X1 := hide ((unhide X0).below hb1)
  have R1 := hide ((unhide R0).below hb1)
  clear hb1 B0 X0 R0
  cases b
  · clear hand
    go_wp2_with fail
    refine (fawake_any _ ((unhide HT).below (unhide B1))).mono ?_
    rintro e wz ⟨rfl, hbz⟩
    have BZ := hide (below0 (unhide B1) hbz)
    clear hbz
    go_wp2
    go_ret
    exact ⟨rfl, unhide BZ⟩
  by_cases h0 : y = 0
  · subst h0
    go_wp2_with fail
    refine (fawake_any _ ((unhide HT).below (unhide B1))).mono ?_
    rintro e wz ⟨rfl, hbz⟩
    have BZ := hide (below0 (unhide B1) hbz)
    clear hbz
    go_wp2
    go_ret
    exact ⟨rfl, unhide BZ⟩
  have hne : ((y : Int) == 0) = false := by rw [beq_eq_false_iff_ne]; omega
  have hne' : ¬ ((y : Int) = 0) := by omega
  have HN := hide (show n ≤ 1048576 by have := ((unhide HB).1 rfl).1; omega)
  have H0 := hide h0
  clear HB h0
  obtain ⟨⟨i0, i1, i2⟩, i3, i4, i5, i6, i7, i8, i9⟩ := (unhide X1).at
  by_cases hP : FChkP kd fr ic o l k z h xs s
  rotate_left
  · have E1 := hide (fenc_no kd fr ic o l k z h a n c xs s w1 ((unhide HT).below (unhide B1)) (unhide R1) (unhide HN) hP)
    clear hP
    go_wp2_with fail
    refine (unhide E1).mono ?_
    rintro e w2 ⟨rfl, hb⟩
    have B2 := hide (below0 (unhide B1) hb)
    clear hb B1 X1 R1 E1 i0 i1 i2 i3 i4 i5 i6 i7 i8 i9
    go_wp2_with fail
    refine (fawake_any _ ((unhide HT).below (unhide B2))).mono ?_
    rintro e wz ⟨rfl, hbz⟩
    have BZ := hide (below0 (unhide B2) hbz)
    clear hbz
    go_wp2
    go_ret
    exact ⟨rfl, unhide BZ⟩
  · have E1 := hide (fenc_yes kd fr ic o l k z h a n c xs s w1 ((unhide HT).below (unhide B1)) (unhide R1) (unhide HN) hP)
    have hle := fencS_le hP
    have hge := fencS_ge kd fr ic o l k z h xs s
    have HA := hide (fun j hj => fun kd' fr' ic' o' l' k' z' h' ys t' en => alt_dec (kd := kd) (fr := fr) (ic := ic) (o := o) (l := l) (k := k) (z := z) (h := h) (xs := xs) (s := s) (j := j) (kd' := kd') (fr' := fr') (ic' := ic') (o' := o') (l' := l') (k' := k') (z' := z') (h' := h') (ys := ys) (t := t') (en := en) hj (unhide HY) (unhide H0))
    generalize fencS kd fr ic o l k z h xs s = T at *
    obtain ⟨j, hjv, hjlt⟩ := at_in at' T.size (by omega)
    have hemp := toList_some (s := T) (by omega)
    have hN0 : ¬ ((T.size : Int) = 0) := by omega
    have hjlt' : (j : Int) < (T.size : Int) := by omega
    have hwr : IntKind.u64.wrap (T.size : Int) = (T.size : Int) := by rw [IntKind.wrap_u64]; omega
    have hN1 : ((T.size : Int) == 0) = false := by rw [beq_eq_false_iff_ne]; omega
    have HL := hide (show T.size ≤ 101 ∧ j < T.size from ⟨hle, hjlt⟩)
    have hjb : j ≤ 101 := by omega
    have hA := unhide HA j hjlt
    have HAJ := hide hA
    clear hP HA hA
    go_wp2_with fail
    refine (unhide E1).mono ?_
    rintro e w2 ⟨rfl, hb⟩
    have B2 := hide (below0 (unhide B1) hb)
    clear hb B1 X1 R1 E1 HN i0 i1 i2 i3 i4 i5 i6 i7 i8 i9
    obtain ⟨w3, cap, hcv, ho, hb3⟩ := bytes_text w2 T
    have B3 := hide (below0 (unhide B2) hb3)
    have hlen := tx_length T
    have ho' := ho
    rw [← hlen] at ho'
    obtain ⟨g', cap', hv, hgB, _, hc, hf⟩ := ho'.at (by omega)
    simp only [Value.slice.injEq, Option.some.injEq, Addr.mk.injEq, and_true, true_and] at hv
    obtain ⟨rfl, rfl⟩ := hv
    have hcell := hc j (by omega)
    have hfz := hf j (by omega)
    have hx := ho.1.get j
    have hst := ho'.stored j ((tx T).getD j 0 ^^^ y) (xorB_lt hx (unhide HY))
    rw [hlen] at hst
    have hxo : bits .xor .u8 (((tx T).getD j 0 : Nat) : Int) (y : Int) = (((tx T).getD j 0 ^^^ y : Nat) : Int) := u8_xor_nat _ y hx (unhide HY)
    have HSZ := hide (show (st ((tx T).set j ((tx T).getD j 0 ^^^ y))).size ≤ 1048576 by rw [st_len, List.length_set, hlen]; have := (unhide HL).1; omega)
    have B4 := hide ((unhide B3).setCell (p := ⟨w2.heap.size, j, none⟩) (by have := (unhide B2).size; exact this) (.int .u8 (((tx T).getD j 0 ^^^ y : Nat) : Int)))
    have htx := hst.text
    have hmod := unhide HM
    clear ho ho' hc hf hx hst hb3 hlen hgB B2 B3
    generalize st ((tx T).set j ((tx T).getD j 0 ^^^ y)) = Z at *
    generalize (tx T).getD j 0 ^^^ y = zz at *
    generalize (tx T).getD j 0 = x at *
    have HD := hide (fun wx => fdec_any Z wx (unhide HSZ))
    go_wp2_with fail
    refine (unhide HD _).mono ?_
    rintro e w5 ⟨kd', fr', ic', o', l', k', z', h', a', n', c', xs', s', en, rfl, hr, hd, hb⟩
    obtain ⟨rfl, ⟨h1, h2, h3⟩, h4, h5, h6, h7, h8, h9, h10⟩ := unhide HAJ _ _ _ _ _ _ _ _ _ _ _ hd
    subst h1 h2 h3 h4 h5 h6 h7 h8 h9 h10
    have hn0 : n' = 0 := hr.1.symm
    have hh := below0 hb (below_new w5 (.cells #[.int .i64 0, .int .i64 0, .int .i64 0, .int .i64 0, .int .i64 0, .int .i64 0, .int .i64 0, .int .i64 0, .slice a' n' c', .string ⟨#[]⟩] 28))
    have B6 := hide (below0 (unhide B4) hh)
    have Y6 := hide (frb_new w5 (.int .i64 0) (.int .i64 0) (.int .i64 0) (.int .i64 0) (.int .i64 0) (.int .i64 0) (.int .i64 0) (.int .i64 0) (.slice a' n' c') (.string ⟨#[]⟩))
    have Q6 := hide (row_alloc hr (.cells #[.int .i64 0, .int .i64 0, .int .i64 0, .int .i64 0, .int .i64 0, .int .i64 0, .int .i64 0, .int .i64 0, .slice a' n' c', .string ⟨#[]⟩] 28))
    have N6 := hide (show n' ≤ 1048576 by omega)
    clear hb hh hr hd HD HAJ B4 hn0 hcv hcell hfz hxo htx hmod hjv
    iterate 19 (first | go_values | go_skip | go_guarded | go_step | go_upon | go_back | go_simp)
    generalize w5.alloc (.cells #[.int .i64 0, .int .i64 0, .int .i64 0, .int .i64 0, .int .i64 0, .int .i64 0, .int .i64 0, .int .i64 0, .slice a' n' c', .string ⟨#[]⟩] 28) = u6 at *
    generalize w5.heap.size = g6 at *
    obtain ⟨⟨i0, i1, i2⟩, i3, i4, i5, i6, i7, i8, i9⟩ := (unhide Y6).at
    go_wp2_with fail
    refine (rfsame_any 0 0 0 0 0 0 0 0 a' n' c' [] ⟨#[]⟩ 0 0 0 0 0 0 0 0 none 0 0 [] ⟨#[]⟩ _ (unhide Q6) (row_none _) (unhide N6) (by decide) true (fsame_self ..)).mono ?_
    rintro e w7 ⟨rfl, hb⟩
    have B7 := hide (below0 (unhide B6) hb)
    clear hb B6 Y6 Q6 N6 i0 i1 i2 i3 i4 i5 i6 i7 i8 i9
    go_wp2_with fail
    refine (fawake_any _ ((unhide HT).below (unhide B7))).mono ?_
    rintro e wz ⟨rfl, hbz⟩
    have BZ := hide (below0 (unhide B7) hbz)
    clear hbz
    go_wp2
    go_ret
    exact ⟨rfl, unhide BZ⟩
end Go.Proofs.YtjgckchddllinaaDoor
