/-
  The walk of CrcFlips.
-/
import Derived.Test.YtbhmdfoojhjecaaCE
namespace Go.Proofs.Ytbhmdfoojhjecaa
open Go.RowKit Go.Sort
set_option linter.unusedVariables false

set_option maxHeartbeats 1000000 in
theorem flips_awake (s : ByteArray) (a : Int) (y : Nat) (w : World) (hm : s.size ≤ 9223372036854775807) (hy : y < 4294967296) (h : 2000 < s.size ∨ y = 0) :
    Calls Try.prog 6 #[.string s, .int .i64 a, .int .u32 (y : Int)] w fun e w' => e = .returned (.bool true) ∧ Below w.heap.size w w' := by
  by_cases hg : 2000 < s.size
  · have hg' : decide ((2000 : Int) < (s.size : Int)) = true := by rw [decide_eq_true_iff]; omega
    clear hg h
    go_enter Try.func6, Try.ntmps6
    go_wp2_with fail
    refine (awake_any _).mono ?_
    rintro e w5 ⟨rfl, hb5⟩
    have B5 := hide hb5
    clear hb5
    go_wp2
    go_ret
    exact ⟨rfl, unhide B5⟩
  · have hg' : decide ((2000 : Int) < (s.size : Int)) = false := by rw [decide_eq_false_iff_not]; omega
    obtain rfl : y = 0 := by omega
    clear hg h
    go_enter Try.func6, Try.ntmps6
    go_wp2_with fail
    refine (awake_any _).mono ?_
    rintro e w5 ⟨rfl, hb5⟩
    have B5 := hide hb5
    clear hb5
    go_wp2
    go_ret
    exact ⟨rfl, unhide B5⟩

theorem flip_xor0 (x y : Nat) (hx : x < 256) : bits .xor .u8 (x : Int) ((y : Int) % 256) = ((x ^^^ byteOf y 0 : Nat) : Int) := u8_xor_nat x (y % 256) hx (by omega)
theorem flip_xor1 (x y : Nat) (hx : x < 256) : bits .xor .u8 (x : Int) ((y : Int) / 256 % 256) = ((x ^^^ byteOf y 1 : Nat) : Int) := u8_xor_nat x (y / 256 % 256) hx (by omega)
theorem flip_xor2 (x y : Nat) (hx : x < 256) : bits .xor .u8 (x : Int) ((y : Int) / 65536 % 256) = ((x ^^^ byteOf y 2 : Nat) : Int) := u8_xor_nat x (y / 65536 % 256) hx (by omega)
theorem flip_xor3 (x y : Nat) (hx : x < 256) (hy : y < 4294967296) : bits .xor .u8 (x : Int) ((y : Int) / 16777216) = ((x ^^^ byteOf y 3 : Nat) : Int) := by
  have h := u8_xor_nat x (y / 16777216) hx (by omega)
  rw [show byteOf y 3 = y / 16777216 from Nat.mod_eq_of_lt (by omega)]
  exact h
theorem fl_store {w wr : World} {B g n cap k y j : Nat} {xs : List Nat} (hn : xs.length = n) (ho : OwnB wr B (.slice (some ⟨g, 0, none⟩) n cap) (fl xs k y j)) (hb : Below w.heap.size w wr) (hB : w.heap.size ≤ g) (hk : k + j < n) :
    ∃ x : Nat, x < 256 ∧ wr.cell? ⟨g, k + j, none⟩ = some (.int .u8 (x : Int)) ∧ wr.frozen? ⟨g, k + j, none⟩ = false ∧
      (OwnB (wr.setCell ⟨g, k + j, none⟩ (.int .u8 ((x ^^^ byteOf y j : Nat) : Int))) B (.slice (some ⟨g, 0, none⟩) n cap) (fl xs k y (j + 1)) ∧ Below w.heap.size w (wr.setCell ⟨g, k + j, none⟩ (.int .u8 ((x ^^^ byteOf y j : Nat) : Int)))) := by
  have hl := fl_length xs k y j
  rw [hn] at hl
  rw [← hl] at ho
  obtain ⟨g', cap', hv, _, _, hc, hf⟩ := ho.at (by omega)
  simp only [Value.slice.injEq, Option.some.injEq, Addr.mk.injEq, and_true, true_and] at hv
  obtain ⟨rfl, rfl⟩ := hv
  have hx := ho.1.get (k + j)
  refine ⟨(fl xs k y j).getD (k + j) 0, hx, hc _ (by omega), hf _ (by omega), ?_, hb.setCell (by exact hB) _⟩
  have := ho.stored (k + j) ((fl xs k y j).getD (k + j) 0 ^^^ byteOf y j) (xorB_lt hx (byteOf_lt y j))
  rw [hl] at this
  exact this
theorem flip_at (a : Int) (n : Nat) (h4 : 4 ≤ n) : ∃ k : Nat, (IntKind.u64.wrap a).tmod ((n : Int) - 3) = (k : Int) ∧ k + 4 ≤ n := by
  have h0 : 0 ≤ IntKind.u64.wrap a := by
    rw [IntKind.wrap_u64]
    exact Int.emod_nonneg _ (by decide)
  rw [Int.tmod_eq_emod_of_nonneg h0]
  have h1 := Int.emod_nonneg (IntKind.u64.wrap a) (b := (n : Int) - 3) (by omega)
  have h2 := Int.emod_lt_of_pos (IntKind.u64.wrap a) (b := (n : Int) - 3) (by omega)
  exact ⟨(IntKind.u64.wrap a % ((n : Int) - 3)).toNat, by omega, by omega⟩
theorem flip_calls (s : ByteArray) (k y : Nat) (hm : s.size ≤ 2000) (hy : y < 4294967296) (h0 : y ≠ 0) (hk : k + 4 ≤ s.size ∨ k = s.size) (w : World) :
    Calls Try.prog 13 #[.string (st (fl (tx (sealS s)) k y 4))] w fun e w' => e = .returned (.tuple #[.string ⟨#[]⟩, .int .i64 4]) ∧ Below w.heap.size w w' := by
  have h := copen_any (st (fl (tx (sealS s)) k y 4)) w (by rw [st_len, fl_length, tx_length, sealS_size]; omega)
  rw [(flip_open s k y hy h0 hk).1, (flip_open s k y hy h0 hk).2] at h
  exact h
set_option maxHeartbeats 2000000 in
theorem flips_text (s : ByteArray) (a : Int) (y : Nat) (w : World) (ha : -9223372036854775808 ≤ a) (ha' : a ≤ 9223372036854775807) (h4 : 4 ≤ s.size) (hbit : bits .and .i64 a 1 = 0) (hm : s.size ≤ 2000) (hy : y < 4294967296) (h0 : y ≠ 0) :
    Calls Try.prog 6 #[.string s, .int .i64 a, .int .u32 (y : Int)] w fun e w' => e = .returned (.bool true) ∧ Below w.heap.size w w' := by
  have hg' : decide ((2000 : Int) < (s.size : Int)) = false := by rw [decide_eq_false_iff_not]; omega
  have hne : ((y : Int) == 0) = false := by rw [beq_eq_false_iff_ne]; omega
  have h4' : decide ((4 : Int) ≤ (s.size : Int)) = true := by rw [decide_eq_true_iff]; omega
  obtain ⟨k, hkv, hkm⟩ := flip_at a s.size h4
  have HKK : Hid (k + 4 ≤ s.size ∨ k = s.size) := hide (.inl hkm)
  have hkb : k ≤ 2000 := by omega
  clear hkm
  have K1 := hide (fun w' => cseal_any s w' (by omega))
  have hsz := sealS_size s
  have K2 := hide (flip_calls s k y hm hy h0 (unhide HKK))
  have q1 := q_eq ⟨#[]⟩
  generalize sealS s = t at *
  have HK : Hid (k ≤ s.size) := hide (by have := unhide HKK; omega)
  clear HKK h0
  go_enter Try.func6, Try.ntmps6
  go_wp2_with fail
  refine (unhide K1 _).mono ?_
  rintro e w1 ⟨rfl, hb1⟩
  obtain ⟨w2, cap, hcv, ho, hb⟩ := bytes_text w1 t
  rw [hsz] at hcv ho
  have HO2 := hide ho
  have HB2 := hide (below0 hb1 hb)
  have HG := hide hb1.size
  have HL : Hid ((tx t).length = s.size + 4) := hide (by rw [tx_length, hsz])
  clear ho hb hb1 hsz
  go_wp2
  go_loopw [9] (fun i wr => ∃ j : Nat, j ≤ 4 ∧ i = .int .i64 j ∧ Hid (OwnB wr w1.heap.size (.slice (some ⟨w1.heap.size, 0, none⟩) (s.size + 4) cap) (fl (tx t) k y j)) ∧ Hid (Below w.heap.size w wr)) (fun i _ => 4 - (intOf i).toNat)
  case atStart => exact ⟨0, by decide, rfl, HO2, HB2⟩
  case round =>
    obtain ⟨j, hj, rfl, HO, HB⟩ := hrel
    clear HO2 HB2 hcv
    by_cases hlt : j < 4
    · match j, hlt with
      | 0, _ =>
        obtain ⟨x, hx, hcell, hfz, hst⟩ := fl_store (j := 0) (unhide HL) (unhide HO) (unhide HB) (unhide HG) (by have := unhide HK; omega)
        have R := hide hst
        have hxo : bits .xor .u8 (x : Int) ((y : Int) % 256) = ((x ^^^ byteOf y 0 : Nat) : Int) := flip_xor0 x y hx
        have hlt0 : ((k + 0 : Nat) : Int) < (s.size : Int) + 4 := by have := unhide HK; omega
        rw [Nat.add_zero] at hcell hfz R hlt0
        obtain ⟨z, hz⟩ : ∃ z, z = x ^^^ byteOf y 0 := ⟨_, rfl⟩
        rw [← hz] at hxo R
        clear hst HO HB hz
        go_wp2
        go_roundw
        case rel => exact ⟨1, by omega, rfl, hide (unhide R).1, hide (unhide R).2⟩
        case measure => simp [intOf]
      | 1, _ =>
        obtain ⟨x, hx, hcell, hfz, hst⟩ := fl_store (j := 1) (unhide HL) (unhide HO) (unhide HB) (unhide HG) (by have := unhide HK; omega)
        have R := hide hst
        have hxo : bits .xor .u8 (x : Int) ((y : Int) / 256 % 256) = ((x ^^^ byteOf y 1 : Nat) : Int) := flip_xor1 x y hx
        have hlt0 : ((k + 1 : Nat) : Int) < (s.size : Int) + 4 := by have := unhide HK; omega
        obtain ⟨m, hm⟩ : ∃ m, m = k + 1 := ⟨_, rfl⟩
        rw [← hm] at hcell hfz R hlt0
        have hmI : (k : Int) + 1 = (m : Int) := by omega
        clear hm
        obtain ⟨z, hz⟩ : ∃ z, z = x ^^^ byteOf y 1 := ⟨_, rfl⟩
        rw [← hz] at hxo R
        clear hst HO HB hz
        go_wp2
        go_roundw
        case rel => exact ⟨2, by omega, rfl, hide (unhide R).1, hide (unhide R).2⟩
        case measure => simp [intOf]
      | 2, _ =>
        obtain ⟨x, hx, hcell, hfz, hst⟩ := fl_store (j := 2) (unhide HL) (unhide HO) (unhide HB) (unhide HG) (by have := unhide HK; omega)
        have R := hide hst
        have hxo : bits .xor .u8 (x : Int) ((y : Int) / 65536 % 256) = ((x ^^^ byteOf y 2 : Nat) : Int) := flip_xor2 x y hx
        have hlt0 : ((k + 2 : Nat) : Int) < (s.size : Int) + 4 := by have := unhide HK; omega
        obtain ⟨m, hm⟩ : ∃ m, m = k + 2 := ⟨_, rfl⟩
        rw [← hm] at hcell hfz R hlt0
        have hmI : (k : Int) + 2 = (m : Int) := by omega
        clear hm
        obtain ⟨z, hz⟩ : ∃ z, z = x ^^^ byteOf y 2 := ⟨_, rfl⟩
        rw [← hz] at hxo R
        clear hst HO HB hz
        go_wp2
        go_roundw
        case rel => exact ⟨3, by omega, rfl, hide (unhide R).1, hide (unhide R).2⟩
        case measure => simp [intOf]
      | 3, _ =>
        obtain ⟨x, hx, hcell, hfz, hst⟩ := fl_store (j := 3) (unhide HL) (unhide HO) (unhide HB) (unhide HG) (by have := unhide HK; omega)
        have R := hide hst
        have hxo : bits .xor .u8 (x : Int) ((y : Int) / 16777216) = ((x ^^^ byteOf y 3 : Nat) : Int) := flip_xor3 x y hx hy
        have hlt0 : ((k + 3 : Nat) : Int) < (s.size : Int) + 4 := by have := unhide HK; omega
        obtain ⟨m, hm⟩ : ∃ m, m = k + 3 := ⟨_, rfl⟩
        rw [← hm] at hcell hfz R hlt0
        have hmI : (k : Int) + 3 = (m : Int) := by omega
        clear hm
        obtain ⟨z, hz⟩ : ∃ z, z = x ^^^ byteOf y 3 := ⟨_, rfl⟩
        rw [← hz] at hxo R
        clear hst HO HB hz
        go_wp2
        go_roundw
        case rel => exact ⟨4, by omega, rfl, hide (unhide R).1, hide (unhide R).2⟩
        case measure => simp [intOf]
    · obtain rfl : j = 4 := by omega
      have hct := (unhide HO).text
      generalize st (fl (tx t) k y 4) = u at *
      clear HO
      go_wp2_with fail
      refine (unhide K2 _).mono ?_
      rintro e w5 ⟨rfl, hb5⟩
      have B5 := hide (below0 (unhide HB) hb5)
      clear hb5 HB
      go_wp2_with fail
      refine (awake_any _).mono ?_
      rintro e w6 ⟨rfl, hb6⟩
      have B6 := hide (below0 (unhide B5) hb6)
      clear hb6 B5
      go_wp2
      go_ret
      exact ⟨rfl, unhide B6⟩

set_option maxHeartbeats 2000000 in
theorem flips_short (s : ByteArray) (a : Int) (y : Nat) (w : World) (h4 : s.size < 4) (hm : s.size ≤ 2000) (hy : y < 4294967296) (h0 : y ≠ 0) :
    Calls Try.prog 6 #[.string s, .int .i64 a, .int .u32 (y : Int)] w fun e w' => e = .returned (.bool true) ∧ Below w.heap.size w w' := by
  have hg' : decide ((2000 : Int) < (s.size : Int)) = false := by rw [decide_eq_false_iff_not]; omega
  have hne : ((y : Int) == 0) = false := by rw [beq_eq_false_iff_ne]; omega
  have h4' : decide ((4 : Int) ≤ (s.size : Int)) = false := by rw [decide_eq_false_iff_not]; omega
  have HKK : Hid (s.size + 4 ≤ s.size ∨ s.size = s.size) := hide (.inr rfl)
  have K1 := hide (fun w' => cseal_any s w' (by omega))
  have hsz := sealS_size s
  have K2 := hide (flip_calls s s.size y hm hy h0 (unhide HKK))
  have q1 := q_eq ⟨#[]⟩
  generalize sealS s = t at *
  have HK : Hid (s.size ≤ s.size) := hide (by have := unhide HKK; omega)
  clear HKK h0
  go_enter Try.func6, Try.ntmps6
  go_wp2_with fail
  refine (unhide K1 _).mono ?_
  rintro e w1 ⟨rfl, hb1⟩
  obtain ⟨w2, cap, hcv, ho, hb⟩ := bytes_text w1 t
  rw [hsz] at hcv ho
  have HO2 := hide ho
  have HB2 := hide (below0 hb1 hb)
  have HG := hide hb1.size
  have HL : Hid ((tx t).length = s.size + 4) := hide (by rw [tx_length, hsz])
  clear ho hb hb1 hsz
  go_wp2
  go_loopw [9] (fun i wr => ∃ j : Nat, j ≤ 4 ∧ i = .int .i64 j ∧ Hid (OwnB wr w1.heap.size (.slice (some ⟨w1.heap.size, 0, none⟩) (s.size + 4) cap) (fl (tx t) s.size y j)) ∧ Hid (Below w.heap.size w wr)) (fun i _ => 4 - (intOf i).toNat)
  case atStart => exact ⟨0, by decide, rfl, HO2, HB2⟩
  case round =>
    obtain ⟨j, hj, rfl, HO, HB⟩ := hrel
    clear HO2 HB2 hcv
    by_cases hlt : j < 4
    · match j, hlt with
      | 0, _ =>
        obtain ⟨x, hx, hcell, hfz, hst⟩ := fl_store (j := 0) (unhide HL) (unhide HO) (unhide HB) (unhide HG) (by have := unhide HK; omega)
        have R := hide hst
        have hxo : bits .xor .u8 (x : Int) ((y : Int) % 256) = ((x ^^^ byteOf y 0 : Nat) : Int) := flip_xor0 x y hx
        have hlt0 : ((s.size + 0 : Nat) : Int) < (s.size : Int) + 4 := by have := unhide HK; omega
        rw [Nat.add_zero] at hcell hfz R hlt0
        obtain ⟨z, hz⟩ : ∃ z, z = x ^^^ byteOf y 0 := ⟨_, rfl⟩
        rw [← hz] at hxo R
        clear hst HO HB hz
        go_wp2
        go_roundw
        case rel => exact ⟨1, by omega, rfl, hide (unhide R).1, hide (unhide R).2⟩
        case measure => simp [intOf]
      | 1, _ =>
        obtain ⟨x, hx, hcell, hfz, hst⟩ := fl_store (j := 1) (unhide HL) (unhide HO) (unhide HB) (unhide HG) (by have := unhide HK; omega)
        have R := hide hst
        have hxo : bits .xor .u8 (x : Int) ((y : Int) / 256 % 256) = ((x ^^^ byteOf y 1 : Nat) : Int) := flip_xor1 x y hx
        have hlt0 : ((s.size + 1 : Nat) : Int) < (s.size : Int) + 4 := by have := unhide HK; omega
        obtain ⟨m, hm⟩ : ∃ m, m = s.size + 1 := ⟨_, rfl⟩
        rw [← hm] at hcell hfz R hlt0
        have hmI : (s.size : Int) + 1 = (m : Int) := by omega
        clear hm
        obtain ⟨z, hz⟩ : ∃ z, z = x ^^^ byteOf y 1 := ⟨_, rfl⟩
        rw [← hz] at hxo R
        clear hst HO HB hz
        go_wp2
        go_roundw
        case rel => exact ⟨2, by omega, rfl, hide (unhide R).1, hide (unhide R).2⟩
        case measure => simp [intOf]
      | 2, _ =>
        obtain ⟨x, hx, hcell, hfz, hst⟩ := fl_store (j := 2) (unhide HL) (unhide HO) (unhide HB) (unhide HG) (by have := unhide HK; omega)
        have R := hide hst
        have hxo : bits .xor .u8 (x : Int) ((y : Int) / 65536 % 256) = ((x ^^^ byteOf y 2 : Nat) : Int) := flip_xor2 x y hx
        have hlt0 : ((s.size + 2 : Nat) : Int) < (s.size : Int) + 4 := by have := unhide HK; omega
        obtain ⟨m, hm⟩ : ∃ m, m = s.size + 2 := ⟨_, rfl⟩
        rw [← hm] at hcell hfz R hlt0
        have hmI : (s.size : Int) + 2 = (m : Int) := by omega
        clear hm
        obtain ⟨z, hz⟩ : ∃ z, z = x ^^^ byteOf y 2 := ⟨_, rfl⟩
        rw [← hz] at hxo R
        clear hst HO HB hz
        go_wp2
        go_roundw
        case rel => exact ⟨3, by omega, rfl, hide (unhide R).1, hide (unhide R).2⟩
        case measure => simp [intOf]
      | 3, _ =>
        obtain ⟨x, hx, hcell, hfz, hst⟩ := fl_store (j := 3) (unhide HL) (unhide HO) (unhide HB) (unhide HG) (by have := unhide HK; omega)
        have R := hide hst
        have hxo : bits .xor .u8 (x : Int) ((y : Int) / 16777216) = ((x ^^^ byteOf y 3 : Nat) : Int) := flip_xor3 x y hx hy
        have hlt0 : ((s.size + 3 : Nat) : Int) < (s.size : Int) + 4 := by have := unhide HK; omega
        obtain ⟨m, hm⟩ : ∃ m, m = s.size + 3 := ⟨_, rfl⟩
        rw [← hm] at hcell hfz R hlt0
        have hmI : (s.size : Int) + 3 = (m : Int) := by omega
        clear hm
        obtain ⟨z, hz⟩ : ∃ z, z = x ^^^ byteOf y 3 := ⟨_, rfl⟩
        rw [← hz] at hxo R
        clear hst HO HB hz
        go_wp2
        go_roundw
        case rel => exact ⟨4, by omega, rfl, hide (unhide R).1, hide (unhide R).2⟩
        case measure => simp [intOf]
    · obtain rfl : j = 4 := by omega
      have hct := (unhide HO).text
      generalize st (fl (tx t) s.size y 4) = u at *
      clear HO
      go_wp2_with fail
      refine (unhide K2 _).mono ?_
      rintro e w5 ⟨rfl, hb5⟩
      have B5 := hide (below0 (unhide HB) hb5)
      clear hb5 HB
      go_wp2_with fail
      refine (awake_any _).mono ?_
      rintro e w6 ⟨rfl, hb6⟩
      have B6 := hide (below0 (unhide B5) hb6)
      clear hb6 B5
      go_wp2
      go_ret
      exact ⟨rfl, unhide B6⟩

set_option maxHeartbeats 2000000 in
theorem flips_odd (s : ByteArray) (a : Int) (y : Nat) (w : World) (h4 : 4 ≤ s.size) (v : Int) (hbit : bits .and .i64 a 1 = v) (hv : (v == 0) = false) (hm : s.size ≤ 2000) (hy : y < 4294967296) (h0 : y ≠ 0) :
    Calls Try.prog 6 #[.string s, .int .i64 a, .int .u32 (y : Int)] w fun e w' => e = .returned (.bool true) ∧ Below w.heap.size w w' := by
  have hg' : decide ((2000 : Int) < (s.size : Int)) = false := by rw [decide_eq_false_iff_not]; omega
  have hne : ((y : Int) == 0) = false := by rw [beq_eq_false_iff_ne]; omega
  have h4' : decide ((4 : Int) ≤ (s.size : Int)) = true := by rw [decide_eq_true_iff]; omega
  have HKK : Hid (s.size + 4 ≤ s.size ∨ s.size = s.size) := hide (.inr rfl)
  have K1 := hide (fun w' => cseal_any s w' (by omega))
  have hsz := sealS_size s
  have K2 := hide (flip_calls s s.size y hm hy h0 (unhide HKK))
  have q1 := q_eq ⟨#[]⟩
  generalize sealS s = t at *
  have HK : Hid (s.size ≤ s.size) := hide (by have := unhide HKK; omega)
  clear HKK h0
  go_enter Try.func6, Try.ntmps6
  go_wp2_with fail
  refine (unhide K1 _).mono ?_
  rintro e w1 ⟨rfl, hb1⟩
  obtain ⟨w2, cap, hcv, ho, hb⟩ := bytes_text w1 t
  rw [hsz] at hcv ho
  have HO2 := hide ho
  have HB2 := hide (below0 hb1 hb)
  have HG := hide hb1.size
  have HL : Hid ((tx t).length = s.size + 4) := hide (by rw [tx_length, hsz])
  clear ho hb hb1 hsz
  go_wp2
  go_loopw [9] (fun i wr => ∃ j : Nat, j ≤ 4 ∧ i = .int .i64 j ∧ Hid (OwnB wr w1.heap.size (.slice (some ⟨w1.heap.size, 0, none⟩) (s.size + 4) cap) (fl (tx t) s.size y j)) ∧ Hid (Below w.heap.size w wr)) (fun i _ => 4 - (intOf i).toNat)
  case atStart => exact ⟨0, by decide, rfl, HO2, HB2⟩
  case round =>
    obtain ⟨j, hj, rfl, HO, HB⟩ := hrel
    clear HO2 HB2 hcv
    by_cases hlt : j < 4
    · match j, hlt with
      | 0, _ =>
        obtain ⟨x, hx, hcell, hfz, hst⟩ := fl_store (j := 0) (unhide HL) (unhide HO) (unhide HB) (unhide HG) (by have := unhide HK; omega)
        have R := hide hst
        have hxo : bits .xor .u8 (x : Int) ((y : Int) % 256) = ((x ^^^ byteOf y 0 : Nat) : Int) := flip_xor0 x y hx
        have hlt0 : ((s.size + 0 : Nat) : Int) < (s.size : Int) + 4 := by have := unhide HK; omega
        rw [Nat.add_zero] at hcell hfz R hlt0
        obtain ⟨z, hz⟩ : ∃ z, z = x ^^^ byteOf y 0 := ⟨_, rfl⟩
        rw [← hz] at hxo R
        clear hst HO HB hz
        go_wp2
        go_roundw
        case rel => exact ⟨1, by omega, rfl, hide (unhide R).1, hide (unhide R).2⟩
        case measure => simp [intOf]
      | 1, _ =>
        obtain ⟨x, hx, hcell, hfz, hst⟩ := fl_store (j := 1) (unhide HL) (unhide HO) (unhide HB) (unhide HG) (by have := unhide HK; omega)
        have R := hide hst
        have hxo : bits .xor .u8 (x : Int) ((y : Int) / 256 % 256) = ((x ^^^ byteOf y 1 : Nat) : Int) := flip_xor1 x y hx
        have hlt0 : ((s.size + 1 : Nat) : Int) < (s.size : Int) + 4 := by have := unhide HK; omega
        obtain ⟨m, hm⟩ : ∃ m, m = s.size + 1 := ⟨_, rfl⟩
        rw [← hm] at hcell hfz R hlt0
        have hmI : (s.size : Int) + 1 = (m : Int) := by omega
        clear hm
        obtain ⟨z, hz⟩ : ∃ z, z = x ^^^ byteOf y 1 := ⟨_, rfl⟩
        rw [← hz] at hxo R
        clear hst HO HB hz
        go_wp2
        go_roundw
        case rel => exact ⟨2, by omega, rfl, hide (unhide R).1, hide (unhide R).2⟩
        case measure => simp [intOf]
      | 2, _ =>
        obtain ⟨x, hx, hcell, hfz, hst⟩ := fl_store (j := 2) (unhide HL) (unhide HO) (unhide HB) (unhide HG) (by have := unhide HK; omega)
        have R := hide hst
        have hxo : bits .xor .u8 (x : Int) ((y : Int) / 65536 % 256) = ((x ^^^ byteOf y 2 : Nat) : Int) := flip_xor2 x y hx
        have hlt0 : ((s.size + 2 : Nat) : Int) < (s.size : Int) + 4 := by have := unhide HK; omega
        obtain ⟨m, hm⟩ : ∃ m, m = s.size + 2 := ⟨_, rfl⟩
        rw [← hm] at hcell hfz R hlt0
        have hmI : (s.size : Int) + 2 = (m : Int) := by omega
        clear hm
        obtain ⟨z, hz⟩ : ∃ z, z = x ^^^ byteOf y 2 := ⟨_, rfl⟩
        rw [← hz] at hxo R
        clear hst HO HB hz
        go_wp2
        go_roundw
        case rel => exact ⟨3, by omega, rfl, hide (unhide R).1, hide (unhide R).2⟩
        case measure => simp [intOf]
      | 3, _ =>
        obtain ⟨x, hx, hcell, hfz, hst⟩ := fl_store (j := 3) (unhide HL) (unhide HO) (unhide HB) (unhide HG) (by have := unhide HK; omega)
        have R := hide hst
        have hxo : bits .xor .u8 (x : Int) ((y : Int) / 16777216) = ((x ^^^ byteOf y 3 : Nat) : Int) := flip_xor3 x y hx hy
        have hlt0 : ((s.size + 3 : Nat) : Int) < (s.size : Int) + 4 := by have := unhide HK; omega
        obtain ⟨m, hm⟩ : ∃ m, m = s.size + 3 := ⟨_, rfl⟩
        rw [← hm] at hcell hfz R hlt0
        have hmI : (s.size : Int) + 3 = (m : Int) := by omega
        clear hm
        obtain ⟨z, hz⟩ : ∃ z, z = x ^^^ byteOf y 3 := ⟨_, rfl⟩
        rw [← hz] at hxo R
        clear hst HO HB hz
        go_wp2
        go_roundw
        case rel => exact ⟨4, by omega, rfl, hide (unhide R).1, hide (unhide R).2⟩
        case measure => simp [intOf]
    · obtain rfl : j = 4 := by omega
      have hct := (unhide HO).text
      generalize st (fl (tx t) s.size y 4) = u at *
      clear HO
      go_wp2_with fail
      refine (unhide K2 _).mono ?_
      rintro e w5 ⟨rfl, hb5⟩
      have B5 := hide (below0 (unhide HB) hb5)
      clear hb5 HB
      go_wp2_with fail
      refine (awake_any _).mono ?_
      rintro e w6 ⟨rfl, hb6⟩
      have B6 := hide (below0 (unhide B5) hb6)
      clear hb6 B5
      go_wp2
      go_ret
      exact ⟨rfl, unhide B6⟩

theorem flips_walk (s : ByteArray) (a b : Int) (w : World) (hm : s.size ≤ 9223372036854775807) (ha : -9223372036854775808 ≤ a ∧ a ≤ 9223372036854775807) (hb : 0 ≤ b ∧ b ≤ 4294967295) :
    Calls Try.prog 6 #[.string s, .int .i64 a, .int .u32 b] w fun e w' => e = .returned (.bool true) ∧ Below w.heap.size w w' := by
  obtain ⟨y, rfl⟩ : ∃ y : Nat, b = (y : Int) := ⟨b.toNat, by omega⟩
  have hy : y < 4294967296 := by omega
  by_cases hg : 2000 < s.size ∨ y = 0
  · exact flips_awake s a y w hm hy hg
  · have hm' : s.size ≤ 2000 := by omega
    have h0 : y ≠ 0 := by omega
    by_cases h4 : s.size < 4
    · exact flips_short s a y w h4 hm' hy h0
    · by_cases hbit : bits .and .i64 a 1 = 0
      · exact flips_text s a y w ha.1 ha.2 (by omega) hbit hm' hy h0
      · exact flips_odd s a y w (by omega) _ rfl (by rw [beq_eq_false_iff_ne]; exact hbit) hm' hy h0
end Go.Proofs.Ytbhmdfoojhjecaa
