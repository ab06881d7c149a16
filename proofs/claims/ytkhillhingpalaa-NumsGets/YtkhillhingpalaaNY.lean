/-
  The walks of NumsBack and NumsRows: texts of at most 2^47 - 4096 bytes.
-/
import Derived.Test.YtkhillhingpalaaNX
namespace Go.Proofs.Ytkhillhingpalaa
open Go.RowKit
set_option linter.unusedVariables false

theorem tx_append (a b : ByteArray) : tx (a ++ b) = tx a ++ tx b := by
  unfold tx
  rw [ByteArray.data_append, Array.toList_append, List.map_append]
theorem st_len (xs : List Nat) : (st xs).size = xs.length := by simp [st, ByteArray.size]
theorem mask_at (n : Int) (j : Nat) (c : Int) (hc : (BitVec.ofInt 64 c).toNat = 2 ^ j - 1) (hj : 2 ^ j ≤ 4294967296) : bits .and .i64 n c = ((m64 n % 2 ^ j : Nat) : Int) := by
  have key : (BitVec.ofInt 64 n &&& BitVec.ofInt 64 c).toNat = m64 n % 2 ^ j := by
    rw [BitVec.toNat_and, BitVec.toNat_ofInt, hc, Nat.and_two_pow_sub_one_eq_mod]
    rfl
  show IntKind.i64.wrap ((BitVec.ofInt 64 n &&& BitVec.ofInt 64 c).toNat : Nat) = _
  rw [key, IntKind.wrap_i64]
  have := Nat.mod_lt (m64 n) (show 0 < 2 ^ j from Nat.pow_pos (by decide))
  generalize m64 n % 2 ^ j = x at *
  omega
theorem mask1 (n : Int) : bits .and .i64 n 255 = ((m64 n % 256 ^ 1 : Nat) : Int) := mask_at n 8 255 (by decide) (by decide)
theorem mask2 (n : Int) : bits .and .i64 n 65535 = ((m64 n % 256 ^ 2 : Nat) : Int) := mask_at n 16 65535 (by decide) (by decide)
theorem mask4 (n : Int) : bits .and .i64 n 4294967295 = ((m64 n % 256 ^ 4 : Nat) : Int) := mask_at n 32 4294967295 (by decide) (by decide)
/-- What was put is got. -/
theorem back_num (W : Nat) (hW : isW (W : Int)) (n : Int) (s : ByteArray) : gN (st (putL n (W : Int)) ++ s) (W : Int) = m64 n % 256 ^ W ∧ gE (st (putL n (W : Int)) ++ s) (W : Int) = 0 := by
  have hp : putL n (W : Int) = be W (m64 n) := by rw [putL_yes hW, Int.toNat_natCast]
  rw [hp]
  have hsz : (st (be W (m64 n)) ++ s).size = W + s.size := by rw [ByteArray.size_append, st_len, be_length]
  have := g_yes (s := st (be W (m64 n)) ++ s) hW (by rw [hsz]; omega)
  rw [tx_append, tx_st (be_bytes _ _), Int.toNat_natCast] at this
  refine ⟨this.1.trans ?_, this.2⟩
  rw [List.take_append, List.take_of_length_le (by rw [be_length]; exact Nat.le_refl _), be_length, Nat.sub_self, List.take_zero, List.append_nil, num_be]

set_option maxHeartbeats 1000000 in
theorem back_walk (n : Int) (s : ByteArray) (w : World) (hs : s.size ≤ 140737488351232) :
    Calls Try.prog 6 #[.int .i64 n, .string s] w fun e w' => e = .returned (.bool true) ∧ Below w.heap.size w w' := by
  have K1 := hide (fun w' => put_any n 1 w')
  have K2 := hide (fun w' => put_any n 2 w')
  have K3 := hide (fun w' => put_any n 4 w')
  have G1 := hide (fun w' => get_num_any (st (putL n 1) ++ s) 1 w')
  have G2 := hide (fun w' => get_num_any (st (putL n 2) ++ s) 2 w')
  have G3 := hide (fun w' => get_num_any (st (putL n 4) ++ s) 4 w')
  have b1 := back_num 1 (.inl rfl) n s
  have b2 := back_num 2 (.inr (.inl rfl)) n s
  have b4 := back_num 4 (.inr (.inr rfl)) n s
  simp only [show ((1 : Nat) : Int) = 1 from rfl, show ((2 : Nat) : Int) = 2 from rfl, show ((4 : Nat) : Int) = 4 from rfl] at b1 b2 b4
  rw [b1.1, b1.2] at G1
  rw [b2.1, b2.2] at G2
  rw [b4.1, b4.2] at G3
  have z1 : (st (putL n 1)).size + s.size ≤ 9223372036854775807 := by rw [st_len, putL_yes (.inl rfl), be_length]; omega
  have z2 : (st (putL n 2)).size + s.size ≤ 9223372036854775807 := by rw [st_len, putL_yes (.inr (.inl rfl)), be_length]; omega
  have z4 : (st (putL n 4)).size + s.size ≤ 9223372036854775807 := by rw [st_len, putL_yes (.inr (.inr rfl)), be_length]; omega
  have m1 := mask1 n
  have m2 := mask2 n
  have m4 := mask4 n
  generalize m64 n % 256 ^ 1 = x1 at *
  generalize m64 n % 256 ^ 2 = x2 at *
  generalize m64 n % 256 ^ 4 = x4 at *
  generalize st (putL n 1) = t1 at *
  generalize st (putL n 2) = t2 at *
  generalize st (putL n 4) = t4 at *
  clear b1 b2 b4
  go_enter Try.func6, Try.ntmps6
  go_wp2_with fail
  refine (unhide K1 _).mono ?_
  rintro e w1 ⟨rfl, hb1⟩
  have B1 := hide hb1
  clear hb1
  go_wp2_with fail
  refine (unhide G1 _).mono ?_
  rintro e w' ⟨rfl, hw⟩
  obtain rfl := hw.symm
  go_wp2_with fail
  refine (unhide K2 _).mono ?_
  rintro e w2 ⟨rfl, hb2⟩
  have B2 := hide (below0 (unhide B1) hb2)
  clear hb2 B1
  go_wp2_with fail
  refine (unhide G2 _).mono ?_
  rintro e w' ⟨rfl, hw⟩
  obtain rfl := hw.symm
  go_wp2_with fail
  refine (unhide K3 _).mono ?_
  rintro e w3 ⟨rfl, hb3⟩
  have B3 := hide (below0 (unhide B2) hb3)
  clear hb3 B2
  go_wp2_with fail
  refine (unhide G3 _).mono ?_
  rintro e w' ⟨rfl, hw⟩
  obtain rfl := hw.symm
  go_wp2_with fail
  refine (awake_any _).mono ?_
  rintro e w5 ⟨rfl, hb5⟩
  have B5 := hide (below0 (unhide B3) hb5)
  clear hb5 B3
  go_wp2
  go_ret
  exact ⟨rfl, unhide B5⟩

theorem rows_tx {xs : List Nat} (s : ByteArray) : tx (st (beV xs) ++ s) = beV xs ++ tx s := by rw [tx_append, tx_st (beV_bytes _)]
theorem got_err {t : ByteArray} {k : Int} {ys : List Nat} {en : Nat} (h : GotP t k ys en) : en = 0 ∨ en = 1 ∨ en = 2 ∨ en = 3 := by
  rcases h with ⟨_, h, _⟩ | ⟨_, _, h, _⟩ | ⟨_, _, _, h, _⟩ | ⟨_, _, _, h, _⟩ <;> omega
/-- What is got of a row's bytes. -/
theorem rows_no {xs ys : List Nat} {s : ByteArray} {k : Int} (hx : smalls xs) (hv : ¬ ValidP k xs) (h : GotP (st (beV xs) ++ s) k ys 0) : sizeOfK k ≠ xs.length := by
  intro e
  rcases h with ⟨_, h, _⟩ | ⟨_, _, h, _⟩ | ⟨_, _, _, h, _⟩ | ⟨_, _, h, _, _⟩
  · omega
  · omega
  · omega
  · rw [rows_tx, e, wsL_beV xs (tx s) hx] at h
    exact hv h
theorem rows_yes {xs ys : List Nat} {s : ByteArray} {k : Int} {en : Nat} (hx : smalls xs) (hv : ValidP k xs) (h : GotP (st (beV xs) ++ s) k ys en) : ys = xs ∧ en = 0 := by
  have hs := hv.2.1
  have h0 := hv.1
  have e : wsL (tx (st (beV xs) ++ s)) (sizeOfK k) = xs := by rw [rows_tx, ← hs, wsL_beV xs (tx s) hx]
  refine h.uniq (.inr (.inr (.inr ⟨by omega, ?_, by rw [e]; exact hv, rfl, e.symm⟩)))
  rw [ByteArray.size_append, st_len, beV_length]
  omega

set_option maxHeartbeats 2000000 in
theorem rows_walk (k : Int) (a : Option Addr) (m c : Nat) (xs : List Nat) (s : ByteArray) (w : World) (h : RowAt w a m xs) (hm : m ≤ 9223372036854775807) (hs : s.size ≤ 140737488351232) :
    Calls Try.prog 7 #[.int .i64 k, .slice a m c, .string s] w fun e w' => e = .returned (.bool true) ∧ Below w.heap.size w w' := by
  obtain rfl : m = xs.length := h.1.symm
  by_cases hg : 100 < xs.length
  · have hg' : decide ((100 : Int) < (xs.length : Int)) = true := by rw [decide_eq_true_iff]; omega
    clear hg
    go_enter Try.func7, Try.ntmps7
    go_wp2_with fail
    refine (awake_any _).mono ?_
    rintro e w5 ⟨rfl, hb5⟩
    go_wp2
    go_ret
    exact ⟨rfl, hb5⟩
  · have hg' : decide ((100 : Int) < (xs.length : Int)) = false := by rw [decide_eq_false_iff_not]; omega
    have K1 := hide (putvec_any a xs.length c xs w h (by omega))
    have hz : (st (beV xs)).size + s.size ≤ 9223372036854775807 := by rw [st_len, beV_length]; omega
    have K2 := hide (fun w' => getvec_any (st (beV xs) ++ s) k w' (by rw [ByteArray.size_append]; exact hz))
    have K3 := hide (fun (w' : World) (hr : RowAt w' a xs.length xs) => rvalid_any a xs.length c xs k w' hr)
    have N := hide (fun ys (hv : ¬ ValidP k xs) (hg : GotP (st (beV xs) ++ s) k ys 0) => rows_no h.2.1 hv hg)
    have Y := hide (fun ys en (hv : ValidP k xs) (hg : GotP (st (beV xs) ++ s) k ys en) => rows_yes h.2.1 hv hg)
    have Z := hide (rsize_any k)
    have HR := hide h
    have hl : xs.length ≤ 1048576 := by omega
    generalize st (beV xs) = t at *
    clear h hg
    go_enter Try.func7, Try.ntmps7
    go_wp2_with fail
    refine (unhide K1).mono ?_
    rintro e w1 ⟨rfl, hb1⟩
    have B1 := hide hb1
    clear hb1 K1
    go_wp2_with fail
    refine (unhide K2 _).mono ?_
    rintro e w2 ⟨v, ys, en, rfl, ho, hgot, hb2⟩
    obtain ⟨a1, c1, rfl, hr1⟩ := ho.row
    have HG := hide hgot
    have HR1 := hide hr1
    have B2 := hide (below0 (unhide B1) hb2)
    clear ho hr1 hb2 B1 K2
    go_wp2_with fail
    refine (unhide K3 _ ((unhide HR).below (unhide B2))).mono ?_
    rintro e w' ⟨⟨b, rfl, hbe⟩, hw⟩
    obtain rfl := hw.symm
    cases b with
    | false =>
      have hv : ¬ ValidP k xs := fun h => by simpa using hbe.2 h
      rcases got_err hgot with rfl | rfl | rfl | rfl
      · have hne := unhide N ys hv hgot
        have hne' : (((sizeOfK k : Nat) : Int) != ((xs.length : Nat) : Int)) = true := by rw [bne_iff_ne]; omega
        clear hv hbe hgot HG HR1 hne
        go_wp2_with fail
        refine (unhide Z _).mono ?_
        rintro e w' ⟨rfl, hw⟩
        obtain rfl := hw.symm
        go_wp2_with fail
        refine (awake_any _).mono ?_
        rintro e w5 ⟨rfl, hb5⟩
        have B5 := hide (below0 (unhide B2) hb5)
        clear hb5 B2
        go_wp2
        go_ret
        exact ⟨rfl, unhide B5⟩
      all_goals
        clear hv hbe hgot HG HR1
        go_wp2_with fail
        refine (awake_any _).mono ?_
        rintro e w5 ⟨rfl, hb5⟩
        have B5 := hide (below0 (unhide B2) hb5)
        clear hb5 B2
        go_wp2
        go_ret
        exact ⟨rfl, unhide B5⟩
    | true =>
      obtain ⟨hys, hen⟩ := unhide Y ys en (hbe.1 rfl) hgot
      subst hys
      subst hen
      have HW := hide (rwords_any a1 _ c1 _ a _ c _ _ (unhide HR1) ((unhide HR).below (unhide B2)) hl hl rfl)
      clear hbe hgot HG HR1
      go_wp2_with fail
      refine (unhide HW).mono ?_
      rintro e w3 ⟨rfl, hb3⟩
      have B3 := hide (below0 (unhide B2) hb3)
      clear hb3 B2 HW
      go_wp2_with fail
      refine (awake_any _).mono ?_
      rintro e w5 ⟨rfl, hb5⟩
      have B5 := hide (below0 (unhide B3) hb5)
      clear hb5 B3
      go_wp2
      go_ret
      exact ⟨rfl, unhide B5⟩
end Go.Proofs.Ytkhillhingpalaa
