/-
  Contracts of seen.Print and bucketlineref23.Print: for every packet.
-/
import Derived.Test.YtpklckpnimmkpaaSeA
import Derived.Test.YtpklckpnimmkpaaPE
import Derived.Test.YtpklckpnimmkpaaCA
namespace Go.Proofs.Ytpklckpnimmkpaa
open Go.RowKit Go.Sort
set_option linter.unusedVariables false
set_option maxRecDepth 4000

theorem check0 {o l k z h : Int} {xs : List Nat} {n : Nat} (h1 : CheckP o l k z h xs n) : CheckP o l k z 0 xs n :=
  ⟨⟨h1.1.1, h1.1.2.1, h1.1.2.2.1, by decide, by decide⟩, h1.2⟩
theorem enc_small {o l k z h : Int} {xs : List Nat} {s : ByteArray} (h1 : CheckP o l k z h xs s.size) : (st (encL o l k z h xs (tx s))).size ≤ 1048576 := by
  have h2 := valid_len h1.2.1
  have h3 : s.size ≤ 64 := by have := h1.2.2.2; have := h1.1.1.2.2; omega
  rw [st_len]
  unfold encL
  simp only [List.length_append, putL4, putL1, be_length, beV_length, tx_length]
  omega
theorem sum_enc (o l k z h : Int) (xs : List Nat) (s : ByteArray) : sumS (st (encL o l k z h xs (tx s))) = sumN (encL o l k z h xs (tx s)) := by
  unfold sumS
  rw [tx_st (encL_bytes _ _ _ _ _ _ _ (tx_bytes s))]

set_option maxHeartbeats 1000000 in
theorem pr_any (p : PKV) (w : World) (hr : RowAt w p.r.a p.r.n p.r.xs) :
    Calls Try.prog 10 #[p.val] w fun e w' => e = .returned (.int .u32 ((prD p.pd : Nat) : Int)) ∧ Below w.heap.size w w' := by
  obtain ⟨o, l, k, z, h, ⟨a, n, c, xs, s⟩⟩ := p
  have B0 := hide (below_new w (.cells #[.int .i64 o, .int .i64 l, .int .i64 k, .int .i64 z, .int .i64 h, .slice a n c, .string s] 26))
  have K0 := hide (bkA_new 26 w [.int .i64 o, .int .i64 l, .int .i64 k, .int .i64 z, .int .i64 h, .slice a n c, .string s])
  have HR := hide hr
  unfold PKV.val
  cases hk : okD (PKV.pd ⟨o, l, k, z, h, ⟨a, n, c, xs, s⟩⟩)
  · have HC := hide (check_any o l k z h a n c xs s _ (row_alloc hr (.cells #[.int .i64 o, .int .i64 l, .int .i64 k, .int .i64 z, .int .i64 h, .slice a n c, .string s] 26)) 1 (ckD_no hk))
    rw [prD_no hk]
    clear hr hk HR K0
    go_enter Try.func10, Try.ntmps10
    go_wp2_with fail
    refine (unhide HC).mono ?_
    rintro e w1 ⟨rfl, hb1⟩
    have B1 := hide (below0 (unhide B0) hb1)
    clear hb1 HC B0
    go_wp2
    go_ret
    exact ⟨rfl, unhide B1⟩
  · have hc : CheckP o l k z h xs s.size := okD_iff.1 hk
    have hc0 := check0 hc
    have HC := hide (check_any o l k z h a n c xs s _ (row_alloc hr (.cells #[.int .i64 o, .int .i64 l, .int .i64 k, .int .i64 z, .int .i64 h, .slice a n c, .string s] 26)) 0 (ckD_yes hk))
    have HE := hide (fun w' (hr' : RowAt w' a n xs) => enc_yes o l k z 0 a n c xs s w' hr' hc0)
    have HS := hide (fun w' => csum_any (st (encL o l k z 0 xs (tx s))) w' (enc_small hc0))
    have HN := hide (show sumS (st (encL o l k z 0 xs (tx s))) = prD (PKV.pd ⟨o, l, k, z, h, ⟨a, n, c, xs, s⟩⟩) from by rw [prD_yes hk, sum_enc]; rfl)
    generalize prD (PKV.pd ⟨o, l, k, z, h, ⟨a, n, c, xs, s⟩⟩) = X at *
    generalize sumS (st (encL o l k z 0 xs (tx s))) = Y at *
    generalize st (encL o l k z 0 xs (tx s)) = T at *
    clear hr hk hc hc0
    go_enter Try.func10, Try.ntmps10
    go_wp2_with fail
    refine (unhide HC).mono ?_
    rintro e w1 ⟨rfl, hb1⟩
    have B1 := hide (below0 (unhide B0) hb1)
    have K1 := (unhide K0).below hb1
    have q0 := K1.at 0 rfl
    have q1 := K1.at 1 rfl
    have q2 := K1.at 2 rfl
    have q3 := K1.at 3 rfl
    have q4 := K1.at 4 rfl
    have q5 := K1.at 5 rfl
    have q6 := K1.at 6 rfl
    have q7 := K1.frz 4
    have BS := hide (tu_low (unhide B1) (tu_set w1 w.heap.size 4 (.int .i64 0)) (Nat.le_refl _))
    have RS := hide ((unhide HR).below (unhide BS))
    clear hb1 HC B0 K0 HR B1 K1
    go_wp2_with (first
      | (go_at_call 26; refine (unhide HE _ (unhide RS)).mono ?_; rintro e w3 ⟨rfl, hb3⟩; have B3 := hide (below0 (unhide BS) hb3); clear hb3)
      | (go_at_call 27; refine (unhide HS _).mono ?_; rintro e w4 ⟨rfl, hw4⟩; obtain rfl := hw4.symm; clear hw4)
      | fail)
    go_ret
    exact ⟨ret_int (by rw [unhide HN]), unhide B3⟩
set_option maxHeartbeats 1000000 in
theorem rpr_any (p : PKV) (w : World) (hr : RowAt w p.r.a p.r.n p.r.xs) :
    Calls Try.prog 11 #[p.val] w fun e w' => e = .returned (.int .u32 ((prD p.pd : Nat) : Int)) ∧ Below w.heap.size w w' := by
  obtain ⟨o, l, k, z, h, ⟨a, n, c, xs, s⟩⟩ := p
  have B0 := hide (below_new w (.cells #[.int .i64 o, .int .i64 l, .int .i64 k, .int .i64 z, .int .i64 h, .slice a n c, .string s] 26))
  have K0 := hide (bkA_new 26 w [.int .i64 o, .int .i64 l, .int .i64 k, .int .i64 z, .int .i64 h, .slice a n c, .string s])
  have HR := hide hr
  unfold PKV.val
  cases hk : okD (PKV.pd ⟨o, l, k, z, h, ⟨a, n, c, xs, s⟩⟩)
  · have HC := hide (rcheck_any o l k z h a n c xs s _ (row_alloc hr (.cells #[.int .i64 o, .int .i64 l, .int .i64 k, .int .i64 z, .int .i64 h, .slice a n c, .string s] 26)) 1 (ckD_no hk))
    rw [prD_no hk]
    clear hr hk HR K0
    go_enter Try.func11, Try.ntmps11
    go_wp2_with fail
    refine (unhide HC).mono ?_
    rintro e w1 ⟨rfl, hb1⟩
    have B1 := hide (below0 (unhide B0) hb1)
    clear hb1 HC B0
    go_wp2
    go_ret
    exact ⟨rfl, unhide B1⟩
  · have hc : CheckP o l k z h xs s.size := okD_iff.1 hk
    have hc0 := check0 hc
    have HC := hide (rcheck_any o l k z h a n c xs s _ (row_alloc hr (.cells #[.int .i64 o, .int .i64 l, .int .i64 k, .int .i64 z, .int .i64 h, .slice a n c, .string s] 26)) 0 (ckD_yes hk))
    have HE := hide (fun w' (hr' : RowAt w' a n xs) => renc_yes o l k z 0 a n c xs s w' hr' hc0)
    have HS := hide (fun w' => rsum_any (st (encL o l k z 0 xs (tx s))) w' (enc_small hc0))
    have HN := hide (show sumS (st (encL o l k z 0 xs (tx s))) = prD (PKV.pd ⟨o, l, k, z, h, ⟨a, n, c, xs, s⟩⟩) from by rw [prD_yes hk, sum_enc]; rfl)
    generalize prD (PKV.pd ⟨o, l, k, z, h, ⟨a, n, c, xs, s⟩⟩) = X at *
    generalize sumS (st (encL o l k z 0 xs (tx s))) = Y at *
    generalize st (encL o l k z 0 xs (tx s)) = T at *
    clear hr hk hc hc0
    go_enter Try.func11, Try.ntmps11
    go_wp2_with fail
    refine (unhide HC).mono ?_
    rintro e w1 ⟨rfl, hb1⟩
    have B1 := hide (below0 (unhide B0) hb1)
    have K1 := (unhide K0).below hb1
    have q0 := K1.at 0 rfl
    have q1 := K1.at 1 rfl
    have q2 := K1.at 2 rfl
    have q3 := K1.at 3 rfl
    have q4 := K1.at 4 rfl
    have q5 := K1.at 5 rfl
    have q6 := K1.at 6 rfl
    have q7 := K1.frz 4
    have BS := hide (tu_low (unhide B1) (tu_set w1 w.heap.size 4 (.int .i64 0)) (Nat.le_refl _))
    have RS := hide ((unhide HR).below (unhide BS))
    clear hb1 HC B0 K0 HR B1 K1
    go_wp2_with (first
      | (go_at_call 28; refine (unhide HE _ (unhide RS)).mono ?_; rintro e w3 ⟨rfl, hb3⟩; have B3 := hide (below0 (unhide BS) hb3); clear hb3)
      | (go_at_call 29; refine (unhide HS _).mono ?_; rintro e w4 ⟨rfl, hw4⟩; obtain rfl := hw4.symm; clear hw4)
      | fail)
    go_ret
    exact ⟨ret_int (by rw [unhide HN]), unhide B3⟩
end Go.Proofs.Ytpklckpnimmkpaa
