/-
  The walk of MembersPlays: for every input it tells true and writes nothing that was there. No condition.
-/
import Derived.Test.YtnjoieboaioeiaaMK
import Derived.Deep.MidRow
namespace Go.Proofs.Ytnjoieboaioeiaa
open Go.RowKit Go.Sort
set_option linter.unusedVariables false
set_option maxRecDepth 4000

/-- The members and the reference's, in block cb, side by side. -/
structure PlM (w wr : World) (g cb : Nat) (T : Int) (Z : List Int) (H : List Bool) (I N : List Int) : Prop where
  mb : MbAt wr g T Z
  rb : BkA 29 wr cb (rmC T H I N)
  rm : Rm Z H I N
  low : Below w.heap.size w wr
  lg : w.heap.size ≤ g
  lc : w.heap.size ≤ cb
theorem PlM.below {w wr wx : World} {g cb : Nat} {T : Int} {Z : List Int} {H : List Bool} {I N : List Int} (h : PlM w wr g cb T Z H I N) (hb : Below wr.heap.size wr wx) : PlM w wx g cb T Z H I N :=
  ⟨h.mb.below hb, h.rb.below hb, h.rm, below0 h.low hb, h.lg, h.lc⟩
theorem PlM.ne {w wr : World} {g cb : Nat} {T : Int} {Z : List Int} {H : List Bool} {I N : List Int} (h : PlM w wr g cb T Z H I N) : g ≠ cb := h.mb.blk.ne h.rb (by decide)
theorem PlM.ld {w wr : World} {g cb : Nat} {T : Int} {Z : List Int} {H : List Bool} {I N : List Int} (h : PlM w wr g cb T Z H I N) : (loadVar 29 ⟨cb, 0, none⟩).run Try.prog wr = .ok (.agg (rmC T H I N).toArray) wr :=
  h.rb.load Try.underlying29 rfl info_rm (rmC_len h.rm.len)
set_option maxHeartbeats 16000000 in
theorem mbplays_walk (T : Int) (a : Option Addr) (n c : Nat) (qs : List (Int × Int × Int)) (tn : Int) (w : World) (h : WdsAt w a n qs) (hn : n ≤ 9223372036854775807) :
    Calls Try.prog 3 #[.int .i64 T, .slice a n c, .int .i64 tn] w fun e w' => e = .returned (.bool true) ∧ Below w.heap.size w w' := by
  by_cases hl : 300 < n
  case pos =>
    have dl : decide ((300 : Int) < (n : Int)) = true := by rw [decide_eq_true_iff]; omega
    clear h
    go_enter Try.func3, Try.ntmps3
    go_wp2_with (go_at_call 8; refine (awake_any _).mono ?_; rintro e w1 ⟨rfl, hb1⟩)
    go_ret
    exact ⟨rfl, hb1⟩
  have dl : decide ((300 : Int) < (n : Int)) = false := by rw [decide_eq_false_iff_not]; omega
  have hl' : n ≤ 300 := by omega
  clear hl hn
  have HH := hide h
  clear h
  have HN := hide (mbnew_any T w)
  have HN2 := hide (fun wx => rmnew_any T wx)
  generalize tickZ T = T1 at *
  go_enter Try.func3, Try.ntmps3
  go_wp2_with (first
    | (go_at_call 9; refine (unhide HN).mono ?_; rintro e w1 ⟨rfl, hm1, hb1⟩; have HM := hide hm1; have HB := hide hb1; clear hm1 hb1)
    | (go_at_call 10; refine (unhide HN2 _).mono ?_; rintro e w2 ⟨rfl, hb2⟩; have HZ := hide (show BkA 29 (w2.alloc (.cells #[.int .i64 0, .bool false, .bool false, .bool false, .bool false, .bool false, .bool false, .bool false, .bool false, .int .i64 0, .int .i64 0, .int .i64 0, .int .i64 0, .int .i64 0, .int .i64 0, .int .i64 0, .int .i64 0, .int .i64 0, .int .i64 0, .int .i64 0, .int .i64 0, .int .i64 0, .int .i64 0, .int .i64 0, .int .i64 0] 29)) w2.heap.size [.int .i64 0, .bool false, .bool false, .bool false, .bool false, .bool false, .bool false, .bool false, .bool false, .int .i64 0, .int .i64 0, .int .i64 0, .int .i64 0, .int .i64 0, .int .i64 0, .int .i64 0, .int .i64 0, .int .i64 0, .int .i64 0, .int .i64 0, .int .i64 0, .int .i64 0, .int .i64 0, .int .i64 0, .int .i64 0] from bkA_new _ _ _); have hba := alloc_low w2 (.cells #[.int .i64 0, .bool false, .bool false, .bool false, .bool false, .bool false, .bool false, .bool false, .bool false, .int .i64 0, .int .i64 0, .int .i64 0, .int .i64 0, .int .i64 0, .int .i64 0, .int .i64 0, .int .i64 0, .int .i64 0, .int .i64 0, .int .i64 0, .int .i64 0, .int .i64 0, .int .i64 0, .int .i64 0, .int .i64 0] 29); have HM := hide (((unhide HM).below hb2).below hba); have HLC := hide (below0 (unhide HB) hb2).size; have HB := hide (below0 (below0 (unhide HB) hb2) hba); clear hb2 hba)
    | ((with_reducible refine bw_store 29 info_rm 8 20 w2.heap.size [.int .i64 0, .bool false, .bool false, .bool false, .bool false, .bool false, .bool false, .bool false, .bool false, .int .i64 0, .int .i64 0, .int .i64 0, .int .i64 0, .int .i64 0, .int .i64 0, .int .i64 0, .int .i64 0, .int .i64 0, .int .i64 0, .int .i64 0, .int .i64 0, .int .i64 0, .int .i64 0, .int .i64 0, .int .i64 0] (rmC T1 (List.replicate 8 false) (List.replicate 8 0) (List.replicate 8 0)) ?_ ?_ (unhide HZ) rfl rfl (rmC_one _ _ _ _) ?_); (focus rfl); (focus rfl); intro w3 hc3 ht3; have HJ1 := hide (show PlM w w3 w.heap.size w2.heap.size T1 (List.replicate 16 0) (List.replicate 8 false) (List.replicate 8 0) (List.replicate 8 0) from ⟨(unhide HM).tu ht3 (fun e => (unhide HM).blk.ne (unhide HZ) (by decide) e), hc3, Rm.zero, tu_low (unhide HB) ht3 (unhide HLC), Nat.le_refl _, unhide HLC⟩); clear hc3 ht3)
    | fail)
  clear HN HN2 HZ HM HB HLC
  generalize w2.heap.size = cb at *
  go_loopw [9] (fun i wr => ∃ (j : Nat) (Z : List Int) (H : List Bool) (I N : List Int), j ≤ n ∧ i = .int .i64 j ∧ Hid (PlM w wr w.heap.size cb T1 Z H I N)) (fun i _ => n - (intOf i).toNat)
  case atStart => exact ⟨0, _, _, _, _, Nat.zero_le _, rfl, HJ1⟩
  case round =>
    obtain ⟨j, Z, H, I, N, hj, rfl, HJ⟩ := hrel
    clear HJ1
    by_cases hlt : j < n
    · obtain ⟨b, off, rfl, hc⟩ := (unhide HH).at hlt
      have hlt' : (j : Int) < (n : Int) := by omega
      generalize (qs.getD j default).1 = x at *
      generalize (qs.getD j default).2.1 = i at *
      generalize (qs.getD j default).2.2 = t at *
      obtain ⟨c0, c1, c2⟩ := hc wr (unhide HJ).low
      clear hc HH
      have hba := alloc_low wr (.cells #[.int .i64 x, .int .i64 i, .int .i64 t] 32)
      have hqw : BkA 32 (wr.alloc (.cells #[.int .i64 x, .int .i64 i, .int .i64 t] 32)) wr.heap.size [.int .i64 x, .int .i64 i, .int .i64 t] := bkA_new _ _ _
      have HJ2 := hide ((unhide HJ).below hba)
      have HD2 := hide (unhide HJ2).rb
      have HL8 := hide (unhide HJ2).rm.len
      clear hba
      go_wp2_with (first
        | ((with_reducible refine bw_load 29 Try.underlying29 rfl info_rm 8 cb (rmC T1 H I N) ?_ (unhide HD2) (rmC_len (unhide HL8)) ?_); (focus rfl))
        | fail)
      generalize wr.alloc (.cells #[.int .i64 x, .int .i64 i, .int .i64 t] 32) = W at *
      generalize wr.heap.size = p at *
      have q0 := hqw.at 0 rfl
      have q1 := hqw.at 1 rfl
      have q2 := hqw.at 2 rfl
      have HQ := hide hqw
      have HRH := hide (rmhear_any T1 Z H I N x i t W (unhide HJ2).rm)
      clear hqw HJ c0 c1 c2
      go_wp2_with (first
        | (go_at_call 11; refine (unhide HRH).mono ?_; rintro e w4 ⟨H1, I1, N1, rfl, hr4, hb4⟩; have HR4 := hide hr4; have HL9 := hide hr4.len; have HZ4 := hide (show BkA 29 (w4.alloc (.cells #[.int .i64 0, .bool false, .bool false, .bool false, .bool false, .bool false, .bool false, .bool false, .bool false, .int .i64 0, .int .i64 0, .int .i64 0, .int .i64 0, .int .i64 0, .int .i64 0, .int .i64 0, .int .i64 0, .int .i64 0, .int .i64 0, .int .i64 0, .int .i64 0, .int .i64 0, .int .i64 0, .int .i64 0, .int .i64 0] 29)) w4.heap.size [.int .i64 0, .bool false, .bool false, .bool false, .bool false, .bool false, .bool false, .bool false, .bool false, .int .i64 0, .int .i64 0, .int .i64 0, .int .i64 0, .int .i64 0, .int .i64 0, .int .i64 0, .int .i64 0, .int .i64 0, .int .i64 0, .int .i64 0, .int .i64 0, .int .i64 0, .int .i64 0, .int .i64 0, .int .i64 0] from bkA_new _ _ _); have HB4 := hide (below0 hb4 (alloc_low w4 (.cells #[.int .i64 0, .bool false, .bool false, .bool false, .bool false, .bool false, .bool false, .bool false, .bool false, .int .i64 0, .int .i64 0, .int .i64 0, .int .i64 0, .int .i64 0, .int .i64 0, .int .i64 0, .int .i64 0, .int .i64 0, .int .i64 0, .int .i64 0, .int .i64 0, .int .i64 0, .int .i64 0, .int .i64 0, .int .i64 0] 29))); have HS4 := hide hb4.size; clear hr4 hb4 HRH HD2)
        | ((with_reducible refine bw_store 29 info_rm 11 40 w4.heap.size [.int .i64 0, .bool false, .bool false, .bool false, .bool false, .bool false, .bool false, .bool false, .bool false, .int .i64 0, .int .i64 0, .int .i64 0, .int .i64 0, .int .i64 0, .int .i64 0, .int .i64 0, .int .i64 0, .int .i64 0, .int .i64 0, .int .i64 0, .int .i64 0, .int .i64 0, .int .i64 0, .int .i64 0, .int .i64 0] (rmC T1 H1 I1 N1) ?_ ?_ (unhide HZ4) rfl (rmC_len (unhide HL9)) (rmC_one _ _ _ _) ?_); (focus rfl); (focus rfl); intro w5 hz5 ht5; have HZ5 := hide hz5; have HB5 := hide (tu_low (unhide HB4) ht5 (unhide HS4)); have HD5 := hide (((unhide HJ2).below (unhide HB5)).rb); clear hz5 ht5 HZ4 HB4)
        | ((with_reducible refine bw_load 29 Try.underlying29 rfl info_rm 11 w4.heap.size (rmC T1 H1 I1 N1) ?_ (unhide HZ5) (rmC_len (unhide HL9)) ?_); (focus rfl))
        | ((with_reducible refine bw_store 29 info_rm 8 42 cb (rmC T1 H I N) (rmC T1 H1 I1 N1) ?_ ?_ (unhide HD5) (rmC_len (unhide HL8)) (rmC_len (unhide HL9)) (rmC_one _ _ _ _) ?_); (focus rfl); (focus rfl); intro w6 hz6 ht6; have HZ6 := hide hz6; have HT6 := hide ht6; clear hz6 ht6)
        | fail)
      have hJ5 := (unhide HJ2).below (unhide HB5)
      have hm6 := hJ5.mb.tu (unhide HT6) hJ5.ne
      have hq6 := ((unhide HQ).below (unhide HB5)).tu (unhide HT6) (fun e => by have := ((unhide HQ).below (unhide HB5)).ne hJ5.rb (by decide); exact this e)
      have hlow6 := tu_low hJ5.low (unhide HT6) hJ5.lc
      have HPL := hide (fun (wx : World) (Z' : List Int) (hm : MbAt wx w.heap.size T1 Z') (ht : Tu (fun j => j = w.heap.size) w6 wx) (hr : Rm Z' H1 I1 N1) => (show PlM w wx w.heap.size cb T1 Z' H1 I1 N1 from ⟨hm, (unhide HZ6).tu ht (fun e => hJ5.ne e.symm), hr, tu_low hlow6 ht (Nat.le_refl _), Nat.le_refl _, hJ5.lc⟩))
      have HQT := hide (fun (wx : World) (ht : Tu (fun j => j = w.heap.size) w6 wx) => hq6.tu ht (fun e => by have := hm6.blk.ne hq6 (by decide); exact this e.symm))
      have r0 := hq6.at 0 rfl
      have r1 := hq6.at 1 rfl
      have r2 := hq6.at 2 rfl
      have HHE := hide (mbhear_any w.heap.size T1 Z x i t w6.drew (hm6.below (Below.refl _ _).drew))
      clear q0 q1 q2 hJ5 hm6 hq6 hlow6 HQ HJ2 HB5 HT6 HZ5 HD5 HS4
      generalize hearB Z x i t = B at *
      generalize hearZ Z x i t = Z' at *
      have hbn : (B != B) = false := bne_self_eq_false _
      obtain ⟨A, hA⟩ : ∃ A, aliveB T1 Z' x tn = A := ⟨_, rfl⟩
      have HAE := hide hA
      clear hA
      obtain ⟨pi, hpi⟩ : ∃ pi, incO Z' x = pi := ⟨_, rfl⟩
      have HPI := hide hpi
      clear hpi
      have hbn2 : (A != A) = false := bne_self_eq_false _
      have hbn3 : (pi != pi) = false := bne_self_eq_false _
      -- region 10
      refine wp_region_held_drew (S := fun w' => BkA 29 w' cb (rmC T1 H1 I1 N1) ∧ w'.cell? ⟨p, 0, none⟩ = some (.int .i64 x) ∧ w'.cell? ⟨p, 1, none⟩ = some (.int .i64 i) ∧ w'.cell? ⟨p, 2, none⟩ = some (.int .i64 t)) (by kernel_rfl) ?_ (fun hHeld => ?_)
      · exact ⟨(unhide HZ6).below (Below.refl _ _).drew, r0, r1, r2⟩
      refine wpAnyH_take (i := 0) (v := ?_) rfl (by kernel_rfl) (by kernel_rfl) (by kernel_rfl) (fun _ _ _ h => h) (Or.inl ⟨by kernel_rfl, ?f0⟩) (by assumption) ?_
      case f0 => (intro w hSw; (try dsimp only at hSw); go_simp; try with_reducible rfl)
      refine wpAnyH_take (i := 1) (v := ?_) rfl (by kernel_rfl) (by kernel_rfl) (by kernel_rfl) (fun _ _ _ h => h) (Or.inl ⟨by kernel_rfl, ?f1⟩) (by assumption) ?_
      case f1 => (intro w hSw; (try dsimp only at hSw); go_simp; try with_reducible rfl)
      refine wpAnyH_take (i := 2) (v := ?_) rfl (by kernel_rfl) (by kernel_rfl) (by kernel_rfl) (fun _ _ _ h => h) (Or.inl ⟨by kernel_rfl, ?f2⟩) (by assumption) ?_
      case f2 => (intro w hSw; (try dsimp only at hSw); go_simp; try with_reducible rfl)
      refine wpAnyH_take (i := 3) (v := ?_) rfl (by kernel_rfl) (by kernel_rfl) (by kernel_rfl) (fun _ _ _ h => h) (Or.inl ⟨by kernel_rfl, ?f3⟩) (by assumption) ?_
      case f3 => (intro w hSw; (try dsimp only at hSw); go_simp; try with_reducible rfl)
      refine wpAnyH_take (i := 4) (v := ?_) rfl (by kernel_rfl) (by kernel_rfl) (by kernel_rfl) (fun _ _ _ h => h) (Or.inl ⟨by kernel_rfl, ?f4⟩) (by assumption) ?_
      case f4 => (intro w hSw; (try dsimp only at hSw); go_simp; try with_reducible rfl)
      refine wpAnyH_take (i := 5) (v := ?_) rfl (by kernel_rfl) (by kernel_rfl) (by kernel_rfl) (fun _ _ _ h => h) (Or.inl ⟨by kernel_rfl, ?f5⟩) (by assumption) ?_
      case f5 => (intro w hSw; (try dsimp only at hSw); go_simp; try with_reducible rfl)
      refine wpAnyH_take (i := 6) (v := ?_) rfl (by kernel_rfl) (by kernel_rfl) (by kernel_rfl) (fun _ _ _ h => h) (Or.inl ⟨by kernel_rfl, ?f6⟩) (by assumption) ?_
      case f6 => (intro w hSw; (try dsimp only at hSw); go_simp; try with_reducible rfl)
      refine wpAnyH_take (i := 8) (v := ?_) rfl (by kernel_rfl) (by kernel_rfl) (by kernel_rfl) (fun _ _ _ h => h) (Or.inl ⟨by kernel_rfl, ?f8⟩) (by assumption) ?_
      case f8 => (intro w hSw; (try dsimp only at hSw); go_simp; try with_reducible rfl)
      refine wpAnyH_ready (rs := [7]) (by kernel_rfl) (by simp) ?_
      refine AllReadyH.cons rfl (fun K hK => ?_) AllReadyH.nil
      go_simp
      refine (unhide HHE).mono ?_
      rintro e w7 ⟨rfl, hm7, ht7⟩
      have HP := hide (unhide HPL w7 _ hm7 (Tu.after (Below.refl _ _).drew ht7) (unhide HR4))
      have HQ7 := hide (unhide HQT w7 (Tu.after (Below.refl _ _).drew ht7))
      clear hm7 ht7
      refine hK.out _ _ ?_ (fun hHeld => ?_)
      · exact ⟨(unhide HP).rb, (unhide HQ7).at 0 rfl, (unhide HQ7).at 1 rfl, (unhide HQ7).at 2 rfl⟩
      clear hK K
      refine wpAnyH_take (i := 9) (v := ?_) rfl (by kernel_rfl) (by kernel_rfl) (by kernel_rfl) (fun _ _ _ h => h) (Or.inl ⟨by kernel_rfl, ?f9⟩) (by assumption) ?_
      case f9 => (intro w hSw; (try dsimp only at hSw); go_simp; try with_reducible rfl)
      refine wpAnyH_take (i := 10) (v := ?_) rfl (by kernel_rfl) (by kernel_rfl) (by kernel_rfl) (fun _ _ _ h => h) (Or.inl ⟨by kernel_rfl, ?f10⟩) (by assumption) ?_
      case f10 => (intro w hSw; (try dsimp only at hSw); go_simp; try with_reducible rfl)
      refine wpAnyH_take (i := 11) (v := ?_) rfl (by kernel_rfl) (by kernel_rfl) (by kernel_rfl) (fun _ _ _ h => h) (Or.inl ⟨by kernel_rfl, ?f11⟩) (by assumption) ?_
      case f11 => (intro w hSw; (try dsimp only at hSw); go_simp; try with_reducible rfl)
      refine wpAnyH_take (i := 12) (v := ?_) rfl (by kernel_rfl) (by kernel_rfl) (by kernel_rfl) (fun _ _ _ h => h) (Or.inl ⟨by kernel_rfl, ?f12⟩) (by assumption) ?_
      case f12 => (intro w hSw; (try dsimp only at hSw); go_simp; try with_reducible rfl)
      refine wpAnyH_take (i := 13) (v := ?_) rfl (by kernel_rfl) (by kernel_rfl) (by kernel_rfl) (fun _ _ _ h => h) (Or.inl ⟨by kernel_rfl, ?f13⟩) (by assumption) ?_
      case f13 => (intro w hSw; (try dsimp only at hSw); go_simp; try with_reducible rfl)
      refine wpAnyH_take (i := 14) (v := ?_) rfl (by kernel_rfl) (by kernel_rfl) (by kernel_rfl) (fun _ _ _ h => h) (Or.inl ⟨by kernel_rfl, ?f14⟩) (by assumption) ?_
      case f14 => (intro w hSw; (try dsimp only at hSw); go_simp; try with_reducible rfl)
      refine wpAnyH_take (i := 16) (v := .agg (rmC T1 H1 I1 N1).toArray) rfl (by kernel_rfl) (by kernel_rfl) (by kernel_rfl) (fun _ _ _ h => h) (yieldsIf_load_mid (by kernel_rfl) 29 (.tmp 8) rfl cb 0 (by rfl) (rmC T1 H1 I1 N1) _ (fun w hSw j v hv => by rw [Nat.zero_add]; exact hSw.1.at j hv) Try.underlying29 rfl (by rw [rmC_len (unhide HL9)]; exact info_rm)) (by assumption) ?_
      refine wpAnyH_take (i := 17) (v := ?_) rfl (by kernel_rfl) (by kernel_rfl) (by kernel_rfl) (fun _ _ _ h => h) (Or.inl ⟨by kernel_rfl, ?f17⟩) (by assumption) ?_
      case f17 => (intro w hSw; (try dsimp only at hSw); go_simp; try with_reducible rfl)
      refine wpAnyH_take (i := 18) (v := ?_) rfl (by kernel_rfl) (by kernel_rfl) (by kernel_rfl) (fun _ _ _ h => h) (Or.inl ⟨by kernel_rfl, ?f18⟩) (by assumption) ?_
      case f18 => (intro w hSw; (try dsimp only at hSw); go_simp; try with_reducible rfl)
      refine wpAnyH_take (i := 19) (v := ?_) rfl (by kernel_rfl) (by kernel_rfl) (by kernel_rfl) (fun _ _ _ h => h) (Or.inl ⟨by kernel_rfl, ?f19⟩) (by assumption) ?_
      case f19 => (intro w hSw; (try dsimp only at hSw); go_simp; try with_reducible rfl)
      refine wpAnyH_ready (rs := [15]) (by kernel_rfl) (by simp) ?_
      refine AllReadyH.cons rfl (fun K hK => ?_) AllReadyH.nil
      go_simp
      refine (mbalive_any _ _ _ _ _ _ (unhide HP).mb).mono ?_
      rintro e w7 ⟨rfl, hb7⟩
      rw [unhide HAE]
      have HP := hide ((unhide HP).below hb7)
      have HQ7 := hide ((unhide HQ7).below hb7)
      clear hb7
      refine hK.out _ _ ?_ (fun hHeld => ?_)
      · exact ⟨(unhide HP).rb, (unhide HQ7).at 0 rfl, (unhide HQ7).at 1 rfl, (unhide HQ7).at 2 rfl⟩
      clear hK K
      refine wpAnyH_ready (rs := [20]) (by kernel_rfl) (by simp) ?_
      refine AllReadyH.cons rfl (fun K hK => ?_) AllReadyH.nil
      go_simp
      refine (rmalive_any T1 Z' H1 I1 N1 _ _ _ (unhide HP).rm).mono ?_
      rintro e w7 ⟨rfl, hb7⟩
      rw [unhide HAE]
      have HP := hide ((unhide HP).below hb7)
      have HQ7 := hide ((unhide HQ7).below hb7)
      clear hb7
      refine hK.out _ _ ?_ (fun hHeld => ?_)
      · exact ⟨(unhide HP).rb, (unhide HQ7).at 0 rfl, (unhide HQ7).at 1 rfl, (unhide HQ7).at 2 rfl⟩
      clear hK K
      refine wpAnyH_take (i := 21) (v := ?_) rfl (by kernel_rfl) (by kernel_rfl) (by kernel_rfl) (fun _ _ _ h => h) (Or.inl ⟨by kernel_rfl, ?f21⟩) (by assumption) ?_
      case f21 => (intro w hSw; (try dsimp only at hSw); go_simp; try with_reducible rfl)
      refine wpAnyH_take (i := 22) (v := ?_) rfl (by kernel_rfl) (by kernel_rfl) (by kernel_rfl) (fun _ _ _ h => h) (Or.inl ⟨by kernel_rfl, ?f22⟩) (by assumption) ?_
      case f22 => (intro w hSw; (try dsimp only at hSw); go_simp; try with_reducible rfl)
      refine wpAnyH_take (i := 23) (v := ?_) rfl (by kernel_rfl) (by kernel_rfl) (by kernel_rfl) (fun _ _ _ h => h) (Or.inl ⟨by kernel_rfl, ?f23⟩) (by assumption) ?_
      case f23 => (intro w hSw; (try dsimp only at hSw); go_simp; try with_reducible rfl)
      refine wpAnyH_take (i := 24) (v := ?_) rfl (by kernel_rfl) (by kernel_rfl) (by kernel_rfl) (fun _ _ _ h => h) (Or.inl ⟨by kernel_rfl, ?f24⟩) (by assumption) ?_
      case f24 => (intro w hSw; (try dsimp only at hSw); go_simp; try with_reducible rfl)
      refine wpAnyH_take (i := 25) (v := ?_) rfl (by kernel_rfl) (by kernel_rfl) (by kernel_rfl) (fun _ _ _ h => h) (Or.inl ⟨by kernel_rfl, ?f25⟩) (by assumption) ?_
      case f25 => (intro w hSw; (try dsimp only at hSw); go_simp; try with_reducible rfl)
      refine wpAnyH_take (i := 26) (v := ?_) rfl (by kernel_rfl) (by kernel_rfl) (by kernel_rfl) (fun _ _ _ h => h) (Or.inl ⟨by kernel_rfl, ?f26⟩) (by assumption) ?_
      case f26 => (intro w hSw; (try dsimp only at hSw); go_simp; try with_reducible rfl)
      refine wpAnyH_take (i := 28) (v := .agg (rmC T1 H1 I1 N1).toArray) rfl (by kernel_rfl) (by kernel_rfl) (by kernel_rfl) (fun _ _ _ h => h) (yieldsIf_load_mid (by kernel_rfl) 29 (.tmp 8) rfl cb 0 (by rfl) (rmC T1 H1 I1 N1) _ (fun w hSw j v hv => by rw [Nat.zero_add]; exact hSw.1.at j hv) Try.underlying29 rfl (by rw [rmC_len (unhide HL9)]; exact info_rm)) (by assumption) ?_
      refine wpAnyH_take (i := 29) (v := ?_) rfl (by kernel_rfl) (by kernel_rfl) (by kernel_rfl) (fun _ _ _ h => h) (Or.inl ⟨by kernel_rfl, ?f29⟩) (by assumption) ?_
      case f29 => (intro w hSw; (try dsimp only at hSw); go_simp; try with_reducible rfl)
      refine wpAnyH_take (i := 30) (v := ?_) rfl (by kernel_rfl) (by kernel_rfl) (by kernel_rfl) (fun _ _ _ h => h) (Or.inl ⟨by kernel_rfl, ?f30⟩) (by assumption) ?_
      case f30 => (intro w hSw; (try dsimp only at hSw); go_simp; try with_reducible rfl)
      refine wpAnyH_ready (rs := [27]) (by kernel_rfl) (by simp) ?_
      refine AllReadyH.cons rfl (fun K hK => ?_) AllReadyH.nil
      go_simp
      refine (mbinc_any _ _ _ _ _ (unhide HP).mb).mono ?_
      rintro e w7 ⟨rfl, hb7⟩
      rw [unhide HPI]
      have HP := hide ((unhide HP).below hb7)
      have HQ7 := hide ((unhide HQ7).below hb7)
      clear hb7
      refine hK.out _ _ ?_ (fun hHeld => ?_)
      · exact ⟨(unhide HP).rb, (unhide HQ7).at 0 rfl, (unhide HQ7).at 1 rfl, (unhide HQ7).at 2 rfl⟩
      clear hK K
      refine wpAnyH_ready (rs := [31]) (by kernel_rfl) (by simp) ?_
      refine AllReadyH.cons rfl (fun K hK => ?_) AllReadyH.nil
      go_simp
      refine (rminc_any T1 Z' H1 I1 N1 _ _ (unhide HP).rm).mono ?_
      rintro e w7 ⟨rfl, hb7⟩
      rw [unhide HPI]
      have HP := hide ((unhide HP).below hb7)
      have HQ7 := hide ((unhide HQ7).below hb7)
      clear hb7
      refine hK.out _ _ ?_ (fun hHeld => ?_)
      · exact ⟨(unhide HP).rb, (unhide HQ7).at 0 rfl, (unhide HQ7).at 1 rfl, (unhide HQ7).at 2 rfl⟩
      clear hK K
      refine wpAnyH_take (i := 32) (v := ?_) rfl (by kernel_rfl) (by kernel_rfl) (by kernel_rfl) (fun _ _ _ h => h) (Or.inl ⟨by kernel_rfl, ?f32⟩) (by assumption) ?_
      case f32 => (intro w hSw; (try dsimp only at hSw); go_simp; try with_reducible rfl)
      refine wpAnyH_take (i := 33) (v := ?_) rfl (by kernel_rfl) (by kernel_rfl) (by kernel_rfl) (fun _ _ _ h => h) (Or.inl ⟨by kernel_rfl, ?f33⟩) (by assumption) ?_
      case f33 => (intro w hSw; (try dsimp only at hSw); go_simp; try with_reducible rfl)
      refine wpAnyH_done (by kernel_rfl) ?_ _
      go_wp2
      -- end
      go_roundw
      case rel => exact ⟨j + 1, Z', H1, I1, N1, by omega, by go_num, HP⟩
      case measure => simp [intOf]; omega
    · clear HH
      have hJ := unhide HJ
      have HL := hide (show (allZ T1 Z tn).length ≤ 1048576 from Nat.le_trans (allTo_len _ 8) (by decide))
      have HP := hide (hJ.below (Below.refl _ _).drew)
      clear hJ HJ
      go_wp2_with fail
      -- region 12
      refine wp_region_held_drew (S := fun w' => BkA 29 w' cb (rmC T1 H I N)) (by kernel_rfl) ?_ (fun hHeld => ?_)
      · exact (unhide HP).rb
      refine wpAnyH_take (i := 0) (v := ?_) rfl (by kernel_rfl) (by kernel_rfl) (by kernel_rfl) (fun _ _ _ h => h) (Or.inl ⟨by kernel_rfl, ?f0⟩) (by assumption) ?_
      case f0 => (intro w hSw; (try dsimp only at hSw); go_simp; try with_reducible rfl)
      refine wpAnyH_take (i := 1) (v := ?_) rfl (by kernel_rfl) (by kernel_rfl) (by kernel_rfl) (fun _ _ _ h => h) (Or.inl ⟨by kernel_rfl, ?f1⟩) (by assumption) ?_
      case f1 => (intro w hSw; (try dsimp only at hSw); go_simp; try with_reducible rfl)
      refine wpAnyH_take (i := 3) (v := .agg (rmC T1 H I N).toArray) rfl (by kernel_rfl) (by kernel_rfl) (by kernel_rfl) (fun _ _ _ h => h) (yieldsIf_load_mid (by kernel_rfl) 29 (.tmp 8) rfl cb 0 (by rfl) (rmC T1 H I N) _ (fun w hSw j v hv => by rw [Nat.zero_add]; exact hSw.at j hv) Try.underlying29 rfl (by rw [rmC_len (unhide HP).rm.len]; exact info_rm)) (by assumption) ?_
      refine wpAnyH_take (i := 4) (v := ?_) rfl (by kernel_rfl) (by kernel_rfl) (by kernel_rfl) (fun _ _ _ h => h) (Or.inl ⟨by kernel_rfl, ?f4⟩) (by assumption) ?_
      case f4 => (intro w hSw; (try dsimp only at hSw); go_simp; try with_reducible rfl)
      refine wpAnyH_ready (rs := [2]) (by kernel_rfl) (by simp) ?_
      refine AllReadyH.cons rfl (fun K hK => ?_) AllReadyH.nil
      go_simp
      refine (mball_any _ _ _ tn _ (unhide HP).mb).mono ?_
      rintro e w7 ⟨o7, rfl, ho7, hb7⟩
      obtain ⟨a7, c7, rfl, hi7⟩ := ho7.ints
      have HI7 := hide hi7
      have HP := hide ((unhide HP).below hb7)
      clear hb7 hi7 ho7
      refine hK.out _ _ ?_ (fun hHeld => ?_)
      · exact (unhide HP).rb
      clear hK K
      refine wpAnyH_ready (rs := [5]) (by kernel_rfl) (by simp) ?_
      refine AllReadyH.cons rfl (fun K hK => ?_) AllReadyH.nil
      go_simp
      refine (rmall_any T1 Z H I N tn _ (unhide HP).rm).mono ?_
      rintro e w8 ⟨o8, rfl, ho8, hb8⟩
      obtain ⟨a8, c8, rfl, hi8⟩ := ho8.ints
      have HI8 := hide hi8
      have HI7 := hide ((unhide HI7).below hb8)
      have HP := hide ((unhide HP).below hb8)
      clear hb8 hi8 ho8
      refine hK.out _ _ ?_ (fun hHeld => ?_)
      · exact (unhide HP).rb
      clear hK K
      refine wpAnyH_ready (rs := [6]) (by kernel_rfl) (by simp) ?_
      refine AllReadyH.cons rfl (fun K hK => ?_) AllReadyH.nil
      go_simp
      refine (intz_any a7 _ c7 _ a8 _ c8 _ _ (unhide HI7) (unhide HI8) rfl (unhide HL)).mono ?_
      rintro e w9 ⟨rfl, hb9⟩
      have HP := hide ((unhide HP).below hb9)
      clear hb9
      refine hK.out _ _ ?_ (fun hHeld => ?_)
      · exact (unhide HP).rb
      clear hK K
      refine wpAnyH_take (i := 7) (v := ?_) rfl (by kernel_rfl) (by kernel_rfl) (by kernel_rfl) (fun _ _ _ h => h) (Or.inl ⟨by kernel_rfl, ?f7⟩) (by assumption) ?_
      case f7 => (intro w hSw; (try dsimp only at hSw); go_simp; try with_reducible rfl)
      refine wpAnyH_ready (rs := [8]) (by kernel_rfl) (by simp) ?_
      refine AllReadyH.cons rfl (fun K hK => ?_) AllReadyH.nil
      go_simp
      refine (awake_any _).mono ?_
      rintro e w9 ⟨rfl, hb9⟩
      have HP := hide ((unhide HP).below hb9)
      clear hb9
      refine hK.out _ _ ?_ (fun hHeld => ?_)
      · exact (unhide HP).rb
      clear hK K
      refine wpAnyH_take (i := 9) (v := ?_) rfl (by kernel_rfl) (by kernel_rfl) (by kernel_rfl) (fun _ _ _ h => h) (Or.inl ⟨by kernel_rfl, ?f9⟩) (by assumption) ?_
      case f9 => (intro w hSw; (try dsimp only at hSw); go_simp; try with_reducible rfl)
      refine wpAnyH_take (i := 10) (v := ?_) rfl (by kernel_rfl) (by kernel_rfl) (by kernel_rfl) (fun _ _ _ h => h) (Or.inl ⟨by kernel_rfl, ?f10⟩) (by assumption) ?_
      case f10 => (intro w hSw; (try dsimp only at hSw); go_simp; try with_reducible rfl)
      refine wpAnyH_done (by kernel_rfl) ?_ _
      go_wp2
      go_ret
      exact ⟨rfl, (unhide HP).low⟩
      -- end
end Go.Proofs.Ytnjoieboaioeiaa
