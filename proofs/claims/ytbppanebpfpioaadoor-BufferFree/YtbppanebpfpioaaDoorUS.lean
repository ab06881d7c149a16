/-
  The walks of BufferNone and BufferFree: for every input they tell true and write nothing that was there.
-/
import Derived.Test.YtbppanebpfpioaaDoorUR
namespace Go.Proofs.YtbppanebpfpioaaDoor
open Go.RowKit Go.Sort
set_option linter.unusedVariables false
set_option maxRecDepth 4000

set_option maxHeartbeats 1000000 in
theorem bunone_walk (p : PKV) (w : World) (ht : Tab w) :
    Calls Tryd.prog 7 #[.agg #[.int .i64 p.o, .int .i64 p.l, .int .i64 p.k, .int .i64 p.z, .int .i64 p.h, .slice p.r.a p.r.n p.r.c, .string p.r.s]] w fun e w' => e = .returned (.bool true) ∧ Below w.heap.size w w' := by
  have hb0 := pk_low w p
  obtain ⟨q0, q1, q2, q3, q4, q5, q6⟩ := pk_new w (.int .i64 p.o) (.int .i64 p.l) (.int .i64 p.k) (.int .i64 p.z) (.int .i64 p.h) (.slice p.r.a p.r.n p.r.c) (.string p.r.s)
  generalize hW : w.alloc (.cells #[.int .i64 p.o, .int .i64 p.l, .int .i64 p.k, .int .i64 p.z, .int .i64 p.h, .slice p.r.a p.r.n p.r.c, .string p.r.s] 34) = W at *
  have HPU0 := buput_nil p W
  unfold PKV.val at HPU0
  have HPU := hide HPU0
  have HT := hide ht
  have HB0 := hide hb0
  clear ht hb0 HPU0
  go_enter Tryd.func7, Tryd.ntmps7
  go_wp2_with fail
  refine (buclear_nil _).mono ?_
  rintro e w1 ⟨rfl, hw1⟩
  obtain rfl := hw1.symm
  go_wp2_with fail
  refine (unhide HPU).mono ?_
  rintro e w2 ⟨rfl, hb2⟩
  have HB2 := hide (below0 (unhide HB0) hb2)
  clear hb2 HPU
  go_wp2_with fail
  refine (buall_nil _).mono ?_
  rintro e w3 ⟨rfl, hw3⟩
  obtain rfl := hw3.symm
  go_wp2_with fail
  refine (bulen_nil _).mono ?_
  rintro e w4 ⟨rfl, hw4⟩
  obtain rfl := hw4.symm
  go_wp2_with fail
  refine (awake_any _ ((unhide HT).below (unhide HB2))).mono ?_
  rintro e w5 ⟨rfl, hb5⟩
  go_wp2
  go_ret
  exact ⟨rfl, below0 (unhide HB2) hb5⟩
set_option maxHeartbeats 4000000 in
theorem bufree_walk (M : Int) (a : Option Addr) (n c : Nat) (ps : List PKV) (w : World) (ht : Tab w) (h : PksAt w a n ps) (hn : n ≤ 9223372036854775807) (hbig : ∀ i, (ps.getD i .dflt).r.n ≤ 9223372036854775807 ∧ (ps.getD i .dflt).r.s.size ≤ 9223372036854775807) :
    Calls Tryd.prog 4 #[.int .i64 M, .slice a n c] w fun e w' => e = .returned (.bool true) ∧ Below w.heap.size w w' := by
  obtain rfl := h.1
  have HAW := hide (fun (w1 : World) (hb : Below w.heap.size w w1) => awake_any w1 (ht.below hb))
  have HF := hide (fewP_any a ps.length c ps w h hn hbig)
  have HT := hide ht
  have Hh := hide h
  clear h ht hbig
  go_enter Tryd.func4, Tryd.ntmps4
  go_wp2_with fail
  refine (unhide HF).mono ?_
  rintro e w1 ⟨he, hw1⟩
  obtain rfl := hw1.symm
  clear HF hw1
  rcases he with ⟨rfl, hf⟩ | ⟨rfl, hf⟩
  case inr =>
    clear hf
    go_wp2_with (go_at_call 9; refine (unhide HAW _ (Below.refl _ _)).mono ?_; rintro e w1 ⟨rfl, hb1⟩)
    go_ret
    exact ⟨rfl, hb1⟩
  have HS := hide hf.2
  have hl : ps.length ≤ 60 := hf.1
  clear hf
  go_wp2_with fail
  refine (bunew_any M w).mono ?_
  rintro e w1 ⟨rfl, hd1, hb1⟩
  have HD1 := hide hd1
  have HB1 := hide hb1
  clear hd1 hb1
  go_wp2
  go_loopw [6] (fun i wr => ∃ (j : Nat) (v : Value) (qs : List PKV), j ≤ ps.length ∧ i = .int .i64 j ∧ Hid (BfAt wr w.heap.size w.heap.size (capN M) v qs) ∧ Hid (FreeD (qs.map PKV.pd)) ∧ Hid (Below w.heap.size w wr)) (fun i _ => ps.length - (intOf i).toNat)
  case atStart => exact ⟨0, _, _, Nat.zero_le _, rfl, HD1, hide FreeD.nil, HB1⟩
  case round =>
    obtain ⟨j, v, qs, hj, rfl, HD, HFR, HB⟩ := hrel
    clear HD1 HB1
    by_cases hlt : j < ps.length
    · obtain ⟨b, off, rfl, ⟨q0, q1, q2, q3, q4, q5, q6⟩, -⟩ := (unhide Hh).oldk (unhide HB) hlt
      have hlt' : (j : Int) < (ps.length : Int) := by omega
      have hrW := (unhide Hh).2.1 j hlt
      have hsz := unhide HS j
      generalize ps.getD j .dflt = p at *
      have HP := hide (buput_in (unhide HT) (unhide HD) (unhide HB) p hrW hsz.1 hsz.2)
      have HSM : Hid (smalls p.pd.xs) := hide hrW.2.1
      clear hrW hsz
      go_wp2_with fail
      refine (unhide HP).mono ?_
      rintro e w2 ⟨rfl, v2, qs2, hd2, hpd, ht2, -⟩
      have HB2 := hide ((unhide HD).step (unhide HB) ht2)
      have HD2 := hide hd2
      have HF2 : Hid (FreeD (qs2.map PKV.pd)) := hide (by rw [hpd]; exact (unhide HFR).put (unhide HD).inv (unhide HSM))
      clear hd2 ht2 hpd HP HD HB q0 q1 q2 q3 q4 q5 q6 HFR HSM
      generalize takeD (capN M) (qs.map PKV.pd) p.pd = TK at *
      go_wp2
      go_roundw
      case rel => exact ⟨j + 1, _, _, by omega, by go_num, HD2, HF2, HB2⟩
      case measure => simp [intOf]; omega
    · have HAL := hide (buall_any _ _ _ _ _ _ (unhide HD))
      have hql := (unhide HD).len.2
      go_wp2_with fail
      refine (unhide HAL).mono ?_
      rintro e X ⟨b, c1, us, rfl, ho, hk, hpd, hbx⟩
      obtain ⟨hP, -⟩ := ho.at' hk.ks
      have hul : us.length = qs.length := by have := congrArg List.length hpd; simpa using this
      have HV := hide (rpvecs_any (some ⟨b, 0, none⟩) qs.length c1 us X hP (by omega))
      have HVV : Hid (∀ wx v1 B1, Below X.heap.size X wx → OwnW wx B1 v1 (us.map PKV.r) → ∃ a1 c1, v1 = .slice a1 qs.length c1 ∧ VecsAt wx a1 qs.length (vecsD (qs.map PKV.pd))) := hide fun wx v1 B1 hbb hoo => by
        obtain ⟨a1, c1, e, hv⟩ := hoo.vecs (rowsOf (hk.ks.below hbb))
        rw [List.length_map, hul] at e hv
        rw [vecsOf, hpd] at hv
        exact ⟨a1, c1, e, hv⟩
      have HRK := hide (fun wx a1 c2 (hv : VecsAt wx a1 qs.length (vecsD (qs.map PKV.pd))) => rrank_any a1 qs.length c2 (vecsD (qs.map PKV.pd)) wx hv (unhide HD).inv.fit (by omega))
      have hFE : (basisL (vecsD (qs.map PKV.pd))).length = qs.length := by have := unhide HFR; unfold FreeD at this; rwa [List.length_map] at this
      rw [hFE] at HRK
      have HBX := hide (below0 (unhide HB) hbx)
      have HDX := hide ((unhide HD).below hbx)
      clear ho hk hpd hbx hP hul HAL hFE HFR HD HB
      go_wp2_with fail
      refine (unhide HV).mono ?_
      rintro e x1 ⟨v1, rfl, ho1, hb1⟩
      obtain ⟨a1, c2, rfl, hv1⟩ := unhide HVV x1 v1 _ hb1 ho1
      have HR1 := hide (unhide HRK x1 a1 c2 hv1)
      have HB1 := hide (below0 (unhide HBX) hb1)
      have HD1 := hide ((unhide HDX).below hb1)
      clear ho1 hb1 hv1 HV HVV HRK HBX HDX
      go_wp2_with fail
      refine (unhide HR1).mono ?_
      rintro e x2 ⟨rfl, hb2⟩
      have HB2 := hide (below0 (unhide HB1) hb2)
      have HL2 := hide (bulen_any _ _ _ _ _ _ ((unhide HD1).below hb2))
      clear hb2 HR1 HB1 HD1
      go_wp2_with fail
      refine (unhide HL2).mono ?_
      rintro e x3 ⟨rfl, hx3⟩
      obtain rfl := hx3.symm
      go_wp2_with fail
      refine (unhide HAW _ (unhide HB2)).mono ?_
      rintro e x4 ⟨rfl, hb4⟩
      go_wp2
      go_ret
      exact ⟨rfl, below0 (unhide HB2) hb4⟩
end Go.Proofs.YtbppanebpfpioaaDoor
