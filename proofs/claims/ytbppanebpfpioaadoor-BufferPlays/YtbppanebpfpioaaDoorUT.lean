/-
  The walk of BufferBound: for every input it tells true and writes nothing that was there.
-/
import Derived.Test.YtbppanebpfpioaaDoorUS
namespace Go.Proofs.YtbppanebpfpioaaDoor
open Go.RowKit Go.Sort
set_option linter.unusedVariables false
set_option maxRecDepth 4000

theorem left_erase (m : Nat) (L : List PD) : ∃ G, leftD m L = L.eraseIdx G := by
  unfold leftD
  by_cases h : m ≤ L.length
  · exact ⟨_, if_pos h⟩
  · exact ⟨L.length, by rw [if_neg h, List.eraseIdx_of_length_le (Nat.le_refl _)]⟩
theorem max_run0 (n : Int) (ts : Array TypeId) (t : TypeId) (w : World) : (Builtin.max_ ts t #[.int .i64 n, .int .i64 0]).run Tryd.prog w = .ok (.int .i64 (max n 0)) w := max_run n ts t w
set_option maxHeartbeats 8000000 in
theorem bubound_walk (M : Int) (a : Option Addr) (n c : Nat) (ps : List PKV) (w : World) (ht : Tab w) (h : PksAt w a n ps) (hn : n ≤ 9223372036854775807) (hbig : ∀ i, (ps.getD i .dflt).r.n ≤ 9223372036854775807 ∧ (ps.getD i .dflt).r.s.size ≤ 9223372036854775807) :
    Calls Tryd.prog 5 #[.int .i64 M, .slice a n c] w fun e w' => e = .returned (.bool true) ∧ Below w.heap.size w w' := by
  obtain rfl := h.1
  have HAW := hide (fun (w1 : World) (hb : Below w.heap.size w w1) => awake_any w1 (ht.below hb))
  have HF := hide (fewP_any a ps.length c ps w h hn hbig)
  have HT := hide ht
  have Hh := hide h
  have HMX := max_run M
  have hcm : (capN M : Int) ≤ max M 0 := by unfold capN; omega
  clear h ht hbig
  generalize max M 0 = M0 at *
  go_enter Tryd.func5, Tryd.ntmps5
  go_wp2_with fail
  refine (unhide HF).mono ?_
  rintro e w1 ⟨he, hw1⟩
  obtain rfl := hw1.symm
  clear HF hw1
  rcases he with ⟨rfl, hf⟩ | ⟨rfl, hf⟩
  case inr =>
    clear hf
    go_wp2_with (go_at_call 9; refine (unhide HAW _ (Below.refl _ _)).mono ?_; rintro e w1 ⟨rfl, hb1⟩)
    go_ret
    exact ⟨rfl, hb1⟩
  have HS := hide hf.2
  have hl : ps.length ≤ 60 := hf.1
  clear hf
  go_wp2_with fail
  refine (bunew_any M w).mono ?_
  rintro e w1 ⟨rfl, hd1, hb1⟩
  have HD1 := hide hd1
  have HB1 := hide hb1
  clear hd1 hb1
  go_wp2
  go_loopw [6] (fun i wr => ∃ (j : Nat) (v : Value) (qs : List PKV), j ≤ ps.length ∧ i = .int .i64 j ∧ Hid (BfAt wr w.heap.size w.heap.size (capN M) v qs) ∧ Hid (Below w.heap.size w wr)) (fun i _ => ps.length - (intOf i).toNat)
  case atStart => exact ⟨0, _, _, Nat.zero_le _, rfl, HD1, HB1⟩
  case round =>
    obtain ⟨j, v, qs, hj, rfl, HD, HB⟩ := hrel
    clear HD1 HB1
    by_cases hlt : j < ps.length
    · have hlt' : (j : Int) < (ps.length : Int) := by omega
      have hrW := (unhide Hh).2.1 j hlt
      have hsz := unhide HS j
      have HOK := hide (fun wx (hb : Below w.heap.size w wx) => (unhide Hh).oldk hb hlt)
      generalize ps.getD j .dflt = p at *
      have HAL := hide (buall_any _ _ _ _ _ _ (unhide HD))
      have hql := (unhide HD).len
      have HIQ := hide (unhide HD).inv
      go_wp2_with fail
      refine (unhide HAL).mono ?_
      rintro e X ⟨bw, cw, us, rfl, how, hkw, hpw, hbx⟩
      have HOW := hide how
      have HKW := hide hkw
      have HPW := hide hpw
      have HBX := hide (below0 (unhide HB) hbx)
      have hDX := (unhide HD).below hbx
      have HDX := hide hDX
      have HP := hide (buput_in (unhide HT) hDX (unhide HBX) p hrW hsz.1 hsz.2)
      have HXL : Hid (∀ j, bfF w.heap.size v j → ¬ (Value.slice (some ⟨bw, 0, none⟩) qs.length cw).ownBlock = some j) := hide fun j hf e => by
        have hw1 := (World.ownsRow.lt how j e).1
        have hD := unhide HD
        rcases hf with rfl | hf
        · have := hD.lt; omega
        · have := (World.ownsRow.lt hD.own j hf).2; omega
      obtain ⟨b, off, rfl, ⟨q0, q1, q2, q3, q4, q5, q6⟩, -⟩ := unhide HOK X (unhide HBX)
      clear how hkw hpw hbx hDX HAL
      go_wp2_with fail
      refine (unhide HP).mono ?_
      rintro e Y ⟨rfl, v2, qs2, hd2, hpd, ht2, -⟩
      have HBY := hide ((unhide HDX).step (unhide HBX) ht2)
      have HDY := hide hd2
      have HOWY := hide ((unhide HOW).tu ht2 fun j hj hf => unhide HXL j hf hj)
      have HKWY := hide ((unhide HKW).tu ht2 (unhide HDX).words)
      have HPD := hide hpd
      clear hd2 ht2 hpd HP HDX HBX HOW HKW HXL q0 q1 q2 q3 q4 q5 q6 HB HD
      have HAL2 := hide (buall_any _ _ _ _ _ _ (unhide HDY))
      have hql2 := (unhide HDY).len
      cases hT : takeD (capN M) (qs.map PKV.pd) p.pd
      · have hsame : qs2.map PKV.pd = qs.map PKV.pd := by rw [unhide HPD]; unfold bput; rw [if_neg (by rw [hT]; decide)]
        go_wp2_with fail
        refine (unhide HAL2).mono ?_
        rintro e Z ⟨bn, cn, un, rfl, hon, hkn, hpn, hbz⟩
        obtain ⟨hPn, -⟩ := hon.at' hkn.ks
        obtain ⟨hPw, -⟩ := ((unhide HOWY).below hbz).at' ((unhide HKWY).below hbz).ks
        have HAL3 := hide (rpall_any (some ⟨bw, 0, none⟩) qs.length cw us (some ⟨bn, 0, none⟩) qs2.length cn un Z hPw hPn (by rw [unhide HPW, hpn, hsame]) (shortK_of hPw ((unhide HPW).trans hsame.symm) (unhide HDY).inv) (shortK_of hPn hpn (unhide HDY).inv) (by omega))
        have HDZ := hide ((unhide HDY).below hbz)
        have HBZ := hide (below0 (unhide HBY) hbz)
        have hcd : ¬ M0 < (qs2.length : Int) := by omega
        clear hon hkn hpn hbz hPn hPw HAL2 hsame hT
        go_wp2_with fail
        refine (unhide HAL3).mono ?_
        rintro e Z2 ⟨rfl, hb2⟩
        have HDZ2 := hide ((unhide HDZ).below hb2)
        have HBZ2 := hide (below0 (unhide HBZ) hb2)
        clear hb2
        go_wp2
        go_roundw
        case rel => exact ⟨j + 1, _, _, by omega, by go_num, HDZ2, HBZ2⟩
        case measure => simp [intOf]; omega
      · obtain ⟨G, hG⟩ := left_erase (capN M) (qs.map PKV.pd)
        have hnew : qs2.map PKV.pd = (qs.map PKV.pd).eraseIdx G ++ [p.pd] := by rw [unhide HPD]; unfold bput; rw [if_pos hT, hG]
        have hq2l : qs2.length = ((qs.map PKV.pd).eraseIdx G).length + 1 := by have := congrArg List.length hnew; simpa using this
        obtain ⟨N, hN⟩ : ∃ N, N = ((qs.map PKV.pd).eraseIdx G).length := ⟨_, rfl⟩
        rw [← hN] at hq2l
        go_wp2_with fail
        refine (unhide HAL2).mono ?_
        rintro e Z ⟨bn, cn, un, rfl, hon, hkn, hpn, hbz⟩
        obtain ⟨hPn, -, hcn, -⟩ := hon.at' hkn.ks
        obtain ⟨hPw, -⟩ := ((unhide HOWY).below hbz).at' ((unhide HKWY).below hbz).ks
        have hnn : un.map PKV.pd = (qs.map PKV.pd).eraseIdx G ++ [p.pd] := hpn.trans hnew
        have hunl : un.length = N + 1 := by have := congrArg List.length hnn; rw [List.length_map, List.length_append, ← hN] at this; exact this
        have HTKE : Hid ((un.take N).map PKV.pd = (qs.map PKV.pd).eraseIdx G) := hide (by rw [List.map_take, hnn, hN, List.take_left])
        have hlast : (un.getD N .dflt).pd = p.pd := by
          rw [← pdGet (by omega), hnn, List.getD_eq_getElem?_getD, List.getElem?_append_right (by omega), hN, Nat.sub_self]
          rfl
        rw [hq2l] at hPn hcn ⊢
        have hFr := hPn.front (k := N) (by omega)
        have hsn := shortK_of hPn hpn (unhide HDY).inv
        have hsf : shortK (un.take N) := fun i hi => by
          rw [List.length_take] at hi
          rw [List.getD_eq_getElem?_getD, List.getElem?_take, if_pos (by omega), ← List.getD_eq_getElem?_getD]
          exact hsn i (by omega)
        have hsw : shortK us := shortK_of hPw (unhide HPW) (unhide HIQ)
        have hrl := (hPn.2.1 N (by omega))
        have hnl := hsn N (by omega)
        have hcN : PkCells Z bn (N * 7) (un.getD N .dflt) := by
          obtain ⟨b', off', eb, hc⟩ := hPn.at (i := N) (by omega)
          simp only [Option.some.injEq, Addr.mk.injEq, and_true] at eb
          have := hc N (by omega)
          rwa [← eb.1, ← eb.2, Nat.zero_add] at this
        have HBZ := hide (below0 (unhide HBY) hbz)
        have hrp := hrW.below (unhide HBZ)
        obtain ⟨b2, off2, eb2, ⟨q0, q1, q2, q3, q4, q5, q6⟩, -⟩ := unhide HOK Z (unhide HBZ)
        simp only [Option.some.injEq, Addr.mk.injEq, and_true] at eb2
        rw [← eb2.1, ← eb2.2] at q0 q1 q2 q3 q4 q5 q6
        obtain ⟨x0, x1, x2, x3, x4, x5, x6⟩ := hcN
        generalize un.getD N .dflt = y at *
        have cS := quietB (W := Z) (fun w' hb => rpsame_is y p w' (hrl.below hb) (hrp.below hb) hnl (by omega))
        rw [hlast, sameD_self] at cS
        have CS := hide cS
        have CW := hide (quietB (W := Z) (fun w' hb => within_any (some ⟨bn, 0, none⟩) N cn (un.take N) (some ⟨bw, 0, none⟩) qs.length cw us G w' (hFr.below hb) (hPw.below hb) (by rw [unhide HTKE, unhide HPW]) hsf hsw (by omega)))
        have HDZ := hide ((unhide HDY).below hbz)
        have hcd : ¬ M0 < (N : Int) + 1 := by omega
        have hcN1 : N ≤ cn := by omega
        have r0 := cell_regrown x0
        have r1 := cell_regrown x1
        have r2 := cell_regrown x2
        have r3 := cell_regrown x3
        have r4 := cell_regrown x4
        have r5 := cell_regrown x5
        have r6 := cell_regrown x6
        have s0 := cell_regrown q0
        have s1 := cell_regrown q1
        have s2 := cell_regrown q2
        have s3 := cell_regrown q3
        have s4 := cell_regrown q4
        have s5 := cell_regrown q5
        have s6 := cell_regrown q6
        have hNb : N ≤ 256 := by omega
        have hz1 : ((N : Int) + 1 == 0) = false := by rw [beq_eq_false_iff_ne]; omega
        have hz2 : ¬ ((N : Int) + 1 = 0) := by omega
        have hwN : IntKind.i64.wrap (N : Int) = (N : Int) := by rw [IntKind.wrap_i64]; omega
        have hN1 : (N : Int) < (N : Int) + 1 := by omega
        have hN2 : (N : Int) ≤ (cn : Int) := by omega
        clear hon hkn hpn hbz hPn hPw HAL2 hT hnew hnn hunl hFr hsn hsf hsw hrl hnl hrp hlast cS eb2 x0 x1 x2 x3 x4 x5 x6 q0 q1 q2 q3 q4 q5 q6 hN hG hq2l HTKE
        go_wp2_with fail
        refine wp_region_quiet_below (by kernel_rfl) (by kernel_rfl) ?_
        repeat (with_reducible refine wpQuiet_step (fun K hK => ?_); go_simp; first | (with_reducible refine hK _ ?_; clear hK K) | (apply Exists.intro; apply And.intro; (intro _; first | (go_at_call 20; exact unhide CS _ _) | (go_at_call 21; exact unhide CW _ _)); with_reducible refine hK _ ?_; clear hK K))
        refine wpQuiet_nil ?_
        intro w3 hw3
        obtain ⟨⟨dq, osq⟩, hw3⟩ := hw3
        have hb3 : Below Z.heap.size Z w3 := by rw [hw3]; exact below_regrown _ dq osq
        have HDZ2 := hide ((unhide HDZ).below hb3)
        have HBZ2 := hide (below0 (unhide HBZ) hb3)
        clear hw3 hb3 dq osq r0 r1 r2 r3 r4 r5 r6 s0 s1 s2 s3 s4 s5 s6 CS CW
        go_wp2
        go_roundw
        case rel => exact ⟨j + 1, _, _, by omega, by go_num, HDZ2, HBZ2⟩
        case measure => simp [intOf]; omega
    · go_wp2_with fail
      refine (unhide HAW _ (unhide HB)).mono ?_
      rintro e x4 ⟨rfl, hb4⟩
      go_wp2
      go_ret
      exact ⟨rfl, below0 (unhide HB) hb4⟩
end Go.Proofs.YtbppanebpfpioaaDoor
