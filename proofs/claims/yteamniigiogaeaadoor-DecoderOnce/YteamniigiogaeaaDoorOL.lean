/-
  The walks of DecoderNone and DecoderOnce: for every input each tells true and writes nothing that was there.
-/
import Derived.Test.YteamniigiogaeaaDoorM19
namespace Go.Proofs.YteamniigiogaeaaDoor
open Go.RowKit Go.Sort
set_option linter.unusedVariables false
set_option maxRecDepth 4000

set_option maxHeartbeats 1000000 in
theorem dnone_walk (p : PKV) (w : World) (ht : Tab w) :
    Calls Tryd.prog 4 #[p.val] w fun e w' => e = .returned (.bool true) ∧ Below w.heap.size w w' := by
  have hb0 := alloc_low w (.cells #[.int .i64 p.o, .int .i64 p.l, .int .i64 p.k, .int .i64 p.z, .int .i64 p.h, .slice p.r.a p.r.n p.r.c, .string p.r.s] 33)
  have HAW := hide (fun (w1 : World) (hb : Below w.heap.size w w1) => awake_any w1 (ht.below hb))
  have HB0 := hide hb0
  unfold PKV.val
  clear ht hb0
  go_enter Tryd.func4, Tryd.ntmps4
  go_wp2_with (first
    | (go_at_call 8; refine (dput_nil p _).mono ?_; rintro e w1 ⟨rfl, hb1⟩; have HB1 := hide (below0 (unhide HB0) hb1); clear hb1)
    | (go_at_call 12; refine (derank_nil _).mono ?_; rintro e w5 ⟨rfl, hw⟩; obtain rfl := hw.symm; clear hw)
    | (go_at_call 9; refine (dedone_nil _).mono ?_; rintro e w5 ⟨rfl, hw⟩; obtain rfl := hw.symm; clear hw)
    | (go_at_call 10; refine (deobj_nil _).mono ?_; rintro e w5 ⟨rfl, hw⟩; obtain rfl := hw.symm; clear hw)
    | (go_at_call 11; refine (dekept_nil _).mono ?_; rintro e w5 ⟨rfl, hw⟩; obtain rfl := hw.symm; clear hw)
    | (go_at_call 13; refine (deover_nil _).mono ?_; rintro e w5 ⟨rfl, hw⟩; obtain rfl := hw.symm; clear hw)
    | (go_at_call 6; refine (unhide HAW _ (unhide HB1)).mono ?_; rintro e w6 ⟨rfl, hb6⟩; have HB6 := hide (below0 (unhide HB1) hb6); clear hb6))
  go_ret
  exact ⟨rfl, unhide HB6⟩

/-- A packet of a slice that came in, put into a decoder behind it. -/
theorem dput_of {W w : World} {g : Nat} {M : Int} {s : DS} {gs : Nat} {v : Value} {rs : List RV} {a : Option Addr} {n : Nat} {ps : List PKV} (ht : Tab W) (hb : Below W.heap.size W w) (hd : DcAt w g W.heap.size M s gs v rs) (h : PksAt W a n ps) (hs : shortP ps) {j : Nat} (hj : j < n) :
    Calls Tryd.prog 8 #[.pointer (some ⟨g, 0, none⟩), .agg #[.int .i64 (ps.getD j default).o, .int .i64 (ps.getD j default).l, .int .i64 (ps.getD j default).k, .int .i64 (ps.getD j default).z, .int .i64 (ps.getD j default).h, .slice (ps.getD j default).r.a (ps.getD j default).r.n (ps.getD j default).r.c, .string (ps.getD j default).r.s]] w
      fun e w' => DputR w w' g W.heap.size M s gs v (ps.getD j default) e :=
  dput_any g W.heap.size M s gs v rs (ps.getD j default) w (fun wx hx => ht.below (hb.trans hx)) hd (fun wx hx => (h.2.1 j hj).below (hd.step hb hx)) (hs j).1 (hs j).2

set_option maxHeartbeats 4000000 in
theorem donce_walk (M : Int) (a : Option Addr) (n c : Nat) (ps : List PKV) (a2 : Option Addr) (n2 c2 : Nat) (ps2 : List PKV) (w : World) (ht : Tab w) (h : PksAt w a n ps) (hn : n ≤ 9223372036854775807) (hbig : ∀ i, (ps.getD i default).r.n ≤ 9223372036854775807 ∧ (ps.getD i default).r.s.size ≤ 9223372036854775807)
    (h2 : PksAt w a2 n2 ps2) (hn2 : n2 ≤ 9223372036854775807) (hbig2 : ∀ i, (ps2.getD i default).r.n ≤ 9223372036854775807 ∧ (ps2.getD i default).r.s.size ≤ 9223372036854775807) :
    Calls Tryd.prog 3 #[.int .i64 M, .slice a n c, .slice a2 n2 c2] w fun e w' => e = .returned (.bool true) ∧ Below w.heap.size w w' := by
  have HAW := hide (fun (w1 : World) (hb : Below w.heap.size w w1) => awake_any w1 (ht.below hb))
  have HF := hide (fewP_any a n c ps w h hn hbig)
  have HF2 := hide (fewP_any a2 n2 c2 ps2 w h2 hn2 hbig2)
  have HH := hide h
  have HH2 := hide h2
  have HT := hide ht
  have HL1 := hide h.1
  have HL2 := hide h2.1
  clear h h2 ht hbig hbig2
  go_enter Tryd.func3, Tryd.ntmps3
  go_wp2_with fail
  refine (unhide HF).mono ?_
  rintro e w0 ⟨hf, hw⟩
  obtain rfl := hw.symm
  clear hw HF
  rcases hf with ⟨rfl, hf⟩ | ⟨rfl, hf⟩
  case inr =>
    clear hf HF2
    go_wp2_with (go_at_call 6; refine (unhide HAW _ (Below.refl _ _)).mono ?_; rintro e w1 ⟨rfl, hb1⟩)
    go_ret
    exact ⟨rfl, hb1⟩
  have HS := hide hf.2
  have hl : n ≤ 60 := by rw [← unhide HL1]; exact hf.1
  clear hf
  go_wp2_with fail
  refine (unhide HF2).mono ?_
  rintro e w0 ⟨hf, hw⟩
  obtain rfl := hw.symm
  clear hw HF2
  rcases hf with ⟨rfl, hf⟩ | ⟨rfl, hf⟩
  case inr =>
    clear hf
    go_wp2_with (go_at_call 6; refine (unhide HAW _ (Below.refl _ _)).mono ?_; rintro e w1 ⟨rfl, hb1⟩)
    go_ret
    exact ⟨rfl, hb1⟩
  have HS2 := hide hf.2
  have hl2 : n2 ≤ 60 := by rw [← unhide HL2]; exact hf.1
  clear hf HL1 HL2
  go_wp2_with fail
  refine (denew_any M w).mono ?_
  rintro e w1 ⟨rfl, hd1, hb1⟩
  have HD1 := hide hd1
  have HB1 := hide hb1
  clear hd1 hb1
  go_wp2
  go_loopw [8] (fun i wr => ∃ (j : Nat) (s : DS) (gs : Nat) (v : Value) (rs : List RV), j ≤ n ∧ i = .int .i64 j ∧ Hid (DcAt wr w.heap.size w.heap.size M s gs v rs) ∧ Hid (Below w.heap.size w wr)) (fun i _ => n - (intOf i).toNat)
  case atStart => exact ⟨0, _, _, _, _, Nat.zero_le _, rfl, HD1, HB1⟩
  case round =>
    obtain ⟨j, s, gs, v, rs, hj, rfl, HD, HB⟩ := hrel
    clear HD1 HB1
    by_cases hlt : j < n
    · have hR := (unhide HH).below (unhide HB)
      obtain ⟨b, off, rfl, hcl⟩ := hR.at hlt
      obtain ⟨q0, q1, q2, q3, q4, q5, q6⟩ := hcl j hlt
      have HP := hide (dput_of (unhide HT) (unhide HB) (unhide HD) (unhide HH) (unhide HS) hlt)
      have hlt' : (j : Int) < (n : Int) := by omega
      clear hR hcl
      generalize ps.getD j default = p at *
      go_wp2_with fail
      refine (unhide HP).mono ?_
      rintro e w2 ⟨gs2, v2, rs2, ob2, rfl, -, hd2, ht2, -⟩
      have HB2 := hide ((unhide HD).step (unhide HB) ht2)
      have HD2 := hide hd2
      clear hd2 ht2 HP HD HB q0 q1 q2 q3 q4 q5 q6
      go_wp2
      go_roundw
      case rel => exact ⟨j + 1, _, _, _, _, by omega, by go_num, HD2, HB2⟩
      case measure => simp [intOf]; omega
    · have HDN := hide (dedone_any _ _ _ _ _ _ _ _ (unhide HD))
      cases hdn : s.dn
      · rw [hdn] at HDN
        go_wp2_with (first
          | (go_at_call 9; refine (unhide HDN).mono ?_; rintro e w5 ⟨rfl, hw⟩; obtain rfl := hw.symm; clear hw)
          | (go_at_call 6; refine (unhide HAW _ (unhide HB)).mono ?_; rintro e w6 ⟨rfl, hb6⟩; have HB6 := hide (below0 (unhide HB) hb6); clear hb6))
        go_ret
        exact ⟨rfl, unhide HB6⟩
      · rw [hdn] at HDN
        have hbg : s.bg = true := by
          cases hbg : s.bg
          · have := ((unhide HD).fresh hbg).1
            rw [this] at hdn
            cases hdn
          · rfl
        have HPD := hide (fun p ob => dput_done (M := M) (s := s) (p := p) (ob := ob) hbg hdn)
        have HOB := hide (deobj_any _ _ _ _ _ _ _ _ (unhide HD))
        have HKP := hide (fun wx (hb : Below wr.heap.size wr wx) => dekept_any _ _ _ _ _ _ _ wx ((unhide HD).below hb))
        have HDF := hide hdn
        clear hdn hbg
        go_wp2_with (first
          | (go_at_call 9; refine (unhide HDN).mono ?_; rintro e w5 ⟨rfl, hw⟩; obtain rfl := hw.symm; clear hw)
          | (go_at_call 10; refine (unhide HOB).mono ?_; rintro e w3 ⟨rfl, hb3⟩; have HB3 := hide hb3; clear hb3)
          | (go_at_call 11; refine (unhide HKP _ (unhide HB3)).mono ?_; rintro e w7 ⟨rfl, hw⟩; obtain rfl := hw.symm; clear hw))
        have HD3 := hide ((unhide HD).below (unhide HB3))
        have HBW := hide (below0 (unhide HB) (unhide HB3))
        clear HDN HOB HKP HD HB HB3 HH HS
        go_loopw [11] (fun i wr => ∃ (j : Nat) (gs : Nat) (v : Value) (rs : List RV), j ≤ n2 ∧ i = .int .i64 j ∧ Hid (DcAt wr w.heap.size w.heap.size M s gs v rs) ∧ Hid (Below w.heap.size w wr)) (fun i _ => n2 - (intOf i).toNat)
        case atStart => exact ⟨0, _, _, _, Nat.zero_le _, rfl, HD3, HBW⟩
        case round =>
          obtain ⟨j2, gs, v, rs, hj2, rfl, HD, HB⟩ := hrel
          clear HD3 HBW
          by_cases hlt2 : j2 < n2
          · have hR := (unhide HH2).below (unhide HB)
            obtain ⟨b, off, rfl, hcl⟩ := hR.at hlt2
            obtain ⟨q0, q1, q2, q3, q4, q5, q6⟩ := hcl j2 hlt2
            have HP := hide (dput_of (unhide HT) (unhide HB) (unhide HD) (unhide HH2) (unhide HS2) hlt2)
            have hlt' : (j2 : Int) < (n2 : Int) := by omega
            clear hR hcl
            generalize ps2.getD j2 default = p at *
            go_wp2_with fail
            refine (unhide HP).mono ?_
            rintro e w2 ⟨gs2, v2, rs2, ob2, rfl, -, hd2, ht2, -⟩
            rw [unhide HPD p ob2] at hd2
            have HB2 := hide ((unhide HD).step (unhide HB) ht2)
            have HD2 := hide hd2
            clear hd2 ht2 HP HD HB q0 q1 q2 q3 q4 q5 q6
            go_wp2
            go_roundw
            case rel => exact ⟨j2 + 1, _, _, _, by omega, by go_num, HD2, HB2⟩
            case measure => simp [intOf]; omega
          · have hDN := dedone_any _ _ _ _ _ _ _ _ (unhide HD)
            rw [unhide HDF] at hDN
            have HDN := hide hDN
            have HOB := hide (deobj_any _ _ _ _ _ _ _ _ (unhide HD))
            have HKP := hide (fun wx (hb : Below wr.heap.size wr wx) => dekept_any _ _ _ _ _ _ _ wx ((unhide HD).below hb))
            clear hDN
            generalize s.ob = ob at *
            generalize s.L.length = LN at *
            go_wp2_with (first
              | (go_at_call 9; refine (unhide HDN).mono ?_; rintro e w5 ⟨rfl, hw⟩; obtain rfl := hw.symm; clear hw)
              | (go_at_call 10; refine (unhide HOB).mono ?_; rintro e w3 ⟨rfl, hb3⟩; have HB3 := hide hb3; clear hb3)
              | (go_at_call 11; refine (unhide HKP _ (unhide HB3)).mono ?_; rintro e w7 ⟨rfl, hw⟩; obtain rfl := hw.symm; clear hw)
              | (go_at_call 6; refine (unhide HAW _ (below0 (unhide HB) (unhide HB3))).mono ?_; rintro e w6 ⟨rfl, hb6⟩; have HB6 := hide (below0 (below0 (unhide HB) (unhide HB3)) hb6); clear hb6))
            go_ret
            exact ⟨rfl, unhide HB6⟩
end Go.Proofs.YteamniigiogaeaaDoor
