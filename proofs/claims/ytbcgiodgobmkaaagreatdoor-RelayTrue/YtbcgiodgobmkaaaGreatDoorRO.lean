/-
  The walk of RelayTrue: for every input it tells true and writes nothing that was there.
-/
import Derived.Test.YtbcgiodgobmkaaaGreatDoorU45
import Derived.Test.YtbcgiodgobmkaaaGreatDoorU32
namespace Go.Proofs.YtbcgiodgobmkaaaGreatDoor
open Go.RowKit Go.Sort
set_option linter.unusedVariables false
set_option linter.unusedSimpArgs false
set_option maxRecDepth 4000

/-- What is kept is true of the blocks. -/
def TrueK (bs : List ByteArray) (qs : List PKV) : Prop := ∀ d ∈ qs.map PKV.pd, holdsB bs d.xs d.s = true
theorem TrueK.put {bs : List ByteArray} {m : Nat} {qs qs2 : List PKV} {p : PKV} (h : TrueK bs qs) (hp : holdsB bs p.r.xs p.r.s = true) (he : qs2.map PKV.pd = bput m (qs.map PKV.pd) p.pd) : TrueK bs qs2 := fun d hd => by
  rw [he] at hd
  rcases bput_sub hd with h1 | h1
  · exact h d h1
  · rw [h1]; exact hp
theorem emit_true {bs : List ByteArray} {m : Nat} {qs : List PKV} {D : List Nat} {N : Nat} {t : Int} {d : PD} (h : TrueK bs qs) (hi : BInv m (qs.map PKV.pd)) (he : emitO (qs.map PKV.pd) D N t = some d) : okD d = true ∧ holdsB bs d.xs d.s = true := by
  obtain ⟨ws, hm⟩ := emitO_mix he
  exact ⟨(mixD_ok hi.ok hm).1, mixD_true h hm⟩
set_option maxHeartbeats 16000000 in
theorem rltrue_walk (ab : Option Addr) (nb cb : Nat) (bs : List ByteArray) (a : Option Addr) (n c : Nat) (ps : List PKV) (a' : Option Addr) (m c' : Nat) (D : List Nat) (w : World) (ht : Tab w) (hT : TextsAt w ab nb bs) (hnb : nb ≤ 9223372036854775807) (h : PksAt w a n ps) (hn : n ≤ 9223372036854775807) (hbig : ∀ i, (ps.getD i .dflt).r.n ≤ 9223372036854775807 ∧ (ps.getD i .dflt).r.s.size ≤ 9223372036854775807) (hw : RowAt w a' m D) :
    Calls Tryz.prog 4 #[.slice ab nb cb, .slice a n c, .slice a' m c'] w fun e w' => e = .returned (.bool true) ∧ Below w.heap.size w w' := by
  have HAW := hide (fun (w1 : World) (hb : Below w.heap.size w w1) => awake_any w1 (ht.below hb))
  have HF := hide (fewP_any a n c ps w h hn hbig)
  by_cases hf : FewK ps
  · by_cases hm3 : 300 < m
    · have hm4 : (300 : Int) < (m : Int) := by omega
      clear h hw hbig hT
      go_enter Tryz.func4, Tryz.ntmps4
      go_wp2_with (first
        | (go_at_call 20; refine (unhide HF).mono ?_; rintro e w1 ⟨he, hw1⟩; obtain rfl := hw1.symm; obtain rfl := retI_yes he hf; clear hw1 he HF)
        | (go_at_call 6; refine (unhide HAW _ (Below.refl _ _)).mono ?_; rintro e w2 ⟨rfl, hb2⟩; have HB2 := hide hb2; clear hb2))
      go_ret
      exact ⟨rfl, unhide HB2⟩
    · have hm4 : ¬ (300 : Int) < (m : Int) := by omega
      by_cases hb8 : 128 < nb
      · have hb9 : (128 : Int) < (nb : Int) := by omega
        clear h hw hbig hT
        go_enter Tryz.func4, Tryz.ntmps4
        go_wp2_with (first
          | (go_at_call 20; refine (unhide HF).mono ?_; rintro e w1 ⟨he, hw1⟩; obtain rfl := hw1.symm; obtain rfl := retI_yes he hf; clear hw1 he HF)
          | (go_at_call 6; refine (unhide HAW _ (Below.refl _ _)).mono ?_; rintro e w2 ⟨rfl, hb2⟩; have HB2 := hide hb2; clear hb2))
        go_ret
        exact ⟨rfl, unhide HB2⟩
      · have hb9 : ¬ (128 : Int) < (nb : Int) := by omega
        obtain rfl := h.1
        obtain rfl := hT.1
        have HP := hide h
        have HTX := hide hT
        have HD := hide hw
        have HT := hide ht
        have HSH := hide hf.2
        have hl : ps.length ≤ 60 := hf.1
        have HNR := rlnew_any 4 2
        rw [show capN 4 = 4 from by decide, show clampT 2 = 2 from by decide] at HNR
        have HNW := hide HNR
        clear h hw hbig hT ht HNR
        go_enter Tryz.func4, Tryz.ntmps4
        go_wp2_with (first
          | (go_at_call 20; refine (unhide HF).mono ?_; rintro e w1 ⟨he, hw1⟩; obtain rfl := hw1.symm; obtain rfl := retI_yes he hf; clear hw1 he HF))
        clear hf
        go_loop [7] (fun i => ∃ k : Nat, k ≤ bs.length ∧ i = .int .i64 k ∧ Hid (∀ s ∈ bs.take k, s.size ≤ 64)) (fun i => bs.length - (intOf i).toNat)
        case atStart => exact ⟨0, Nat.zero_le _, rfl, hide (fun s hs => by rw [List.take_zero] at hs; cases hs)⟩
        case round =>
          obtain ⟨k, hk, rfl, HS⟩ := hrel
          by_cases hlt : k < bs.length
          · obtain ⟨b, off, rfl, hcl⟩ := (unhide HTX).at hlt
            have hcell := hcl k hlt
            have hlt' : (k : Int) < (bs.length : Int) := by omega
            have HTK := hide (show bs.take (k + 1) = bs.take k ++ [bs.getD k ByteArray.empty] from by rw [List.take_succ_eq_append_getElem hlt]; simp [List.getD_eq_getElem?_getD, List.getElem?_eq_getElem hlt])
            clear hcl
            generalize bs.getD k ByteArray.empty = s at *
            by_cases hs : 64 < s.size
            · have hs' : (64 : Int) < (s.size : Int) := by omega
              go_wp2_with (first
                | (go_at_call 6; refine (unhide HAW _ (Below.refl _ _)).mono ?_; rintro e w2 ⟨rfl, hb2⟩; have HB2 := hide hb2; clear hb2))
              go_ret
              exact ⟨rfl, unhide HB2⟩
            · have hs' : ¬ (64 : Int) < (s.size : Int) := by omega
              go_wp2
              go_round
              case rel => exact ⟨k + 1, by omega, by go_num, hide (by rw [unhide HTK]; intro x hx; rcases List.mem_append.1 hx with hx | hx; · exact unhide HS x hx
                                                                      · rw [List.mem_singleton.1 hx]; omega)⟩
              case measure => simp [intOf]; omega
          · have hke : bs.take k = bs := List.take_of_length_le (by omega)
            rw [hke] at HS
            have HSB := hide (show shorts bs from fun s hs => by have := unhide HS s hs; omega)
            clear HS hke
            go_wp2_with (go_at_call 7; refine (unhide HNW _).mono ?_; rintro e w1 ⟨g, gb, rfl, hr1, hb1⟩; have HR1 := hide hr1; have HB1 := hide hb1; clear hr1 hb1 HNW)
            go_loopw [9] (fun i wr => ∃ (j : Nat) (v : Value) (qs : List PKV), j ≤ ps.length ∧ i = .int .i64 j ∧ Hid (RlAt wr g gb w.heap.size 4 2 0 v qs) ∧ Hid (TrueK bs qs) ∧ Hid (Below w.heap.size w wr)) (fun i _ => ps.length - (intOf i).toNat)
            case atStart => exact ⟨0, _, _, Nat.zero_le _, rfl, HR1, hide (fun d hd => by cases hd), HB1⟩
            case round =>
              obtain ⟨j, v, qs, hj, rfl, HR, HG, HB⟩ := hrel
              clear HR1 HB1
              by_cases hlt2 : j < ps.length
              · have hR := (unhide HP).below (unhide HB)
                obtain ⟨b, off, rfl, hcl⟩ := hR.at hlt2
                obtain ⟨c0, c1, c2, c3, c4, c5, c6⟩ := hcl j hlt2
                have hrow := hR.2.1 j hlt2
                have hsh := unhide HSH j
                have hlt' : (j : Int) < (ps.length : Int) := by omega
                have HBX := hide (fun wx (hbx : Below wr.heap.size wr wx) => (hcl j hlt2).below hbx)
                have hrW := (unhide HP).2.1 j hlt2
                clear hcl hR
                generalize ps.getD j .dflt = p at *
                have HHD := hide (rholds_any ab bs.length cb bs p.r.a p.r.n p.r.c p.r.xs p.r.s wr ((unhide HTX).below (unhide HB)) (unhide HSB) (by omega) hrow (by omega) (by omega))
                have HPU := hide (fun wx (hbx : Below wr.heap.size wr wx) => rlput_in (unhide HT) ((unhide HR).below hbx) (below0 (unhide HB) hbx) p hrW hsh.1 hsh.2)
                clear hrow hrW
                cases hho : holdsB bs p.r.xs p.r.s
                · rw [hho] at HHD
                  go_wp2_with (first
                    | (go_at_call 21; refine (unhide HHD).mono ?_; rintro e w3 ⟨rfl, hb3⟩; have HB3 := hide (below0 (unhide HB) hb3); clear hb3)
                    | (go_at_call 6; refine (unhide HAW _ (unhide HB3)).mono ?_; rintro e w4 ⟨rfl, hb4⟩; have HB4 := hide (below0 (unhide HB3) hb4); clear hb4))
                  go_ret
                  exact ⟨rfl, unhide HB4⟩
                · rw [hho] at HHD
                  go_wp2_with fail
                  refine (unhide HHD).mono ?_
                  rintro e w3 ⟨rfl, hb3⟩
                  obtain ⟨e0, e1, e2, e3, e4, e5, e6⟩ := unhide HBX w3 hb3
                  have HP3 := hide (unhide HPU w3 hb3)
                  have HR3 := hide ((unhide HR).below hb3)
                  have HB3 := hide (below0 (unhide HB) hb3)
                  clear hb3 HPU HHD HBX
                  go_wp2_with fail
                  refine (unhide HP3).mono ?_
                  rintro e w4 ⟨rfl, v2, qs2, hr2, hpd, ht2, -⟩
                  have HB4 := hide ((unhide HR3).step (unhide HB3) ht2)
                  have HR4 := hide hr2
                  have HG4 := hide ((unhide HG).put hho hpd)
                  clear hr2 ht2 hpd HP3 HR3 HR HB c0 c1 c2 c3 c4 c5 c6 e0 e1 e2 e3 e4 e5 e6 HG
                  generalize takeD 4 (qs.map PKV.pd) p.pd = TK at *
                  go_wp2
                  go_roundw
                  case rel => exact ⟨j + 1, _, _, by omega, by go_num, HR4, HG4, HB4⟩
                  case measure => simp [intOf]; omega
              · have HNW := hide (new_any a' m c' D wr ((unhide HD).below (unhide HB)) (by omega))
                go_wp2_with fail
                refine (unhide HNW).mono ?_
                rintro e w2 ⟨gd, rfl, hg2, hd2, hb2⟩
                have HB2 := hide (below0 (unhide HB) hb2)
                have HR2 := hide ((unhide HR).below hb2)
                obtain ⟨Bd, hBd⟩ : ∃ Bd, w2.heap.size = Bd := ⟨_, rfl⟩
                rw [hBd] at hd2
                have HD2 := hide hd2
                have HG2 := hide (Nat.le_trans (unhide HB).size hg2)
                have HBD : Hid (Bd ≤ w2.heap.size) := hide (Nat.le_of_eq hBd.symm)
                clear hg2 hd2 hb2 HNW HR hBd
                go_wp2
                go_loopw [11] (fun i wr => ∃ (j N : Nat), j ≤ 5 ∧ N ≤ j ∧ i = .int .i64 j ∧ Hid (RlAt wr g gb w.heap.size 4 2 0 v qs) ∧ Hid (DrAt wr gd Bd D N) ∧ Hid (Bd ≤ wr.heap.size) ∧ Hid (Below w.heap.size w wr)) (fun i _ => 5 - (intOf i).toNat)
                case atStart => exact ⟨0, 0, Nat.zero_le _, Nat.le_refl _, rfl, HR2, HD2, HBD, HB2⟩
                case round =>
                  obtain ⟨i5, N, hi5, hN, rfl, HR5, HD5, HBD5, HB5⟩ := hrel
                  clear HR2 HD2 HBD HB2
                  by_cases hlt5 : i5 < 5
                  · have hlt6 : (i5 : Int) < 5 := by omega
                    have HE0 := rlemit_any g gb w.heap.size 4 2 0 v qs gd Bd D N wr ((unhide HT).below (unhide HB5)) (unhide HR5) (unhide HD5) (unhide HBD5) (by omega) (by decide)
                    have HES := hide (fun d hd => emit_true (N := N) (D := D) (t := 2) (d := d) (unhide HG) (unhide HR5).buf.inv hd)
                    have hul := usedO_le (qs.map PKV.pd) N
                    generalize emitO (qs.map PKV.pd) D N 2 = o at *
                    generalize usedO (qs.map PKV.pd) N = N2 at *
                    have HE := hide HE0
                    clear HE0
                    go_wp2_with fail
                    refine (unhide HE).mono ?_
                    rintro e w3 ⟨he, hd3, hg3⟩
                    obtain ⟨q, rfl, hq, hr⟩ := he.row
                    obtain ⟨da, dn, dc, hdk⟩ := (unhide HD5).bk
                    have hr3 := (unhide HR5).drawn hdk (by decide) (by decide) (by decide) (by decide) hg3
                    have hB3 : Below w.heap.size w w3 := (unhide HB5).trans (gb_low hg3 (unhide HB5).size (unhide HG2))
                    have hb4 := (Below.refl w3.heap.size w3).alloc (Nat.le_refl _) (.cells #[.int .i64 q.o, .int .i64 q.l, .int .i64 q.k, .int .i64 q.z, .int .i64 q.h, .slice q.r.a q.r.n q.r.c, .string q.r.s] 42)
                    have hk4 := pkb_new w3 (.int .i64 q.o) (.int .i64 q.l) (.int .i64 q.k) (.int .i64 q.z) (.int .i64 q.h) (.slice q.r.a q.r.n q.r.c) (.string q.r.s)
                    have hbd3 := Nat.le_trans (unhide HBD5) hg3.size
                    obtain ⟨x0, x1, x2, x3, x4, x5, x6⟩ := hk4.at
                    have HK4 := hide hk4
                    have HR4 := hide (hr3.below hb4)
                    have HD4 := hide (hd3.below (hb4.mono hbd3))
                    have HBD4 := hide (Nat.le_trans hbd3 hb4.size)
                    have HB4 := hide (below0 hB3 hb4)
                    have HRQ := hide (hr.below hb4)
                    unfold PKV.val
                    clear he hg3 hB3 hb4 hk4 HE hd3 hr3 hdk hbd3 HR5 HD5 HBD5 HB5
                    cases o with
                    | none =>
                      simp only [Option.isSome_none]
                      clear hq hr HES
                      go_wp2
                      go_roundw
                      case rel => exact ⟨i5 + 1, N2, by omega, by omega, by go_num, HR4, HD4, HBD4, HB4⟩
                      case measure => simp [intOf]; omega
                    | some d =>
                      simp only [Option.isSome_some]
                      obtain ⟨s1, s2⟩ := unhide HES d rfl
                      have hqd : q.pd = d := hq
                      subst hqd
                      have HOK := hide s1
                      have HTR := hide s2
                      clear hr s1 s2 hq HES
                      go_wp2_with (first
                        | (go_at_call 21; generalize hw4 : w3.alloc (.cells #[.int .i64 q.o, .int .i64 q.l, .int .i64 q.k, .int .i64 q.z, .int .i64 q.h, .slice q.r.a q.r.n q.r.c, .string q.r.s] 42) = w4 at *; refine (rholds_any ab bs.length cb bs q.r.a q.r.n q.r.c q.r.xs q.r.s w4 ((unhide HTX).below (unhide HB4)) (unhide HSB) (by omega) (unhide HRQ) (by rw [← (unhide HRQ).1]; have h5 := okD_len (unhide HOK); show q.pd.xs.length ≤ _; omega) (by obtain ⟨_, _, h6, _, _, h7⟩ := okD_valid (unhide HOK); have h8 : (q.r.s.size : Int) = q.z := h6; have h9 : q.z ≤ 64 := h7; omega)).mono ?_; rw [show holdsB bs q.r.xs q.r.s = true from unhide HTR]; rintro e w5 ⟨rfl, hb5⟩; have HR5 := hide ((unhide HR4).below hb5); have HD5 := hide ((unhide HD4).below (hb5.mono (unhide HBD4))); have HBD5 := hide (Nat.le_trans (unhide HBD4) hb5.size); have HB5 := hide (below0 (unhide HB4) hb5); have HRQ5 := hide ((unhide HRQ).below hb5); obtain ⟨z0, z1, z2, z3, z4, z5, z6⟩ := ((unhide HK4).below hb5).at; clear hb5 hw4)
                        | (go_at_call 22; refine (rcheck_any q.o q.l q.k q.z q.h q.r.a q.r.n q.r.c q.r.xs q.r.s w5 (unhide HRQ5) 0 (ckD_yes (p := q) (unhide HOK))).mono ?_; rintro e w6 ⟨rfl, hb6⟩; have HR6 := hide ((unhide HR5).below hb6); have HD6 := hide ((unhide HD5).below (hb6.mono (unhide HBD5))); have HBD6 := hide (Nat.le_trans (unhide HBD5) hb6.size); have HB6 := hide (below0 (unhide HB5) hb6); clear hb6))
                      go_roundw
                      case rel => exact ⟨i5 + 1, N2, by omega, by omega, by go_num, HR6, HD6, HBD6, HB6⟩
                      case measure => simp [intOf]; omega
                  · have hlt6 : ¬ (i5 : Int) < 5 := by omega
                    go_wp2_with (go_at_call 6; refine (unhide HAW _ (unhide HB5)).mono ?_; rintro e w6 ⟨rfl, hb6⟩; have HB6 := hide (below0 (unhide HB5) hb6); clear hb6)
                    go_ret
                    exact ⟨rfl, unhide HB6⟩
  · clear h hw hbig hT
    go_enter Tryz.func4, Tryz.ntmps4
    go_wp2_with (first
      | (go_at_call 20; refine (unhide HF).mono ?_; rintro e w1 ⟨he, hw1⟩; obtain rfl := hw1.symm; obtain rfl := retI_no he hf; clear hw1 he HF)
      | (go_at_call 6; refine (unhide HAW _ (Below.refl _ _)).mono ?_; rintro e w2 ⟨rfl, hb2⟩; have HB2 := hide hb2; clear hb2))
    go_ret
    exact ⟨rfl, unhide HB2⟩
end Go.Proofs.YtbcgiodgobmkaaaGreatDoor
