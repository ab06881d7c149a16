/-
  The walk of DecoderJust: for every input it tells true and writes nothing that was there.
-/
import Derived.Test.YtnjdldbdkafnaaaGreatDoorU45
namespace Go.Proofs.YtnjdldbdkafnaaaGreatDoor
open Go.RowKit Go.Sort
set_option linter.unusedVariables false
set_option linter.unusedSimpArgs false
set_option maxRecDepth 4000

theorem just_facts {w : World} {g B : Nat} {M : Int} {s : DS} {gs : Nat} {v : Value} {rs : List RV} {kk : Int} (h : DcAt w g B M s gs v rs) (hk : KkP s kk) :
    (kk = 0 ∧ s.dn = false ∧ s.ob = ⟨#[]⟩ ∧ rankC s.L = 0) ∨ (0 < kk ∧ s.dn = true ∧ (rankC s.L : Int) = kk) ∨ (0 < kk ∧ s.dn = false ∧ s.ob = ⟨#[]⟩ ∧ ¬ (rankC s.L : Int) = kk) := by
  cases hb : s.bg
  · have e := (h.fresh hb).1
    rcases hk with ⟨h1, h2⟩ | ⟨h1, h2⟩
    · exact .inl ⟨h2, by rw [e]; rfl, by rw [e]; rfl, by rw [e]; rfl⟩
    · rw [e] at h1; exact absurd rfl h1
  · have hi := (h.begun hb).2
    have hk1 := hi.sh.1.1.1
    have hdn := hi.dn
    have hob := hi.ob
    rcases hk with ⟨h1, h2⟩ | ⟨h1, h2⟩
    · have h0 : rankC s.L = 0 := by rw [h1]; rfl
      have hf : s.dn = false := by
        cases hd : s.dn
        · rfl
        · have := hdn.1 hd; rw [h0] at this; omega
      exact .inl ⟨h2, hf, hob hf, h0⟩
    · subst h2
      cases hd : s.dn
      · refine .inr (.inr ⟨by omega, rfl, hob hd, fun e => ?_⟩)
        rw [hdn.2 e] at hd; cases hd
      · exact .inr (.inl ⟨by omega, rfl, hdn.1 hd⟩)

set_option maxHeartbeats 8000000 in
theorem djust_walk (M : Int) (a : Option Addr) (n c : Nat) (ps : List PKV) (w : World) (ht : Tab w) (h : PksAt w a n ps) (hn : n ≤ 9223372036854775807) (hbig : ∀ i, (ps.getD i .dflt).r.n ≤ 9223372036854775807 ∧ (ps.getD i .dflt).r.s.size ≤ 9223372036854775807) (hcp : ∀ i, i < ps.length → (ps.getD i .dflt).r.n ≤ (ps.getD i .dflt).r.c) :
    Calls Tryz.prog 4 #[.int .i64 M, .slice a n c] w fun e w' => e = .returned (.bool true) ∧ Below w.heap.size w w' := by
  have HAW := hide (fun (w1 : World) (hb : Below w.heap.size w w1) => awake_any w1 (ht.below hb))
  have HF := hide (fewP_any a n c ps w h hn hbig)
  have HH := hide h
  have HT := hide ht
  have HL1 := hide h.1
  have HCP := hide hcp
  clear h ht hbig hcp
  go_enter Tryz.func4, Tryz.ntmps4
  go_wp2_with fail
  refine (unhide HF).mono ?_
  rintro e w0 ⟨hf, hw⟩
  obtain rfl := hw.symm
  clear hw HF
  rcases hf with ⟨rfl, hf⟩ | ⟨rfl, hf⟩
  case inr =>
    clear hf
    go_wp2_with (go_at_call 7; refine (unhide HAW _ (Below.refl _ _)).mono ?_; rintro e w1 ⟨rfl, hb1⟩)
    go_ret
    exact ⟨rfl, hb1⟩
  have HS := hide hf.2
  have hl : n ≤ 60 := by rw [← unhide HL1]; exact hf.1
  clear hf
  go_wp2_with fail
  refine (denew_any M w).mono ?_
  rintro e w1 ⟨rfl, hd1, hb1⟩
  have HJ1 := hide (show JuJ w w1 w.heap.size M zDS w.heap.size (.slice none 0 0) [] (.slice none 0 0) [] from ⟨hd1, OwnS.nil _ _, RowsIn.nil _, short_nil, (fun j hj => by cases hj), hb1⟩)
  clear hd1 hb1
  go_wp2
  go_loopw [6, 7, 8] (fun t kv i wr => ∃ (j : Nat) (s : DS) (gs : Nat) (v : Value) (rs : List RV) (at' : Option Addr) (tn tc : Nat) (tks : List RV) (kk : Int), j ≤ n ∧ i = .int .i64 j ∧ t = .slice at' tn tc ∧ kv = .int .i64 kk ∧ Hid (JuJ w wr w.heap.size M s gs v rs (.slice at' tn tc) tks) ∧ Hid (tks.map core = s.L) ∧ Hid (KkP s kk)) (fun _ _ i _ => n - (intOf i).toNat)
  case atStart => exact ⟨0, _, _, _, _, none, 0, 0, [], 0, Nat.zero_le _, rfl, rfl, rfl, HJ1, hide rfl, hide (.inl ⟨rfl, rfl⟩)⟩
  case round =>
    obtain ⟨j, s, gs, v, rs, at', tn, tc, tks, kk, hj, rfl, rfl, rfl, HJ, HC, HK⟩ := hrel
    clear HJ1
    by_cases hlt : j < n
    · have hJ := unhide HJ
      have hRW := unhide HH
      have hR := hRW.below hJ.low
      obtain ⟨b, off, rfl, hcl⟩ := hR.at hlt
      obtain ⟨q0, q1, q2, q3, q4, q5, q6⟩ := hcl j hlt
      have HCL := hide (fun wx (hb : Below w.heap.size w wx) => (show PkCells wx b (off + j * 7) (ps.getD j .dflt) from by
        obtain ⟨b', off', e', hc'⟩ := (hRW.below hb).at hlt
        simp only [Option.some.injEq, Addr.mk.injEq, and_true] at e'
        obtain ⟨rfl, rfl⟩ := e'
        exact hc' j hlt))
      have HP := hide (dput_of (unhide HT) hJ.low hJ.dc hRW (unhide HS) hlt)
      have HKP := hide (dekept_any _ _ _ _ _ _ _ _ hJ.dc)
      have HZ := hide (fun e => (hJ.dc.fresh e).1)
      have HRO := hide (hRW.2.1 j hlt)
      have HCJ := hide (unhide HCP j (by rw [unhide HL1]; exact hlt))
      have HSJ := hide (unhide HS j)
      have hlen := hJ.dc.len
      have htl : tks.length ≤ 256 := by rw [← List.length_map core, unhide HC, hlen.1]; exact hlen.2
      have hll : s.L.length ≤ 256 := by rw [hlen.1]; exact hlen.2
      have hlt' : (j : Int) < (n : Int) := by omega
      clear hR hcl hJ hlen hRW
      generalize ps.getD j .dflt = p at *
      go_wp2_with (first
        | (go_at_call 15; refine (unhide HKP).mono ?_; rintro e w5 ⟨rfl, hw⟩; obtain rfl := hw.symm; clear hw)
        | fail)
      refine (unhide HP).mono ?_
      rintro e w2 ⟨gs2, v2, rs2, ob2, rfl, -, hd2, ht2, hm2⟩
      have HJ2 := hide ((unhide HJ).put hd2 ht2 hm2)
      have hcs := dput_cases (M := M) (p := p) ob2 (unhide HZ)
      clear hd2 ht2 hm2 HP HKP HZ HJ q0 q1 q2 q3 q4 q5 q6
      obtain ⟨q0, q1, q2, q3, q4, q5, q6⟩ := unhide HCL w2 (unhide HJ2).low
      have HKP := hide (dekept_any _ _ _ _ _ _ _ _ (unhide HJ2).dc)
      generalize hS : dput M s p ob2 = S at *
      generalize hE : dputE M s p = E at *
      rcases hcs with ⟨rfl, hL, hk⟩ | ⟨hE3, hL, hk⟩
      · have hlen2 : S.L.length = s.L.length + 1 := by rw [hL, List.length_append]; rfl
        rw [hlen2] at HKP
        have HC3 := hide (show (tks ++ [p.r]).map core = S.L by rw [List.map_append, unhide HC, hL]; rfl)
        have HK3 := hide (show KkP S p.k from .inr ⟨by rw [hL]; simp, hk.symm⟩)
        generalize s.L.length = LN at *
        have hgt : decide ((LN : Int) < ((LN + 1 : Nat) : Int)) = true := by rw [decide_eq_true_iff]; omega
        have hgt2 : decide ((LN : Int) < (LN : Int) + 1) = true := by rw [decide_eq_true_iff]; omega
        clear hL hk hlen2
        go_wp2_with (first
          | (go_at_call 15; refine (unhide HKP).mono ?_; rintro e w5 ⟨rfl, hw⟩; obtain rfl := hw.symm; clear hw)
          | (at_builtin; refine wpList_pushL rfl (.tmp 38) (.tmp 44) rfl w.heap.size (.slice at' tn tc) tks p.r rfl rfl (unhide HJ2).own (unhide HJ2).low.size (by omega) ?_; intro q cap w3 ho3 hg3 hq3; have HJ3 := hide ((unhide HJ2).push ho3 hg3 hq3 (unhide HRO) (unhide HCJ) (unhide HSJ)); clear ho3 hg3 hq3; obtain ⟨q0, q1, q2, q3, q4, q5, q6⟩ := unhide HCL w3 (unhide HJ3).low)
          | fail)
        generalize p.k = kk3 at *
        clear HKP hgt hgt2 q0 q1 q2 q3 q4 q5 q6
        have htk : (tks ++ [p.r]).length ≤ 257 := by rw [List.length_append, List.length_singleton]; omega
        generalize htn : tks ++ [p.r] = tk3 at *
        generalize tks.length + 1 = tn3 at *
        -- the tail
        have hJ3 := unhide HJ3
        have hat := hJ3.own.at' (hJ3.src.below hJ3.low)
        have hRR := rgrank_any (some ⟨q, 0, none⟩) tn3 cap (tk3) w3 hat.1 (hJ3.src.below hJ3.low) hJ3.short (by have h1 := hat.2.1; have h2 : (tk3).length ≤ 257 := htk; omega)
        have hrn : (basisL (vecsL (tk3))).length = rankC S.L := by
          rw [← unhide HC3, ← rankN_core, ← keep_rank (fit_of (hJ3.src.below hJ3.low) hJ3.short), vecsL_len]; rfl
        rw [hrn] at hRR
        have HRR := hide hRR
        have HRK := hide (fun wx (hb : Below w3.heap.size w3 wx) => derank_any _ _ _ _ _ _ _ wx ((unhide HT).below (below0 hJ3.low hb)) (hJ3.dc.below hb))
        have HDN := hide (fun wx (hb : Below w3.heap.size w3 wx) => dedone_any _ _ _ _ _ _ _ wx (hJ3.dc.below hb))
        have HOB := hide (fun wx (hb : Below w3.heap.size w3 wx) => deobj_any _ _ _ _ _ _ _ wx (hJ3.dc.below hb))
        have hjf := just_facts hJ3.dc (unhide HK3)
        clear hJ3 hat hRR hrn htk
        generalize rankC S.L = R at *
        rcases hjf with ⟨hk0, hdn, hob, hr0⟩ | ⟨hk0, hdn, hr0⟩ | ⟨hk0, hdn, hob, hr0⟩
        · rw [hdn] at HDN
          rw [hob] at HOB
          clear hdn hob
          subst hk0
          subst hr0
          go_wp2_with (first
            | (go_at_call 17; refine (unhide HRR).mono ?_; rintro e w4 ⟨rfl, hb4⟩; have D4 := hide hb4; clear hb4)
            | (go_at_call 12; refine (unhide HRK _ (unhide D4)).mono ?_; rintro e w5 ⟨rfl, hb5⟩; have D5 := hide (below0 (unhide D4) hb5); clear hb5)
            | (go_at_call 13; refine (unhide HDN _ (unhide D5)).mono ?_; rintro e w7 ⟨rfl, hw⟩; obtain rfl := hw.symm; clear hw)
            | (go_at_call 14; refine (unhide HOB _ (unhide D5)).mono ?_; rintro e w6 ⟨rfl, hb6⟩; have D6 := hide (below0 (unhide D5) hb6); clear hb6)
            | fail)
          go_roundw
          case rel => exact ⟨j + 1, S, gs2, v2, rs2, some ⟨q, 0, none⟩, tn3, cap, tk3, 0, by omega, by go_num, rfl, rfl, hide ((unhide HJ3).below (unhide D6)), HC3, HK3⟩
          case measure => simp [intOf]; omega
        · rw [hdn] at HDN
          clear hdn
          subst hr0
          go_wp2_with (first
            | (go_at_call 17; refine (unhide HRR).mono ?_; rintro e w4 ⟨rfl, hb4⟩; have D4 := hide hb4; clear hb4)
            | (go_at_call 12; refine (unhide HRK _ (unhide D4)).mono ?_; rintro e w5 ⟨rfl, hb5⟩; have D5 := hide (below0 (unhide D4) hb5); clear hb5)
            | (go_at_call 13; refine (unhide HDN _ (unhide D5)).mono ?_; rintro e w7 ⟨rfl, hw⟩; obtain rfl := hw.symm; clear hw)
            | (go_at_call 14; refine (unhide HOB _ (unhide D5)).mono ?_; rintro e w6 ⟨rfl, hb6⟩; have D6 := hide (below0 (unhide D5) hb6); clear hb6)
            | fail)
          go_roundw
          case rel => exact ⟨j + 1, S, gs2, v2, rs2, some ⟨q, 0, none⟩, tn3, cap, tk3, (R : Int), by omega, by go_num, rfl, rfl, hide ((unhide HJ3).below (unhide D5)), HC3, HK3⟩
          case measure => simp [intOf]; omega
        · rw [hdn] at HDN
          rw [hob] at HOB
          clear hdn hob
          have heq : ((R : Int) == kk3) = false := by rw [beq_eq_false_iff_ne]; exact hr0
          clear hr0
          go_wp2_with (first
            | (go_at_call 17; refine (unhide HRR).mono ?_; rintro e w4 ⟨rfl, hb4⟩; have D4 := hide hb4; clear hb4)
            | (go_at_call 12; refine (unhide HRK _ (unhide D4)).mono ?_; rintro e w5 ⟨rfl, hb5⟩; have D5 := hide (below0 (unhide D4) hb5); clear hb5)
            | (go_at_call 13; refine (unhide HDN _ (unhide D5)).mono ?_; rintro e w7 ⟨rfl, hw⟩; obtain rfl := hw.symm; clear hw)
            | (go_at_call 14; refine (unhide HOB _ (unhide D5)).mono ?_; rintro e w6 ⟨rfl, hb6⟩; have D6 := hide (below0 (unhide D5) hb6); clear hb6)
            | fail)
          go_roundw
          case rel => exact ⟨j + 1, S, gs2, v2, rs2, some ⟨q, 0, none⟩, tn3, cap, tk3, kk3, by omega, by go_num, rfl, rfl, hide ((unhide HJ3).below (unhide D6)), HC3, HK3⟩
          case measure => simp [intOf]; omega
      · have HC3 := hide (show tks.map core = S.L by rw [hL]; exact unhide HC)
        have HK3 := hide (show KkP S kk from by
          rcases unhide HK with ⟨h1, h2⟩ | ⟨h1, h2⟩
          · exact .inl ⟨by rw [hL]; exact h1, h2⟩
          · exact .inr ⟨by rw [hL]; exact h1, by rw [hk h1]; exact h2⟩)
        rw [hL] at HKP
        have HJ3 := HJ2
        have htk : tks.length ≤ 257 := by omega
        clear hL hk HCL
        generalize s.L.length = LN at *
        rcases hE3 with rfl | rfl | rfl
        · go_wp2_with (first
            | (go_at_call 15; refine (unhide HKP).mono ?_; rintro e w5 ⟨rfl, hw⟩; obtain rfl := hw.symm; clear hw)
            | fail)
          clear HKP q0 q1 q2 q3 q4 q5 q6
          -- the tail
          have hJ3 := unhide HJ3
          have hat := hJ3.own.at' (hJ3.src.below hJ3.low)
          have hRR := rgrank_any (at') tn tc (tks) w2 hat.1 (hJ3.src.below hJ3.low) hJ3.short (by have h1 := hat.2.1; have h2 : (tks).length ≤ 257 := htk; omega)
          have hrn : (basisL (vecsL (tks))).length = rankC S.L := by
            rw [← unhide HC3, ← rankN_core, ← keep_rank (fit_of (hJ3.src.below hJ3.low) hJ3.short), vecsL_len]; rfl
          rw [hrn] at hRR
          have HRR := hide hRR
          have HRK := hide (fun wx (hb : Below w2.heap.size w2 wx) => derank_any _ _ _ _ _ _ _ wx ((unhide HT).below (below0 hJ3.low hb)) (hJ3.dc.below hb))
          have HDN := hide (fun wx (hb : Below w2.heap.size w2 wx) => dedone_any _ _ _ _ _ _ _ wx (hJ3.dc.below hb))
          have HOB := hide (fun wx (hb : Below w2.heap.size w2 wx) => deobj_any _ _ _ _ _ _ _ wx (hJ3.dc.below hb))
          have hjf := just_facts hJ3.dc (unhide HK3)
          clear hJ3 hat hRR hrn htk
          generalize rankC S.L = R at *
          rcases hjf with ⟨hk0, hdn, hob, hr0⟩ | ⟨hk0, hdn, hr0⟩ | ⟨hk0, hdn, hob, hr0⟩
          · rw [hdn] at HDN
            rw [hob] at HOB
            clear hdn hob
            subst hk0
            subst hr0
            go_wp2_with (first
              | (go_at_call 17; refine (unhide HRR).mono ?_; rintro e w4 ⟨rfl, hb4⟩; have D4 := hide hb4; clear hb4)
              | (go_at_call 12; refine (unhide HRK _ (unhide D4)).mono ?_; rintro e w5 ⟨rfl, hb5⟩; have D5 := hide (below0 (unhide D4) hb5); clear hb5)
              | (go_at_call 13; refine (unhide HDN _ (unhide D5)).mono ?_; rintro e w7 ⟨rfl, hw⟩; obtain rfl := hw.symm; clear hw)
              | (go_at_call 14; refine (unhide HOB _ (unhide D5)).mono ?_; rintro e w6 ⟨rfl, hb6⟩; have D6 := hide (below0 (unhide D5) hb6); clear hb6)
              | fail)
            go_roundw
            case rel => exact ⟨j + 1, S, gs2, v2, rs2, at', tn, tc, tks, 0, by omega, by go_num, rfl, rfl, hide ((unhide HJ3).below (unhide D6)), HC3, HK3⟩
            case measure => simp [intOf]; omega
          · rw [hdn] at HDN
            clear hdn
            subst hr0
            go_wp2_with (first
              | (go_at_call 17; refine (unhide HRR).mono ?_; rintro e w4 ⟨rfl, hb4⟩; have D4 := hide hb4; clear hb4)
              | (go_at_call 12; refine (unhide HRK _ (unhide D4)).mono ?_; rintro e w5 ⟨rfl, hb5⟩; have D5 := hide (below0 (unhide D4) hb5); clear hb5)
              | (go_at_call 13; refine (unhide HDN _ (unhide D5)).mono ?_; rintro e w7 ⟨rfl, hw⟩; obtain rfl := hw.symm; clear hw)
              | (go_at_call 14; refine (unhide HOB _ (unhide D5)).mono ?_; rintro e w6 ⟨rfl, hb6⟩; have D6 := hide (below0 (unhide D5) hb6); clear hb6)
              | fail)
            go_roundw
            case rel => exact ⟨j + 1, S, gs2, v2, rs2, at', tn, tc, tks, (R : Int), by omega, by go_num, rfl, rfl, hide ((unhide HJ3).below (unhide D5)), HC3, HK3⟩
            case measure => simp [intOf]; omega
          · rw [hdn] at HDN
            rw [hob] at HOB
            clear hdn hob
            have heq : ((R : Int) == kk) = false := by rw [beq_eq_false_iff_ne]; exact hr0
            clear hr0
            go_wp2_with (first
              | (go_at_call 17; refine (unhide HRR).mono ?_; rintro e w4 ⟨rfl, hb4⟩; have D4 := hide hb4; clear hb4)
              | (go_at_call 12; refine (unhide HRK _ (unhide D4)).mono ?_; rintro e w5 ⟨rfl, hb5⟩; have D5 := hide (below0 (unhide D4) hb5); clear hb5)
              | (go_at_call 13; refine (unhide HDN _ (unhide D5)).mono ?_; rintro e w7 ⟨rfl, hw⟩; obtain rfl := hw.symm; clear hw)
              | (go_at_call 14; refine (unhide HOB _ (unhide D5)).mono ?_; rintro e w6 ⟨rfl, hb6⟩; have D6 := hide (below0 (unhide D5) hb6); clear hb6)
              | fail)
            go_roundw
            case rel => exact ⟨j + 1, S, gs2, v2, rs2, at', tn, tc, tks, kk, by omega, by go_num, rfl, rfl, hide ((unhide HJ3).below (unhide D6)), HC3, HK3⟩
            case measure => simp [intOf]; omega
        · go_wp2_with fail
          clear HKP q0 q1 q2 q3 q4 q5 q6
          -- the tail
          have hJ3 := unhide HJ3
          have hat := hJ3.own.at' (hJ3.src.below hJ3.low)
          have hRR := rgrank_any (at') tn tc (tks) w2 hat.1 (hJ3.src.below hJ3.low) hJ3.short (by have h1 := hat.2.1; have h2 : (tks).length ≤ 257 := htk; omega)
          have hrn : (basisL (vecsL (tks))).length = rankC S.L := by
            rw [← unhide HC3, ← rankN_core, ← keep_rank (fit_of (hJ3.src.below hJ3.low) hJ3.short), vecsL_len]; rfl
          rw [hrn] at hRR
          have HRR := hide hRR
          have HRK := hide (fun wx (hb : Below w2.heap.size w2 wx) => derank_any _ _ _ _ _ _ _ wx ((unhide HT).below (below0 hJ3.low hb)) (hJ3.dc.below hb))
          have HDN := hide (fun wx (hb : Below w2.heap.size w2 wx) => dedone_any _ _ _ _ _ _ _ wx (hJ3.dc.below hb))
          have HOB := hide (fun wx (hb : Below w2.heap.size w2 wx) => deobj_any _ _ _ _ _ _ _ wx (hJ3.dc.below hb))
          have hjf := just_facts hJ3.dc (unhide HK3)
          clear hJ3 hat hRR hrn htk
          generalize rankC S.L = R at *
          rcases hjf with ⟨hk0, hdn, hob, hr0⟩ | ⟨hk0, hdn, hr0⟩ | ⟨hk0, hdn, hob, hr0⟩
          · rw [hdn] at HDN
            rw [hob] at HOB
            clear hdn hob
            subst hk0
            subst hr0
            go_wp2_with (first
              | (go_at_call 17; refine (unhide HRR).mono ?_; rintro e w4 ⟨rfl, hb4⟩; have D4 := hide hb4; clear hb4)
              | (go_at_call 12; refine (unhide HRK _ (unhide D4)).mono ?_; rintro e w5 ⟨rfl, hb5⟩; have D5 := hide (below0 (unhide D4) hb5); clear hb5)
              | (go_at_call 13; refine (unhide HDN _ (unhide D5)).mono ?_; rintro e w7 ⟨rfl, hw⟩; obtain rfl := hw.symm; clear hw)
              | (go_at_call 14; refine (unhide HOB _ (unhide D5)).mono ?_; rintro e w6 ⟨rfl, hb6⟩; have D6 := hide (below0 (unhide D5) hb6); clear hb6)
              | fail)
            go_roundw
            case rel => exact ⟨j + 1, S, gs2, v2, rs2, at', tn, tc, tks, 0, by omega, by go_num, rfl, rfl, hide ((unhide HJ3).below (unhide D6)), HC3, HK3⟩
            case measure => simp [intOf]; omega
          · rw [hdn] at HDN
            clear hdn
            subst hr0
            go_wp2_with (first
              | (go_at_call 17; refine (unhide HRR).mono ?_; rintro e w4 ⟨rfl, hb4⟩; have D4 := hide hb4; clear hb4)
              | (go_at_call 12; refine (unhide HRK _ (unhide D4)).mono ?_; rintro e w5 ⟨rfl, hb5⟩; have D5 := hide (below0 (unhide D4) hb5); clear hb5)
              | (go_at_call 13; refine (unhide HDN _ (unhide D5)).mono ?_; rintro e w7 ⟨rfl, hw⟩; obtain rfl := hw.symm; clear hw)
              | (go_at_call 14; refine (unhide HOB _ (unhide D5)).mono ?_; rintro e w6 ⟨rfl, hb6⟩; have D6 := hide (below0 (unhide D5) hb6); clear hb6)
              | fail)
            go_roundw
            case rel => exact ⟨j + 1, S, gs2, v2, rs2, at', tn, tc, tks, (R : Int), by omega, by go_num, rfl, rfl, hide ((unhide HJ3).below (unhide D5)), HC3, HK3⟩
            case measure => simp [intOf]; omega
          · rw [hdn] at HDN
            rw [hob] at HOB
            clear hdn hob
            have heq : ((R : Int) == kk) = false := by rw [beq_eq_false_iff_ne]; exact hr0
            clear hr0
            go_wp2_with (first
              | (go_at_call 17; refine (unhide HRR).mono ?_; rintro e w4 ⟨rfl, hb4⟩; have D4 := hide hb4; clear hb4)
              | (go_at_call 12; refine (unhide HRK _ (unhide D4)).mono ?_; rintro e w5 ⟨rfl, hb5⟩; have D5 := hide (below0 (unhide D4) hb5); clear hb5)
              | (go_at_call 13; refine (unhide HDN _ (unhide D5)).mono ?_; rintro e w7 ⟨rfl, hw⟩; obtain rfl := hw.symm; clear hw)
              | (go_at_call 14; refine (unhide HOB _ (unhide D5)).mono ?_; rintro e w6 ⟨rfl, hb6⟩; have D6 := hide (below0 (unhide D5) hb6); clear hb6)
              | fail)
            go_roundw
            case rel => exact ⟨j + 1, S, gs2, v2, rs2, at', tn, tc, tks, kk, by omega, by go_num, rfl, rfl, hide ((unhide HJ3).below (unhide D6)), HC3, HK3⟩
            case measure => simp [intOf]; omega
        · go_wp2_with fail
          clear HKP q0 q1 q2 q3 q4 q5 q6
          -- the tail
          have hJ3 := unhide HJ3
          have hat := hJ3.own.at' (hJ3.src.below hJ3.low)
          have hRR := rgrank_any (at') tn tc (tks) w2 hat.1 (hJ3.src.below hJ3.low) hJ3.short (by have h1 := hat.2.1; have h2 : (tks).length ≤ 257 := htk; omega)
          have hrn : (basisL (vecsL (tks))).length = rankC S.L := by
            rw [← unhide HC3, ← rankN_core, ← keep_rank (fit_of (hJ3.src.below hJ3.low) hJ3.short), vecsL_len]; rfl
          rw [hrn] at hRR
          have HRR := hide hRR
          have HRK := hide (fun wx (hb : Below w2.heap.size w2 wx) => derank_any _ _ _ _ _ _ _ wx ((unhide HT).below (below0 hJ3.low hb)) (hJ3.dc.below hb))
          have HDN := hide (fun wx (hb : Below w2.heap.size w2 wx) => dedone_any _ _ _ _ _ _ _ wx (hJ3.dc.below hb))
          have HOB := hide (fun wx (hb : Below w2.heap.size w2 wx) => deobj_any _ _ _ _ _ _ _ wx (hJ3.dc.below hb))
          have hjf := just_facts hJ3.dc (unhide HK3)
          clear hJ3 hat hRR hrn htk
          generalize rankC S.L = R at *
          rcases hjf with ⟨hk0, hdn, hob, hr0⟩ | ⟨hk0, hdn, hr0⟩ | ⟨hk0, hdn, hob, hr0⟩
          · rw [hdn] at HDN
            rw [hob] at HOB
            clear hdn hob
            subst hk0
            subst hr0
            go_wp2_with (first
              | (go_at_call 17; refine (unhide HRR).mono ?_; rintro e w4 ⟨rfl, hb4⟩; have D4 := hide hb4; clear hb4)
              | (go_at_call 12; refine (unhide HRK _ (unhide D4)).mono ?_; rintro e w5 ⟨rfl, hb5⟩; have D5 := hide (below0 (unhide D4) hb5); clear hb5)
              | (go_at_call 13; refine (unhide HDN _ (unhide D5)).mono ?_; rintro e w7 ⟨rfl, hw⟩; obtain rfl := hw.symm; clear hw)
              | (go_at_call 14; refine (unhide HOB _ (unhide D5)).mono ?_; rintro e w6 ⟨rfl, hb6⟩; have D6 := hide (below0 (unhide D5) hb6); clear hb6)
              | fail)
            go_roundw
            case rel => exact ⟨j + 1, S, gs2, v2, rs2, at', tn, tc, tks, 0, by omega, by go_num, rfl, rfl, hide ((unhide HJ3).below (unhide D6)), HC3, HK3⟩
            case measure => simp [intOf]; omega
          · rw [hdn] at HDN
            clear hdn
            subst hr0
            go_wp2_with (first
              | (go_at_call 17; refine (unhide HRR).mono ?_; rintro e w4 ⟨rfl, hb4⟩; have D4 := hide hb4; clear hb4)
              | (go_at_call 12; refine (unhide HRK _ (unhide D4)).mono ?_; rintro e w5 ⟨rfl, hb5⟩; have D5 := hide (below0 (unhide D4) hb5); clear hb5)
              | (go_at_call 13; refine (unhide HDN _ (unhide D5)).mono ?_; rintro e w7 ⟨rfl, hw⟩; obtain rfl := hw.symm; clear hw)
              | (go_at_call 14; refine (unhide HOB _ (unhide D5)).mono ?_; rintro e w6 ⟨rfl, hb6⟩; have D6 := hide (below0 (unhide D5) hb6); clear hb6)
              | fail)
            go_roundw
            case rel => exact ⟨j + 1, S, gs2, v2, rs2, at', tn, tc, tks, (R : Int), by omega, by go_num, rfl, rfl, hide ((unhide HJ3).below (unhide D5)), HC3, HK3⟩
            case measure => simp [intOf]; omega
          · rw [hdn] at HDN
            rw [hob] at HOB
            clear hdn hob
            have heq : ((R : Int) == kk) = false := by rw [beq_eq_false_iff_ne]; exact hr0
            clear hr0
            go_wp2_with (first
              | (go_at_call 17; refine (unhide HRR).mono ?_; rintro e w4 ⟨rfl, hb4⟩; have D4 := hide hb4; clear hb4)
              | (go_at_call 12; refine (unhide HRK _ (unhide D4)).mono ?_; rintro e w5 ⟨rfl, hb5⟩; have D5 := hide (below0 (unhide D4) hb5); clear hb5)
              | (go_at_call 13; refine (unhide HDN _ (unhide D5)).mono ?_; rintro e w7 ⟨rfl, hw⟩; obtain rfl := hw.symm; clear hw)
              | (go_at_call 14; refine (unhide HOB _ (unhide D5)).mono ?_; rintro e w6 ⟨rfl, hb6⟩; have D6 := hide (below0 (unhide D5) hb6); clear hb6)
              | fail)
            go_roundw
            case rel => exact ⟨j + 1, S, gs2, v2, rs2, at', tn, tc, tks, kk, by omega, by go_num, rfl, rfl, hide ((unhide HJ3).below (unhide D6)), HC3, HK3⟩
            case measure => simp [intOf]; omega
    · go_wp2_with (go_at_call 7; refine (unhide HAW _ (unhide HJ).low).mono ?_; rintro e w6 ⟨rfl, hb6⟩; have HB6 := hide (below0 (unhide HJ).low hb6); clear hb6)
      go_ret
      exact ⟨rfl, unhide HB6⟩
end Go.Proofs.YtnjdldbdkafnaaaGreatDoor
