/-
  Contract of bucketlineref16.Put where the decoder has not begun; of all three ways together. (Written by gen_ou.py.)
-/
import Derived.Test.YtnjdldbdkafnaaaGreatDoorOV
namespace Go.Proofs.YtnjdldbdkafnaaaGreatDoor
open Go.RowKit Go.Sort
set_option linter.unusedVariables false
set_option linter.unusedSimpArgs false
set_option maxRecDepth 4000

set_option maxHeartbeats 16000000 in
theorem rdput_new (B : Nat) (M : Int) (s : DS) (f : PKV) (v : Value) (ts : List RV) (p : PKV) (w : World) (h : RfD w B M s f v ts) (hB : B ≤ w.heap.size) (hr : RowAt w p.r.a p.r.n p.r.xs) (hn : p.r.n ≤ 10) (hs : p.r.s.size ≤ 1000) (hcp : p.r.n ≤ p.r.c) (hp : okB p = true) (hg : s.bg = false) :
    Calls Tryz.prog 10 #[.agg (rdC M s f v).toArray, .agg #[.int .i64 p.o, .int .i64 p.l, .int .i64 p.k, .int .i64 p.z, .int .i64 p.h, .slice p.r.a p.r.n p.r.c, .string p.r.s]] w fun e w' => RdP w w' B M s f v ts p e := by
  obtain ⟨hz, hfz, hvz⟩ := h.z hg
  obtain rfl := hz
  obtain rfl := hfz
  obtain rfl := hvz
  obtain rfl : ts = [] := List.map_eq_nil_iff.1 h.co
  have hadm : admB zDS p = true := by unfold admB; rw [hp]; rfl
  have HADM := hide hadm
  have hbe : begS zDS p = ⟨true, p.o, p.l, p.k, p.z, [], false, false, ⟨#[]⟩⟩ := by unfold begS; rw [if_neg (by decide)]
  have hi1 := DInv.beg (s := zDS) (p := p) (fun e => by cases e) hp
  have hf1 := (adm_fit hadm).2.1
  rw [hbe] at hi1 hf1
  obtain ⟨s1, hs1⟩ : ∃ s1 : DS, s1 = ⟨true, p.o, p.l, p.k, p.z, [], false, false, ⟨#[]⟩⟩ := ⟨_, rfl⟩
  have HBEG := hide (show begS zDS p = s1 from hbe.trans hs1.symm)
  rw [← hs1] at hi1
  have HG1 := hide (show s1.bg = true by rw [hs1])
  have HAL1 := hide (show p.o = s1.o ∧ p.l = s1.l ∧ p.k = s1.k ∧ p.z = s1.z by rw [hs1]; exact ⟨rfl, rfl, rfl, rfl⟩)
  have HI1 := hide hi1
  have HPS := hide (show p.l = s1.l ∧ p.k = s1.k ∧ p.z = s1.z by rw [hs1]; exact ⟨rfl, rfl, rfl⟩)
  have HFIT := hide (show fitB s1.k s1.z (p.r.xs, p.r.s) = true from by rw [hs1]; exact hf1)
  have HCO := hide (show ([] : List RV).map core = s1.L by rw [hs1]; rfl)
  have HNIL := hide h.nil
  have HOWN := hide h.own
  have HSRC := hide h.src
  have HSHT := hide h.short
  have HLE := hide (show s1.L.length ≤ 256 by rw [hs1]; exact Nat.zero_le _)
  have HROW := hide hr
  have HBB := hide hB
  have HS1 := hide hs1
  have HDN := hide (show s1.dn = false by rw [hs1])
  clear h hadm hbe hi1 hf1 hs1
  obtain ⟨hD, hP, hR, hb0⟩ := rd_boxes p (rdC M zDS zPK (.slice none 0 0)) w
  have HC := hide (rcheck_any p.o p.l p.k p.z p.h p.r.a p.r.n p.r.c p.r.xs p.r.s _ (hr.below hb0) 0 (ck_yes hp))
  generalize hW : ((w.alloc (.cells (rdC M zDS zPK (.slice none 0 0)).toArray 36)).alloc (.cells #[.int .i64 p.o, .int .i64 p.l, .int .i64 p.k, .int .i64 p.z, .int .i64 p.h, .slice p.r.a p.r.n p.r.c, .string p.r.s] 31)).alloc (.cells #[.int .i64 0, .int .i64 0, .bool false, .bool false, .int .i64 0, .int .i64 0, .int .i64 0, .int .i64 0, .int .i64 0, .slice none 0 0, .string ⟨#[]⟩, .int .i64 0, .int .i64 0, .int .i64 0, .slice none 0 0, .bool false, .string ⟨#[]⟩] 36) = W at *
  have q0 := hP.at 0 rfl
  have q1 := hP.at 1 rfl
  have q2 := hP.at 2 rfl
  have q3 := hP.at 3 rfl
  have q4 := hP.at 4 rfl
  have q5 := hP.at 5 rfl
  have q6 := hP.at 6 rfl
  have HD := hide hD
  have HP := hide hP
  have HR := hide hR
  have HB0 := hide hb0
  clear hD hP hR hb0
  clear hr hp hg hB
  go_enter Tryz.func10, Tryz.ntmps10
  go_wp2_with fail
  refine (unhide HC).mono ?_
  rintro e w1 ⟨rfl, hb1⟩
  have hD1 : BkA 36 w1 w.heap.size [.int .i64 M, .int .i64 0, .bool false, .bool false, .int .i64 0, .int .i64 0, .int .i64 0, .int .i64 0, .int .i64 0, .slice none 0 0, .string ⟨#[]⟩, .int .i64 0, .int .i64 0, .int .i64 0, .slice none 0 0, .bool false, .string ⟨#[]⟩] := (unhide HD).below hb1
  have hP1 := (unhide HP).below hb1
  have hR1 := (unhide HR).below hb1
  have HB1 := hide (below0 (unhide HB0) hb1)
  clear hb1 HC HD HP HR HB0 q0 q1 q2 q3 q4 q5 q6
  have q0 := hP1.at 0 rfl
  have q1 := hP1.at 1 rfl
  have q2 := hP1.at 2 rfl
  have q3 := hP1.at 3 rfl
  have q4 := hP1.at 4 rfl
  have q5 := hP1.at 5 rfl
  have q6 := hP1.at 6 rfl
  have d0 := hD1.at 0 rfl
  have d2 := hD1.at 2 rfl
  have f2 := hD1.frz 2
  have d4 := hD1.at 4 rfl
  have d5 := hD1.at 5 rfl
  have d6 := hD1.at 6 rfl
  have d7 := hD1.at 7 rfl
  have d8 := hD1.at 8 rfl
  have d9 := hD1.at 9 rfl
  have d10 := hD1.at 10 rfl
  have f4 := hD1.frz 4
  have f5 := hD1.frz 5
  have f6 := hD1.frz 6
  have f7 := hD1.frz 7
  have f8 := hD1.frz 8
  have f9 := hD1.frz 9
  have f10 := hD1.frz 10
  have hpd : w.heap.size + 1 ≠ w.heap.size := by omega
  have hD2 : BkA 36 (((((((((w1.setCell ⟨w.heap.size, 2, none⟩ (.bool true)).setCell ⟨w.heap.size, 4, none⟩ (.int .i64 p.o)).setCell ⟨w.heap.size, 5, none⟩ (.int .i64 p.l)).setCell ⟨w.heap.size, 6, none⟩ (.int .i64 p.k)).setCell ⟨w.heap.size, 7, none⟩ (.int .i64 p.z)).setCell ⟨w.heap.size, 8, none⟩ (.int .i64 p.h)).setCell ⟨w.heap.size, 9, none⟩ (.slice p.r.a p.r.n p.r.c)).setCell ⟨w.heap.size, 10, none⟩ (.string p.r.s))) w.heap.size [.int .i64 M, .int .i64 0, .bool true, .bool false, .int .i64 p.o, .int .i64 p.l, .int .i64 p.k, .int .i64 p.z, .int .i64 p.h, .slice p.r.a p.r.n p.r.c, .string p.r.s, .int .i64 0, .int .i64 0, .int .i64 0, .slice none 0 0, .bool false, .string ⟨#[]⟩] := ((((((((hD1).set 2 (.bool true)).set 4 (.int .i64 p.o)).set 5 (.int .i64 p.l)).set 6 (.int .i64 p.k)).set 7 (.int .i64 p.z)).set 8 (.int .i64 p.h)).set 9 (.slice p.r.a p.r.n p.r.c)).set 10 (.string p.r.s)
  have ht2 : Tu (fun j => j = w.heap.size) w1 (((((((((w1.setCell ⟨w.heap.size, 2, none⟩ (.bool true)).setCell ⟨w.heap.size, 4, none⟩ (.int .i64 p.o)).setCell ⟨w.heap.size, 5, none⟩ (.int .i64 p.l)).setCell ⟨w.heap.size, 6, none⟩ (.int .i64 p.k)).setCell ⟨w.heap.size, 7, none⟩ (.int .i64 p.z)).setCell ⟨w.heap.size, 8, none⟩ (.int .i64 p.h)).setCell ⟨w.heap.size, 9, none⟩ (.slice p.r.a p.r.n p.r.c)).setCell ⟨w.heap.size, 10, none⟩ (.string p.r.s))) := ((((((((tu_set _ _ _ _).trans (tu_set _ _ _ _) fun _ _ e => e).trans (tu_set _ _ _ _) fun _ _ e => e).trans (tu_set _ _ _ _) fun _ _ e => e).trans (tu_set _ _ _ _) fun _ _ e => e).trans (tu_set _ _ _ _) fun _ _ e => e).trans (tu_set _ _ _ _) fun _ _ e => e).trans (tu_set _ _ _ _) fun _ _ e => e)
  have hP2 := hP1.tu ht2 (by omega)
  have hR2 := hR1.tu ht2 (by omega)
  have HB2 := hide (tu_low (unhide HB1) ht2 (Nat.le_refl _))
  have HD2 := hide hD2
  have HP2 := hide hP2
  have HR2 := hide hR2
  clear hD1 hP1 hR1 hD2 ht2 hP2 hR2 HB1
  go_wp2_with fail
  generalize ((((((((w1.setCell ⟨w.heap.size, 2, none⟩ (.bool true)).setCell ⟨w.heap.size, 4, none⟩ (.int .i64 p.o)).setCell ⟨w.heap.size, 5, none⟩ (.int .i64 p.l)).setCell ⟨w.heap.size, 6, none⟩ (.int .i64 p.k)).setCell ⟨w.heap.size, 7, none⟩ (.int .i64 p.z)).setCell ⟨w.heap.size, 8, none⟩ (.int .i64 p.h)).setCell ⟨w.heap.size, 9, none⟩ (.slice p.r.a p.r.n p.r.c)).setCell ⟨w.heap.size, 10, none⟩ (.string p.r.s)) = w2 at *
  clear q0 q1 q2 q3 q4 q5 q6 d0 d2 f2 d4 f4 d5 f5 d6 f6 d7 f7 d8 f8 d9 f9 d10 f10
  refine (rnew15_any p.k p.z M _).mono ?_
  rintro e w3 ⟨rfl, hb3⟩
  have hD3 := (unhide HD2).below hb3
  have hP3 := (unhide HP2).below hb3
  have hR3 := (unhide HR2).below hb3
  have HB3 := hide (below0 (unhide HB2) hb3)
  have d3 := hD3.at 3 rfl
  have d11 := hD3.at 11 rfl
  have d12 := hD3.at 12 rfl
  have d13 := hD3.at 13 rfl
  have d14 := hD3.at 14 rfl
  have d15 := hD3.at 15 rfl
  have f11 := hD3.frz 11
  have f12 := hD3.frz 12
  have f13 := hD3.frz 13
  have f14 := hD3.frz 14
  have f15 := hD3.frz 15
  have q5 := hP3.at 5 rfl
  have q6 := hP3.at 6 rfl
  have HD3 := hide hD3
  have HP3 := hide hP3
  have HR3 := hide hR3
  clear hD3 hP3 hR3 hb3 HD2 HP2 HR2 HB2
  go_wp2_with fail
  have hD3 := unhide HD3
  have hDQ : BkA 36 ((((((w3.setCell ⟨w.heap.size, 11, none⟩ (.int .i64 p.k)).setCell ⟨w.heap.size, 12, none⟩ (.int .i64 p.z)).setCell ⟨w.heap.size, 13, none⟩ (.int .i64 (capN M : Int))).setCell ⟨w.heap.size, 14, none⟩ (.slice none 0 0)).setCell ⟨w.heap.size, 15, none⟩ (.bool false))) w.heap.size (rdC M s1 p (.slice none 0 0)) := by
    have := (((((hD3).set 11 (.int .i64 p.k)).set 12 (.int .i64 p.z)).set 13 (.int .i64 (capN M : Int))).set 14 (.slice none 0 0)).set 15 (.bool false)
    rw [unhide HS1]
    exact this
  have htq := tu_set5 w3 w.heap.size 11 12 13 14 15 (.int .i64 p.k) (.int .i64 p.z) (.int .i64 (capN M : Int)) (.slice none 0 0) (.bool false)
  have HPQ := hide ((unhide HP3).tu htq (by omega))
  have HRQ := hide ((unhide HR3).tu htq (by omega))
  have HBQ := hide (tu_low (unhide HB3) htq (Nat.le_refl _))
  have HDQ := hide hDQ
  have HSK := hide (show s1.k = p.k ∧ s1.z = p.z ∧ s1.ov = false by rw [unhide HS1]; exact ⟨rfl, rfl, rfl⟩)
  clear hD3 hDQ htq HD3 HP3 HR3 HB3
  generalize (((((w3.setCell ⟨w.heap.size, 11, none⟩ (.int .i64 p.k)).setCell ⟨w.heap.size, 12, none⟩ (.int .i64 p.z)).setCell ⟨w.heap.size, 13, none⟩ (.int .i64 (capN M : Int))).setCell ⟨w.heap.size, 14, none⟩ (.slice none 0 0)).setCell ⟨w.heap.size, 15, none⟩ (.bool false)) = w4 at *
  have HTL := hide (show ([] : List RV).length = s1.L.length from by rw [← unhide HCO, List.length_map])
  have HBS := hide (unhide HBQ).size
  have HPT := hide (rput_any B p.k p.z (capN M) (.slice none 0 0) ([] : List RV) false p.r w4 (unhide HNIL) ((unhide HOWN).below (unhide HBQ)) (Nat.le_trans (unhide HBB) (unhide HBQ).size) ((unhide HROW).below (unhide HBQ)) hn hs (by have := unhide HTL; have := unhide HLE; omega) (capN_le M))
  have HFC := hide (show fitB p.k p.z (core p.r) = true from by have := unhide HFIT; rw [(unhide HSK).1, (unhide HSK).2.1] at this; exact this)
  have HSRN := hide ((unhide HSRC).append (RowsIn.one (unhide HROW) hcp))
  have HSHN := hide ((unhide HSHT).snoc hn hs)
  have HCON := hide (show (([] : List RV) ++ [p.r]).map core = s1.L ++ [(p.r.xs, p.r.s)] from by rw [List.map_append, unhide HCO]; rfl)
  have HFAL := hide (show ∀ y ∈ s1.L ++ [(p.r.xs, p.r.s)], fitB p.k p.z y = true from fun y hy => by
    rw [(unhide HPS).2.1, (unhide HPS).2.2]
    rcases List.mem_append.1 hy with hy | hy
    · exact (unhide HI1).fit y hy
    · rw [List.mem_singleton.1 hy]; exact unhide HFIT)
  have HKZ := hide (show ((1 ≤ p.k ∧ p.k ≤ 128) ∧ 1 ≤ p.z ∧ p.z ≤ 64) from by rw [(unhide HPS).2.1, (unhide HPS).2.2]; exact (unhide HI1).sh.1)
  have HLZ := hide (show 0 ≤ p.l ∧ p.l ≤ ((p.k.toNat * p.z.toNat : Nat) : Int) ∧ p.k.toNat * p.z.toNat ≤ 1073741824 from by
    have h1 := (unhide HI1).sh
    rw [← (unhide HPS).1, ← (unhide HPS).2.1, ← (unhide HPS).2.2] at h1
    obtain ⟨⟨⟨a1, a2⟩, a3, a4⟩, a5, a6⟩ := h1
    obtain ⟨K, hK⟩ : ∃ K : Nat, p.k = (K : Int) := ⟨p.k.toNat, by omega⟩
    obtain ⟨Z, hZ⟩ : ∃ Z : Nat, p.z = (Z : Int) := ⟨p.z.toNat, by omega⟩
    rw [hK, hZ] at a6 ⊢
    rw [Int.toNat_natCast, Int.toNat_natCast]
    refine ⟨a5, by exact_mod_cast a6, ?_⟩
    have : K * Z ≤ 128 * 64 := Nat.mul_le_mul (by omega) (by omega)
    omega)
  by_cases hl : s1.L.length < capN M
  · have HPI := hide (put_in (m := capN M) (L := ([] : List RV).map core) (unhide HFC) (by rw [unhide HCO]; exact hl))
    have HRI := hide (rput_in (k := p.k) (z := p.z) (m := capN M) (ts := ([] : List RV)) (r := p.r) (unhide HFC) (by rw [unhide HTL]; exact hl))
    skip
    refine (unhide HPT).mono ?_
    rintro e w5 ⟨v5, he5, hn5, ho5, hb5, hv5⟩
    rw [(unhide HPI).1, (unhide HPI).2.2] at he5
    rw [unhide HRI] at hn5 ho5
    subst he5
    obtain ⟨a5, c5, hve5⟩ := ho5.shape
    subst hve5
    generalize htn : ([] : List RV) ++ [p.r] = tn at *
    generalize hn5n : tn.length = n5 at *
    have hD5 := (unhide HDQ).below hb5
    have hP5 := (unhide HPQ).below hb5
    have hR5 := (unhide HRQ).below hb5
    have HB5 := hide (below0 (unhide HBQ) hb5)
    have hSD : w.heap.size < w5.heap.size := hD5.lt
    have hSP : w.heap.size + 1 < w5.heap.size := hP5.lt
    have hSR : w.heap.size + 1 + 1 < w5.heap.size := hR5.lt
    have HO5 := hide ho5
    have HN5 := hide hn5
    have HV5 := hide hv5
    clear ho5 hn5 hv5 HPT HDQ HPQ HRQ hb5 d3 d11 d12 d13 d14 d15 f11 f12 f13 f14 f15 q5 q6
    iterate 19 (first | go_values | go_skip | go_guarded | go_step | go_upon | go_back | go_simp)
    have hlo6 := alloc_low w5 (.cells #[.int .i64 p.k, .int .i64 p.z, .int .i64 (capN M : Int), .slice a5 n5 c5, .bool false] 34)
    have hS6 : BkA 34 (w5.alloc (.cells #[.int .i64 p.k, .int .i64 p.z, .int .i64 (capN M : Int), .slice a5 n5 c5, .bool false] 34)) w5.heap.size [.int .i64 p.k, .int .i64 p.z, .int .i64 (capN M : Int), .slice a5 n5 c5, .bool false] := bkA_new 34 w5 [.int .i64 p.k, .int .i64 p.z, .int .i64 (capN M : Int), .slice a5 n5 c5, .bool false]
    have hD6 := hD5.below hlo6
    have hP6 := hP5.below hlo6
    have hR6 := hR5.below hlo6
    have HO6 := hide ((unhide HO5).below hlo6)
    have HB6 := hide (below0 (unhide HB5) hlo6)
    clear hD5 hP5 hR5 hlo6 HO5 HB5
    generalize w5.alloc (.cells #[.int .i64 p.k, .int .i64 p.z, .int .i64 (capN M : Int), .slice a5 n5 c5, .bool false] 34) = w6 at *
    generalize w5.heap.size = sb at *
    have sv0 := hS6.at 0 rfl
    have sv1 := hS6.at 1 rfl
    have sv2 := hS6.at 2 rfl
    have sv3 := hS6.at 3 rfl
    have sv4 := hS6.at 4 rfl
    have d11 := hD6.at 11 rfl
    have d12 := hD6.at 12 rfl
    have d13 := hD6.at 13 rfl
    have d14 := hD6.at 14 rfl
    have d15 := hD6.at 15 rfl
    have f11 := hD6.frz 11
    have f12 := hD6.frz 12
    have f13 := hD6.frz 13
    have f14 := hD6.frz 14
    have f15 := hD6.frz 15
    have hD7 := ((((hD6.set 11 (.int .i64 p.k)).set 12 (.int .i64 p.z)).set 13 (.int .i64 (capN M : Int))).set 14 (.slice a5 n5 c5)).set 15 (.bool false)
    have ht7 := tu_set5 w6 w.heap.size 11 12 13 14 15 (.int .i64 p.k) (.int .i64 p.z) (.int .i64 (capN M : Int)) (.slice a5 n5 c5) (.bool false)
    have hP7 := hP6.tu ht7 (by omega)
    have hR7 := hR6.tu ht7 (by omega)
    have hS7 := hS6.tu ht7 (by omega)
    have HO7 := hide ((unhide HO6).tu ht7 fun j hj e => hD6.neS (unhide HO6) (by decide) (e ▸ hj))
    have HB7 := hide (tu_low (unhide HB6) ht7 (Nat.le_refl _))
    have HD7 := hide hD7
    have HP7 := hide hP7
    have HR7 := hide hR7
    have HS7 := hide hS7
    clear hS6 hD6 hP6 hR6 HO6 HB6 ht7 hD7 hP7 hR7 hS7
    go_wp2_with fail
    generalize (((((w6.setCell ⟨w.heap.size, 11, none⟩ (.int .i64 p.k)).setCell ⟨w.heap.size, 12, none⟩ (.int .i64 p.z)).setCell ⟨w.heap.size, 13, none⟩ (.int .i64 (capN M : Int))).setCell ⟨w.heap.size, 14, none⟩ (.slice a5 n5 c5)).setCell ⟨w.heap.size, 15, none⟩ (.bool false)) = w7 at *
    have hrows := (unhide HO7).at' (by exact (unhide HSRN).below (unhide HB7))
    have hRI7 : RowsIn w7 tn := by exact (unhide HSRN).below (unhide HB7)
    have hSH7 : shortR tn := by exact unhide HSHN
    have hn57 : n5 ≤ 300 := by rw [← hn5n, ← htn, List.length_append, List.length_singleton]; have := unhide HTL; have := capN_le M; omega
    have hKR := rgrank_any a5 n5 c5 tn w7 hrows.1 hRI7 hSH7 (by omega)
    have hrn : (basisL (vecsL tn)).length = rankC (s1.L ++ [(p.r.xs, p.r.s)]) := by
      rw [← unhide HCON, ← rankN_core, ← keep_rank (fit_of hRI7 hSH7), vecsL_len]; rfl
    rw [hrn] at hKR
    have HKR := hide hKR
    clear hrows hRI7 hSH7 hKR hrn sv0 sv1 sv2 sv3 sv4 d11 d12 d13 d14 d15 f11 f12 f13 f14 f15
    refine (unhide HKR).mono ?_
    rintro e w8 ⟨rfl, hb8⟩
    have hD8 := (unhide HD7).below hb8
    have hP8 := (unhide HP7).below hb8
    have hR8 := (unhide HR7).below hb8
    have hS8 := (unhide HS7).below hb8
    have HO8 := hide ((unhide HO7).below hb8)
    have HB8 := hide (below0 (unhide HB7) hb8)
    have d1 := hD8.at 1 rfl
    have d3 := hD8.at 3 rfl
    have f1 := hD8.frz 1
    have f3 := hD8.frz 3
    have q1 := hP8.at 1 rfl
    have q2 := hP8.at 2 rfl
    have sv3 := hS8.at 3 rfl
    have HD8 := hide hD8
    have HP8 := hide hP8
    have HR8 := hide hR8
    have HS8 := hide hS8
    clear HKR HD7 HP7 HR7 HS7 HO7 HB7 hD8 hP8 hR8 hS8 hb8
    by_cases hRk : (rankC (s1.L ++ [(p.r.xs, p.r.s)]) : Int) = p.k
    · have HRK := hide hRk
      have heq : ((rankC (s1.L ++ [(p.r.xs, p.r.s)]) : Int) == p.k) = true := by rw [hRk]; exact beq_self_eq_true _
      clear hRk
      generalize hRN : rankC (s1.L ++ [(p.r.xs, p.r.s)]) = RK at *
      go_wp2_with fail
      have hD9 := ((unhide HD8).set 1 (.int .i64 (RK : Int))).set 3 (.bool true)
      have ht9 : Tu (fun j => j = w.heap.size) w8 ((w8.setCell ⟨w.heap.size, 1, none⟩ (.int .i64 (RK : Int))).setCell ⟨w.heap.size, 3, none⟩ (.bool true)) := (tu_set _ _ _ _).trans (tu_set _ _ _ _) fun _ _ e => e
      have hP9 := (unhide HP8).tu ht9 (by omega)
      have hR9 := (unhide HR8).tu ht9 (by omega)
      have HO9 := hide ((unhide HO8).tu ht9 fun j hj e => (unhide HD8).neS (unhide HO8) (by decide) (e ▸ hj))
      have HB9 := hide (tu_low (unhide HB8) ht9 (Nat.le_refl _))
      have hrows := (unhide HO9).at' (by exact (unhide HSRN).below (unhide HB9))
      have hRI9 : RowsIn ((w8.setCell ⟨w.heap.size, 1, none⟩ (.int .i64 (RK : Int))).setCell ⟨w.heap.size, 3, none⟩ (.bool true)) tn := by exact (unhide HSRN).below (unhide HB9)
      have hDC := rdecode_full a5 n5 c5 tn _ hrows.1 hRI9 (by exact unhide HSHN) hn57 p.k p.z (unhide HKZ) (by rw [unhide HCON]; exact unhide HFAL) (by rw [unhide HCON, hRN]; exact unhide HRK)
      have HDC := hide hDC
      have HD9 := hide hD9
      have HP9 := hide hP9
      have HR9 := hide hR9
      clear hD9 hP9 hR9 hrows hRI9 hDC ht9 d1 d3 f1 f3 q1 q2 sv3 HD8 HP8 HR8 HS8 HO8 HB8
      generalize (w8.setCell ⟨w.heap.size, 1, none⟩ (.int .i64 (RK : Int))).setCell ⟨w.heap.size, 3, none⟩ (.bool true) = w9 at *
      refine (unhide HDC).mono ?_
      rintro e w10 ⟨aj, mj, cj, ss, rfl, htj, hmj, hjl, hoj, hb10⟩
      have hle := unhide HLZ
      have HJ := hide (rjoin_ok aj mj cj ss p.l w10 htj hmj (by rw [hjl]; exact hle.2.2) hle.1 (by rw [hjl]; exact hle.2.1))
      have hob := hoj p.l
      rw [unhide HCON] at hob
      have HOB := hide hob
      have hD10 := (unhide HD9).below hb10
      have hR10 := (unhide HR9).below hb10
      have q1 := ((unhide HP9).below hb10).at 1 rfl
      have d16 := hD10.at 16 rfl
      have f16 := hD10.frz 16
      have HO10 := hide ((unhide HO9).below hb10)
      have HB10 := hide (below0 (unhide HB9) hb10)
      generalize st ((joinL ss).take p.l.toNat) = ob at *
      have ht11 := tu_set w10 w.heap.size 16 (.string ob)
      have HDE := hide (show BkA 36 (w10.setCell ⟨w.heap.size, 16, none⟩ (.string ob)) w.heap.size (rdC M { s1 with L := s1.L ++ [(p.r.xs, p.r.s)], dn := true, ob := ob } p (.slice a5 n5 c5)) from by
        have := hD10.set 16 (.string ob)
        unfold rdC at this ⊢
        rw [unhide HG1] at this ⊢
        rw [← hRN] at this
        (first | rw [(unhide HSK).1, (unhide HSK).2.1, (unhide HSK).2.2] | rw [(unhide HSK).1, (unhide HSK).2.1]); exact this)
      have HR11 := hide (hR10.tu ht11 (by omega))
      have HO11 := hide ((unhide HO10).tu ht11 fun j hj e => hD10.neS (unhide HO10) (by decide) (e ▸ hj))
      have HB11 := hide (tu_low (unhide HB10) ht11 (Nat.le_refl _))
      clear hD10 hR10 hb10 htj hmj hjl hoj hob hle HDC HD9 HP9 HR9 HO9 HB9 HO10 HB10 ht11
      go_wp2_with (first
        | (go_at_call 25; refine (unhide HJ).mono ?_; rintro e w12 ⟨rfl, hw⟩; obtain rfl := hw.symm; clear hw)
        | ((with_reducible refine rd_load 2 w.heap.size (rdC M { s1 with L := s1.L ++ [(p.r.xs, p.r.s)], dn := true, ob := ob } p (.slice a5 n5 c5)) ?_ (unhide HDE) rfl ?_); (focus rfl))
        | ((with_reducible refine rd_store 4 82 (w.heap.size + 1 + 1) [.int .i64 0, .int .i64 0, .bool false, .bool false, .int .i64 0, .int .i64 0, .int .i64 0, .int .i64 0, .int .i64 0, .slice none 0 0, .string ⟨#[]⟩, .int .i64 0, .int .i64 0, .int .i64 0, .slice none 0 0, .bool false, .string ⟨#[]⟩] (rdC M { s1 with L := s1.L ++ [(p.r.xs, p.r.s)], dn := true, ob := ob } p (.slice a5 n5 c5)) ?_ ?_ (unhide HR11) rfl rfl (rdC_one _ _ _ _ _ _) ?_); (focus rfl); (focus rfl); intro wz hRz htz; have HRZ := hide hRz; have HTZ := hide htz; clear hRz htz)
        | fail)
      refine bodyPost_ret (results_rdA rfl rfl (unhide HRZ) rfl) rfl ?_
      have hbz := tu_low (unhide HB11) (unhide HTZ) (by omega)
      have hks := keepS_new (M := M) (s := s1) (x := (p.r.xs, p.r.s)) (ob := ob) (unhide HDN) hl (by rw [hRN]; exact (unhide HRK).trans (unhide HPS).2.1)
      have hT : TellsP M s1 (p.r.xs, p.r.s) ob := fun _ => by
        have := unhide HOB
        rw [(unhide HPS).2.1, (unhide HPS).1] at this
        exact this
      have hI := (unhide HI1).keep (M := M) (unhide HFIT) hT
      rw [hks.1] at hI
      refine RfD.yes (ob := ob) (unhide HADM) (by rw [unhide HBEG]; exact hks.1.symm) (by rw [unhide HBEG]; exact hks.2.1.symm) (by rw [unhide HBEG]; exact hT) (ts' := tn) ⟨(fun _ => unhide HAL1), (fun _ => hI), (fun e => by have e' : s1.bg = false := e; rw [unhide HG1] at e'; cases e'), by rw [← hn5n] at *; exact unhide HN5, (unhide HO11).tu (unhide HTZ) fun j hj e => (unhide HR11).neS (unhide HO11) (by decide) (e ▸ hj), ?_, ?_, ?_, ?_⟩ hbz (unhide HV5 |>.imp id fun q j hj => Nat.le_trans (unhide HBS) (q j hj)) (.inr htn.symm)
      · exact (unhide HSRN).below hbz
      · exact unhide HSHN
      · exact unhide HCON
      · rw [← unhide HCON, List.length_map, ← htn, List.length_append, List.length_singleton]; have := unhide HLE; have := hl; have := unhide HTL; have := capN_le M; omega
    · have heq : ((rankC (s1.L ++ [(p.r.xs, p.r.s)]) : Int) == p.k) = false := by rw [beq_eq_false_iff_ne]; exact hRk
      have HRK := hide hRk
      clear hRk
      have ht9 := tu_set w8 w.heap.size 1 (.int .i64 (rankC (s1.L ++ [(p.r.xs, p.r.s)]) : Int))
      have hDE : BkA 36 (w8.setCell ⟨w.heap.size, 1, none⟩ (.int .i64 (rankC (s1.L ++ [(p.r.xs, p.r.s)]) : Int))) w.heap.size (rdC M { s1 with L := s1.L ++ [(p.r.xs, p.r.s)] } p (.slice a5 n5 c5)) := by
        have := (unhide HD8).set 1 (.int .i64 (rankC (s1.L ++ [(p.r.xs, p.r.s)]) : Int))
        unfold rdC at this ⊢
        rw [unhide HG1] at this ⊢
        (first | rw [(unhide HSK).1, (unhide HSK).2.1, (unhide HSK).2.2] | rw [(unhide HSK).1, (unhide HSK).2.1]); exact this
      have HR9 := hide ((unhide HR8).tu ht9 (by omega))
      have HO9 := hide ((unhide HO8).tu ht9 fun j hj e => (unhide HD8).neS (unhide HO8) (by decide) (e ▸ hj))
      have HB9 := hide (tu_low (unhide HB8) ht9 (Nat.le_refl _))
      generalize hDL : rdC M { s1 with L := s1.L ++ [(p.r.xs, p.r.s)] } p (.slice a5 n5 c5) = DL at *
      have hdl : DL.length = 17 := by rw [← hDL]; rfl
      have HD1C := hide (show ∀ u ∈ DL, u.oneCell' = true from by rw [← hDL]; exact rdC_one _ _ _ _ _ _)
      generalize hRN : rankC (s1.L ++ [(p.r.xs, p.r.s)]) = RK at *
      have HDE := hide hDE
      clear hDE ht9 HD8 HP8 HR8 HS8 HO8 HB8
      go_wp2_with (first
        | ((with_reducible refine rd_load 2 w.heap.size DL ?_ (unhide HDE) hdl ?_); (focus rfl))
        | ((with_reducible refine rd_store 4 82 (w.heap.size + 1 + 1) [.int .i64 0, .int .i64 0, .bool false, .bool false, .int .i64 0, .int .i64 0, .int .i64 0, .int .i64 0, .int .i64 0, .slice none 0 0, .string ⟨#[]⟩, .int .i64 0, .int .i64 0, .int .i64 0, .slice none 0 0, .bool false, .string ⟨#[]⟩] DL ?_ ?_ (unhide HR9) rfl hdl (unhide HD1C) ?_); (focus rfl); (focus rfl); intro wz hRz htz; have HRZ := hide hRz; have HTZ := hide htz; clear hRz htz)
        | fail)
      refine bodyPost_ret (results_rdA rfl rfl (unhide HRZ) hdl) rfl ?_
      rw [← hDL]
      have hbz := tu_low (unhide HB9) (unhide HTZ) (by omega)
      have hks := keepS_in (M := M) (s := s1) (x := (p.r.xs, p.r.s)) (ob := ⟨#[]⟩) (unhide HDN) hl (by rw [hRN, ← (unhide HPS).2.1]; exact unhide HRK)
      have hT : TellsP M s1 (p.r.xs, p.r.s) ⟨#[]⟩ := fun hq => by rw [hks.2.2] at hq; cases hq
      have hI := (unhide HI1).keep (M := M) (unhide HFIT) hT
      rw [hks.1] at hI
      refine RfD.yes (ob := ⟨#[]⟩) (unhide HADM) (by rw [unhide HBEG]; exact hks.1.symm) (by rw [unhide HBEG]; exact hks.2.1.symm) (by rw [unhide HBEG]; exact hT) (ts' := tn) ⟨(fun _ => unhide HAL1), (fun _ => hI), (fun e => by have e' : s1.bg = false := e; rw [unhide HG1] at e'; cases e'), by rw [← hn5n] at *; exact unhide HN5, (unhide HO9).tu (unhide HTZ) fun j hj e => (unhide HR9).neS (unhide HO9) (by decide) (e ▸ hj), ?_, ?_, ?_, ?_⟩ hbz (unhide HV5 |>.imp id fun q j hj => Nat.le_trans (unhide HBS) (q j hj)) (.inr htn.symm)
      · exact (unhide HSRN).below hbz
      · exact unhide HSHN
      · exact unhide HCON
      · rw [← unhide HCON, List.length_map, ← htn, List.length_append, List.length_singleton]; have := unhide HLE; have := hl; have := unhide HTL; have := capN_le M; omega
  · have HPI := hide (put_full (m := capN M) (L := ([] : List RV).map core) (unhide HFC) (by rw [unhide HCO]; exact hl))
    have HRI := hide (rput_full (k := p.k) (z := p.z) (m := capN M) (ts := ([] : List RV)) (r := p.r) (unhide HFC) (by rw [unhide HTL]; exact hl))
    skip
    refine (unhide HPT).mono ?_
    rintro e w5 ⟨v5, he5, hn5, ho5, hb5, hv5⟩
    rw [(unhide HPI).1, (unhide HPI).2.2] at he5
    rw [unhide HRI] at hn5 ho5
    subst he5
    obtain ⟨a5, c5, hve5⟩ := ho5.shape
    subst hve5
    generalize hn5n : ([] : List RV).length = n5 at *
    have hD5 := (unhide HDQ).below hb5
    have hP5 := (unhide HPQ).below hb5
    have hR5 := (unhide HRQ).below hb5
    have HB5 := hide (below0 (unhide HBQ) hb5)
    have hSD : w.heap.size < w5.heap.size := hD5.lt
    have hSP : w.heap.size + 1 < w5.heap.size := hP5.lt
    have hSR : w.heap.size + 1 + 1 < w5.heap.size := hR5.lt
    have HO5 := hide ho5
    have HN5 := hide hn5
    have HV5 := hide hv5
    clear ho5 hn5 hv5 HPT HDQ HPQ HRQ hb5 d3 d11 d12 d13 d14 d15 f11 f12 f13 f14 f15 q5 q6
    iterate 19 (first | go_values | go_skip | go_guarded | go_step | go_upon | go_back | go_simp)
    have hlo6 := alloc_low w5 (.cells #[.int .i64 p.k, .int .i64 p.z, .int .i64 (capN M : Int), .slice a5 n5 c5, .bool true] 34)
    have hS6 : BkA 34 (w5.alloc (.cells #[.int .i64 p.k, .int .i64 p.z, .int .i64 (capN M : Int), .slice a5 n5 c5, .bool true] 34)) w5.heap.size [.int .i64 p.k, .int .i64 p.z, .int .i64 (capN M : Int), .slice a5 n5 c5, .bool true] := bkA_new 34 w5 [.int .i64 p.k, .int .i64 p.z, .int .i64 (capN M : Int), .slice a5 n5 c5, .bool true]
    have hD6 := hD5.below hlo6
    have hP6 := hP5.below hlo6
    have hR6 := hR5.below hlo6
    have HO6 := hide ((unhide HO5).below hlo6)
    have HB6 := hide (below0 (unhide HB5) hlo6)
    clear hD5 hP5 hR5 hlo6 HO5 HB5
    generalize w5.alloc (.cells #[.int .i64 p.k, .int .i64 p.z, .int .i64 (capN M : Int), .slice a5 n5 c5, .bool true] 34) = w6 at *
    generalize w5.heap.size = sb at *
    have sv0 := hS6.at 0 rfl
    have sv1 := hS6.at 1 rfl
    have sv2 := hS6.at 2 rfl
    have sv3 := hS6.at 3 rfl
    have sv4 := hS6.at 4 rfl
    have d11 := hD6.at 11 rfl
    have d12 := hD6.at 12 rfl
    have d13 := hD6.at 13 rfl
    have d14 := hD6.at 14 rfl
    have d15 := hD6.at 15 rfl
    have f11 := hD6.frz 11
    have f12 := hD6.frz 12
    have f13 := hD6.frz 13
    have f14 := hD6.frz 14
    have f15 := hD6.frz 15
    have hD7 := ((((hD6.set 11 (.int .i64 p.k)).set 12 (.int .i64 p.z)).set 13 (.int .i64 (capN M : Int))).set 14 (.slice a5 n5 c5)).set 15 (.bool true)
    have ht7 := tu_set5 w6 w.heap.size 11 12 13 14 15 (.int .i64 p.k) (.int .i64 p.z) (.int .i64 (capN M : Int)) (.slice a5 n5 c5) (.bool true)
    have hP7 := hP6.tu ht7 (by omega)
    have hR7 := hR6.tu ht7 (by omega)
    have hS7 := hS6.tu ht7 (by omega)
    have HO7 := hide ((unhide HO6).tu ht7 fun j hj e => hD6.neS (unhide HO6) (by decide) (e ▸ hj))
    have HB7 := hide (tu_low (unhide HB6) ht7 (Nat.le_refl _))
    have HD7 := hide hD7
    have HP7 := hide hP7
    have HR7 := hide hR7
    have HS7 := hide hS7
    clear hS6 hD6 hP6 hR6 HO6 HB6 ht7 hD7 hP7 hR7 hS7
    have HDF := hide (show BkA 36 ((((((w6.setCell ⟨w.heap.size, 11, none⟩ (.int .i64 p.k)).setCell ⟨w.heap.size, 12, none⟩ (.int .i64 p.z)).setCell ⟨w.heap.size, 13, none⟩ (.int .i64 (capN M : Int))).setCell ⟨w.heap.size, 14, none⟩ (.slice a5 n5 c5)).setCell ⟨w.heap.size, 15, none⟩ (.bool true))) w.heap.size (rdC M { s1 with ov := true } p (.slice a5 n5 c5)) from by
      have := unhide HD7
      unfold rdC at this ⊢
      rw [unhide HG1] at this ⊢
      (first | rw [(unhide HSK).1, (unhide HSK).2.1, (unhide HSK).2.2] | rw [(unhide HSK).1, (unhide HSK).2.1]); exact this)
    clear HD7
    go_wp2_with (first
      | ((with_reducible refine rd_load 2 w.heap.size (rdC M { s1 with ov := true } p (.slice a5 n5 c5)) ?_ (unhide HDF) rfl ?_); (focus rfl))
      | ((with_reducible refine rd_store 4 54 (w.heap.size + 1 + 1) [.int .i64 0, .int .i64 0, .bool false, .bool false, .int .i64 0, .int .i64 0, .int .i64 0, .int .i64 0, .int .i64 0, .slice none 0 0, .string ⟨#[]⟩, .int .i64 0, .int .i64 0, .int .i64 0, .slice none 0 0, .bool false, .string ⟨#[]⟩] (rdC M { s1 with ov := true } p (.slice a5 n5 c5)) ?_ ?_ (unhide HR7) rfl rfl (rdC_one _ _ _ _ _ _) ?_); (focus rfl); (focus rfl); intro wz hRz htz; have HRZ := hide hRz; have HTZ := hide htz; clear hRz htz)
      | fail)
    refine bodyPost_ret (results_rdA rfl rfl (unhide HRZ) rfl) rfl ?_
    have hbz := tu_low (unhide HB7) (unhide HTZ) (by omega)
    have hks := keepS_full (M := M) (s := s1) (x := (p.r.xs, p.r.s)) (ob := ⟨#[]⟩) (unhide HDN) hl
    have hT : TellsP M s1 (p.r.xs, p.r.s) ⟨#[]⟩ := fun hq => by rw [hks.2.2] at hq; cases hq
    have hI := (unhide HI1).keep (M := M) (unhide HFIT) hT
    rw [hks.1] at hI
    refine RfD.yes (ob := ⟨#[]⟩) (unhide HADM) (by rw [unhide HBEG]; exact hks.1.symm) (by rw [unhide HBEG]; exact hks.2.1.symm) (by rw [unhide HBEG]; exact hT) (ts' := ([] : List RV)) ⟨(fun _ => unhide HAL1), (fun _ => hI), (fun e => by have e' : s1.bg = false := e; rw [unhide HG1] at e'; cases e'), by rw [← hn5n] at *; exact unhide HN5, (unhide HO7).tu (unhide HTZ) fun j hj e => (unhide HR7).neS (unhide HO7) (by decide) (e ▸ hj), ?_, ?_, ?_, ?_⟩ hbz (by first | (rw [hn5n]; exact (unhide HV5).imp id fun q j hj => Nat.le_trans (unhide HBS) (q j hj)) | exact (unhide HV5).imp id fun q j hj => Nat.le_trans (unhide HBS) (q j hj)) (.inl rfl)
    · exact (unhide HSRC).below hbz
    · exact unhide HSHT
    · exact unhide HCO
    · exact unhide HLE
/-- bucketlineref16.Put. -/
theorem rdput_any (B : Nat) (M : Int) (s : DS) (f : PKV) (v : Value) (ts : List RV) (p : PKV) (w : World) (h : RfD w B M s f v ts) (hB : B ≤ w.heap.size) (hr : RowAt w p.r.a p.r.n p.r.xs) (hn : p.r.n ≤ 10) (hs : p.r.s.size ≤ 1000) (hcp : p.r.n ≤ p.r.c) :
    Calls Tryz.prog 10 #[.agg (rdC M s f v).toArray, .agg #[.int .i64 p.o, .int .i64 p.l, .int .i64 p.k, .int .i64 p.z, .int .i64 p.h, .slice p.r.a p.r.n p.r.c, .string p.r.s]] w fun e w' => RdP w w' B M s f v ts p e := by
  cases hp : okB p
  · exact rdput_bad B M s f v ts p w h hr hp
  · cases hg : s.bg
    · exact rdput_new B M s f v ts p w h hB hr hn hs hcp hp hg
    · cases ha : alikeB s p
      · exact rdput_oth B M s f v ts p w h hr hp hg ha
      · exact rdput_beg B M s f v ts p w h hB hr hn hs hcp hp hg ha
end Go.Proofs.YtnjdldbdkafnaaaGreatDoor
