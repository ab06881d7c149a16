/-
  The walk of LinkBound: never more frames wait than may, and of those that were taken just those that wait have not gone out. No condition.
-/
import Derived.Test.YtdiondgkkanamaaDoorLkE
namespace Go.Proofs.YtdiondgkkanamaaDoor
open Go.RowKit Go.Conc
set_option linter.unusedVariables false
set_option maxRecDepth 4000

/-- Send, where the frame is not taken. -/
theorem lksend_else (g gb gq c lo : Nat) (M q Lv : Int) (L : List ByteArray) (f : FRV) (w : World) (h : LkAt w g gb gq c M q Lv L lo) (ht : Tab w) (hr : RowAt w f.p.r.a f.p.r.n f.p.r.xs) (hn : f.p.r.n ≤ 1048576) (hlo : lo ≤ 1099511627776) (hP : ¬ (f.ok ∧ L.length < capN q)) :
    Calls Tryd.prog 9 #[.pointer (some ⟨g, 0, none⟩), f.val] w fun e w' => ∃ (en : Int) (lo' : Nat), e = .returned (.int .i64 en) ∧ LkAt w' g gb gq c M q Lv L lo' ∧ Tu (lkF g gb gq c) w w' ∧ lo' ≤ lo + 1 ∧ (en == 0) = false := by
  by_cases hk : f.ok
  · exact (lksend_full g gb gq c lo M q Lv L f w h ht hr hn hk (by by_cases hl : L.length < capN q; exact absurd ⟨hk, hl⟩ hP; omega) hlo).mono fun e w' ⟨he, h1, h2⟩ => ⟨5, lo + 1, he, h1, h2, by omega, by decide⟩
  · exact (lksend_bad g f w ht hr hn hk).mono fun e w' ⟨he, h1⟩ => ⟨1, lo, he, h.below h1, Tu.of_below h1, by omega, by decide⟩
theorem lkqueued_int (g gb gq c lo : Nat) (x M q Lv : Int) (L : List ByteArray) (w : World) (h : LkAt w g gb gq c M q Lv L lo) (hk : (L.length : Int) = x) :
    Calls Tryd.prog 12 #[.pointer (some ⟨g, 0, none⟩)] w fun e w' => e = .returned (.int .i64 x) ∧ w' = w := by
  subst hk
  exact lkqueued_any g gb gq c lo L.length M q Lv L w h rfl
set_option maxHeartbeats 8000000 in
theorem lkbound_walk (r : Nat) (q : Int) (a : Option Addr) (n cp : Nat) (ds : List DLV) (w : World) (ht : Tab w) (hb : r < 18446744073709551616) (h : DlAt w a n ds) (hn : n ≤ 9223372036854775807) (hbig : ∀ i, (ds.getD i .dflt).f.p.r.n ≤ 9223372036854775807 ∧ (ds.getD i .dflt).f.p.r.s.size ≤ 9223372036854775807) :
    Calls Tryd.prog 5 #[.float .f64 r, .int .i64 q, .slice a n cp] w fun e w' => e = .returned (.bool true) ∧ Below w.heap.size w w' := by
  have HA := hide (fun wx (hx : Below w.heap.size w wx) => awake_any wx (ht.below hx))
  by_cases hf : FewL ds
  case neg =>
    have HF := hide (few24_no a n cp ds w h hn hbig hf)
    clear h hf hbig ht
    go_enter Tryd.func5, Tryd.ntmps5
    go_wp2_with (first
      | (go_at_call 6; refine (unhide HF).mono ?_; rintro e w1 ⟨rfl, hw1⟩; obtain rfl := hw1.symm; clear hw1)
      | (go_at_call 7; refine (unhide HA _ (Below.refl _ _)).mono ?_; rintro e w1 ⟨rfl, hb1⟩; have HB := hide hb1; clear hb1)
      | fail)
    go_ret
    exact ⟨rfl, unhide HB⟩
  have HF := hide (few24_yes a n cp ds w h hn hbig hf)
  have hl : n ≤ 60 := by have := hf.1; rw [h.1] at this; exact this
  have HW := hide hf
  have HH := hide h
  have HT := hide ht
  have hcm := max_run q
  have hcr := cap_run q
  have hm := capN_le q
  have HN := hide (lknew_any r hb q w)
  generalize ((milZ r : Nat) : Int) = M at *
  clear h hf hn hbig ht hb
  go_enter Tryd.func5, Tryd.ntmps5
  go_wp2_with (first
    | (go_at_call 6; refine (unhide HF).mono ?_; rintro e w1 ⟨rfl, hw1⟩; obtain rfl := hw1.symm; clear hw1)
    | (go_at_call 8; refine (unhide HN).mono ?_; rintro e w1 ⟨g, gb, gq, c, rfl, hg, hm1, hb1⟩; have HJ0 := hide (show LkJ w w1 g gb gq c M q (1000 * wiZ q 1 256) [] 0 from ⟨hm1, hb1, hg⟩); clear hm1 hb1 hg HN)
    | fail)
  clear HF
  go_loopw [8, 9] (fun u i wr => ∃ (j t lo : Nat) (Lv : Int) (L : List ByteArray), j ≤ n ∧ u = .int .i64 t ∧ i = .int .i64 j ∧ lo ≤ j ∧ t ≤ capN q ∧ Hid (L.length = t) ∧ Hid (LkJ w wr g gb gq c M q Lv L lo)) (fun _ i _ => n - (intOf i).toNat)
  case atStart => exact ⟨0, 0, 0, 1000 * wiZ q 1 256, [], Nat.zero_le _, rfl, rfl, Nat.le_refl _, Nat.zero_le _, hide rfl, HJ0⟩
  case round =>
    obtain ⟨j, t, lo, Lv, L, hj, rfl, rfl, hlo, htm, HL, HJ⟩ := hrel
    clear HJ0
    by_cases hlt : j < n
    case neg =>
      obtain rfl : j = n := by omega
      go_wp2_with (first
        | (go_at_call 7; refine (unhide HA _ (unhide HJ).low).mono ?_; rintro e w9 ⟨rfl, hb9⟩; have HB := hide (below0 (unhide HJ).low hb9); clear hb9)
        | fail)
      go_ret
      exact ⟨rfl, unhide HB⟩
    have hlt' : (j : Int) < (n : Int) := by omega
    have hd := (unhide HH).below (unhide HJ).low
    obtain ⟨b, off, rfl, hc⟩ := hd.at hlt
    have hrow := hd.2.1 j hlt
    have hdc := hc j hlt
    have HC := hide (fun wx (hx : Tu (lkF g gb gq c) wr wx) => show wx.cell? ⟨b, off + j * 11, none⟩ = some (.int .i64 (ds.getD j .dflt).tk) from (((unhide HH).below ((unhide HJ).low.trans (hx.below (unhide HJ).low.size fun z hz e => by have := (unhide HJ).own; rcases e with e | e | e | e <;> omega))).at hlt).elim fun b' hb' => hb'.elim fun off' ho' => by
      obtain ⟨e1, e2⟩ := ho'
      simp only [Option.some.injEq, Addr.mk.injEq, and_true] at e1
      obtain ⟨rfl, rfl⟩ := e1
      exact (e2 j hlt).1)
    obtain ⟨d0, d1, d2, d3, d4, d5, d6, d7, d8, d9, d10⟩ := hdc
    have hsz := (unhide HW).2 j
    have HR := hide hrow
    have HTx := hide ((unhide HT).below (unhide HJ).low)
    clear hc hd hrow HH HW
    generalize ds.getD j .dflt = d at *
    obtain ⟨y, hy⟩ : ∃ y : Int, bits .and .i64 (j : Int) 1 = y := ⟨_, rfl⟩
    by_cases hP : d.f.ok ∧ L.length < capN q
    case pos =>
      have hr : t < capN q := by rw [← unhide HL]; exact hP.2
      have HS := hide (lksend_ok g gb gq c lo M q Lv L d.f wr (unhide HJ).lk (unhide HTx) (unhide HR) (by omega) hP.1 hP.2)
      simp only [FRV.val] at HS
      have HL2 := hide (show (L ++ [d.f.enc]).length = t + 1 by rw [List.length_append, unhide HL]; rfl)
      generalize L ++ [d.f.enc] = L2 at *
      have HK := hide (fun lo2 wx (h : LkAt wx g gb gq c M q Lv L2 lo2) => lktick_any g gb gq c lo2 M q Lv d.tk L2 wx h)
      generalize tickL M (1000 * wiZ q 1 256) Lv d.tk = Z at *
      clear HTx HR hP
      by_cases hy1 : y = 1
      case neg =>
        have e1 : (y == 1) = false := by rw [beq_eq_false_iff_ne]; exact hy1
        have HQ := hide (fun lo2 wx (h : LkAt wx g gb gq c M q Z L2 lo2) => lkqueued_int g gb gq c lo2 ((t : Int) + 1) M q _ _ wx h (by have := unhide HL2; omega))
        have g1 : decide ((t : Int) + 1 < 0) = false := decide_eq_false (by omega)
        have g2 : decide ((capN q : Int) < (t : Int) + 1) = false := decide_eq_false (by omega)
        go_wp2_with (first
          | (go_at_call 9; refine (unhide HS).mono ?_; rintro e w2 ⟨rfl, hm2, ht2⟩; have HJ2 := hide ((unhide HJ).tu hm2 ht2); have c2 := unhide HC _ ht2; clear hm2 ht2 HS d0 d1 d2 d3 d4 d5 d6 d7 d8 d9 d10)
          | (go_at_call 10; refine (unhide HK _ _ (unhide HJ2).lk).mono ?_; rintro e w3 ⟨rfl, hm3, ht3⟩; have HJ3 := hide ((unhide HJ2).tu hm3 ht3); clear hm3 ht3 c2)
          | (go_at_call 12; refine (unhide HQ _ _ (unhide HJ3).lk).mono ?_; rintro e w5 ⟨rfl, hw5⟩; obtain rfl := hw5.symm; clear hw5)
          | fail)
        go_roundw
        case rel => exact ⟨j + 1, t + 1, lo, Z, L2, by omega, by go_num, by go_num, by omega, by omega, HL2, HJ3⟩
        case measure => simp [intOf]; omega
      subst hy1
      obtain ⟨p, hp⟩ : ∃ p, pumpN L2 Z = p := ⟨_, rfl⟩
      have hpl : p ≤ t + 1 := by rw [← unhide HL2, ← hp]; exact pumpN_le _ _
      have HP := hide (fun lo2 wx (h : LkAt wx g gb gq c M q Z L2 lo2) => lkpump_is g gb gq c lo2 p M q Z (Z - 1000 * (p : Int)) L2 (L2.drop p) wx h hp rfl rfl)
      have HL3 := hide (show (L2.drop p).length = t + 1 - p by rw [List.length_drop, unhide HL2])
      have HQ := hide (fun lo2 wx (h : LkAt wx g gb gq c M q (Z - 1000 * (p : Int)) (L2.drop p) lo2) => lkqueued_int g gb gq c lo2 ((t : Int) + 1 - (p : Int)) M q _ _ wx h (by have := unhide HL3; omega))
      have g1 : decide ((t : Int) + 1 - (p : Int) < 0) = false := decide_eq_false (by omega)
      have g2 : decide ((capN q : Int) < (t : Int) + 1 - (p : Int)) = false := decide_eq_false (by omega)
      go_wp2_with (first
        | (go_at_call 9; refine (unhide HS).mono ?_; rintro e w2 ⟨rfl, hm2, ht2⟩; have HJ2 := hide ((unhide HJ).tu hm2 ht2); have c2 := unhide HC _ ht2; clear hm2 ht2 HS d0 d1 d2 d3 d4 d5 d6 d7 d8 d9 d10)
        | (go_at_call 10; refine (unhide HK _ _ (unhide HJ2).lk).mono ?_; rintro e w3 ⟨rfl, hm3, ht3⟩; have HJ3 := hide ((unhide HJ2).tu hm3 ht3); clear hm3 ht3 c2)
        | (go_at_call 11; refine (unhide HP _ _ (unhide HJ3).lk).mono ?_; rintro e w4 ⟨b4, c4, rfl, hm4, ht4⟩; have HJ4 := hide ((unhide HJ3).tu hm4 ht4); clear hm4 ht4)
        | (go_at_call 12; refine (unhide HQ _ _ (unhide HJ4).lk).mono ?_; rintro e w5 ⟨rfl, hw5⟩; obtain rfl := hw5.symm; clear hw5)
        | fail)
      go_roundw
      case rel => exact ⟨j + 1, t + 1 - p, lo, Z - 1000 * (p : Int), L2.drop p, by omega, by rw [show ((t + 1 - p : Nat) : Int) = (t : Int) + 1 - (p : Int) by omega], by go_num, by omega, by omega, HL3, HJ4⟩
      case measure => simp [intOf]; omega
    case neg =>
      have HS := hide (lksend_else g gb gq c lo M q Lv L d.f wr (unhide HJ).lk (unhide HTx) (unhide HR) (by omega) (by omega) hP)
      simp only [FRV.val] at HS
      have HL2 := HL
      have HK := hide (fun lo2 wx (h : LkAt wx g gb gq c M q Lv L lo2) => lktick_any g gb gq c lo2 M q Lv d.tk L wx h)
      generalize tickL M (1000 * wiZ q 1 256) Lv d.tk = Z at *
      clear HTx HR hP
      by_cases hy1 : y = 1
      case neg =>
        have e1 : (y == 1) = false := by rw [beq_eq_false_iff_ne]; exact hy1
        have HQ := hide (fun lo2 wx (h : LkAt wx g gb gq c M q Z L lo2) => lkqueued_int g gb gq c lo2 ((t : Int)) M q _ _ wx h (by have := unhide HL2; omega))
        have g1 : decide ((t : Int) < 0) = false := decide_eq_false (by omega)
        have g2 : decide ((capN q : Int) < (t : Int)) = false := decide_eq_false (by omega)
        go_wp2_with (first
          | (go_at_call 9; refine (unhide HS).mono ?_; rintro e w2 ⟨en, lo2, rfl, hm2, ht2, hlo2, hen⟩; have HJ2 := hide ((unhide HJ).tu hm2 ht2); have c2 := unhide HC _ ht2; clear hm2 ht2 HS d0 d1 d2 d3 d4 d5 d6 d7 d8 d9 d10)
          | (go_at_call 10; refine (unhide HK _ _ (unhide HJ2).lk).mono ?_; rintro e w3 ⟨rfl, hm3, ht3⟩; have HJ3 := hide ((unhide HJ2).tu hm3 ht3); clear hm3 ht3 c2)
          | (go_at_call 12; refine (unhide HQ _ _ (unhide HJ3).lk).mono ?_; rintro e w5 ⟨rfl, hw5⟩; obtain rfl := hw5.symm; clear hw5)
          | fail)
        go_roundw
        case rel => exact ⟨j + 1, t, lo2, Z, L, by omega, by go_num, by go_num, by omega, by omega, HL2, HJ3⟩
        case measure => simp [intOf]; omega
      subst hy1
      obtain ⟨p, hp⟩ : ∃ p, pumpN L Z = p := ⟨_, rfl⟩
      have hpl : p ≤ t := by rw [← unhide HL2, ← hp]; exact pumpN_le _ _
      have HP := hide (fun lo2 wx (h : LkAt wx g gb gq c M q Z L lo2) => lkpump_is g gb gq c lo2 p M q Z (Z - 1000 * (p : Int)) L (L.drop p) wx h hp rfl rfl)
      have HL3 := hide (show (L.drop p).length = t - p by rw [List.length_drop, unhide HL2])
      have HQ := hide (fun lo2 wx (h : LkAt wx g gb gq c M q (Z - 1000 * (p : Int)) (L.drop p) lo2) => lkqueued_int g gb gq c lo2 ((t : Int) - (p : Int)) M q _ _ wx h (by have := unhide HL3; omega))
      have g1 : decide ((t : Int) - (p : Int) < 0) = false := decide_eq_false (by omega)
      have g2 : decide ((capN q : Int) < (t : Int) - (p : Int)) = false := decide_eq_false (by omega)
      go_wp2_with (first
        | (go_at_call 9; refine (unhide HS).mono ?_; rintro e w2 ⟨en, lo2, rfl, hm2, ht2, hlo2, hen⟩; have HJ2 := hide ((unhide HJ).tu hm2 ht2); have c2 := unhide HC _ ht2; clear hm2 ht2 HS d0 d1 d2 d3 d4 d5 d6 d7 d8 d9 d10)
        | (go_at_call 10; refine (unhide HK _ _ (unhide HJ2).lk).mono ?_; rintro e w3 ⟨rfl, hm3, ht3⟩; have HJ3 := hide ((unhide HJ2).tu hm3 ht3); clear hm3 ht3 c2)
        | (go_at_call 11; refine (unhide HP _ _ (unhide HJ3).lk).mono ?_; rintro e w4 ⟨b4, c4, rfl, hm4, ht4⟩; have HJ4 := hide ((unhide HJ3).tu hm4 ht4); clear hm4 ht4)
        | (go_at_call 12; refine (unhide HQ _ _ (unhide HJ4).lk).mono ?_; rintro e w5 ⟨rfl, hw5⟩; obtain rfl := hw5.symm; clear hw5)
        | fail)
      go_roundw
      case rel => exact ⟨j + 1, t - p, lo2, Z - 1000 * (p : Int), L.drop p, by omega, by rw [show ((t - p : Nat) : Int) = (t : Int) - (p : Int) by omega], by go_num, by omega, by omega, HL3, HJ4⟩
      case measure => simp [intOf]; omega
end Go.Proofs.YtdiondgkkanamaaDoor
