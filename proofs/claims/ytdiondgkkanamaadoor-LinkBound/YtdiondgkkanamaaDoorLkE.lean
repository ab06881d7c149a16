/-
  The walk of LinkSlow: without a rate no more go than the bucket held. No condition.
-/
import Derived.Test.YtdiondgkkanamaaDoorLkD
namespace Go.Proofs.YtdiondgkkanamaaDoor
open Go.RowKit Go.Conc
set_option linter.unusedVariables false
set_option maxRecDepth 4000

/-- Send, whatever the frame. -/
theorem lksend_any (g gb gq c lo : Nat) (M q Lv : Int) (L : List ByteArray) (f : FRV) (w : World) (h : LkAt w g gb gq c M q Lv L lo) (ht : Tab w) (hr : RowAt w f.p.r.a f.p.r.n f.p.r.xs) (hn : f.p.r.n ≤ 1048576) (hlo : lo ≤ 1099511627776) :
    Calls Tryd.prog 9 #[.pointer (some ⟨g, 0, none⟩), f.val] w fun e w' => ∃ (en : Int) (L' : List ByteArray) (lo' : Nat), e = .returned (.int .i64 en) ∧ LkAt w' g gb gq c M q Lv L' lo' ∧ Tu (lkF g gb gq c) w w' ∧ lo' ≤ lo + 1 ∧ ((en = 0 ∧ L'.length = L.length + 1) ∨ (en ≠ 0 ∧ L'.length = L.length)) := by
  by_cases hP : f.ok
  · by_cases hl : L.length < capN q
    · exact (lksend_ok g gb gq c lo M q Lv L f w h ht hr hn hP hl).mono fun e w' ⟨he, h1, h2⟩ => ⟨0, _, lo, he, h1, h2, by omega, .inl ⟨rfl, by rw [List.length_append]; rfl⟩⟩
    · exact (lksend_full g gb gq c lo M q Lv L f w h ht hr hn hP (by omega) hlo).mono fun e w' ⟨he, h1, h2⟩ => ⟨5, L, lo + 1, he, h1, h2, by omega, .inr ⟨by decide, rfl⟩⟩
  · exact (lksend_bad g f w ht hr hn hP).mono fun e w' ⟨he, h1⟩ => ⟨1, L, lo, he, h.below h1, Tu.of_below h1, by omega, .inr ⟨by decide, rfl⟩⟩
theorem tick_none {T Lv : Int} (n : Int) (h : Lv ≤ T) : tickL 0 T Lv n = Lv := by
  unfold tickL
  rw [Int.mul_zero]
  omega
theorem capN_id {q : Int} (h1 : 1 ≤ q) (h2 : q ≤ 256) : (capN q : Int) = q := by rw [← cap_min]; omega
set_option maxHeartbeats 8000000 in
theorem lkslow_walk (q : Int) (a : Option Addr) (n cp : Nat) (ds : List DLV) (w : World) (ht : Tab w) (h : DlAt w a n ds) (hn : n ≤ 9223372036854775807) (hbig : ∀ i, (ds.getD i .dflt).f.p.r.n ≤ 9223372036854775807 ∧ (ds.getD i .dflt).f.p.r.s.size ≤ 9223372036854775807) :
    Calls Tryd.prog 3 #[.int .i64 q, .slice a n cp] w fun e w' => e = .returned (.bool true) ∧ Below w.heap.size w w' := by
  have HA := hide (fun wx (hx : Below w.heap.size w wx) => awake_any wx (ht.below hx))
  by_cases hf : FewL ds
  case neg =>
    have HF := hide (few24_no a n cp ds w h hn hbig hf)
    clear h hf hbig ht
    go_enter Tryd.func3, Tryd.ntmps3
    go_wp2_with (first
      | (go_at_call 6; refine (unhide HF).mono ?_; rintro e w1 ⟨rfl, hw1⟩; obtain rfl := hw1.symm; clear hw1)
      | (go_at_call 7; refine (unhide HA _ (Below.refl _ _)).mono ?_; rintro e w1 ⟨rfl, hb1⟩; have HB := hide hb1; clear hb1)
      | fail)
    go_ret
    exact ⟨rfl, unhide HB⟩
  have HF := hide (few24_yes a n cp ds w h hn hbig hf)
  by_cases hq1 : q < 1
  case pos =>
    clear h hf hbig ht
    go_enter Tryd.func3, Tryd.ntmps3
    go_wp2_with (first
      | (go_at_call 6; refine (unhide HF).mono ?_; rintro e w1 ⟨rfl, hw1⟩; obtain rfl := hw1.symm; clear hw1)
      | (go_at_call 7; refine (unhide HA _ (Below.refl _ _)).mono ?_; rintro e w1 ⟨rfl, hb1⟩; have HB := hide hb1; clear hb1)
      | fail)
    go_ret
    exact ⟨rfl, unhide HB⟩
  by_cases hq2 : 256 < q
  case pos =>
    clear h hf hbig ht
    go_enter Tryd.func3, Tryd.ntmps3
    go_wp2_with (first
      | (go_at_call 6; refine (unhide HF).mono ?_; rintro e w1 ⟨rfl, hw1⟩; obtain rfl := hw1.symm; clear hw1)
      | (go_at_call 7; refine (unhide HA _ (Below.refl _ _)).mono ?_; rintro e w1 ⟨rfl, hb1⟩; have HB := hide hb1; clear hb1)
      | fail)
    go_ret
    exact ⟨rfl, unhide HB⟩
  have hl : n ≤ 60 := by have := hf.1; rw [h.1] at this; exact this
  have HW := hide hf
  have HH := hide h
  have HT := hide ht
  have hcq := capN_id (q := q) (by omega) (by omega)
  have HN := hide (lknew_any 0 (by decide) q w)
  rw [show ((milZ 0 : Nat) : Int) = 0 by decide, wiZ_id (show (1 : Int) ≤ q by omega) (show q ≤ 256 by omega)] at HN
  clear h hf hn hbig ht
  go_enter Tryd.func3, Tryd.ntmps3
  go_wp2_with (first
    | (go_at_call 6; refine (unhide HF).mono ?_; rintro e w1 ⟨rfl, hw1⟩; obtain rfl := hw1.symm; clear hw1)
    | (go_at_call 8; refine (unhide HN).mono ?_; rintro e w1 ⟨g, gb, gq, c, rfl, hg, hm1, hb1⟩; have HJ0 := hide (show LkJ w w1 g gb gq c 0 q (1000 * q) [] 0 from ⟨hm1, hb1, hg⟩); clear hm1 hb1 hg HN)
    | fail)
  clear HF
  go_loopw [6, 7] (fun u i wr => ∃ (j k lo : Nat) (Lv : Int) (L : List ByteArray), j ≤ n ∧ u = .int .i64 k ∧ i = .int .i64 j ∧ lo ≤ j ∧ 0 ≤ Lv ∧ 1000 * (k : Int) + Lv = 1000 * q ∧ Hid (LkJ w wr g gb gq c 0 q Lv L lo)) (fun _ i _ => n - (intOf i).toNat)
  case atStart => exact ⟨0, 0, 0, 1000 * q, [], Nat.zero_le _, rfl, rfl, Nat.le_refl _, by omega, by omega, HJ0⟩
  case round =>
    obtain ⟨j, k, lo, Lv, L, hj, rfl, rfl, hlo, hlv, hsum, HJ⟩ := hrel
    clear HJ0
    by_cases hlt : j < n
    case neg =>
      obtain rfl : j = n := by omega
      have hk : (k : Int) ≤ q := by omega
      have hlen : ((L.length : Nat) : Int) ≤ q := by have := (unhide HJ).lk.qu.len; omega
      have HQ := hide (lkqueued_any _ _ _ _ _ L.length _ _ _ _ _ (unhide HJ).lk rfl)
      generalize L.length = z at *
      go_wp2_with (first
        | (go_at_call 12; refine (unhide HQ).mono ?_; rintro e w4 ⟨rfl, hw4⟩; obtain rfl := hw4.symm; clear hw4)
        | (go_at_call 7; refine (unhide HA _ (unhide HJ).low).mono ?_; rintro e w9 ⟨rfl, hb9⟩; have HB := hide (below0 (unhide HJ).low hb9); clear hb9)
        | fail)
      go_ret
      exact ⟨rfl, unhide HB⟩
    have hlt' : (j : Int) < (n : Int) := by omega
    have hd := (unhide HH).below (unhide HJ).low
    obtain ⟨b, off, rfl, hc⟩ := hd.at hlt
    have hrow := hd.2.1 j hlt
    obtain ⟨d0, d1, d2, d3, d4, d5, d6, d7, d8, d9, d10⟩ := hc j hlt
    have hsz := (unhide HW).2 j
    have HR := hide hrow
    have HTx := hide ((unhide HT).below (unhide HJ).low)
    clear hc hd hrow HH HW
    generalize ds.getD j .dflt = d at *
    have HS := hide (lksend_any g gb gq c lo 0 q Lv L d.f wr (unhide HJ).lk (unhide HTx) (unhide HR) (by omega) (by omega))
    simp only [FRV.val] at HS
    have HK := hide (fun L' lo' wx (h : LkAt wx g gb gq c 0 q Lv L' lo') => lktick_any g gb gq c lo' 0 q Lv 9 L' wx h)
    rw [wiZ_id (show (1 : Int) ≤ q by omega) (show q ≤ 256 by omega), tick_none 9 (show Lv ≤ 1000 * q by omega)] at HK
    clear HTx HR
    go_wp2_with (first
      | (go_at_call 9; refine (unhide HS).mono ?_; rintro e w2 ⟨en, L2, lo2, rfl, hm2, ht2, hlo2, -⟩; have HJ2 := hide ((unhide HJ).tu hm2 ht2); clear hm2 ht2 HS d0 d1 d2 d3 d4 d5 d6 d7 d8 d9 d10)
      | (go_at_call 10; refine (unhide HK _ _ _ (unhide HJ2).lk).mono ?_; rintro e w3 ⟨rfl, hm3, ht3⟩; have HJ3 := hide ((unhide HJ2).tu hm3 ht3); clear hm3 ht3)
      | (go_at_call 11; refine (lkpump_is _ _ _ _ _ (pumpN L2 Lv) _ _ _ _ _ _ _ (unhide HJ3).lk rfl rfl rfl).mono ?_; rintro e w4 ⟨b4, c4, rfl, hm4, ht4⟩; have HJ4 := hide ((unhide HJ3).tu hm4 ht4); have hp := pumpN_lev L2 hlv; generalize pumpN L2 Lv = t at *; clear hm4 ht4)
      | fail)
    go_roundw
    case rel => exact ⟨j + 1, k + t, lo2, Lv - 1000 * (t : Int), L2.drop t, by omega, by go_num, by go_num, by omega, by omega, by omega, HJ4⟩
    case measure => simp [intOf]; omega
end Go.Proofs.YtdiondgkkanamaaDoor
