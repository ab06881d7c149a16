/-
  The walk of CalmDraws. Condition: the table of soliton stands.
-/
import Derived.Test.YtakoaadimhpclaaGreatDoorU25
import Derived.Test.YtakoaadimhpclaaGreatDoorU15
import Derived.Test.YtakoaadimhpclaaGreatDoorU45
namespace Go.Proofs.YtakoaadimhpclaaGreatDoor
open Go.RowKit Go.Sort Go.Shelf
set_option linter.unusedVariables false
set_option linter.unusedSimpArgs false
set_option maxRecDepth 4000

theorem rsame_yesC (a : Option Addr) (n c : Nat) (xs : List Nat) (a' : Option Addr) (m c' : Nat) (w : World) (h : RowAt w a n xs) (h' : RowAt w a' m xs) (hn : n ≤ 1048576) :
    Calls Tryz.prog 10 #[.slice a n c, .slice a' m c'] w fun e w' => e = .returned (.bool true) ∧ Below w.heap.size w w' := by
  have := rsame_any a n c xs a' m c' xs w h h' hn (by rw [← h'.1, h.1]; exact hn)
  rw [decide_eq_true (cnt_of_zero _ (xorL_self_zero xs))] at this
  exact this
theorem below_gbC {w w1 w2 : World} {B g : Nat} (h : Below B w w1) (hg : w1.grownBy w2 (some g)) (hB : B ≤ w1.heap.size) (hgB : B ≤ g) : Below B w w2 :=
  h.trans (gb_below hg hB (fun k hk => by rw [← Option.some.inj hk]; exact hgB))
theorem mod_twice (x : Int) (k : Nat) (hk : 1 ≤ k) : ∃ i : Nat, x % (k : Int) = (i : Int) ∧ i < k ∧ (x.tmod (k : Int) + (k : Int)).tmod (k : Int) = (i : Int) := by
  have hm := Int.emod_nonneg x (show (k : Int) ≠ 0 by omega)
  have hm2 := Int.emod_lt_of_pos x (show (0 : Int) < (k : Int) by omega)
  have g1 := Int.lt_tmod_of_pos x (show (0 : Int) < (k : Int) by omega)
  refine ⟨(x % (k : Int)).toNat, by omega, by omega, ?_⟩
  rw [Int.tmod_eq_emod_of_nonneg (by omega), Int.add_emod_right]
  have h1 : (x.tmod (k : Int)) % (k : Int) = x % (k : Int) := by
    have := Int.tmod_add_mul_tdiv x (k : Int)
    conv => rhs; rw [← this]
    rw [Int.add_mul_emod_self_left]
  rw [h1]
  omega

set_option maxHeartbeats 4000000 in
theorem caldraws_walk (s : ByteArray) (z x : Int) (w : World) (ht : PTab w) (hs : s.size ≤ 9223372036854775807) :
    Calls Tryz.prog 3 #[.string s, .int .i64 z, .int .i64 x] w fun e w' => e = .returned (.bool true) ∧ Below w.heap.size w w' := by
  have HP := hide ht
  clear ht
  have HAW := hide (fun wx (hb : Below w.heap.size w wx) => awake28_any wx)
  by_cases hE : newE 0 s.size z 0 = 0
  · obtain ⟨O, Z, Q, hO0, hO, hQ0, rfl, hz1, hz2, hk2⟩ := newE_yes hE
    obtain rfl : O = 0 := by omega
    obtain rfl : Q = 0 := by omega
    clear hO0 hQ0
    have HN : Hid (Calls Tryz.prog 4 #[.int .i64 0, .string s, .int .i64 (Z : Int), .int .i64 0] w fun e w' => ∃ g, e = .returned (.tuple #[.pointer (some ⟨g, 0, none⟩), .int .i64 0]) ∧ SrcAt w' g 0 (s.size : Int) (Z : Int) (min 0 (kc s.size Z)) (blocksL (tx s) Z (kc s.size Z)) ∧ Below w.heap.size w w') := hide (new_yes 0 s Z 0 w hO hz1 hz2 hk2)
    by_cases hlen : 1000 < (s.size : Int)
    · clear hE
      go_enter Tryz.func3, Tryz.ntmps3
      go_wp2_with fail
      refine (unhide HN).mono ?_
      rintro e w1 ⟨g, rfl, hs1, hb1⟩
      have B1 := hide hb1
      clear hs1 hb1 HN
      go_wp2_with (first
        | (go_at_call 5; refine (unhide HAW _ (unhide B1)).mono ?_; rintro e w3 ⟨rfl, hb3⟩; have B3 := hide (below0 (unhide B1) hb3); clear hb3)
        | fail)
      go_ret
      exact ⟨rfl, unhide B3⟩
    have HL := hide (blocksL_length (tx s) Z (kc s.size Z))
    have HSH := hide (shorts_blocks (tx s) Z (kc s.size Z) hz2)
    have hkp := kc_pos s.size Z
    have hsz : min 0 (kc s.size Z) ≤ kc s.size Z := Nat.min_le_right _ _
    clear hE
    generalize blocksL (tx s) Z (kc s.size Z) = ss at *
    generalize min 0 (kc s.size Z) = M at *
    generalize kc s.size Z = k at *
    obtain ⟨i, hrem, hik, hrem2⟩ := mod_twice x k hkp
    have hD : drawsD (k : Int) x = [0, i] := by unfold drawsD; rw [if_pos (by omega), hrem, Int.toNat_natCast]
    have HV := hide (show evecL k M [0, i] 0 = unitL (k : Int) (i : Int) from by rw [unit_vec k M i hkp (by omega) hik, unit_row k i hik])
    have HVL := hide (vecL_length k M [0, i] 0)
    have HUN := hide (fun wx => runit_any (k : Int) (i : Int) wx (by omega))
    rw [← unhide HV] at HUN
    have HDR := hide (fun wx => cadraws_any (k : Int) x wx)
    rw [hD] at HDR
    have HEM := hide (fun g gd B wx hp ht hd hB => emit_any g gd B 0 (s.size : Int) (Z : Int) M k ss [0, i] 0 wx hp (unhide HL) hkp hk2 hsz (unhide HSH) ht hd hB (by omega))
    have HK := hide (fun g wx hp => ek_any g 0 (s.size : Int) (Z : Int) M ss wx hp)
    rw [unhide HL] at HK
    have hm2 := sizeOfK_le (k : Int)
    have g1 := Int.lt_tmod_of_pos x (show (0 : Int) < (k : Int) by omega)
    have g2 := Int.tmod_lt_of_pos x (show (0 : Int) < (k : Int) by omega)
    have hwr2 : IntKind.i64.wrap (x.tmod (k : Int) + (k : Int)) = x.tmod (k : Int) + (k : Int) := by rw [IntKind.wrap_i64]; omega
    have hwr3 : IntKind.i64.wrap (x.tmod (k : Int)) = x.tmod (k : Int) := by rw [IntKind.wrap_i64]; omega
    have hwr4 : IntKind.i64.wrap (i : Int) = (i : Int) := by rw [IntKind.wrap_i64]; omega
    have hnz : ¬ ((k : Int) = 0) := by omega
    clear HV hD hrem g1 g2
    generalize evecL k M [0, i] 0 = vs at *
    generalize nextN k M [0, i] 0 = nn at *
    generalize sizeOfK (k : Int) = m at *
    generalize st (ofL ss vs k) = dt at *
    go_enter Tryz.func3, Tryz.ntmps3
    go_wp2_with fail
    refine (unhide HN).mono ?_
    rintro e w1 ⟨g, rfl, hs1, hb1⟩
    have B1 := hide hb1
    have S1 := hide hs1
    clear hs1 hb1 HN
    go_wp2_with fail
    refine (unhide HK g w1 (unhide S1)).mono ?_
    rintro e w2 ⟨rfl, hw2⟩
    obtain rfl := hw2.symm
    clear hw2
    go_wp2_with fail
    refine (unhide HDR _).mono ?_
    rintro e w3 ⟨v3, rfl, ho3, hb3⟩
    have B3 := hide (below0 (unhide B1) hb3)
    have S3 := hide ((unhide S1).below hb3)
    obtain ⟨a3, c3, rfl, h3⟩ := ho3.row
    have HNW := hide (new_any a3 2 c3 [0, i] _ h3 (by omega))
    clear hb3 ho3 h3 S1 B1 HK HDR
    go_wp2_with fail
    refine (unhide HNW).mono ?_
    rintro e w5 ⟨gd, rfl, hgd, hd5, hb5⟩
    have B5 := hide (below0 (unhide B3) hb5)
    have S5 := hide ((unhide S3).below hb5)
    have D5 := hide hd5
    have hgw : w.heap.size ≤ gd := Nat.le_trans (unhide B3).size hgd
    clear hgd hd5 hb5 B3 S3 HNW
    go_wp2_with fail
    refine (unhide HEM g gd _ w5 (unhide S5) ((unhide HP).below (unhide B5)) (unhide D5) (Nat.le_refl _)).mono ?_
    rintro e w6 ⟨a6, c6, rfl, hr6, -, hg6⟩
    have B6 := hide (below_gbC (unhide B5) hg6 (unhide B5).size hgw)
    have R6 := hide hr6
    clear hr6 hg6 S5 D5 B5 HEM
    have hA := below_new w6 (.cells #[.int .i64 0, .int .i64 (s.size : Int), .int .i64 (k : Int), .int .i64 (Z : Int), .int .i64 0, .slice a6 m c6, .string dt] 32)
    have B7 := hide (below0 (unhide B6) hA)
    have R7 := hide ((unhide R6).below hA)
    have x7 := pkb_new w6 (.int .i64 0) (.int .i64 (s.size : Int)) (.int .i64 (k : Int)) (.int .i64 (Z : Int)) (.int .i64 0) (.slice a6 m c6) (.string dt)
    clear hA B6 R6
    go_wp2_with fail
    generalize w6.alloc (.cells #[.int .i64 0, .int .i64 (s.size : Int), .int .i64 (k : Int), .int .i64 (Z : Int), .int .i64 0, .slice a6 m c6, .string dt] 32) = W at *
    generalize w6.heap.size = pk at *
    obtain ⟨-, -, -, -, -, y5, -⟩ := x7.at
    have HX := hide (fun wx (hb : Below W.heap.size W wx) => (show wx.cell? ⟨pk, 5, none⟩ = some (.slice a6 m c6) from (x7.below hb).at.2.2.2.2.2.1))
    have HSM := hide (fun wx v (hb : Below W.heap.size W wx) (B' : Nat) (ho : Own wx B' v vs) => by
      obtain ⟨a8, c8, hv, h8⟩ := ho.row
      rw [unhide HVL] at hv h8
      exact (show ∃ a8 c8, v = .slice a8 m c8 ∧ Calls Tryz.prog 10 #[.slice a6 m c6, .slice a8 m c8] wx fun e w' => e = .returned (.bool true) ∧ Below wx.heap.size wx w' from
        ⟨a8, c8, hv, rsame_yesC a6 m c6 vs a8 m c8 wx ((unhide R7).below hb) h8 (by omega)⟩))
    have C0 := hide (Below.refl W.heap.size W).drew
    clear x7 R7 HVL HAW
    go_region_held (fun w' => w'.cell? ⟨pk, 5, none⟩ = some (.slice a6 m c6)) (go_keep)
      (first
        | (go_at_call 11; refine (unhide HUN _).mono ?_; rintro e w8 ⟨v8, rfl, ho8, hb8⟩; have C8 := hide (below0 (unhide C0) hb8); obtain ⟨a8, c8, rfl, hh8⟩ := unhide HSM w8 v8 (unhide C8) _ ho8; have HH8 := hide hh8; have u0 := unhide HX _ (unhide C8); clear hb8 ho8 hh8)
        | (go_at_call 10; refine (unhide HH8).mono ?_; rintro e w9 ⟨rfl, hb9⟩; have C9 := hide (below0 (unhide C8) hb9); have t0 := unhide HX _ (unhide C9); clear hb9)
        | (go_at_call 5; refine (awake28_any _).mono ?_; rintro e w10 ⟨rfl, hb10⟩; have C10 := hide (below0 (unhide C9) hb10); have q0 := unhide HX _ (unhide C10); clear hb10))
    all_goals go_wp2
    all_goals go_ret
    all_goals exact ⟨rfl, below0 (unhide B7) (unhide C10)⟩
  · have HN := hide (new_bad 0 s z 0 w hs hE)
    have hE' : (newE 0 s.size z 0 != 0) = true := bne_iff_ne.2 hE
    clear hE
    generalize newE 0 s.size z 0 = E0 at *
    go_enter Tryz.func3, Tryz.ntmps3
    go_wp2_with fail
    refine (unhide HN).mono ?_
    rintro e w1 ⟨rfl, hb1⟩
    have B1 := hide hb1
    clear hb1 HN
    go_wp2_with (first
      | (go_at_call 5; refine (unhide HAW _ (unhide B1)).mono ?_; rintro e w3 ⟨rfl, hb3⟩; have B3 := hide (below0 (unhide B1) hb3); clear hb3)
      | fail)
    go_ret
    exact ⟨rfl, unhide B3⟩
end Go.Proofs.YtakoaadimhpclaaGreatDoor
