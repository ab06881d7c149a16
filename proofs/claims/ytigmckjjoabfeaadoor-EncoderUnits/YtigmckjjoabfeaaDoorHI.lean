/-
  The walk of the law EncoderUnits: for every input, in every world that holds the table of soliton, it tells true and writes nothing that was there.
-/
import Derived.Test.YtigmckjjoabfeaaDoorM13
namespace Go.Proofs.YtigmckjjoabfeaaDoor
open Go.RowKit
set_option linter.unusedVariables false
set_option maxRecDepth 4000

theorem rem_at (x : Int) (k : Nat) (hk : 1 ≤ k) : ∃ i : Nat, (IntKind.u64.wrap x).tmod (k : Int) = (i : Int) ∧ i < k := by
  have h0 : 0 ≤ IntKind.u64.wrap x := by rw [IntKind.wrap_u64]; omega
  refine ⟨((IntKind.u64.wrap x) % (k : Int)).toNat, ?_, ?_⟩
  · rw [Int.tmod_eq_emod_of_nonneg h0]
    have := Int.emod_nonneg (IntKind.u64.wrap x) (show (k : Int) ≠ 0 by omega)
    omega
  · have h1 := Int.emod_lt_of_pos (IntKind.u64.wrap x) (show (0 : Int) < (k : Int) by omega)
    have h2 := Int.emod_nonneg (IntKind.u64.wrap x) (show (k : Int) ≠ 0 by omega)
    omega
theorem rsame_yes (a : Option Addr) (n c : Nat) (xs : List Nat) (a' : Option Addr) (m c' : Nat) (w : World) (h : RowAt w a n xs) (h' : RowAt w a' m xs) (hn : n ≤ 1048576) :
    Calls Tryd.prog 21 #[.slice a n c, .slice a' m c'] w fun e w' => e = .returned (.bool true) ∧ Below w.heap.size w w' := by
  have := rsame_any a n c xs a' m c' xs w h h' hn (by rw [← h'.1, h.1]; exact hn)
  rw [decide_eq_true (cnt_of_zero _ (xorL_self_zero xs))] at this
  exact this

set_option maxHeartbeats 4000000 in
theorem units_walk (o z p : Int) (s : ByteArray) (x : Int) (w : World) (ht : PTab w) (hs : s.size ≤ 9223372036854775807) :
    Calls Tryd.prog 6 #[.agg #[.int .i64 o, .int .i64 z, .int .i64 p, .string s], .int .i64 x] w fun e w' => e = .returned (.bool true) ∧ Below w.heap.size w w' := by
  have m0 := md_new w o z p s
  have M0 := hide m0
  have B0 := hide (below_new w (.cells #[.int .i64 o, .int .i64 z, .int .i64 p, .string s] 23))
  have HP := hide ht
  clear ht m0
  by_cases hE : newE o s.size z p = 0
  · obtain ⟨O, Z, Q, rfl, hO, rfl, rfl, hz1, hz2, hk2⟩ := newE_yes hE
    have HN := hide (fun wx => new_yes O s Z Q wx hO hz1 hz2 hk2)
    have HRN := hide (fun wx => rnew_yes O s Z Q wx hO hz1 hz2 hk2)
    have HL := hide (blocksL_length (tx s) Z (kc s.size Z))
    have HSH := hide (shorts_blocks (tx s) Z (kc s.size Z) hz2)
    have hkp := kc_pos s.size Z
    have hsz : min Q (kc s.size Z) ≤ kc s.size Z := Nat.min_le_right _ _
    clear hE
    generalize blocksL (tx s) Z (kc s.size Z) = ss at *
    generalize min Q (kc s.size Z) = M at *
    generalize kc s.size Z = k at *
    obtain ⟨i, hrem, hik⟩ := rem_at x k hkp
    have hik' : (i : Int) < (k : Int) := by omega
    have HV := hide (show vecL k M [0, i] 0 = unitL (k : Int) (i : Int) from by rw [unit_vec k M i hkp (by omega) hik, unit_row k i hik])
    have HD := hide (unit_data ss k M i hkp hk2 (by omega) hik)
    have HVL := hide (vecL_length k M [0, i] 0)
    have HUN := hide (fun wx => runit_any (k : Int) (i : Int) wx (by omega))
    rw [← unhide HV] at HUN
    have HEM := hide (fun g gd B wx hp ht hd hB => emit_any g gd B (O : Int) (s.size : Int) (Z : Int) M k ss [0, i] 0 wx hp (unhide HL) hkp hk2 hsz (unhide HSH) ht hd hB (by omega))
    rw [unhide HD] at HEM
    have hm2 := sizeOfK_le (k : Int)
    clear HV HD HSH
    generalize vecL k M [0, i] 0 = vs at *
    generalize nextN k M [0, i] 0 = nn at *
    generalize sizeOfK (k : Int) = m at *
    go_enter Tryd.func6, Tryd.ntmps6
    go_wp2_with fail
    refine (unhide HN _).mono ?_
    rintro e w1 ⟨g, rfl, hs1, hb1⟩
    have B1 := hide (below0 (unhide B0) hb1)
    have S1 := hide hs1
    obtain ⟨m0, m1, m2, m3⟩ := (unhide M0).below hb1
    clear hs1 hb1 HN M0 B0
    go_wp2_with fail
    refine (unhide HRN _).mono ?_
    rintro e w2 ⟨a2, c2, rfl, ht2, hb2⟩
    have B2 := hide (below0 (unhide B1) hb2)
    have S2 := hide ((unhide S1).below hb2)
    have hA := below_new w2 (.cells #[.int .i64 (O : Int), .int .i64 (s.size : Int), .int .i64 (Z : Int), .int .i64 (M : Int), .slice a2 k c2] 30)
    have B3 := hide (below0 (unhide B2) hA)
    have S3 := hide ((unhide S2).below hA)
    obtain ⟨b2, off2, rfl, hc2⟩ := (ht2.below hA).at hik
    have C3 := hide (hc2 i hik)
    have X3 := hide (rsb_new w2 (.int .i64 (O : Int)) (.int .i64 (s.size : Int)) (.int .i64 (Z : Int)) (.int .i64 (M : Int)) (.slice (some ⟨b2, off2, none⟩) k c2))
    have hr3 := (unhide X3).lt
    clear m0 m1 m2 m3 hb2 ht2 S1 B1 S2 B2 hA HRN hc2
    have hrow := row_new2 (w2.alloc (.cells #[.int .i64 (O : Int), .int .i64 (s.size : Int), .int .i64 (Z : Int), .int .i64 (M : Int), .slice (some ⟨b2, off2, none⟩) k c2] 30)) 0 i (by omega) (by omega)
    have hA := below_new (w2.alloc (.cells #[.int .i64 (O : Int), .int .i64 (s.size : Int), .int .i64 (Z : Int), .int .i64 (M : Int), .slice (some ⟨b2, off2, none⟩) k c2] 30)) (.cells #[.int .u64 ((0 : Nat) : Int), .int .u64 (i : Int)] 55)
    have HNW := hide (new_any (some ⟨(w2.alloc (.cells #[.int .i64 (O : Int), .int .i64 (s.size : Int), .int .i64 (Z : Int), .int .i64 (M : Int), .slice (some ⟨b2, off2, none⟩) k c2] 30)).heap.size, 0, none⟩) 2 2 [0, i] _ hrow (by omega))
    have B4 := hide (below0 (unhide B3) hA)
    have S4 := hide ((unhide S3).below hA)
    have X4 := hide ((unhide X3).below hA)
    have C4 := hide ((hA.cell (World.block_lt_of_cell? _ _ (unhide C3))).trans (unhide C3))
    rw [alloc_size w2] at HNW
    have r4 := (unhide X3).cells.2.2.2.2
    clear hrow hA B3 S3 X3 C3 hr3
    go_wp2_with fail
    refine (unhide HNW).mono ?_
    rintro e w5 ⟨gd, rfl, hgd, hd5, hb5⟩
    have B5 := hide (below0 (unhide B4) hb5)
    have S5 := hide ((unhide S4).below hb5)
    have X5 := hide ((unhide X4).below hb5)
    have C5 := hide ((hb5.cell (World.block_lt_of_cell? _ _ (unhide C4))).trans (unhide C4))
    have D5 := hide hd5
    have hgw : w.heap.size ≤ gd := Nat.le_trans (unhide B4).size hgd
    have hrd : w2.heap.size ≠ gd := Nat.ne_of_lt (Nat.lt_of_lt_of_le (unhide X4).lt hgd)
    clear hgd hd5 hb5 B4 S4 X4 C4 HNW r4
    generalize w2.heap.size = r at *
    go_wp2_with fail
    refine (unhide HEM g gd _ w5 (unhide S5) ((unhide HP).below (unhide B5)) (unhide D5) (Nat.le_refl _)).mono ?_
    rintro e w6 ⟨a6, c6, rfl, hr6, -, hg6⟩
    obtain ⟨_, _, _, hbk⟩ := (unhide D5).blk
    have B6 := hide (below_gb (unhide B5) hg6 (unhide B5).size hgw)
    have X6 := hide ((unhide X5).kept hg6 (fun e => hrd (Option.some.inj e)))
    have hbd : b2 ≠ gd := by
      rintro rfl
      have h0 := unhide C5
      unfold Bk2 at hbk
      rw [cell_of_row w5 b2 _ _ _ _ hbk] at h0
      match off2 + i, h0 with
      | 0, h0 => simp at h0
      | 1, h0 => simp at h0
      | q + 2, h0 => simp at h0
    have C6 := hide (hg6.cell (unhide C5) (fun e => hbd (Option.some.inj e)))
    have R6 := hide hr6
    clear hr6 hg6 hbk hbd S5 X5 C5 D5 B5 HEM
    generalize ss.getD i ByteArray.empty = dt at *
    have hA := below_new w6 (.cells #[.int .i64 (O : Int), .int .i64 (s.size : Int), .int .i64 (k : Int), .int .i64 (Z : Int), .int .i64 0, .slice a6 m c6, .string dt] 48)
    have B7 := hide (below0 (unhide B6) hA)
    have R7 := hide ((unhide R6).below hA)
    have x7 := pkb_new w6 (.int .i64 (O : Int)) (.int .i64 (s.size : Int)) (.int .i64 (k : Int)) (.int .i64 (Z : Int)) (.int .i64 0) (.slice a6 m c6) (.string dt)
    have rx7 := (unhide X6).below hA
    have c7 := (hA.cell (World.block_lt_of_cell? _ _ (unhide C6))).trans (unhide C6)
    clear hA B6 R6 X6 C6
    go_wp2_with fail
    generalize w6.alloc (.cells #[.int .i64 (O : Int), .int .i64 (s.size : Int), .int .i64 (k : Int), .int .i64 (Z : Int), .int .i64 0, .slice a6 m c6, .string dt] 48) = W at *
    generalize w6.heap.size = pk at *
    obtain ⟨-, -, -, -, -, y5, y6⟩ := x7.at
    obtain ⟨-, -, -, -, z4⟩ := rx7.cells
    have HX := hide (fun wx (hb : Below W.heap.size W wx) => (show wx.cell? ⟨pk, 5, none⟩ = some (.slice a6 m c6) ∧ wx.cell? ⟨pk, 6, none⟩ = some (.string dt) ∧ wx.cell? ⟨r, 4, none⟩ = some (.slice (some ⟨b2, off2, none⟩) k c2) ∧ wx.cell? ⟨b2, off2 + i, none⟩ = some (.string dt) from
      ⟨(x7.below hb).at.2.2.2.2.2.1, (x7.below hb).at.2.2.2.2.2.2, (rx7.below hb).cells.2.2.2.2, (hb.cell (World.block_lt_of_cell? W _ c7)).trans c7⟩))
    have HSM := hide (fun wx v (hb : Below W.heap.size W wx) (B' : Nat) (ho : Own wx B' v vs) => by
      obtain ⟨a8, c8, hv, h8⟩ := ho.row
      rw [unhide HVL] at hv h8
      exact (show ∃ a8 c8, v = .slice a8 m c8 ∧ Calls Tryd.prog 21 #[.slice a6 m c6, .slice a8 m c8] wx fun e w' => e = .returned (.bool true) ∧ Below wx.heap.size wx w' from
        ⟨a8, c8, hv, rsame_yes a6 m c6 vs a8 m c8 wx ((unhide R7).below hb) h8 (by omega)⟩))
    have HAW := hide (fun wx (hb : Below W.heap.size W wx) => awake_any wx ((unhide HP).below (below0 (unhide B7) hb)))
    have C0 := hide (Below.refl W.heap.size W).drew
    clear x7 rx7 R7 HVL
    go_region_held (fun w' => w'.cell? ⟨pk, 5, none⟩ = some (.slice a6 m c6) ∧ w'.cell? ⟨pk, 6, none⟩ = some (.string dt) ∧ w'.cell? ⟨r, 4, none⟩ = some (.slice (some ⟨b2, off2, none⟩) k c2) ∧ w'.cell? ⟨b2, off2 + i, none⟩ = some (.string dt)) (go_keep)
      (first
        | (go_at_call 22; refine (unhide HUN _).mono ?_; rintro e w8 ⟨v8, rfl, ho8, hb8⟩; have C8 := hide (below0 (unhide C0) hb8); obtain ⟨a8, c8, rfl, hh8⟩ := unhide HSM w8 v8 (unhide C8) _ ho8; have HH8 := hide hh8; obtain ⟨u0, u1, u2, u3⟩ := unhide HX _ (unhide C8); clear hb8 ho8 hh8)
        | (go_at_call 21; refine (unhide HH8).mono ?_; rintro e w9 ⟨rfl, hb9⟩; have C9 := hide (below0 (unhide C8) hb9); obtain ⟨t0, t1, t2, t3⟩ := unhide HX _ (unhide C9); clear hb9)
        | (go_at_call 13; refine (unhide HAW _ (unhide C9)).mono ?_; rintro e w10 ⟨rfl, hb10⟩; have C10 := hide (below0 (unhide C9) hb10); obtain ⟨q0, q1, q2, q3⟩ := unhide HX _ (unhide C10); clear hb10))
    all_goals go_wp2
    all_goals go_ret
    all_goals exact ⟨rfl, below0 (unhide B7) (unhide C10)⟩
  · have HN := hide (fun wx => new_bad o s z p wx hs hE)
    have HRN := hide (fun wx => rnew_bad o s z p wx hs hE)
    have hE' : (newE o s.size z p != 0) = true := bne_iff_ne.2 hE
    clear hE
    generalize newE o s.size z p = E0 at *
    go_enter Tryd.func6, Tryd.ntmps6
    go_wp2_with fail
    refine (unhide HN _).mono ?_
    rintro e w1 ⟨rfl, hb1⟩
    have B1 := hide (below0 (unhide B0) hb1)
    obtain ⟨m0, m1, m2, m3⟩ := (unhide M0).below hb1
    clear hb1 HN M0 B0
    go_wp2_with fail
    refine (unhide HRN _).mono ?_
    rintro e w2 ⟨rfl, hb2⟩
    have B2 := hide (below0 (unhide B1) hb2)
    have hA := below_new w2 (.cells #[.int .i64 0, .int .i64 0, .int .i64 0, .int .i64 0, .slice none 0 0] 30)
    have B3 := hide (below0 (unhide B2) hA)
    clear m0 m1 m2 m3 hb2 B1 B2 hA HRN
    go_wp2_with fail
    refine (awake_any _ ((unhide HP).below (unhide B3))).mono ?_
    rintro e w9 ⟨rfl, hb9⟩
    have B9 := hide (below0 (unhide B3) hb9)
    clear hb9 B3
    go_wp2
    go_ret
    exact ⟨rfl, unhide B9⟩
end Go.Proofs.YtigmckjjoabfeaaDoor
