/-
  The walks of the laws EncoderNone and EncoderNews: for every input, in every world that holds the table of soliton, each tells true and writes nothing that was there.
-/
import Derived.Test.YtigmckjjoabfeaaDoorM12
namespace Go.Proofs.YtigmckjjoabfeaaDoor
open Go.RowKit
set_option linter.unusedVariables false
set_option maxRecDepth 4000

/-- A block that holds what a source is made of. -/
def MdAt (w : World) (g : Nat) (o z p : Int) (s : ByteArray) : Prop :=
  w.cell? ⟨g, 0, none⟩ = some (.int .i64 o) ∧ w.cell? ⟨g, 1, none⟩ = some (.int .i64 z) ∧ w.cell? ⟨g, 2, none⟩ = some (.int .i64 p) ∧ w.cell? ⟨g, 3, none⟩ = some (.string s)
theorem md_new (w : World) (o z p : Int) (s : ByteArray) : MdAt (w.alloc (.cells #[.int .i64 o, .int .i64 z, .int .i64 p, .string s] 23)) w.heap.size o z p s := by
  refine ⟨?_, ?_, ?_, ?_⟩ <;> simp
theorem MdAt.below {w w' : World} {g : Nat} {o z p : Int} {s : ByteArray} (h : MdAt w g o z p s) (hb : Below w.heap.size w w') : MdAt w' g o z p s := by
  obtain ⟨h0, h1, h2, h3⟩ := h
  have e : ∀ o, w'.cell? ⟨g, o, none⟩ = w.cell? ⟨g, o, none⟩ := fun o => hb.cell (show g < w.heap.size from World.block_lt_of_cell? w ⟨g, 0, none⟩ h0)
  exact ⟨(e _).trans h0, (e _).trans h1, (e _).trans h2, (e _).trans h3⟩
theorem len_le {s : ByteArray} {Z : Nat} (hz1 : 1 ≤ Z) (hz2 : Z ≤ 64) (hk2 : kc s.size Z ≤ 128) : s.size ≤ kc s.size Z * Z := kc_enough s.size Z (by omega)
theorem same_self (o l k z h : Int) (xs : List Nat) (s : ByteArray) : TB true (SameP o l k z h xs s o l k z h xs s) := ⟨fun _ => ⟨⟨⟨rfl, rfl, rfl, rfl, rfl⟩, rfl⟩, cnt_of_zero _ (xorL_self_zero _)⟩, fun _ => rfl⟩
/-- Two packets that are the same, in whatever memory. -/
theorem rpsame_yes (o l k z h : Int) (a : Option Addr) (n c : Nat) (xs : List Nat) (s : ByteArray) (a' : Option Addr) (m c' : Nat) (w : World) (hr : RowAt w a n xs) (hr' : RowAt w a' m xs) (hn : n ≤ 1048576) :
    Calls Tryd.prog 15 #[.agg #[.int .i64 o, .int .i64 l, .int .i64 k, .int .i64 z, .int .i64 h, .slice a n c, .string s], .agg #[.int .i64 o, .int .i64 l, .int .i64 k, .int .i64 z, .int .i64 h, .slice a' m c', .string s]] w fun e w' => e = .returned (.bool true) ∧ Below w.heap.size w w' :=
  rpsame_any o l k z h a n c xs s o l k z h a' m c' xs s w hr hr' hn (by rw [← hr'.1, hr.1]; exact hn) true (same_self o l k z h xs s)

theorem RowAt.drawn {w w' : World} {gd B : Nat} {a : Option Addr} {n : Nat} {xs L : List Nat} {N : Nat} (h : RowAt w a n xs) (hg : w.grownBy w' (some gd)) (hd : DrAt w gd B L N) : RowAt w' a n xs := by
  obtain ⟨_, _, _, hb⟩ := hd.blk
  exact h.kept hg (hb.apart h)
theorem RowAt.drawnR {w w' : World} {gd B : Nat} {a : Option Addr} {n : Nat} {xs L : List Nat} {N : Nat} (h : RowAt w a n xs) (hg : w.grownBy w' (some gd)) (hd : RfAt w gd B L N) : RowAt w' a n xs := by
  obtain ⟨_, _, _, hb⟩ := hd.blk
  exact h.kept hg (hb.apart h)

set_option maxHeartbeats 4000000 in
theorem none_walk (o z p : Int) (s : ByteArray) (w : World) (ht : PTab w) (hs : s.size ≤ 9223372036854775807) :
    Calls Tryd.prog 7 #[.agg #[.int .i64 o, .int .i64 z, .int .i64 p, .string s]] w fun e w' => e = .returned (.bool true) ∧ Below w.heap.size w w' := by
  have M0 := hide (md_new w o z p s)
  have B0 := hide (below_new w (.cells #[.int .i64 o, .int .i64 z, .int .i64 p, .string s] 23))
  have HP := hide ht
  clear ht
  have HNW := hide (fun wx => new_any none 0 0 [] wx (row_none wx) (by omega))
  go_enter Tryd.func7, Tryd.ntmps7
  go_wp2_with fail
  refine (unhide HNW _).mono ?_
  rintro e w1 ⟨gd, rfl, hgd, hd1, hb1⟩
  have B1 := hide (below0 (unhide B0) hb1)
  have M1 := hide ((unhide M0).below hb1)
  clear hd1 hgd hb1 M0 B0
  go_wp2_with fail
  refine (emit_nil _ w1).mono ?_
  rintro e w2 ⟨rfl, hb2⟩
  have B2 := hide (below0 (unhide B1) hb2)
  have M2 := hide ((unhide M1).below hb2)
  clear hb2 M1 B1
  go_wp2_with fail
  refine (rpsame_yes 0 0 0 0 0 none 0 0 [] ⟨#[]⟩ none 0 0 w2 (row_none _) (row_none _) (by omega)).mono ?_
  rintro e w3 ⟨rfl, hb3⟩
  have B3 := hide (below0 (unhide B2) hb3)
  have M3 := hide ((unhide M2).below hb3)
  clear hb3 M2 B2
  go_wp2_with fail
  refine (eblocks_nil w3).mono ?_
  rintro e w' ⟨rfl, hw⟩
  obtain rfl := hw.symm
  clear hw
  go_wp2_with fail
  refine (ek_nil w3).mono ?_
  rintro e w' ⟨rfl, hw⟩
  obtain rfl := hw.symm
  clear hw
  obtain ⟨m0, m1, m2, m3⟩ := unhide M3
  by_cases hE : newE o s.size z p = 0
  · obtain ⟨O, Z, Q, rfl, hO, rfl, rfl, hz1, hz2, hk2⟩ := newE_yes hE
    have HN := hide (new_yes O s Z Q w3 hO hz1 hz2 hk2)
    clear hE
    go_wp2_with fail
    refine (unhide HN).mono ?_
    rintro e w4 ⟨g, rfl, hs4, hb4⟩
    have B4 := hide (below0 (unhide B3) hb4)
    have S4 := hide hs4
    have hkp := kc_pos s.size Z
    have HL := hide (blocksL_length (tx s) Z (kc s.size Z))
    have HSH := hide (shorts_blocks (tx s) Z (kc s.size Z) hz2)
    have hsz : min Q (kc s.size Z) ≤ kc s.size Z := Nat.min_le_right _ _
    clear hs4 hb4 HN M3 m0 m1 m2 m3 B3
    generalize blocksL (tx s) Z (kc s.size Z) = ss at *
    generalize min Q (kc s.size Z) = M at *
    generalize kc s.size Z = k at *
    have hm2 := sizeOfK_le (k : Int)
    have HEN := hide (fun wx hp ht => emit_none g (O : Int) (s.size : Int) (Z : Int) M k ss wx hp (unhide HL) hkp hk2 hsz (unhide HSH) ht)
    have HEM := hide (fun gd B wx hp ht hd hB => emit_any g gd B (O : Int) (s.size : Int) (Z : Int) M k ss [] 0 wx hp (unhide HL) hkp hk2 hsz (unhide HSH) ht hd hB (by omega))
    clear HL HSH
    generalize vecL k M [] 0 = vs at *
    generalize nextN k M [] 0 = nn at *
    generalize st (ofL ss vs k) = dt at *
    generalize sizeOfK (k : Int) = m at *
    go_wp2_with fail
    refine (unhide HEN w4 (unhide S4) ((unhide HP).below (unhide B4))).mono ?_
    rintro e w5 ⟨a5, c5, rfl, hr5, hb5⟩
    have B5 := hide (below0 (unhide B4) hb5)
    have S5 := hide ((unhide S4).below hb5)
    have R5 := hide hr5
    clear hr5 hb5 S4 B4
    clear HEN
    go_wp2_with fail
    refine (unhide HNW _).mono ?_
    rintro e w6 ⟨ge, rfl, hgd, hd6, hb6⟩
    have B6 := hide (below0 (unhide B5) hb6)
    have S6 := hide ((unhide S5).below hb6)
    have R6 := hide ((unhide R5).below hb6)
    have D6 := hide hd6
    have hgw := Nat.le_trans (unhide B5).size hgd
    clear hd6 hb6 hgd S5 R5 B5
    go_wp2_with fail
    refine (unhide HEM ge _ w6 (unhide S6) ((unhide HP).below (unhide B6)) (unhide D6) (Nat.le_refl _)).mono ?_
    rintro e w7 ⟨a7, c7, rfl, hr7, -, hg7⟩
    have B7 := hide (below_gb (unhide B6) hg7 (unhide B6).size hgw)
    have R7 := hide ((unhide R6).drawn hg7 (unhide D6))
    have Q7 := hide hr7
    clear hr7 hg7 R6 D6 S6 B6 HEM
    go_wp2_with fail
    refine (rpsame_yes _ _ _ _ _ a5 m c5 vs dt a7 m c7 w7 (unhide R7) (unhide Q7) (by omega)).mono ?_
    rintro e w8 ⟨rfl, hb8⟩
    have B8 := hide (below0 (unhide B7) hb8)
    clear hb8 R7 Q7 B7
    go_wp2_with fail
    refine (awake_any w8 ((unhide HP).below (unhide B8))).mono ?_
    rintro e w9 ⟨rfl, hb9⟩
    have B9 := hide (below0 (unhide B8) hb9)
    clear hb9 B8
    go_wp2
    go_ret
    exact ⟨rfl, unhide B9⟩
  · have HN := hide (new_bad o s z p w3 hs hE)
    have hE' : (newE o s.size z p != 0) = true := bne_iff_ne.2 hE
    clear hE
    generalize newE o s.size z p = E0 at *
    go_wp2_with fail
    refine (unhide HN).mono ?_
    rintro e w4 ⟨rfl, hb4⟩
    have B4 := hide (below0 (unhide B3) hb4)
    clear hb4 HN M3 m0 m1 m2 m3 B3
    go_wp2_with fail
    refine (awake_any w4 ((unhide HP).below (unhide B4))).mono ?_
    rintro e w9 ⟨rfl, hb9⟩
    have B9 := hide (below0 (unhide B4) hb9)
    clear hb9 B4
    go_wp2
    go_ret
    exact ⟨rfl, unhide B9⟩

theorem texts_yes (a : Option Addr) (n c : Nat) (ss : List ByteArray) (a' : Option Addr) (n' c' : Nat) (w : World) (h : TextsAt w a n ss) (h' : TextsAt w a' n' ss) (hn : n ≤ 1048576) :
    Calls Tryd.prog 10 #[.slice a n c, .slice a' n' c'] w fun e w' => e = .returned (.bool true) ∧ Below w.heap.size w w' := by
  refine (texts_any a n c ss a' n' c' ss w h h' hn (by rw [← h'.1, h.1]; exact hn)).mono ?_
  rintro e w' ⟨rfl, d, rfl⟩
  exact ⟨ret_bool (by simp), below_drewN (Below.refl _ _) d⟩

set_option maxHeartbeats 4000000 in
theorem news_walk (o z p : Int) (s : ByteArray) (w : World) (ht : PTab w) (hs : s.size ≤ 9223372036854775807) :
    Calls Tryd.prog 3 #[.agg #[.int .i64 o, .int .i64 z, .int .i64 p, .string s]] w fun e w' => e = .returned (.bool true) ∧ Below w.heap.size w w' := by
  have m0 := md_new w o z p s
  have M0 := hide m0
  have B0 := hide (below_new w (.cells #[.int .i64 o, .int .i64 z, .int .i64 p, .string s] 23))
  have HP := hide ht
  clear ht
  by_cases hE : newE o s.size z p = 0
  · obtain ⟨O, Z, Q, rfl, hO, rfl, rfl, hz1, hz2, hk2⟩ := newE_yes hE
    have HN := hide (fun wx => new_yes O s Z Q wx hO hz1 hz2 hk2)
    have HRN := hide (fun wx => rnew_yes O s Z Q wx hO hz1 hz2 hk2)
    have HL := hide (blocksL_length (tx s) Z (kc s.size Z))
    have HSH := hide (shorts_blocks (tx s) Z (kc s.size Z) hz2)
    clear hE m0
    generalize blocksL (tx s) Z (kc s.size Z) = ss at *
    generalize min Q (kc s.size Z) = M at *
    generalize kc s.size Z = k at *
    go_enter Tryd.func3, Tryd.ntmps3
    go_wp2_with fail
    refine (unhide HN _).mono ?_
    rintro e w1 ⟨g, rfl, hs1, hb1⟩
    have B1 := hide (below0 (unhide B0) hb1)
    have S1 := hide hs1
    obtain ⟨m0, m1, m2, m3⟩ := (unhide M0).below hb1
    clear hs1 hb1 HN M0 B0
    go_wp2_with fail
    refine (unhide HRN _).mono ?_
    rintro e w2 ⟨a2, c2, rfl, ht2, hb2⟩
    have B2 := hide (below0 (unhide B1) hb2)
    have S2 := hide ((unhide S1).below hb2)
    have hA := below_new w2 (.cells #[.int .i64 (O : Int), .int .i64 (s.size : Int), .int .i64 (Z : Int), .int .i64 (M : Int), .slice a2 k c2] 30)
    have B3 := hide (below0 (unhide B2) hA)
    have S3 := hide ((unhide S2).below hA)
    have T3 := hide (ht2.below hA)
    obtain ⟨-, -, -, -, r4⟩ := (rsb_new w2 (.int .i64 (O : Int)) (.int .i64 (s.size : Int)) (.int .i64 (Z : Int)) (.int .i64 (M : Int)) (.slice a2 k c2)).cells
    clear m0 m1 m2 m3 hb2 ht2 S1 B1 S2 B2 hA HRN
    go_wp2_with fail
    generalize w2.alloc (.cells #[.int .i64 (O : Int), .int .i64 (s.size : Int), .int .i64 (Z : Int), .int .i64 (M : Int), .slice a2 k c2] 30) = W at *
    generalize w2.heap.size = r at *
    have HLE := hide (show ∀ wx, Below W.heap.size W wx → wx.cell? ⟨r, 4, none⟩ = some (.slice a2 k c2) from fun wx hb => (hb.cell (World.block_lt_of_cell? W ⟨r, 4, none⟩ r4)).trans r4)
    have HBK := hide (fun wx (hb : Below W.heap.size W wx) => eblocks_any g _ _ _ M ss wx ((unhide S3).below hb) (unhide HSH) (by rw [unhide HL]; exact hk2))
    have HEK := hide (fun wx (hb : Below W.heap.size W wx) => ek_any g _ _ _ M ss wx ((unhide S3).below hb))
    rw [unhide HL] at HEK
    have HTX := hide (fun wx v (hb : Below W.heap.size W wx) (ho : OwnT wx W.heap.size v ss) => by
      obtain ⟨a5, c5, hv, h5⟩ := ho.texts
      exact (show ∃ a5 c5, v = .slice a5 k c5 ∧ Calls Tryd.prog 10 #[.slice a5 k c5, .slice a2 k c2] wx fun e w' => e = .returned (.bool true) ∧ Below wx.heap.size wx w' from
        ⟨a5, c5, by rw [hv, unhide HL], by rw [unhide HL] at h5; exact texts_yes a5 k c5 ss a2 k c2 wx h5 ((unhide T3).below hb) (by omega)⟩))
    have HAW := hide (fun wx (hb : Below W.heap.size W wx) => awake_any wx ((unhide HP).below (below0 (unhide B3) hb)))
    clear S3 T3 HP HSH HL
    go_region_held (fun w' => w'.cell? ⟨r, 4, none⟩ = some (.slice a2 k c2)) (go_keep)
      (first
        | (go_at_call 11; refine (unhide HBK _ (Below.refl _ _).drew).mono ?_; rintro e w3 ⟨v3, rfl, ho3, hb3⟩; have C3 := hide ((Below.refl W.heap.size W).drew.trans hb3); obtain ⟨a5, c5, rfl, htx⟩ := unhide HTX w3 v3 (unhide C3) ho3; have HT3 := hide htx; have q3 := unhide HLE _ (unhide C3); clear ho3 hb3 htx)
        | (go_at_call 10; refine (unhide HT3).mono ?_; rintro e w4 ⟨rfl, hb4⟩; have C4 := hide (below0 (unhide C3) hb4); have q4 := unhide HLE _ (unhide C4); clear hb4)
        | (go_at_call 12; refine (unhide HEK _ (unhide C4)).mono ?_; rintro e w' ⟨rfl, hw⟩; obtain rfl := hw.symm; clear hw)
        | (go_at_call 13; refine (unhide HAW _ (unhide C4)).mono ?_; rintro e w5 ⟨rfl, hb5⟩; have C5 := hide (below0 (unhide C4) hb5); have q5 := unhide HLE _ (unhide C5); clear hb5))
    all_goals go_wp2
    all_goals go_ret
    all_goals exact ⟨rfl, below0 (unhide B3) (unhide C5)⟩
  · have HN := hide (fun wx => new_bad o s z p wx hs hE)
    have HRN := hide (fun wx => rnew_bad o s z p wx hs hE)
    have hE' : (newE o s.size z p != 0) = true := bne_iff_ne.2 hE
    clear hE m0
    generalize newE o s.size z p = E0 at *
    go_enter Tryd.func3, Tryd.ntmps3
    go_wp2_with fail
    refine (unhide HN _).mono ?_
    rintro e w1 ⟨rfl, hb1⟩
    have B1 := hide (below0 (unhide B0) hb1)
    obtain ⟨m0, m1, m2, m3⟩ := (unhide M0).below hb1
    clear hb1 HN M0 B0
    go_wp2_with fail
    refine (unhide HRN _).mono ?_
    rintro e w2 ⟨rfl, hb2⟩
    have B2 := hide (below0 (unhide B1) hb2)
    have hA := below_new w2 (.cells #[.int .i64 0, .int .i64 0, .int .i64 0, .int .i64 0, .slice none 0 0] 30)
    have B3 := hide (below0 (unhide B2) hA)
    obtain ⟨-, -, -, -, r4⟩ := (rsb_new w2 (.int .i64 0) (.int .i64 0) (.int .i64 0) (.int .i64 0) (.slice none 0 0)).cells
    clear m0 m1 m2 m3 hb2 B1 B2 hA HRN
    go_wp2_with fail
    generalize w2.alloc (.cells #[.int .i64 0, .int .i64 0, .int .i64 0, .int .i64 0, .slice none 0 0] 30) = W at *
    generalize w2.heap.size = r at *
    have HLE := hide (show ∀ wx, Below W.heap.size W wx → wx.cell? ⟨r, 4, none⟩ = some (.slice none 0 0) from fun wx hb => (hb.cell (World.block_lt_of_cell? W ⟨r, 4, none⟩ r4)).trans r4)
    have HTX := hide (fun wx => texts_yes none 0 0 [] none 0 0 wx (TextsAt.none _) (TextsAt.none _) (by omega))
    have HAW := hide (fun wx (hb : Below W.heap.size W wx) => awake_any wx ((unhide HP).below (below0 (unhide B3) hb)))
    have C3 := hide ((Below.refl W.heap.size W).drew)
    clear HP
    go_region_held (fun w' => w'.cell? ⟨r, 4, none⟩ = some (.slice none 0 0)) (go_keep)
      (first
        | (go_at_call 11; refine (eblocks_nil _).mono ?_; rintro e w' ⟨rfl, hw⟩; obtain rfl := hw.symm; clear hw)
        | (go_at_call 10; refine (unhide HTX _).mono ?_; rintro e w4 ⟨rfl, hb4⟩; have C4 := hide (below0 (unhide C3) hb4); have q4 := unhide HLE _ (unhide C4); clear hb4)
        | (go_at_call 12; refine (ek_nil _).mono ?_; rintro e w' ⟨rfl, hw⟩; obtain rfl := hw.symm; clear hw)
        | (go_at_call 13; refine (unhide HAW _ (unhide C4)).mono ?_; rintro e w5 ⟨rfl, hb5⟩; have C5 := hide (below0 (unhide C4) hb5); have q5 := unhide HLE _ (unhide C5); clear hb5))
    all_goals go_wp2
    all_goals go_ret
    all_goals exact ⟨rfl, below0 (unhide B3) (unhide C5)⟩
end Go.Proofs.YtigmckjjoabfeaaDoor
