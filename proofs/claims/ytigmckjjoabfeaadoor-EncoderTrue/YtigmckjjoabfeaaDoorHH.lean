/-
  The walk of the law EncoderTrue: for every input, in every world that holds the table of soliton, it tells true and writes nothing that was there.
-/
import Derived.Test.YtigmckjjoabfeaaDoorM13
import Derived.Test.YtigmckjjoabfeaaDoorM3
namespace Go.Proofs.YtigmckjjoabfeaaDoor
open Go.RowKit
set_option linter.unusedVariables false
set_option maxRecDepth 4000

theorem zero_self (x : ByteArray) : zeroB (xorS x x) = true := by
  rw [zeroB_iff]
  intro i
  rw [tx_xorS, xorL_getD, Nat.xor_self]
/-- A row of just the xor that its bits say is true. -/
theorem holds_self (ss : List ByteArray) (vs : List Nat) (k : Nat) (hk : ss.length = k) (hv : ∀ i, k ≤ i → getB vs i = false) : holdsB ss vs (st (ofL ss vs k)) = true := by
  subst hk
  rw [holdsB_iff]
  exact ⟨zero_self _, hv⟩
theorem vecL_out (k s : Nat) (L : List Nat) (N : Nat) (h1 : 1 ≤ k) (h2 : k ≤ 128) (i : Nat) (hi : k ≤ i) : getB (vecL k s L N) i = false := (vecL_valid k s L N h1 h2).2.2 i (by simpa using hi)
theorem rcheck_yes (o l k z h : Int) (a : Option Addr) (n c : Nat) (xs : List Nat) (s : ByteArray) (w : World) (hr : RowAt w a n xs) (hc : CheckP o l k z h xs s.size) :
    Calls Tryd.prog 19 #[.agg #[.int .i64 o, .int .i64 l, .int .i64 k, .int .i64 z, .int .i64 h, .slice a n c, .string s]] w fun e w' => e = .returned (.int .i64 0) ∧ Below w.heap.size w w' :=
  rcheck_any o l k z h a n c xs s w hr 0 (.inl ⟨hc, rfl⟩)
/-- A source and draws of which some were used. -/
def TrJ (w0 w : World) (g gd B : Nat) (o l z : Int) (M : Nat) (ss : List ByteArray) (L : List Nat) (N : Nat) : Prop := SrcAt w g o l z M ss ∧ DrAt w gd B L N ∧ Below w0.heap.size w0 w ∧ B ≤ w.heap.size
theorem TrJ.below {w0 w w' : World} {g gd B : Nat} {o l z : Int} {M : Nat} {ss : List ByteArray} {L : List Nat} {N : Nat} (h : TrJ w0 w g gd B o l z M ss L N) (hb : Below w.heap.size w w') : TrJ w0 w' g gd B o l z M ss L N :=
  ⟨h.1.below hb, h.2.1.below (hb.mono h.2.2.2), below0 h.2.2.1 hb, Nat.le_trans h.2.2.2 hb.size⟩
theorem TrJ.emit {w0 w w1 : World} {g gd B : Nat} {o l z : Int} {M : Nat} {ss : List ByteArray} {L : List Nat} {N N' : Nat} (h : TrJ w0 w g gd B o l z M ss L N) (hg : w.grownBy w1 (some gd)) (hd : DrAt w1 gd B L N') (hgw : w0.heap.size ≤ gd) : TrJ w0 w1 g gd B o l z M ss L N' :=
  ⟨h.1.drawn hg h.2.1, hd, below_gb h.2.2.1 hg h.2.2.1.size hgw, Nat.le_trans h.2.2.2 hg.size⟩

set_option maxHeartbeats 4000000 in
theorem true_walk (o z p : Int) (s : ByteArray) (a : Option Addr) (len cap : Nat) (xs : List Nat) (w : World) (ht : PTab w) (hs : s.size ≤ 9223372036854775807) (hr : RowAt w a len xs) (hm : len ≤ 9223372036854775807) :
    Calls Tryd.prog 5 #[.agg #[.int .i64 o, .int .i64 z, .int .i64 p, .string s], .slice a len cap] w fun e w' => e = .returned (.bool true) ∧ Below w.heap.size w w' := by
  have m0 := md_new w o z p s
  have M0 := hide m0
  have B0 := hide (below_new w (.cells #[.int .i64 o, .int .i64 z, .int .i64 p, .string s] 23))
  have HP := hide ht
  have HR := hide (row_alloc hr (.cells #[.int .i64 o, .int .i64 z, .int .i64 p, .string s] 23))
  clear ht hr m0
  by_cases hE : newE o s.size z p = 0
  · obtain ⟨O, Z, Q, rfl, hO, rfl, rfl, hz1, hz2, hk2⟩ := newE_yes hE
    have HN := hide (fun wx => new_yes O s Z Q wx hO hz1 hz2 hk2)
    have HL := hide (blocksL_length (tx s) Z (kc s.size Z))
    have HSH := hide (shorts_blocks (tx s) Z (kc s.size Z) hz2)
    have hkp := kc_pos s.size Z
    have hsz : min Q (kc s.size Z) ≤ kc s.size Z := Nat.min_le_right _ _
    have HCK := hide (fun N => emit_ok O s.size Z (kc s.size Z) (min Q (kc s.size Z)) (tx s) xs N hO hz1 hz2 hkp hk2 (by omega) (kc_enough s.size Z (by omega)))
    have HHO := hide (fun N => holds_self (blocksL (tx s) Z (kc s.size Z)) (vecL (kc s.size Z) (min Q (kc s.size Z)) xs N) (kc s.size Z) (unhide HL) (vecL_out _ _ _ _ hkp hk2))
    have HDZ := hide (fun N => of_size (tx s) Z (kc s.size Z) (min Q (kc s.size Z)) xs N hkp hk2 (by omega))
    clear hE
    generalize blocksL (tx s) Z (kc s.size Z) = ss at *
    generalize min Q (kc s.size Z) = M at *
    generalize kc s.size Z = k at *
    by_cases hl : 300 < len
    · have hl' : (300 : Int) < (len : Int) := by omega
      clear HR
      go_enter Tryd.func5, Tryd.ntmps5
      go_wp2_with fail
      refine (unhide HN _).mono ?_
      rintro e w1 ⟨g, rfl, hs1, hb1⟩
      have B1 := hide (below0 (unhide B0) hb1)
      clear hs1 hb1 HN M0 B0
      go_wp2_with fail
      refine (awake_any _ ((unhide HP).below (unhide B1))).mono ?_
      rintro e w9 ⟨rfl, hb9⟩
      have B9 := hide (below0 (unhide B1) hb9)
      clear hb9 B1
      go_wp2
      go_ret
      exact ⟨rfl, unhide B9⟩
    have hl' : ¬ ((300 : Int) < (len : Int)) := by omega
    go_enter Tryd.func5, Tryd.ntmps5
    go_wp2_with fail
    refine (unhide HN _).mono ?_
    rintro e w1 ⟨g, rfl, hs1, hb1⟩
    have B1 := hide (below0 (unhide B0) hb1)
    have S1 := hide hs1
    have HNW := hide (new_any a len cap xs w1 ((unhide HR).below hb1) (by omega))
    clear hs1 hb1 HN M0 B0 HR
    go_wp2_with fail
    refine (unhide HNW).mono ?_
    rintro e w2 ⟨gd, rfl, hgd, hd2, hb2⟩
    have J := hide (show TrJ w w2 g gd w2.heap.size (O : Int) (s.size : Int) (Z : Int) M ss xs 0 from ⟨(unhide S1).below hb2, hd2, below0 (unhide B1) hb2, Nat.le_refl _⟩)
    have hgw : w.heap.size ≤ gd := Nat.le_trans (unhide B1).size hgd
    clear hgd hd2 hb2 S1 B1 HNW
    generalize w2.heap.size = B at *
    go_wp2_with fail
    go_loopw [8] (fun i wr => ∃ q : Nat, q ≤ 4 ∧ i = .int .i64 q ∧ Hid (∃ N, N ≤ q * 129 ∧ TrJ w wr g gd B (O : Int) (s.size : Int) (Z : Int) M ss xs N)) (fun i _ => 4 - (intOf i).toNat)
    case atStart => exact ⟨0, Nat.zero_le _, rfl, hide ⟨0, Nat.zero_le _, unhide J⟩⟩
    case round =>
      rename_i wr
      obtain ⟨q, hq, rfl, HQ⟩ := hrel
      clear J
      obtain ⟨N, hN, hJ⟩ := unhide HQ
      clear HQ
      have J := hide hJ
      clear hJ
      by_cases hlt : q < 4
      · have hlt' : (q : Int) < 4 := by omega
        have hN2 : N ≤ 2580 := by omega
        have hdin := degL_in k M xs N hkp (by omega)
        have HEM := hide (emit_any g gd B (O : Int) (s.size : Int) (Z : Int) M k ss xs N wr (unhide J).1 (unhide HL) hkp hk2 hsz (unhide HSH) ((unhide HP).below (unhide J).2.2.1) (unhide J).2.1 (unhide J).2.2.2 (by omega))
        have HNB := hide (show nextN k M xs N ≤ (q + 1) * 129 from by unfold nextN; omega)
        have hm2 := sizeOfK_le (k : Int)
        have HC1 := hide (unhide HCK N)
        have HH1 := hide (unhide HHO N)
        have hdz := unhide HDZ N
        clear hdin
        generalize vecL k M xs N = vs at *
        generalize nextN k M xs N = nn at *
        generalize st (ofL ss vs k) = dt at *
        generalize sizeOfK (k : Int) = m at *
        go_wp2_with fail
        refine (unhide HEM).mono ?_
        rintro e w5 ⟨a5, c5, rfl, hr5, hd5, hg5⟩
        have hA := below_new w5 (.cells #[.int .i64 (O : Int), .int .i64 (s.size : Int), .int .i64 (k : Int), .int .i64 (Z : Int), .int .i64 0, .slice a5 m c5, .string dt] 48)
        have J6 := hide (((unhide J).emit hg5 hd5 hgw).below hA)
        have R6 := hide (hr5.below hA)
        have x6 := pkb_new w5 (.int .i64 (O : Int)) (.int .i64 (s.size : Int)) (.int .i64 (k : Int)) (.int .i64 (Z : Int)) (.int .i64 0) (.slice a5 m c5) (.string dt)
        clear hA hr5 hd5 hg5 HEM J
        go_wp2_with fail
        generalize w5.alloc (.cells #[.int .i64 (O : Int), .int .i64 (s.size : Int), .int .i64 (k : Int), .int .i64 (Z : Int), .int .i64 0, .slice a5 m c5, .string dt] 48) = W at *
        generalize w5.heap.size = r at *
        obtain ⟨y0, y1, y2, y3, y4, y5, y6⟩ := x6.at
        have HX := hide (fun wx (hb : Below W.heap.size W wx) => (x6.below hb).at)
        have HCH := hide (fun wx (hb : Below W.heap.size W wx) => rcheck_yes (O : Int) (s.size : Int) (k : Int) (Z : Int) 0 a5 m c5 vs dt wx ((unhide R6).below hb) (unhide HC1))
        have HEK := hide (fun wx (hb : Below W.heap.size W wx) => ek_any g _ _ _ M ss wx ((unhide J6).1.below hb))
        rw [unhide HL] at HEK
        have HBK := hide (fun wx (hb : Below W.heap.size W wx) => eblocks_any g _ _ _ M ss wx ((unhide J6).1.below hb) (unhide HSH) (by rw [unhide HL]; exact hk2))
        have HHD := hide (fun wx v (hb : Below W.heap.size W wx) (B' : Nat) (ho : OwnT wx B' v ss) => by
          obtain ⟨a7, c7, hv, h7⟩ := ho.texts
          rw [unhide HL] at hv h7
          have hq := rholds_any a7 k c7 ss a5 m c5 vs dt wx h7 (unhide HSH) (by omega) ((unhide R6).below hb) (by omega) (by omega)
          rw [unhide HH1] at hq
          exact (show ∃ a7 c7, v = .slice a7 k c7 ∧ Calls Tryd.prog 20 #[.slice a7 k c7, .agg #[.slice a5 m c5, .string dt]] wx fun e w' => e = .returned (.bool true) ∧ Below wx.heap.size wx w' from ⟨a7, c7, hv, hq⟩))
        clear x6 hdz HC1 HH1 HCK HHO HDZ R6
        have C0 := hide (Below.refl W.heap.size W).drew
        go_region_held (fun w' => w'.cell? ⟨r, 0, none⟩ = some (.int .i64 (O : Int)) ∧ w'.cell? ⟨r, 1, none⟩ = some (.int .i64 (s.size : Int)) ∧ w'.cell? ⟨r, 2, none⟩ = some (.int .i64 (k : Int)) ∧ w'.cell? ⟨r, 3, none⟩ = some (.int .i64 (Z : Int)) ∧ w'.cell? ⟨r, 4, none⟩ = some (.int .i64 0) ∧ w'.cell? ⟨r, 5, none⟩ = some (.slice a5 m c5) ∧ w'.cell? ⟨r, 6, none⟩ = some (.string dt)) (go_keep)
          (first
            | (go_at_call 19; refine (unhide HCH _ (unhide C0)).mono ?_; rintro e w6 ⟨rfl, hb6⟩; have C6 := hide (below0 (unhide C0) hb6); obtain ⟨u0, u1, u2, u3, u4, u5, u6⟩ := unhide HX _ (unhide C6); clear hb6)
            | (go_at_call 12; refine (unhide HEK _ (unhide C6)).mono ?_; rintro e w' ⟨rfl, hw⟩; obtain rfl := hw.symm; clear hw)
            | (go_at_call 11; refine (unhide HBK _ (unhide C6)).mono ?_; rintro e w7 ⟨v7, rfl, ho7, hb7⟩; have C7 := hide (below0 (unhide C6) hb7); obtain ⟨a7, c7, rfl, hh7⟩ := unhide HHD w7 v7 (unhide C7) _ ho7; have HH7 := hide hh7; obtain ⟨t0, t1, t2, t3, t4, t5, t6⟩ := unhide HX _ (unhide C7); clear hb7 ho7 hh7)
            | (go_at_call 20; refine (unhide HH7).mono ?_; rintro e w8 ⟨rfl, hb8⟩; have C8 := hide (below0 (unhide C7) hb8); obtain ⟨x0, x1, x2, x3, x4, x5, x6⟩ := unhide HX _ (unhide C8); clear hb8))
        all_goals go_wp2
        go_roundw
        case rel => exact ⟨q + 1, by omega, by go_num, hide ⟨nn, unhide HNB, (unhide J6).below (unhide C8)⟩⟩
        case measure => simp [intOf]; omega
      · have hlt' : ¬ ((q : Int) < 4) := by omega
        go_wp2_with fail
        refine (awake_any wr ((unhide HP).below (unhide J).2.2.1)).mono ?_
        rintro e w9 ⟨rfl, hb9⟩
        have B9 := hide (below0 (unhide J).2.2.1 hb9)
        clear hb9 J
        go_wp2
        go_ret
        exact ⟨rfl, unhide B9⟩
  · have HN := hide (fun wx => new_bad o s z p wx hs hE)
    have hE' : (newE o s.size z p != 0) = true := bne_iff_ne.2 hE
    clear hE
    generalize newE o s.size z p = E0 at *
    go_enter Tryd.func5, Tryd.ntmps5
    go_wp2_with fail
    refine (unhide HN _).mono ?_
    rintro e w1 ⟨rfl, hb1⟩
    have B1 := hide (below0 (unhide B0) hb1)
    clear hb1 HN M0 B0
    go_wp2_with fail
    refine (awake_any _ ((unhide HP).below (unhide B1))).mono ?_
    rintro e w9 ⟨rfl, hb9⟩
    have B9 := hide (below0 (unhide B1) hb9)
    clear hb9 B1
    go_wp2
    go_ret
    exact ⟨rfl, unhide B9⟩
end Go.Proofs.YtigmckjjoabfeaaDoor
