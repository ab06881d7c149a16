/-
  Contract of recode.Mix. Conditions: at most 300 packets whose rows have at most 10 words and 1000 bytes, at most 300 places.
-/
import Derived.Test.YtbcgiodgobmkaaaGreatDoorU33
import Derived.OneCell
namespace Go.Proofs.YtbcgiodgobmkaaaGreatDoor
open Go.RowKit Go.Sort
set_option linter.unusedVariables false
set_option linter.unusedSimpArgs false
set_option maxRecDepth 4000

/-- No packet, by value. -/
def zeroV : Value := .agg #[.int .i64 0, .int .i64 0, .int .i64 0, .int .i64 0, .int .i64 0, .slice none 0 0, .string ⟨#[]⟩]
/-- What a Mix gives. -/
def MixR (w w' : World) (o : Option PD) (e : Ending) : Prop := Below w.heap.size w w' ∧ match o with
  | none => e = .returned (.tuple #[zeroV, .bool false])
  | some d => ∃ q : PKV, q.pd = d ∧ e = .returned (.tuple #[q.val, .bool true]) ∧ Own w' w.heap.size (.slice q.r.a q.r.n q.r.c) q.r.xs
theorem MixR.no {w w' : World} {o : Option PD} (ho : o = none) (hb : Below w.heap.size w w') : MixR w w' o (.returned (.tuple #[zeroV, .bool false])) := by
  subst ho
  exact ⟨hb, rfl⟩
theorem MixR.yes {w w' : World} {o : Option PD} {d : PD} {q : PKV} (ho : o = some d) (hq : q.pd = d) (hb : Below w.heap.size w w') (hown : Own w' w.heap.size (.slice q.r.a q.r.n q.r.c) q.r.xs) : MixR w w' o (.returned (.tuple #[q.val, .bool true])) := by
  subst ho
  exact ⟨hb, q, hq, rfl, hown⟩
theorem Own.off {w : World} {B g : Nat} {v : Value} {xs : List Nat} (h : Own w B v xs) (hg : ∀ j, v.ownBlock = some j → j ≠ g) (i : Nat) (u : Value) : Own (w.setCell ⟨g, i, none⟩ u) B v xs := ⟨h.1, ownsRow_setCell_other h.2 (fun e => hg g e rfl) u⟩
theorem mix_res {X : World} {tmps : Array Value} {g : Nat} {o l k z h : Int} {a : Option Addr} {n c : Nat} {s : ByteArray} {b : Bool} (ht : tmps.getD 4 undef = .pointer (some ⟨g, 0, none⟩)) (h5 : tmps.getD 5 undef = .bool b) (hk : PkB X g (.int .i64 o) (.int .i64 l) (.int .i64 k) (.int .i64 z) (.int .i64 h) (.slice a n c) (.string s)) :
    (results Tryz.f28 tmps).run Tryz.prog X = .ok (.tuple #[.agg #[.int .i64 o, .int .i64 l, .int .i64 k, .int .i64 z, .int .i64 h, .slice a n c, .string s], .bool b]) X := by
  obtain ⟨r0, r1, r2, r3, r4, r5, r6⟩ := hk.at
  have ht' : tmps[4]?.getD undef = .pointer (some ⟨g, 0, none⟩) := by simpa using ht
  have h5' : tmps[5]?.getD undef = .bool b := by simpa using h5
  simp [results, Tryz.results28, go_sem, ht', h5', r0, r1, r2, r3, r4, r5, r6]
theorem Own.all7 {w : World} {B g : Nat} {v : Value} {xs : List Nat} (h : Own w B v xs) (hg : g < B) (u0 u1 u2 u3 u4 u5 u6 : Value) : Own (set7 w g u0 u1 u2 u3 u4 u5 u6) B v xs :=
  ((((((h.other 0 u0 hg).other 1 u1 hg).other 2 u2 hg).other 3 u3 hg).other 4 u4 hg).other 5 u5 hg).other 6 u6 hg

set_option maxHeartbeats 16000000 in
theorem mix18_any (a : Option Addr) (n c : Nat) (ps : List PKV) (a' : Option Addr) (m c' : Nat) (ws : List Int) (w : World) (ht : Tab w) (h : PksAt w a n ps) (hk : KsIn w ps) (hs : shortP ps) (hw : IntzAt w a' m ws) (hn : n ≤ 300) (hm : m ≤ 300) :
    Calls Tryz.prog 28 #[.slice a n c, .slice a' m c'] w fun e w' => MixR w w' (mixD (ps.map PKV.pd) ws) e := by
  have hb0 := (Below.refl w.heap.size w).alloc (Nat.le_refl _) (.cells #[.int .i64 0, .int .i64 0, .int .i64 0, .int .i64 0, .int .i64 0, .slice none 0 0, .string ⟨#[]⟩] 42)
  have hz := pkb_new w (.int .i64 0) (.int .i64 0) (.int .i64 0) (.int .i64 0) (.int .i64 0) (.slice none 0 0) (.string ⟨#[]⟩)
  have hsz : (w.alloc (.cells #[.int .i64 0, .int .i64 0, .int .i64 0, .int .i64 0, .int .i64 0, .slice none 0 0, .string ⟨#[]⟩] 42)).heap.size = w.heap.size + 1 := by simp
  have hsub : ∀ p ∈ atL .dflt ps ws, p ∈ ps := fun p hp => selL_mem (atL_mem.1 hp)
  have hlen : (atL .dflt ps ws).length ≤ 300 := by have h1 := atL_len (dd := .dflt) ps ws; have h2 := hw.1; omega
  have hmix : mixD (ps.map PKV.pd) ws = mixL ((atL .dflt ps ws).map PKV.pd) := by rw [atL_map]; exact (mix_at _ _).symm
  have hsh : ∀ p ∈ atL .dflt ps ws, p.r.n ≤ 10 ∧ p.r.s.size ≤ 1000 := fun p hp => shortP_mem hs (hsub p hp)
  have hmc := mix_case (us := atL .dflt ps ws)
  have hvl : (vecL (rowsK (atL .dflt ps ws))).length ≤ 10 := vecs_short (KsIn.rows (hk.sub hsub)) (shortP_rows hsh)
  generalize hWW : w.alloc (.cells #[.int .i64 0, .int .i64 0, .int .i64 0, .int .i64 0, .int .i64 0, .slice none 0 0, .string ⟨#[]⟩] 42) = W at *
  have HAT := hide (atP_any a n c ps a' m c' ws W (h.below hb0) (hw.below hb0) hn hm)
  have HKI := hide ((hk.sub hsub).below hb0)
  have HTB := hide (ht.below hb0)
  have HZ := hide hz
  have HB0 := hide hb0
  have HSZ := hide hsz
  have HSH := hide hsh
  rw [hmix]
  clear h hk hs hw hb0 hz hsz hsub hsh hmix ht
  generalize atL .dflt ps ws = us at *
  have hul : us.length ≤ 1048576 := by omega
  by_cases hpos : 0 < us.length
  · have hpos' : ¬ ((us.length : Int) = 0) := by omega
    have hpos2 : (0 : Int) < (us.length : Int) := by omega
    have HMC := hide (hmc hpos)
    have HFA := hide (fun wx a1 m1 c1 (hp : PksAt wx a1 m1 us) (h1 : 0 < m1) (h2 : m1 ≤ 1048576) => farthest_any a1 m1 c1 us wx hp h1 h2)
    have HMX := hide (fun wx a1 m1 c1 (hp : PksAt wx a1 m1 us) (hk : KsIn wx us) => mixed_any a1 m1 c1 us wx hp hk (unhide HSH) (by rw [← hp.1]; exact hlen))
    have HCV := hide (fun wx a1 m1 c1 (hp : RowAt wx a1 m1 (vecL (rowsK us))) (hm : m1 ≤ 1048576) => count_any a1 m1 c1 (vecL (rowsK us)) wx hp hm)
    clear hmc
    generalize hopX (us.map PKV.pd) = HO at *
    generalize mixL (us.map PKV.pd) = o at *
    generalize vecL (rowsK us) = V at *
    generalize st (sumL ((rowsK us).map fun r => r.s)) = S at *
    generalize cnt V = CV at *
    cases hal : allK us
    · have HNO : Hid (o = none) := hide (by rw [unhide HMC, if_neg (fun e => absurd (hal.symm.trans e.1) (by decide))])
      clear HMC
      go_enter Tryz.func28, Tryz.ntmps28
      go_wp2_with (first
        | (go_at_call 48; refine (unhide HAT).mono ?_; rintro e w1 ⟨v1, rfl, ho1, hb1⟩; obtain ⟨a1, m1, c1, rfl⟩ : ∃ a m c, v1 = Value.slice a m c := ⟨_, _, _, ho1.shape.choose_spec.choose_spec⟩; obtain ⟨hp1, hm1, hc1, hd1⟩ := ho1.at' ((unhide HKI).below hb1); have hq1 : 0 < m1 := (by omega); have hq2 : m1 ≤ 1048576 := (by omega); have hq3 : ¬ (m1 : Int) = 0 := (by omega); have hq4 : (0 : Int) < (m1 : Int) := (by omega); have hq5 : ((m1 : Int) == 0) = false := beq_eq_false_iff_ne.2 hq3; clear hm1; have HP1 := hide hp1; have HB1 := hide hb1; have HT1 := hide ((unhide HTB).below hb1); have HZ1 := hide ((unhide HZ).below hb1); clear ho1 hb1 hp1 HAT)
        | (go_at_call 49; refine (alike18_any a1 m1 c1 us w1 (unhide HT1) (unhide HP1) hq1 hq2).mono ?_; rintro e w2 ⟨rfl, hb2⟩; rw [hal]; have HB2 := hide (below0 (unhide HB1) hb2); have HP2 := hide ((unhide HP1).below hb2); have HZ2 := hide ((unhide HZ1).below hb2); clear hb2; obtain ⟨y0, y1, y2, y3, y4, y5, y6⟩ := (unhide HZ2).at; have gz := (unhide HZ2).frz))
      exact bodyPost_ret (mix_res (g := w.heap.size) (X := set7 w2 w.heap.size (.int .i64 0) (.int .i64 0) (.int .i64 0) (.int .i64 0) (.int .i64 0) (.slice none 0 0) (.string ⟨#[]⟩)) rfl rfl ((unhide HZ2).sets _ _ _ _ _ _ _)) rfl (MixR.no (unhide HNO) (below7 ((unhide HB0).trans ((unhide HB2).mono (by have := unhide HSZ; omega))) (Nat.le_refl _) _ _ _ _ _ _ _))
    · by_cases hh : 15 ≤ HO
      · have HNO : Hid (o = none) := hide (by rw [unhide HMC, if_neg (fun e => absurd e.2.2 (by omega))])
        clear HMC
        go_enter Tryz.func28, Tryz.ntmps28
        go_wp2_with (first
          | (go_at_call 48; refine (unhide HAT).mono ?_; rintro e w1 ⟨v1, rfl, ho1, hb1⟩; obtain ⟨a1, m1, c1, rfl⟩ : ∃ a m c, v1 = Value.slice a m c := ⟨_, _, _, ho1.shape.choose_spec.choose_spec⟩; obtain ⟨hp1, hm1, hc1, hd1⟩ := ho1.at' ((unhide HKI).below hb1); have hq1 : 0 < m1 := (by omega); have hq2 : m1 ≤ 1048576 := (by omega); have hq3 : ¬ (m1 : Int) = 0 := (by omega); have hq4 : (0 : Int) < (m1 : Int) := (by omega); have hq5 : ((m1 : Int) == 0) = false := beq_eq_false_iff_ne.2 hq3; clear hm1; have HP1 := hide hp1; have HB1 := hide hb1; have HT1 := hide ((unhide HTB).below hb1); have HZ1 := hide ((unhide HZ).below hb1); clear ho1 hb1 hp1 HAT)
          | (go_at_call 49; refine (alike18_any a1 m1 c1 us w1 (unhide HT1) (unhide HP1) hq1 hq2).mono ?_; rintro e w2 ⟨rfl, hb2⟩; rw [hal]; have HB2 := hide (below0 (unhide HB1) hb2); have HP2 := hide ((unhide HP1).below hb2); have HZ2 := hide ((unhide HZ1).below hb2); clear hb2)
          | (go_at_call 50; refine (unhide HFA w2 a1 m1 c1 (unhide HP2) hq1 hq2).mono ?_; rintro e w3 ⟨rfl, hb3⟩; have HB3 := hide (below0 (unhide HB2) hb3); have HP3 := hide ((unhide HP2).below hb3); have HZ3 := hide ((unhide HZ2).below hb3); clear hb3; obtain ⟨y0, y1, y2, y3, y4, y5, y6⟩ := (unhide HZ3).at; have gz := (unhide HZ3).frz))
        exact bodyPost_ret (mix_res (g := w.heap.size) (X := set7 w3 w.heap.size (.int .i64 0) (.int .i64 0) (.int .i64 0) (.int .i64 0) (.int .i64 0) (.slice none 0 0) (.string ⟨#[]⟩)) rfl rfl ((unhide HZ3).sets _ _ _ _ _ _ _)) rfl (MixR.no (unhide HNO) (below7 ((unhide HB0).trans ((unhide HB3).mono (by have := unhide HSZ; omega))) (Nat.le_refl _) _ _ _ _ _ _ _))
      · have hh' : decide (15 ≤ HO) = false := decide_eq_false hh
        by_cases hcv : CV = 0
        · have HNO : Hid (o = none) := hide (by rw [unhide HMC, if_neg (fun e => absurd e.2.1 (by omega))])
          have hcv' : (CV : Int) = 0 := by omega
          clear HMC
          go_enter Tryz.func28, Tryz.ntmps28
          go_wp2_with (first
            | (go_at_call 48; refine (unhide HAT).mono ?_; rintro e w1 ⟨v1, rfl, ho1, hb1⟩; obtain ⟨a1, m1, c1, rfl⟩ : ∃ a m c, v1 = Value.slice a m c := ⟨_, _, _, ho1.shape.choose_spec.choose_spec⟩; obtain ⟨hp1, hm1, hc1, hd1⟩ := ho1.at' ((unhide HKI).below hb1); have hq1 : 0 < m1 := (by omega); have hq2 : m1 ≤ 1048576 := (by omega); have hq3 : ¬ (m1 : Int) = 0 := (by omega); have hq4 : (0 : Int) < (m1 : Int) := (by omega); have hq5 : ((m1 : Int) == 0) = false := beq_eq_false_iff_ne.2 hq3; clear hm1; have HP1 := hide hp1; have HB1 := hide hb1; have HT1 := hide ((unhide HTB).below hb1); have HZ1 := hide ((unhide HZ).below hb1); clear ho1 hb1 hp1 HAT)
            | (go_at_call 49; refine (alike18_any a1 m1 c1 us w1 (unhide HT1) (unhide HP1) hq1 hq2).mono ?_; rintro e w2 ⟨rfl, hb2⟩; rw [hal]; have HB2 := hide (below0 (unhide HB1) hb2); have HP2 := hide ((unhide HP1).below hb2); have HZ2 := hide ((unhide HZ1).below hb2); clear hb2)
            | (go_at_call 50; refine (unhide HFA w2 a1 m1 c1 (unhide HP2) hq1 hq2).mono ?_; rintro e w3 ⟨rfl, hb3⟩; have HB3 := hide (below0 (unhide HB2) hb3); have HP3 := hide ((unhide HP2).below hb3); have HZ3 := hide ((unhide HZ2).below hb3); clear hb3)
            | (go_at_call 51; refine (unhide HMX w3 a1 m1 c1 (unhide HP3) ((unhide HKI).below (unhide HB3))).mono ?_; rintro e w4 ⟨v4, rfl, ho4, hb4⟩; obtain ⟨a4, m4, c4, rfl, hm4⟩ : ∃ a m c, v4 = Value.slice a m c ∧ m ≤ 10 := (by obtain ⟨a, c, e, _⟩ := ho4.row; exact ⟨a, _, c, e, hvl⟩); have HB4 := hide (below0 (unhide HB3) hb4); have HP4 := hide ((unhide HP3).below hb4); have HZ4 := hide ((unhide HZ3).below hb4); have HO4 := hide (ho4.mono (B' := w.heap.size + 1) (by have h1 := unhide HSZ; have h2 := (unhide HB3).size; omega)); clear hb4 ho4)
            | (go_at_call 52; have hb5 : Below w4.heap.size w4 (w4.alloc (.cells #[.slice a4 m4 c4, .string S] 40)) := (Below.refl _ _).alloc (Nat.le_refl _) _; have hx5 := boxW_new w4 (.slice a4 m4 c4) (.string S); have hs5 : (w4.alloc (.cells #[.slice a4 m4 c4, .string S] 40)).heap.size = w4.heap.size + 1 := (by simp); generalize hw5 : w4.alloc (.cells #[.slice a4 m4 c4, .string S] 40) = w5 at *; have hr5 : RowAt w5 a4 m4 V := (by have h5 := (unhide HO4).below hb5; obtain ⟨_, _, e, hrr⟩ := h5.row; simp only [Value.slice.injEq] at e; obtain ⟨rfl, rfl, rfl⟩ := e; exact hrr); have HB5 := hide (below0 (unhide HB4) hb5); have HP5 := hide ((unhide HP4).below hb5); have HZ5 := hide ((unhide HZ4).below hb5); have HX5 := hide hx5; have HS5 := hide hs5; refine (unhide HCV w5 a4 m4 c4 hr5 (by omega)).mono ?_; rintro e wx ⟨rfl, hwx⟩; obtain rfl := hwx.symm; clear hwx hb5 hx5 hs5 hr5 hw5; obtain ⟨y0, y1, y2, y3, y4, y5, y6⟩ := (unhide HZ5).at; have gz := (unhide HZ5).frz))
          exact bodyPost_ret (mix_res (g := w.heap.size) (X := set7 w5 w.heap.size (.int .i64 0) (.int .i64 0) (.int .i64 0) (.int .i64 0) (.int .i64 0) (.slice none 0 0) (.string ⟨#[]⟩)) rfl rfl ((unhide HZ5).sets _ _ _ _ _ _ _)) rfl (MixR.no (unhide HNO) (below7 ((unhide HB0).trans ((unhide HB5).mono (by have := unhide HSZ; omega))) (Nat.le_refl _) _ _ _ _ _ _ _))
        · have hcv' : ¬ (CV : Int) = 0 := by omega
          have HYE := hide (show o = some ⟨(us.getD 0 .dflt).o, (us.getD 0 .dflt).l, (us.getD 0 .dflt).k, (us.getD 0 .dflt).z, IntKind.i64.wrap (HO + 1), V, S⟩ from by rw [unhide HMC, if_pos ⟨hal, by omega, by omega⟩])
          have HC0 := hide (fun wx a1 m1 (hp : PksAt wx a1 m1 us) => show ∃ b off, a1 = some ⟨b, off, none⟩ ∧ PkCells wx b off (us.getD 0 .dflt) from by
            have hpz : 0 < m1 := by rw [← hp.1]; exact hpos
            obtain ⟨b, off, e, hcl⟩ := hp.at hpz
            have := hcl 0 hpz
            rw [Nat.zero_mul, Nat.add_zero] at this
            exact ⟨b, off, e, this⟩)
          clear HMC
          generalize us.getD 0 .dflt = q at *
          generalize hHW : IntKind.i64.wrap (HO + 1) = HW at *
          go_enter Tryz.func28, Tryz.ntmps28
          go_wp2_with (first
            | (go_at_call 48; refine (unhide HAT).mono ?_; rintro e w1 ⟨v1, rfl, ho1, hb1⟩; obtain ⟨a1, m1, c1, rfl⟩ : ∃ a m c, v1 = Value.slice a m c := ⟨_, _, _, ho1.shape.choose_spec.choose_spec⟩; obtain ⟨hp1, hm1, hc1, hd1⟩ := ho1.at' ((unhide HKI).below hb1); have hq1 : 0 < m1 := (by omega); have hq2 : m1 ≤ 1048576 := (by omega); have hq3 : ¬ (m1 : Int) = 0 := (by omega); have hq4 : (0 : Int) < (m1 : Int) := (by omega); have hq5 : ((m1 : Int) == 0) = false := beq_eq_false_iff_ne.2 hq3; clear hm1; have HP1 := hide hp1; have HB1 := hide hb1; have HT1 := hide ((unhide HTB).below hb1); have HZ1 := hide ((unhide HZ).below hb1); clear ho1 hb1 hp1 HAT)
            | (go_at_call 49; refine (alike18_any a1 m1 c1 us w1 (unhide HT1) (unhide HP1) hq1 hq2).mono ?_; rintro e w2 ⟨rfl, hb2⟩; rw [hal]; have HB2 := hide (below0 (unhide HB1) hb2); have HP2 := hide ((unhide HP1).below hb2); have HZ2 := hide ((unhide HZ1).below hb2); clear hb2)
            | (go_at_call 50; refine (unhide HFA w2 a1 m1 c1 (unhide HP2) hq1 hq2).mono ?_; rintro e w3 ⟨rfl, hb3⟩; have HB3 := hide (below0 (unhide HB2) hb3); have HP3 := hide ((unhide HP2).below hb3); have HZ3 := hide ((unhide HZ2).below hb3); clear hb3)
            | (go_at_call 51; refine (unhide HMX w3 a1 m1 c1 (unhide HP3) ((unhide HKI).below (unhide HB3))).mono ?_; rintro e w4 ⟨v4, rfl, ho4, hb4⟩; obtain ⟨a4, m4, c4, rfl, hm4⟩ : ∃ a m c, v4 = Value.slice a m c ∧ m ≤ 10 := (by obtain ⟨a, c, e, _⟩ := ho4.row; exact ⟨a, _, c, e, hvl⟩); have HB4 := hide (below0 (unhide HB3) hb4); have HP4 := hide ((unhide HP3).below hb4); have HZ4 := hide ((unhide HZ3).below hb4); have HO4 := hide (ho4.mono (B' := w.heap.size + 1) (by have h1 := unhide HSZ; have h2 := (unhide HB3).size; omega)); clear hb4 ho4; have HW45 := hide (show Below w4.heap.size w4 (w4.alloc (.cells #[.slice a4 m4 c4, .string S] 40)) from (Below.refl _ _).alloc (Nat.le_refl _) _); have HOL := hide (fun j hj => (World.ownsRow.lt (unhide HO4).2 j hj).2))
            | (go_at_call 52; have hb5 : Below w4.heap.size w4 (w4.alloc (.cells #[.slice a4 m4 c4, .string S] 40)) := (Below.refl _ _).alloc (Nat.le_refl _) _; have hx5 := boxW_new w4 (.slice a4 m4 c4) (.string S); have hs5 : (w4.alloc (.cells #[.slice a4 m4 c4, .string S] 40)).heap.size = w4.heap.size + 1 := (by simp); generalize hw5 : w4.alloc (.cells #[.slice a4 m4 c4, .string S] 40) = w5 at *; have hr5 : RowAt w5 a4 m4 V := (by have h5 := (unhide HO4).below hb5; obtain ⟨_, _, e, hrr⟩ := h5.row; simp only [Value.slice.injEq] at e; obtain ⟨rfl, rfl, rfl⟩ := e; exact hrr); have HB5 := hide (below0 (unhide HB4) hb5); have HP5 := hide ((unhide HP4).below hb5); have HZ5 := hide ((unhide HZ4).below hb5); have HX5 := hide hx5; have HS5 := hide hs5; refine (unhide HCV w5 a4 m4 c4 hr5 (by omega)).mono ?_; rintro e wx ⟨rfl, hwx⟩; obtain rfl := hwx.symm; clear hwx hb5 hx5 hs5 hr5 hw5; obtain ⟨b0, f0, rfl, p0, p1, p2, p3, p4, p5, p6⟩ := unhide HC0 w5 a1 m1 (unhide HP5))
            | (go_at_call 53; refine (bare_any q.o q.l q.k q.z q.h q.r.a q.r.n q.r.c q.r.s w5).mono ?_; rintro e w6 ⟨rfl, hb6⟩; have HB6 := hide (below0 (unhide HB5) hb6); have HP6 := hide ((unhide HP5).below hb6); have HZ6 := hide ((unhide HZ5).below hb6); have HX6 := hide ((unhide HX5).below hb6); have HS6 := hide hb6.size; have HO6 := hide ((unhide HO4).below ((unhide HW45).trans (hb6.mono (by have := unhide HS5; omega)))); clear hb6)
            | (go_at_call 50; have hb7 : Below w6.heap.size w6 (w6.alloc (.cells #[.int .i64 q.o, .int .i64 q.l, .int .i64 q.k, .int .i64 q.z, .int .i64 0, .slice none 0 0, .string ⟨#[]⟩] 42)) := (Below.refl _ _).alloc (Nat.le_refl _) _; have hx7 := pkb_new w6 (.int .i64 q.o) (.int .i64 q.l) (.int .i64 q.k) (.int .i64 q.z) (.int .i64 0) (.slice none 0 0) (.string ⟨#[]⟩); generalize hw7 : w6.alloc (.cells #[.int .i64 q.o, .int .i64 q.l, .int .i64 q.k, .int .i64 q.z, .int .i64 0, .slice none 0 0, .string ⟨#[]⟩] 42) = w7 at *; refine (unhide HFA w7 (some ⟨b0, f0, none⟩) m1 c1 ((unhide HP6).below hb7) hq1 hq2).mono ?_; rintro e w8 ⟨rfl, hb8⟩; have HB8 := hide (below0 (below0 (unhide HB6) hb7) hb8); have HZ8 := hide (((unhide HZ6).below hb7).below hb8); have HX8 := hide (((unhide HX6).below hb7).below hb8); have HQ8 := hide (hx7.below hb8); have HO8 := hide (((unhide HO6).below hb7).below hb8); clear hb7 hb8 hx7 hw7; obtain ⟨s0, s1, s2, s3, s4, s5, s6⟩ := (unhide HQ8).at; have gs := (unhide HQ8).frz; have hne1 : w6.heap.size ≠ w4.heap.size := (by have h1 := unhide HS5; have h2 := unhide HS6; omega); have hne2 : w.heap.size ≠ w6.heap.size := (by have h1 := unhide HSZ; have h2 := (unhide HB6).size; omega); obtain ⟨⟨t0, t1⟩, _, _⟩ := (unhide HX8).other (g' := w6.heap.size) 4 (.int .i64 HW) hne1; have hA := (unhide HQ8).set4 (.int .i64 HW); have hA5 := hA.at.2.2.2.2.2.1; have hAf := hA.frz; have hBq := hA.set5 (.slice a4 m4 c4); have hB6 := hBq.at.2.2.2.2.2.2; have hBf := hBq.frz; have hCq := hBq.set6 (.string S); obtain ⟨r0, r1, r2, r3, r4, r5, r6⟩ := hCq.at; have hCz := (((unhide HZ8).other (a := ⟨w6.heap.size, 4, none⟩) hne2 (.int .i64 HW)).other (a := ⟨w6.heap.size, 5, none⟩) hne2 (.slice a4 m4 c4)).other (a := ⟨w6.heap.size, 6, none⟩) hne2 (.string S); obtain ⟨y0, y1, y2, y3, y4, y5, y6⟩ := hCz.at; have gz := hCz.frz; have HCZ := hide hCz; clear hA hBq hCq hCz))
          have HBF := hide ((((unhide HB8).setCell (p := ⟨w6.heap.size, 4, none⟩) (unhide HB6).size (.int .i64 HW)).setCell (p := ⟨w6.heap.size, 5, none⟩) (unhide HB6).size (.slice a4 m4 c4)).setCell (p := ⟨w6.heap.size, 6, none⟩) (unhide HB6).size (.string S))
          have HOB := hide (show ∀ j, (Value.slice a4 m4 c4).ownBlock = some j → j ≠ w6.heap.size from fun j hj => by have h1 := unhide HOL j hj; have h2 := unhide HS5; have h3 := unhide HS6; omega)
          have HOF := hide ((((unhide HO8).off (g := w6.heap.size) (unhide HOB) 4 (.int .i64 HW)).off (g := w6.heap.size) (unhide HOB) 5 (.slice a4 m4 c4)).off (g := w6.heap.size) (unhide HOB) 6 (.string S))
          exact bodyPost_ret (mix_res (g := w.heap.size) (X := set7 (((w8.setCell ⟨w6.heap.size, 4, none⟩ (.int .i64 HW)).setCell ⟨w6.heap.size, 5, none⟩ (.slice a4 m4 c4)).setCell ⟨w6.heap.size, 6, none⟩ (.string S)) w.heap.size (.int .i64 q.o) (.int .i64 q.l) (.int .i64 q.k) (.int .i64 q.z) (.int .i64 HW) (.slice a4 m4 c4) (.string S)) rfl rfl ((unhide HCZ).sets _ _ _ _ _ _ _)) rfl
            (MixR.yes (q := ⟨q.o, q.l, q.k, q.z, HW, ⟨a4, m4, c4, V, S⟩⟩) (unhide HYE) rfl (below7 ((unhide HB0).trans ((unhide HBF).mono (by have := unhide HSZ; omega))) (Nat.le_refl _) _ _ _ _ _ _ _) (((unhide HOF).all7 (g := w.heap.size) (Nat.lt_succ_self _) _ _ _ _ _ _ _).mono (Nat.le_succ _)))
  · have h0 : us = [] := List.eq_nil_of_length_eq_zero (by omega)
    have HNO : Hid (mixL (us.map PKV.pd) = none) := hide (by rw [h0]; rfl)
    have hpos' : (us.length : Int) = 0 := by omega
    clear hmc h0
    generalize mixL (us.map PKV.pd) = o at *
    go_enter Tryz.func28, Tryz.ntmps28
    go_wp2_with (first
      | (go_at_call 48; refine (unhide HAT).mono ?_; rintro e w1 ⟨v1, rfl, ho1, hb1⟩; obtain ⟨a1, m1, c1, rfl⟩ : ∃ a m c, v1 = Value.slice a m c := ⟨_, _, _, ho1.shape.choose_spec.choose_spec⟩; obtain ⟨hp1, hm1, hc1, hd1⟩ := ho1.at' ((unhide HKI).below hb1); obtain rfl : m1 = 0 := (by omega); clear hm1; have HP1 := hide hp1; have HB1 := hide hb1; have HT1 := hide ((unhide HTB).below hb1); have HZ1 := hide ((unhide HZ).below hb1); clear ho1 hb1 hp1 HAT; obtain ⟨y0, y1, y2, y3, y4, y5, y6⟩ := (unhide HZ1).at; have gz := (unhide HZ1).frz))
    exact bodyPost_ret (mix_res (g := w.heap.size) (X := set7 w1 w.heap.size (.int .i64 0) (.int .i64 0) (.int .i64 0) (.int .i64 0) (.int .i64 0) (.slice none 0 0) (.string ⟨#[]⟩)) rfl rfl ((unhide HZ1).sets _ _ _ _ _ _ _)) rfl (MixR.no (unhide HNO) (below7 ((unhide HB0).trans ((unhide HB1).mono (by have := unhide HSZ; omega))) (Nat.le_refl _) _ _ _ _ _ _ _))
end Go.Proofs.YtbcgiodgobmkaaaGreatDoor
