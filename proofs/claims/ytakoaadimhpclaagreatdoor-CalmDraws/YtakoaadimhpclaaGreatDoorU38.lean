/-
  Contracts of calm.has, Path, Rounds, modulo, Draws. Condition: the config can be read.
-/
import Derived.Test.YtakoaadimhpclaaGreatDoorU37
import Derived.Test.YtakoaadimhpclaaGreatDoorU26
import Derived.Test.YtakoaadimhpclaaGreatDoorU15
import Derived.Test.YtakoaadimhpclaaGreatDoorU18
namespace Go.Proofs.YtakoaadimhpclaaGreatDoor
open Go.RowKit Go.Sort Go.Shelf
set_option linter.unusedVariables false
set_option linter.unusedSimpArgs false
set_option maxRecDepth 4000

/-- What Path tells. -/
def PathP (f : CFV) (fr tn : Int) (L : List Nat) : Prop :=
  (ChkR f 0 ∧ (0 ≤ fr ∧ fr < (f.n : Int)) ∧ (0 ≤ tn ∧ tn < (f.n : Int)) ∧ farN f.ds f.n tn.toNat fr.toNat < 8 ∧ L = wayL f.ds f.n tn.toNat fr.toNat) ∨
  (¬ (ChkR f 0 ∧ (0 ≤ fr ∧ fr < (f.n : Int)) ∧ (0 ≤ tn ∧ tn < (f.n : Int)) ∧ farN f.ds f.n tn.toNat fr.toNat < 8) ∧ L = [])
theorem PathP.uniq {f : CFV} {fr tn : Int} {L M : List Nat} (h : PathP f fr tn L) (k : PathP f fr tn M) : L = M := by
  rcases h with ⟨h1, h2, h3, h4, h5⟩ | ⟨h1, h2⟩ <;> rcases k with ⟨k1, k2, k3, k4, k5⟩ | ⟨k1, k2⟩
  · rw [h5, k5]
  · exact absurd ⟨h1, h2, h3, h4⟩ k1
  · exact absurd ⟨k1, k2, k3, k4⟩ h1
  · rw [h2, k2]
theorem ChkR.cfg {f : CFV} (h : ChkR f 0) : CfgP f ∧ planE f.obj.size f.size = 0 := by
  rcases h with ⟨h1, h2⟩ | ⟨_, h2⟩
  · exact ⟨h1, h2.symm⟩
  · exact absurd h2 (by decide)
theorem stepP_of {f : CFV} (h : ChkR f 0) : StepP f.ds f.n := by
  obtain ⟨⟨⟨h1, _⟩, h2, _⟩, _⟩ := h.cfg
  refine ⟨⟨h1.2, fun i hi x hx => ?_⟩, fun i hi => ?_⟩
  · obtain ⟨j, hj, rfl⟩ := mem_getD hx
    have := ((h2 i hi).2.2 j hj).1
    exact ⟨this.1, by have := this.2; show _ < _; unfold tosN at *; omega⟩
  · have := (h2 i hi).2.1
    unfold tosN
    omega
theorem has_any (a : Option Addr) (n c : Nat) (id : Int) (w : World) : Calls Tryz.prog 36 #[.slice a n c, .int .i64 id] w fun e w' => e = .returned (.bool (decide (0 ≤ id ∧ id < (n : Int)))) ∧ w' = w := by
  by_cases h : 0 ≤ id
  · have e : decide (0 ≤ id ∧ id < (n : Int)) = decide (id < (n : Int)) := by simp [h]
    rw [e]
    go_enter Tryz.func36, Tryz.ntmps36
    go_wp2
    go_ret
    exact ⟨rfl, rfl⟩
  · have e : decide (0 ≤ id ∧ id < (n : Int)) = false := by simp [h]
    rw [e]
    go_enter Tryz.func36, Tryz.ntmps36
    go_wp2
    go_ret
    exact ⟨rfl, rfl⟩
set_option maxHeartbeats 4000000 in
theorem path_any (f : CFV) (fr tn : Int) (w : World) (hf : CfIn w f) :
    Calls Tryz.prog 17 #[f.val, .int .i64 fr, .int .i64 tn] w fun e w' => ∃ v L, e = .returned v ∧ PathP f fr tn L ∧ OwnZ w' w.heap.size v (natZ L) ∧ Below w.heap.size w w' := by
  have X := hide (bkA_new 51 w [.slice f.a f.n f.c, .string f.obj, .int .i64 f.size, .int .i64 f.spread, .int .i64 f.buffer, .int .i64 f.queue, .int .i64 f.cache, .float .f64 f.rate, .int .i64 f.timeout, .int .i64 f.target])
  have HB := hide (alloc_low w (.cells #[.slice f.a f.n f.c, .string f.obj, .int .i64 f.size, .int .i64 f.spread, .int .i64 f.buffer, .int .i64 f.queue, .int .i64 f.cache, .float .f64 f.rate, .int .i64 f.timeout, .int .i64 f.target] 51))
  have hld := (unhide X).load Tryz.underlying51 rfl info_cfg rfl
  have HC := hide (ntchk_any f _ (hf.below (unhide HB)) hf.caps)
  have HF := hide hf
  clear hf
  unfold CFV.val at *
  go_enter Tryz.func17, Tryz.ntmps17
  go_wp2_with fail
  refine (unhide HC).mono ?_
  rintro e w1 ⟨en, rfl, hr, hb⟩
  have HB1 := hide (below0 (unhide HB) hb)
  have X1 := hide ((unhide X).below hb)
  have y0 := (unhide X1).at 0 rfl
  have HR := hide hr
  clear hr hb hld HC
  by_cases h0 : en = 0
  case neg =>
    have hd : (en != 0) = true := by simp [h0]
    have HP := hide (show PathP f fr tn [] from .inr ⟨fun p => h0 ((unhide HR).uniq p.1), rfl⟩)
    clear h0
    go_wp2
    go_ret
    exact ⟨_, [], rfl, unhide HP, OwnZ.nil _ _, unhide HB1⟩
  subst h0
  by_cases h1 : 0 ≤ fr ∧ fr < (f.n : Int)
  case neg =>
    have hd1 : decide (0 ≤ fr ∧ fr < (f.n : Int)) = false := decide_eq_false h1
    have HP := hide (show PathP f fr tn [] from .inr ⟨fun p => h1 p.2.1, rfl⟩)
    have HH := hide (has_any f.a f.n f.c fr w1)
    rw [hd1] at HH
    clear h1 hd1
    go_wp2_with (first
      | (go_at_call 36; refine (unhide HH).mono ?_; rintro e w2 ⟨rfl, hw2⟩; obtain rfl := hw2.symm; clear hw2)
      | fail)
    go_ret
    exact ⟨_, [], rfl, unhide HP, OwnZ.nil _ _, unhide HB1⟩
  have hd1 : decide (0 ≤ fr ∧ fr < (f.n : Int)) = true := decide_eq_true h1
  have HH1 := hide (has_any f.a f.n f.c fr w1)
  rw [hd1] at HH1
  by_cases h2 : 0 ≤ tn ∧ tn < (f.n : Int)
  case neg =>
    have hd2 : decide (0 ≤ tn ∧ tn < (f.n : Int)) = false := decide_eq_false h2
    have HP := hide (show PathP f fr tn [] from .inr ⟨fun p => h2 p.2.2.1, rfl⟩)
    have HH2 := hide (has_any f.a f.n f.c tn w1)
    rw [hd2] at HH2
    clear h1 hd1 h2 hd2
    go_wp2_with (first
      | (go_at_call 36; first | (refine (unhide HH1).mono ?_; clear HH1; rintro e w2 ⟨rfl, hw2⟩; obtain rfl := hw2.symm; clear hw2) | (refine (unhide HH2).mono ?_; clear HH2; rintro e w2 ⟨rfl, hw2⟩; obtain rfl := hw2.symm; clear hw2))
      | fail)
    go_ret
    exact ⟨_, [], rfl, unhide HP, OwnZ.nil _ _, unhide HB1⟩
  have hd2 : decide (0 ≤ tn ∧ tn < (f.n : Int)) = true := decide_eq_true h2
  have HH2 := hide (has_any f.a f.n f.c tn w1)
  rw [hd2] at HH2
  obtain ⟨p, rfl⟩ : ∃ p : Nat, fr = (p : Int) := ⟨fr.toNat, by omega⟩
  obtain ⟨q, rfl⟩ : ∃ q : Nat, tn = (q : Int) := ⟨tn.toNat, by omega⟩
  have hp : p < f.n := by omega
  have hq : q < f.n := by omega
  have hsp := stepP_of (unhide HR)
  have hN8 := hsp.1.1
  have HN := hide ((unhide HF).nds.below (unhide HB1))
  have HS := hide (steps_any f.a f.n f.c f.ds q w1 (unhide HN) hsp hq)
  have HSP := hide hsp
  have H12 := hide (And.intro h1 h2)
  have hp' : (p : Int) < (f.n : Int) := by omega
  clear h1 h2 hd1 hd2 hsp
  by_cases h8 : farN f.ds f.n q p = 8
  · have he8 : (((farN f.ds f.n q p : Nat) : Int) == 8) = true := by rw [h8]; rfl
    have HP := hide (show PathP f (p : Int) (q : Int) [] from .inr ⟨fun k => by have := k.2.2.2; rw [Int.toNat_natCast, Int.toNat_natCast] at this; omega, rfl⟩)
    clear h8
    go_wp2_with (first
      | (go_at_call 36; first | (refine (unhide HH1).mono ?_; clear HH1; rintro e w2 ⟨rfl, hw2⟩; obtain rfl := hw2.symm; clear hw2) | (refine (unhide HH2).mono ?_; clear HH2; rintro e w2 ⟨rfl, hw2⟩; obtain rfl := hw2.symm; clear hw2))
      | (go_at_call 37; refine (unhide HS).mono ?_; clear HS; rintro e w3 ⟨v, rfl, ho, hb3⟩
         obtain ⟨al, cl, rfl, hz⟩ := ho.ints
         have hfl : (farL f.ds f.n q).length = f.n := by simp [farL]
         rw [hfl] at hz ⊢
         obtain ⟨b, off, rfl, hcl⟩ := hz.at hp
         have hcp := hcl p hp
         rw [farL_get f.ds f.n q p hp] at hcp
         have HZ := hide hz
         have HB3 := hide (below0 (unhide HB1) hb3)
         have HN3 := hide ((unhide HN).below hb3)
         have X3 := hide ((unhide X1).below hb3)
         have z0 := (unhide X3).at 0 rfl
         clear ho hb3 hz hcl hfl)
      | fail)
    go_ret
    exact ⟨_, [], rfl, unhide HP, OwnZ.nil _ _, unhide HB3⟩
  · have he8 : (((farN f.ds f.n q p : Nat) : Int) == 8) = false := by rw [beq_eq_false_iff_ne]; omega
    have h9 : farN f.ds f.n q p < 8 := by have := (farN_is (tn := q) (unhide HSP).1).le p; omega
    have HP := hide (show PathP f (p : Int) (q : Int) (wayL f.ds f.n q p) from .inl ⟨unhide HR, (unhide H12).1, (unhide H12).2, by rw [Int.toNat_natCast, Int.toNat_natCast]; exact h9, by rw [Int.toNat_natCast, Int.toNat_natCast]⟩)
    clear h8
    go_wp2_with (first
      | (go_at_call 36; first | (refine (unhide HH1).mono ?_; clear HH1; rintro e w2 ⟨rfl, hw2⟩; obtain rfl := hw2.symm; clear hw2) | (refine (unhide HH2).mono ?_; clear HH2; rintro e w2 ⟨rfl, hw2⟩; obtain rfl := hw2.symm; clear hw2))
      | (go_at_call 37; refine (unhide HS).mono ?_; clear HS; rintro e w3 ⟨v, rfl, ho, hb3⟩
         obtain ⟨al, cl, rfl, hz⟩ := ho.ints
         have hfl : (farL f.ds f.n q).length = f.n := by simp [farL]
         rw [hfl] at hz ⊢
         obtain ⟨b, off, rfl, hcl⟩ := hz.at hp
         have hcp := hcl p hp
         rw [farL_get f.ds f.n q p hp] at hcp
         have HZ := hide hz
         have HB3 := hide (below0 (unhide HB1) hb3)
         have HN3 := hide ((unhide HN).below hb3)
         have X3 := hide ((unhide X1).below hb3)
         have z0 := (unhide X3).at 0 rfl
         clear ho hb3 hz hcl hfl)
      | (go_at_call 39; refine (way_any _ _ _ _ _ _ _ _).mono ?_; rintro e w4 ⟨rfl, hw4⟩
         have hb4 : Below w3.heap.size w3 w4 := by rw [hw4]; exact (((Below.refl _ w3).alloc (Nat.le_refl _) _).alloc (by simp) _).alloc (by simp; omega) _
         have hWB : WayB w3 f.a f.n f.c (some ⟨b, off, none⟩) cl (w3.heap.size + 2) (w3.heap.size + 1) w3.heap.size p w4 := by
           refine ⟨?_, ?_, ?_, hb4⟩
           · rw [hw4]
             have := Boxed.new ((w3.alloc (.cells #[.slice f.a f.n f.c] 48)).alloc (.cells #[.slice (some ⟨b, off, none⟩) f.n cl] 58)) 3 (.int .i64 (p : Int))
             rwa [World.size_alloc, World.size_alloc] at this
           · rw [hw4]
             have := (Boxed.new (w3.alloc (.cells #[.slice f.a f.n f.c] 48)) 58 (.slice (some ⟨b, off, none⟩) f.n cl)).alloc (.cells #[.int .i64 (p : Int)] 3)
             rwa [World.size_alloc] at this
           · rw [hw4]
             exact ((Boxed.new w3 48 (.slice f.a f.n f.c)).alloc _).alloc _
         have HCO := hide (collect_way _ _ _ f.a f.n f.c f.ds (some ⟨b, off, none⟩) cl q p w3 w4 (unhide HN3) (unhide HSP) (unhide HZ) hp h9 hWB (by omega))
         have HB4 := hide (below0 (unhide HB3) hb4)
         have h34 := hb4.size
         clear hw4 hb4 hWB)
      | (go_at_call 38; refine (unhide HCO).mono ?_; rintro e w5 ⟨v5, rfl, ho5, hg5⟩
         have hs13 := (unhide HB3).size
         have HO5 := hide (ho5.mono (B' := w.heap.size) (unhide HB4).size)
         have HB5 := hide ((unhide HB4).trans (gb_below hg5 (unhide HB4).size fun k hk => by rw [← Option.some.inj hk]; omega))
         clear ho5 hg5)
      | fail)
    go_ret
    exact ⟨_, _, rfl, unhide HP, unhide HO5, unhide HB5⟩
end Go.Proofs.YtakoaadimhpclaaGreatDoor
