/-
  Contract of bucketlineref23.Fresh: a cache by value, its prints in a slice that can be read. At most 256 prints.
-/
import Derived.Test.YtpklckpnimmkpaaSeM
import Derived.Test.YtpklckpnimmkpaaG3
namespace Go.Proofs.Ytpklckpnimmkpaa
open Go.RowKit Go.Sort Go.Maps
set_option linter.unusedVariables false
set_option maxRecDepth 4000

theorem Own32.tu {F : Nat → Prop} {w w' : World} {B : Nat} {v : Value} {L : List Nat} (h : Own32 w B v L) (ht : Tu F w w') (hF : ∀ j, B ≤ j → ¬ F j) : Own32 w' B v L := by
  refine ⟨h.1, ?_⟩
  rcases h.2 with h0 | ⟨g, cap, cur, h1, hg, hgg, r⟩
  · exact .inl h0
  · exact .inr ⟨g, cap, cur, h1, hg, (ht.block g (Array.getElem?_eq_some_iff.1 hgg).1 (hF g hg)).trans hgg, r⟩
/-- .. and the result's block above them. -/
structure FrS (w wk : World) (m : Nat) (a : Option Addr) (n c : Nat) (L : List Nat) (p : PKV) : Prop where
  ha : HaS w wk m a n c L p
  re : BkA 38 wk (w.heap.size + 1 + 1) [.int .i64 0, .slice none 0 0]
theorem FrS.below {w wk w' : World} {m : Nat} {a : Option Addr} {n c : Nat} {L : List Nat} {p : PKV} (h : FrS w wk m a n c L p) (hb : Below wk.heap.size wk w') : FrS w w' m a n c L p := ⟨h.ha.below hb, h.re.below hb⟩
theorem FrS.start {w : World} {m : Nat} {a : Option Addr} {n c : Nat} {L : List Nat} {p : PKV} (hu : U32At w a n L) (hr : RowAt w p.r.a p.r.n p.r.xs) :
    FrS w (((w.alloc (.cells #[.int .i64 (m : Int), .slice a n c] 38)).alloc (.cells #[.int .i64 p.o, .int .i64 p.l, .int .i64 p.k, .int .i64 p.z, .int .i64 p.h, .slice p.r.a p.r.n p.r.c, .string p.r.s] 26)).alloc (.cells #[.int .i64 0, .slice none 0 0] 38)) m a n c L p := by
  have h1 := HaS.start (m := m) (c := c) hu hr
  have z : ((w.alloc (.cells #[.int .i64 (m : Int), .slice a n c] 38)).alloc (.cells #[.int .i64 p.o, .int .i64 p.l, .int .i64 p.k, .int .i64 p.z, .int .i64 p.h, .slice p.r.a p.r.n p.r.c, .string p.r.s] 26)).heap.size = w.heap.size + 1 + 1 := by rw [alloc_size, alloc_size]
  generalize (w.alloc (.cells #[.int .i64 (m : Int), .slice a n c] 38)).alloc (.cells #[.int .i64 p.o, .int .i64 p.l, .int .i64 p.k, .int .i64 p.z, .int .i64 p.h, .slice p.r.a p.r.n p.r.c, .string p.r.s] 26) = w2 at *
  have k := bkA_new 38 w2 [.int .i64 0, .slice none 0 0]
  rw [z] at k
  exact ⟨h1.below (alloc_low _ _), k⟩
theorem FrS.size {w wk : World} {m : Nat} {a : Option Addr} {n c : Nat} {L : List Nat} {p : PKV} (h : FrS w wk m a n c L p) : w.heap.size + 3 ≤ wk.heap.size := h.re.lt
theorem FrS.lowB {w wk w' : World} {m : Nat} {a : Option Addr} {n c B : Nat} {L : List Nat} {p : PKV} (h : FrS w wk m a n c L p) (hu : U32At w a n L) (hr : RowAt w p.r.a p.r.n p.r.xs) (hb : Below B wk w') (hB : w.heap.size + 3 ≤ B) : FrS w w' m a n c L p := by
  have hb' : Below w.heap.size w w' := h.ha.bel.trans (hb.mono (by omega))
  exact ⟨⟨h.ha.cc.belowB hb (by omega), h.ha.pa.belowB hb (by omega), hu.below hb', hr.below hb', hb'⟩, h.re.belowB hb (by omega)⟩
/-- The cache is handed back as it was. -/
theorem FrS.back {w wk : World} {m : Nat} {a : Option Addr} {n c : Nat} {L : List Nat} {p : PKV} (h : FrS w wk m a n c L p) :
    BkA 38 ((wk.setCell ⟨w.heap.size + 1 + 1, 0, none⟩ (.int .i64 (m : Int))).setCell ⟨w.heap.size + 1 + 1, 1, none⟩ (.slice a n c)) (w.heap.size + 1 + 1) [.int .i64 (m : Int), .slice a n c] ∧
      Tu (fun j => j = w.heap.size + 1 + 1) wk ((wk.setCell ⟨w.heap.size + 1 + 1, 0, none⟩ (.int .i64 (m : Int))).setCell ⟨w.heap.size + 1 + 1, 1, none⟩ (.slice a n c)) :=
  ⟨(h.re.set 0 _).set 1 _, (tu_set _ _ 0 _).trans (tu_set _ _ 1 _) fun _ _ e => e⟩
/-- .. with another slice. -/
theorem FrS.turned {w wk : World} {m : Nat} {a : Option Addr} {n c : Nat} {L : List Nat} {p : PKV} (h : FrS w wk m a n c L p) (v : Value) :
    BkA 38 (((wk.setCell ⟨w.heap.size, 1, none⟩ v).setCell ⟨w.heap.size + 1 + 1, 0, none⟩ (.int .i64 (m : Int))).setCell ⟨w.heap.size + 1 + 1, 1, none⟩ v) (w.heap.size + 1 + 1) [.int .i64 (m : Int), v] ∧
      Tu (fun j => j = w.heap.size ∨ j = w.heap.size + 1 + 1) wk (((wk.setCell ⟨w.heap.size, 1, none⟩ v).setCell ⟨w.heap.size + 1 + 1, 0, none⟩ (.int .i64 (m : Int))).setCell ⟨w.heap.size + 1 + 1, 1, none⟩ v) := by
  have k1 := h.re.tu (tu_set wk w.heap.size 1 v) (fun e => by omega)
  refine ⟨(k1.set 0 _).set 1 _, ?_⟩
  exact (((tu_set wk w.heap.size 1 v).wide' (G := fun j => j = w.heap.size ∨ j = w.heap.size + 1 + 1) fun j e => .inl e).trans (tu_set _ _ 0 _) fun _ _ e => .inr e).trans (tu_set _ _ 1 _) fun _ _ e => .inr e

/-- What Fresh of the reference gives. -/
def RfP (w w' : World) (m : Nat) (L : List Nat) (p : PKV) (e : Ending) : Prop :=
  ∃ a' n' c', e = .returned (.tuple #[.agg #[.int .i64 (m : Int), .slice a' n' c'], .bool (freshD L p.pd)]) ∧ U32At w' a' n' (cameL m L p.pd) ∧ Below w.heap.size w w'
theorem FrS.same {w wk : World} {m : Nat} {a : Option Addr} {n c : Nat} {L : List Nat} {p : PKV} (h : FrS w wk m a n c L p) (hu : U32At w a n L) (hc : cameL m L p.pd = L) :
    U32At ((wk.setCell ⟨w.heap.size + 1 + 1, 0, none⟩ (.int .i64 (m : Int))).setCell ⟨w.heap.size + 1 + 1, 1, none⟩ (.slice a n c)) a n (cameL m L p.pd) ∧ Below w.heap.size w ((wk.setCell ⟨w.heap.size + 1 + 1, 0, none⟩ (.int .i64 (m : Int))).setCell ⟨w.heap.size + 1 + 1, 1, none⟩ (.slice a n c)) := by
  have hb := tu_low h.ha.bel h.back.2 (by omega)
  rw [hc]
  exact ⟨hu.below hb, hb⟩

set_option maxHeartbeats 2000000 in
theorem rsfresh_no (m : Nat) (a : Option Addr) (n c : Nat) (L : List Nat) (p : PKV) (w : World) (hu : U32At w a n L) (hn : n ≤ 1048576) (hr : RowAt w p.r.a p.r.n p.r.xs) (hf : freshD L p.pd = false) :
    Calls Try.prog 15 #[.agg #[.int .i64 (m : Int), .slice a n c], p.val] w fun e w' => RfP w w' m L p e := by
  have hcm : cameL m L p.pd = L := by unfold cameL; rw [hf]; rfl
  have HS0 := hide (FrS.start (m := m) (c := c) hu hr)
  have HU := hide hu
  have HH := hide (fun wx (h : FrS w wx m a n c L p) => rshas_any m a n c L p wx h.ha.us hn h.ha.ro)
  have HCK := hide (fun en hen wx (h : FrS w wx m a n c L p) => rcheck_any p.o p.l p.k p.z p.h p.r.a p.r.n p.r.c p.r.xs p.r.s wx h.ha.ro en hen)
  have HE := hide (fun wk (h : FrS w wk m a n c L p) => h.same hu hcm)
  unfold RfP
  rw [hf]
  cases hok : okD p.pd
  · have HC := hide (unhide HCK 1 (ckD_no hok) _ (unhide HS0))
    unfold PKV.val
    clear hu hr hok HCK HH hf hcm
    go_enter Try.func15, Try.ntmps15
    go_wp2_with (first
      | (go_at_call 9; refine (unhide HC).mono ?_; rintro e w1 ⟨rfl, hb1⟩; have HS1 := hide ((unhide HS0).below hb1); have q0 := (unhide HS1).ha.cc.at 0 rfl; have q1 := (unhide HS1).ha.cc.at 1 rfl; have p0 := (unhide HS1).re.at 0 rfl; have p1 := (unhide HS1).re.at 1 rfl; have f0 := (unhide HS1).re.frz 0; have f1 := (unhide HS1).re.frz 1; clear hb1)
      | fail)
    exact bodyPost_ret (results_rc2 rfl rfl (unhide HS1).back.1) rfl ⟨a, n, c, rfl, unhide HE _ (unhide HS1)⟩
  · have HC := hide (unhide HCK 0 (ckD_yes hok) _ (unhide HS0))
    have hh : hasD L (prD p.pd) = true := by
      unfold freshD at hf
      rw [hok] at hf
      simpa using hf
    rw [hh] at HH
    unfold PKV.val at HH ⊢
    clear hu hr hok HCK hf hcm hh
    go_enter Try.func15, Try.ntmps15
    go_wp2_with (first
      | (go_at_call 9; refine (unhide HC).mono ?_; rintro e w1 ⟨rfl, hb1⟩; have HS1 := hide ((unhide HS0).below hb1); have q0 := (unhide HS1).ha.cc.at 0 rfl; have q1 := (unhide HS1).ha.cc.at 1 rfl; have r0 := (unhide HS1).ha.pa.at 0 rfl; have r1 := (unhide HS1).ha.pa.at 1 rfl; have r2 := (unhide HS1).ha.pa.at 2 rfl; have r3 := (unhide HS1).ha.pa.at 3 rfl; have r4 := (unhide HS1).ha.pa.at 4 rfl; have r5 := (unhide HS1).ha.pa.at 5 rfl; have r6 := (unhide HS1).ha.pa.at 6 rfl; clear hb1)
      | (go_at_call 17; refine (unhide HH _ (unhide HS1)).mono ?_; rintro e w2 ⟨rfl, hb2⟩; have HS2 := hide ((unhide HS1).below hb2); clear q0 q1 r0 r1 r2 r3 r4 r5 r6 HS1; have q0 := (unhide HS2).ha.cc.at 0 rfl; have q1 := (unhide HS2).ha.cc.at 1 rfl; have p0 := (unhide HS2).re.at 0 rfl; have p1 := (unhide HS2).re.at 1 rfl; have f0 := (unhide HS2).re.frz 0; have f1 := (unhide HS2).re.frz 1; clear hb2)
      | fail)
    exact bodyPost_ret (results_rc2 rfl rfl (unhide HS2).back.1) rfl ⟨a, n, c, rfl, unhide HE _ (unhide HS2)⟩

set_option maxHeartbeats 4000000 in
theorem rsfresh_yes (m : Nat) (a : Option Addr) (n c : Nat) (L : List Nat) (p : PKV) (w : World) (hu : U32At w a n L) (hm : m ≤ 256) (hl : L.length ≤ m) (hr : RowAt w p.r.a p.r.n p.r.xs) (hf : freshD L p.pd = true) :
    Calls Try.prog 15 #[.agg #[.int .i64 (m : Int), .slice a n c], p.val] w fun e w' => RfP w w' m L p e := by
  have hok : okD p.pd = true := by unfold freshD at hf; rw [Bool.and_eq_true] at hf; exact hf.1
  have hh : hasD L (prD p.pd) = false := by unfold freshD at hf; rw [hok] at hf; simpa using hf
  have hcm : cameL m L p.pd = seenL m L (prD p.pd) := by unfold cameL; rw [hf]; rfl
  have hn : n ≤ 256 := by rw [← hu.1]; omega
  have HS0 := hide (FrS.start (m := m) (c := c) hu hr)
  have HU := hide hu
  have HRW := hide hr
  have HH := hide (fun wx (h : FrS w wx m a n c L p) => rshas_any m a n c L p wx h.ha.us (by omega) h.ha.ro)
  have HPR := hide (fun wx (h : FrS w wx m a n c L p) => rpr_any p wx h.ha.ro)
  have HC := hide (rcheck_any p.o p.l p.k p.z p.h p.r.a p.r.n p.r.c p.r.xs p.r.s _ (unhide HS0).ha.ro 0 (ckD_yes hok))
  rw [hh] at HH
  unfold RfP
  rw [hf]
  obtain ⟨X, hX⟩ : ∃ X, prD p.pd = X := ⟨_, rfl⟩
  rw [hX] at HPR hcm
  unfold PKV.val at HH HPR ⊢
  by_cases hm0 : m = 0
  · subst hm0
    have HE := hide (fun wk (h : FrS w wk 0 a n c L p) => h.same hu (show cameL 0 L p.pd = L by rw [hcm]; rfl))
    clear hu hr hok hf hcm hh HPR hX hl hn hm
    go_enter Try.func15, Try.ntmps15
    go_wp2_with (first
      | (go_at_call 9; refine (unhide HC).mono ?_; rintro e w1 ⟨rfl, hb1⟩; have HS1 := hide ((unhide HS0).below hb1); have q0 := (unhide HS1).ha.cc.at 0 rfl; have q1 := (unhide HS1).ha.cc.at 1 rfl; have r0 := (unhide HS1).ha.pa.at 0 rfl; have r1 := (unhide HS1).ha.pa.at 1 rfl; have r2 := (unhide HS1).ha.pa.at 2 rfl; have r3 := (unhide HS1).ha.pa.at 3 rfl; have r4 := (unhide HS1).ha.pa.at 4 rfl; have r5 := (unhide HS1).ha.pa.at 5 rfl; have r6 := (unhide HS1).ha.pa.at 6 rfl; clear hb1)
      | (go_at_call 17; refine (unhide HH _ (unhide HS1)).mono ?_; rintro e w2 ⟨rfl, hb2⟩; have HS2 := hide ((unhide HS1).below hb2); clear q0 q1 r0 r1 r2 r3 r4 r5 r6 HS1; have q0 := (unhide HS2).ha.cc.at 0 rfl; have q1 := (unhide HS2).ha.cc.at 1 rfl; have p0 := (unhide HS2).re.at 0 rfl; have p1 := (unhide HS2).re.at 1 rfl; have f0 := (unhide HS2).re.frz 0; have f1 := (unhide HS2).re.frz 1; clear hb2)
      | fail)
    exact bodyPost_ret (results_rc2 rfl rfl (unhide HS2).back.1) rfl ⟨a, n, c, rfl, unhide HE _ (unhide HS2)⟩
  · have hd0 : ((m : Int) == 0) = false := by simp; omega
    by_cases hfull : L.length = m
    · match L, hu, hl, hcm, hfull, HS0, HU, HH, HPR, HC with
      | [], _, _, _, hfull, _, _, _, _, _ => exact absurd hfull.symm hm0
      | x :: L, hu, hl, hcm, hfull, HS0, HU, HH, HPR, HC =>
        obtain ⟨k, rfl⟩ : ∃ k, n = k + 1 := ⟨L.length, hu.1.symm⟩
        have hk : L.length = k := by have := hu.1; rw [List.length_cons] at this; omega
        have hd1 : (m : Int) ≤ (k : Int) + 1 := by rw [List.length_cons] at hfull; omega
        have HCM := hide (show cameL m (x :: L) p.pd = L ++ [X] by rw [hcm]; unfold seenL; rw [if_neg hm0, if_pos hfull]; rfl)
        have HL1 := hide hu.1
        have HL := hide hk
        have HLX := hide (show (L ++ [X]).length = k + 1 by rw [List.length_append, hk]; rfl)
        have HF1 : Hid True := trivial
        have HF2 : Hid True := trivial
        have HDONE := hide (show ∀ w7 b7 c7 B, FrS w w7 m a (k + 1) c (x :: L) p → w.heap.size + 3 ≤ B → Own32 w7 B (.slice b7 (k + 1) c7) (L ++ [X]) → U32At (((w7.setCell ⟨w.heap.size, 1, none⟩ (.slice b7 (k + 1) c7)).setCell ⟨w.heap.size + 1 + 1, 0, none⟩ (.int .i64 (m : Int))).setCell ⟨w.heap.size + 1 + 1, 1, none⟩ (.slice b7 (k + 1) c7)) b7 (k + 1) (cameL m (x :: L) p.pd) ∧ Below w.heap.size w (((w7.setCell ⟨w.heap.size, 1, none⟩ (.slice b7 (k + 1) c7)).setCell ⟨w.heap.size + 1 + 1, 0, none⟩ (.int .i64 (m : Int))).setCell ⟨w.heap.size + 1 + 1, 1, none⟩ (.slice b7 (k + 1) c7)) from fun w7 b7 c7 B hS hB hO => by
          have ht := (hS.turned (.slice b7 (k + 1) c7)).2
          have hO2 := hO.tu ht (fun j hj e => by rcases e with e | e <;> omega)
          obtain ⟨a8, c8, e8, hU8, -⟩ := hO2.all
          simp only [Value.slice.injEq] at e8
          obtain ⟨rfl, e9, -⟩ := e8
          rw [unhide HCM]
          rw [unhide HLX] at hU8
          exact ⟨hU8, hS.ha.bel.trans (ht.below hS.ha.bel.size fun j hj e => by rcases e with e | e <;> omega)⟩)
        clear hu hr hok hf hcm hh hX hl hfull hm0 hk
        go_enter Try.func15, Try.ntmps15
        go_wp2_with (first
          | (go_at_call 9; refine (unhide HC).mono ?_; rintro e w1 ⟨rfl, hb1⟩; have HS1 := hide ((unhide HS0).below hb1); have q0 := (unhide HS1).ha.cc.at 0 rfl; have q1 := (unhide HS1).ha.cc.at 1 rfl; have r0 := (unhide HS1).ha.pa.at 0 rfl; have r1 := (unhide HS1).ha.pa.at 1 rfl; have r2 := (unhide HS1).ha.pa.at 2 rfl; have r3 := (unhide HS1).ha.pa.at 3 rfl; have r4 := (unhide HS1).ha.pa.at 4 rfl; have r5 := (unhide HS1).ha.pa.at 5 rfl; have r6 := (unhide HS1).ha.pa.at 6 rfl; clear hb1)
          | (go_at_call 17; refine (unhide HH _ (unhide HS1)).mono ?_; rintro e w2 ⟨rfl, hb2⟩; have HS2 := hide ((unhide HS1).below hb2); clear q0 q1 r0 r1 r2 r3 r4 r5 r6 HS1; have q0 := (unhide HS2).ha.cc.at 0 rfl; have q1 := (unhide HS2).ha.cc.at 1 rfl; clear hb2)
          | (clear HF1; at_builtin; refine wpList_append_nil32 rfl _ _ rfl a (k + 1) c (x :: L) rfl rfl (unhide HS2).ha.us (by omega) ?_; intro v4 w4 ho4 hb4; obtain ⟨b4, c4, hv4, hU4, hc4⟩ := ho4.all; rw [unhide HL1] at hv4 hU4 hc4; obtain ⟨gg, off, e4, -⟩ := hU4.at (i := 0) (by omega); subst e4; subst hv4; obtain ⟨a5', hsl, hta⟩ := slice_tl32 hU4 hc4; have HTA := hide hta; have HS4 := hide ((unhide HS2).below hb4); have HZ5 := hide (unhide HS2).size; have HS4X := hide hb4.size; clear ho4 hb4 hU4 hc4 hta q0 q1; have q0 := (unhide HS4).ha.cc.at 0 rfl; have q1 := (unhide HS4).ha.cc.at 1 rfl)
          | (clear HF2; at_builtin; refine wpList_append_nil32 rfl _ _ rfl a5' k (c4 - 1) L rfl rfl (unhide HTA) (by omega) ?_; intro v5 w5 ho5 hb5; obtain ⟨b5, c5, hv5, -⟩ := ho5.all; rw [unhide HL] at hv5; subst hv5; have HO5 := hide ho5; have HS5 := hide ((unhide HS4).below hb5); have HS5X := hide hb5.size; clear ho5 hb5 q0 q1; have q0 := (unhide HS5).ha.cc.at 0 rfl; have q1 := (unhide HS5).ha.cc.at 1 rfl; have r0 := (unhide HS5).ha.pa.at 0 rfl; have r1 := (unhide HS5).ha.pa.at 1 rfl; have r2 := (unhide HS5).ha.pa.at 2 rfl; have r3 := (unhide HS5).ha.pa.at 3 rfl; have r4 := (unhide HS5).ha.pa.at 4 rfl; have r5 := (unhide HS5).ha.pa.at 5 rfl; have r6 := (unhide HS5).ha.pa.at 6 rfl)
          | (go_at_call 11; refine (unhide HPR _ (unhide HS5)).mono ?_; rintro e w6 ⟨rfl, hb6⟩; have HS6 := hide ((unhide HS5).below hb6); have HO6 := hide ((unhide HO5).below hb6); have HZ6 := hide (show w4.heap.size ≤ w6.heap.size from Nat.le_trans (unhide HS5X) hb6.size); have HZ7 := hide (show w.heap.size + 3 ≤ w4.heap.size from Nat.le_trans (unhide HZ5) (unhide HS4X)); clear hb6 q0 q1 r0 r1 r2 r3 r4 r5 r6)
          | (at_builtin; refine wpList_push32 rfl _ _ rfl _ (.slice b5 k c5) L X rfl rfl (unhide HO6) (unhide HZ6) (by rw [unhide HL]; omega) ?_; intro v7 w7 ho7 hb7; obtain ⟨b7, c7, hv7, -⟩ := ho7.all; rw [unhide HLX] at hv7; subst hv7; have HO7 := hide ho7; have HS7 := hide (show FrS w w7 m a (k + 1) c (x :: L) p from (unhide HS6).lowB (unhide HU) (unhide HRW) hb7 (unhide HZ7)); clear ho7 hb7; have q0 := (unhide HS7).ha.cc.at 0 rfl; have q1 := (unhide HS7).ha.cc.at 1 rfl; have q2 := (unhide HS7).ha.cc.frz 1; have p0 := (unhide HS7).re.at 0 rfl; have p1 := (unhide HS7).re.at 1 rfl; have f0 := (unhide HS7).re.frz 0; have f1 := (unhide HS7).re.frz 1)
          | fail)
        exact bodyPost_ret (results_rc2 rfl rfl ((unhide HS7).turned _).1) rfl ⟨b7, k + 1, c7, rfl, unhide HDONE _ _ _ _ (unhide HS7) (unhide HZ7) (unhide HO7)⟩
    · have hd1 : (n : Int) < (m : Int) := by have := hu.1; omega
      have HCM := hide (show cameL m L p.pd = L ++ [X] by rw [hcm]; unfold seenL; rw [if_neg hm0, if_neg hfull])
      have HL := hide hu.1
      have HLX := hide (show (L ++ [X]).length = n + 1 by rw [List.length_append, hu.1]; rfl)
      have HF1 : Hid True := trivial
      have HDONE := hide (show ∀ w7 b7 c7 B, FrS w w7 m a n c L p → w.heap.size + 3 ≤ B → Own32 w7 B (.slice b7 (n + 1) c7) (L ++ [X]) → U32At (((w7.setCell ⟨w.heap.size, 1, none⟩ (.slice b7 (n + 1) c7)).setCell ⟨w.heap.size + 1 + 1, 0, none⟩ (.int .i64 (m : Int))).setCell ⟨w.heap.size + 1 + 1, 1, none⟩ (.slice b7 (n + 1) c7)) b7 (n + 1) (cameL m L p.pd) ∧ Below w.heap.size w (((w7.setCell ⟨w.heap.size, 1, none⟩ (.slice b7 (n + 1) c7)).setCell ⟨w.heap.size + 1 + 1, 0, none⟩ (.int .i64 (m : Int))).setCell ⟨w.heap.size + 1 + 1, 1, none⟩ (.slice b7 (n + 1) c7)) from fun w7 b7 c7 B hS hB hO => by
        have ht := (hS.turned (.slice b7 (n + 1) c7)).2
        have hO2 := hO.tu ht (fun j hj e => by rcases e with e | e <;> omega)
        obtain ⟨a8, c8, e8, hU8, -⟩ := hO2.all
        simp only [Value.slice.injEq] at e8
        obtain ⟨rfl, e9, -⟩ := e8
        rw [unhide HCM]
        rw [unhide HLX] at hU8
        exact ⟨hU8, hS.ha.bel.trans (ht.below hS.ha.bel.size fun j hj e => by rcases e with e | e <;> omega)⟩)
      clear hu hr hok hf hcm hh hX hl hfull hm0
      go_enter Try.func15, Try.ntmps15
      go_wp2_with (first
        | (go_at_call 9; refine (unhide HC).mono ?_; rintro e w1 ⟨rfl, hb1⟩; have HS1 := hide ((unhide HS0).below hb1); have q0 := (unhide HS1).ha.cc.at 0 rfl; have q1 := (unhide HS1).ha.cc.at 1 rfl; have r0 := (unhide HS1).ha.pa.at 0 rfl; have r1 := (unhide HS1).ha.pa.at 1 rfl; have r2 := (unhide HS1).ha.pa.at 2 rfl; have r3 := (unhide HS1).ha.pa.at 3 rfl; have r4 := (unhide HS1).ha.pa.at 4 rfl; have r5 := (unhide HS1).ha.pa.at 5 rfl; have r6 := (unhide HS1).ha.pa.at 6 rfl; clear hb1)
        | (go_at_call 17; refine (unhide HH _ (unhide HS1)).mono ?_; rintro e w2 ⟨rfl, hb2⟩; have HS2 := hide ((unhide HS1).below hb2); clear q0 q1 r0 r1 r2 r3 r4 r5 r6 HS1; have q0 := (unhide HS2).ha.cc.at 0 rfl; have q1 := (unhide HS2).ha.cc.at 1 rfl; clear hb2)
        | (clear HF1; at_builtin; refine wpList_append_nil32 rfl _ _ rfl a n c L rfl rfl (unhide HS2).ha.us (by omega) ?_; intro v5 w5 ho5 hb5; obtain ⟨b5, c5, hv5, -⟩ := ho5.all; rw [unhide HL] at hv5; subst hv5; have HO5 := hide ho5; have HS5 := hide ((unhide HS2).below hb5); have HZ5 := hide (unhide HS2).size; have HS5X := hide hb5.size; clear ho5 hb5 q0 q1; have q0 := (unhide HS5).ha.cc.at 0 rfl; have q1 := (unhide HS5).ha.cc.at 1 rfl; have r0 := (unhide HS5).ha.pa.at 0 rfl; have r1 := (unhide HS5).ha.pa.at 1 rfl; have r2 := (unhide HS5).ha.pa.at 2 rfl; have r3 := (unhide HS5).ha.pa.at 3 rfl; have r4 := (unhide HS5).ha.pa.at 4 rfl; have r5 := (unhide HS5).ha.pa.at 5 rfl; have r6 := (unhide HS5).ha.pa.at 6 rfl)
        | (go_at_call 11; refine (unhide HPR _ (unhide HS5)).mono ?_; rintro e w6 ⟨rfl, hb6⟩; have HS6 := hide ((unhide HS5).below hb6); have HO6 := hide ((unhide HO5).below hb6); have HZ6 := hide (show w2.heap.size ≤ w6.heap.size from Nat.le_trans (unhide HS5X) hb6.size); clear hb6 q0 q1 r0 r1 r2 r3 r4 r5 r6)
        | (at_builtin; refine wpList_push32 rfl _ _ rfl _ (.slice b5 n c5) L X rfl rfl (unhide HO6) (unhide HZ6) (by rw [unhide HL]; omega) ?_; intro v7 w7 ho7 hb7; obtain ⟨b7, c7, hv7, -⟩ := ho7.all; rw [unhide HLX] at hv7; subst hv7; have HO7 := hide ho7; have HS7 := hide (show FrS w w7 m a n c L p from (unhide HS6).lowB (unhide HU) (unhide HRW) hb7 (unhide HZ5)); clear ho7 hb7; have q0 := (unhide HS7).ha.cc.at 0 rfl; have q1 := (unhide HS7).ha.cc.at 1 rfl; have q2 := (unhide HS7).ha.cc.frz 1; have p0 := (unhide HS7).re.at 0 rfl; have p1 := (unhide HS7).re.at 1 rfl; have f0 := (unhide HS7).re.frz 0; have f1 := (unhide HS7).re.frz 1)
        | fail)
      exact bodyPost_ret (results_rc2 rfl rfl ((unhide HS7).turned _).1) rfl ⟨b7, n + 1, c7, rfl, unhide HDONE _ _ _ _ (unhide HS7) (unhide HZ5) (unhide HO7)⟩
theorem rsfresh_any (m : Nat) (a : Option Addr) (n c : Nat) (L : List Nat) (p : PKV) (w : World) (hu : U32At w a n L) (hm : m ≤ 256) (hl : L.length ≤ m) (hr : RowAt w p.r.a p.r.n p.r.xs) :
    Calls Try.prog 15 #[.agg #[.int .i64 (m : Int), .slice a n c], p.val] w fun e w' => RfP w w' m L p e := by
  cases hf : freshD L p.pd
  · exact rsfresh_no m a n c L p w hu (by rw [← hu.1]; omega) hr hf
  · exact rsfresh_yes m a n c L p w hu hm hl hr hf
end Go.Proofs.Ytpklckpnimmkpaa
