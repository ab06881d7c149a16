/-
  Contract of (*peeling).next: whatever the order of the map.
-/
import Derived.Test.YtnjdldbdkafnaaaGreatDoorYE
namespace Go.Proofs.YtnjdldbdkafnaaaGreatDoor
open Go.RowKit Go.Sort
set_option linter.unusedVariables false
set_option linter.unusedSimpArgs false
set_option maxRecDepth 4000

/-- The places that are in the map while those of 'left' are still to come. -/
def stS (S : Nat → Bool) (cs : Nat → List Nat) (kn : List Nat) (left : Lit → Bool) (p : Nat) : Bool := S p && (left (.int .i64 (p : Int)) || !decide (cnt (dropL (cs p) kn) = 0))
/-- What is left of their rows. -/
def stC (cs : Nat → List Nat) (kn : List Nat) (left : Lit → Bool) (p : Nat) : List Nat := if left (.int .i64 (p : Int)) = true then cs p else dropL (cs p) kn
/-- The first that tells a block, of those that have come. -/
def Fst (S : Nat → Bool) (cs : Nat → List Nat) (kn : List Nat) (left : Lit → Bool) (N first : Nat) : Prop :=
  first ≤ N ∧ (first < N → S first = true ∧ left (.int .i64 (first : Int)) = false ∧ cnt (dropL (cs first) kn) = 1) ∧ ∀ p : Nat, S p = true → left (.int .i64 (p : Int)) = false → cnt (dropL (cs p) kn) = 1 → first ≤ p
/-- One place less is still to come. -/
def lessP (left : Lit → Bool) (p : Nat) : Lit → Bool := fun z => left z && !z.sameKey (.int .i64 (p : Int))
theorem lessP_at (left : Lit → Bool) (p q : Nat) : lessP left p (.int .i64 (q : Int)) = (left (.int .i64 (q : Int)) && !decide (q = p)) := by
  unfold lessP; rw [same_lit]
/-- What a round of next leaves. -/
def NxS (w wr : World) (B : Nat) (v : PV) (sz : Nat) (S : Nat → Bool) (f : Nat → Nat × Nat) (cs : Nat → List Nat) (kn : List Nat) (bs : List ByteArray) (r : Nat) (left : Lit → Bool) (c first : Nat) (D : DataW Value) : Prop :=
  PlAt wr B v kn bs ∧ wr.ranges Tryz.prog 3 slElem v.bm r v.n D left c ∧ RdAs D (stS S cs kn left) (slv sz f) ∧ Lf wr B sz (stS S cs kn left) f (stC cs kn left) ∧ Fst S cs kn left v.n first ∧ Below B w wr ∧ B ≤ r
theorem NxS.start {w w0 : World} {B : Nat} {v : PV} {sz : Nat} {S : Nat → Bool} {f : Nat → Nat × Nat} {cs : Nat → List Nat} {kn : List Nat} {bs : List ByteArray} {D : DataW Value} (h1 : PlAt w B v kn bs) (hR : RdAs D S (slv sz f)) (hL : Lf w B sz S f cs)
    (hrg : w0.ranges Tryz.prog 3 slElem v.bm w.heap.size v.n D (Maps.has D) (Maps.size D)) (hg : w.grownBy w0 none) (hB : B ≤ w.heap.size) : NxS w w0 B v sz S f cs kn bs w.heap.size (Maps.has D) (Maps.size D) v.n D := by
  have hb : Below w.heap.size w w0 := gb_below hg (Nat.le_refl _) (fun k hk => by cases hk)
  have e : ∀ p, stS S cs kn (Maps.has D) p = S p := fun p => by unfold stS; rw [hR.has]; cases S p <;> simp
  have e' : stS S cs kn (Maps.has D) = S := funext e
  refine ⟨h1.below hb, hrg, by rw [e']; exact hR, ?_, ⟨Nat.le_refl _, fun h => absurd h (Nat.lt_irrefl _), fun p hp hl => ?_⟩, hb.mono hB, hB⟩
  · rw [e']
    refine ⟨fun p hp => ?_, hL.two⟩
    unfold stC
    rw [hR.has, if_pos hp]
    exact ⟨((hL.below hb).own p hp).1, (hL.own p hp).2⟩
  · rw [hR.has, hp] at hl; cases hl
/-- .. and in it, behind the row's drop. -/
def NxP (w w2 : World) (B : Nat) (v : PV) (sz : Nat) (S : Nat → Bool) (f : Nat → Nat × Nat) (cs : Nat → List Nat) (kn : List Nat) (bs : List ByteArray) (r : Nat) (left : Lit → Bool) (c first : Nat) (D : DataW Value) (p : Nat) : Prop :=
  PlAt w2 B v kn bs ∧ w2.ranges Tryz.prog 3 slElem v.bm r v.n D (lessP left p) c ∧ RdAs D (stS S cs kn left) (slv sz f) ∧ Lf w2 B sz (stS S cs kn left) f (stC cs kn (lessP left p)) ∧ Fst S cs kn left v.n first ∧ Below B w w2 ∧ B ≤ r
theorem NxS.step {w wr w1 : World} {B : Nat} {v : PV} {sz : Nat} {S : Nat → Bool} {f : Nat → Nat × Nat} {cs : Nat → List Nat} {kn : List Nat} {bs : List ByteArray} {r : Nat} {left : Lit → Bool} {c c1 first : Nat} {D : DataW Value} {p gp cp : Nat} (h : NxS w wr B v sz S f cs kn bs r left c first D)
    (hst : ∀ p, S p = true → p < v.n ∧ (f p).1 ≠ v.kg) (hf : f p = (gp, cp)) (hp : stS S cs kn left p = true) (hl : left (.int .i64 (p : Int)) = true) (hrg : w1.ranges Tryz.prog 3 slElem v.bm r v.n D (lessP left p) c1) (hg : wr.grownBy w1 (some r)) (hBw : B ≤ w.heap.size) :
    Own w1 B (.slice (some ⟨gp, 0, none⟩) sz cp) (cs p) ∧ (cs p).length = sz ∧ PlAt w1 B v kn bs ∧ v.kg ≠ gp ∧ p < v.n ∧ S p = true ∧
    ∀ w2, w1.grownBy w2 (some gp) → Own w2 B (.slice (some ⟨gp, 0, none⟩) sz cp) (dropL (cs p) kn) → NxP w w2 B v sz S f cs kn bs r left c1 first D p := by
  obtain ⟨h1, h2, h3, h4, h5, h6, h7⟩ := h
  have hSp : S p = true := by unfold stS at hp; rw [Bool.and_eq_true] at hp; exact hp.1
  have hiter : ∀ cur t m, wr.heap[r]? ≠ some (.cells cur t m) := by
    obtain ⟨es, clock, since, seen, c0, _, _, _, _, hr, _⟩ := h2
    intro cur t m e
    rw [hr] at e
    cases e
  have o0 := (h4.own p hp).1
  have hlen := (h4.own p hp).2
  unfold stC at o0 hlen
  rw [if_pos hl] at o0 hlen
  rw [hf] at o0
  have hri := own_noiter o0 h2
  have o1 := o0.kept hg (.inr fun e => hri (by simpa [Value.ownBlock] using e))
  have p1 := h1.nocells hg hiter
  have hkg : v.kg ≠ gp := fun e => (hst p hSp).2 (by rw [hf]; exact e.symm)
  have hL1 : Lf w1 B sz (stS S cs kn left) f (stC cs kn left) := h4.kept hg (fun q hq => own_noiter (h4.own q hq).1 h2)
  refine ⟨o1, hlen, p1, hkg, (hst p hSp).1, hSp, fun w2 hg2 o2 => ?_⟩
  have hm1 : gp ≠ v.bm := own_nomap o1 hrg.owns
  have hr1 : gp ≠ r := own_noiter o1 hrg
  refine ⟨p1.row hg2 o1 hkg, hrg.kept hg2 (fun e => hm1 (by simpa using e.symm)) (fun e => hr1 (by simpa using e.symm)), h3, ⟨fun q hq => ?_, h4.two⟩, h5, (h6.trans (gb_below hg (Nat.le_trans hBw h6.size) fun j hj => by cases hj; exact h7)).trans (gb_below hg2 (Nat.le_trans hBw (Nat.le_trans h6.size hg.size)) fun j hj => by cases hj; exact (o1.lt (k := gp) rfl).1), h7⟩
  by_cases e : q = p
  · subst e
    unfold stC
    rw [lessP_at, if_neg (by simp), hf]
    exact ⟨o2, by rw [dropL_length]; exact hlen⟩
  · have hne : (f q).1 ≠ gp := by have := h4.two q p hq hp e; rw [hf] at this; exact this
    have := hL1.own q hq
    unfold stC at this ⊢
    rw [lessP_at, show (left (.int .i64 (q : Int)) && !decide (q = p)) = left (.int .i64 (q : Int)) by simp [e]]
    exact ⟨this.1.kept hg2 (.inr fun e => hne (by simpa [Value.ownBlock] using e)), this.2⟩
/-- The first one, one more having come. -/
theorem Fst.more {S : Nat → Bool} {cs : Nat → List Nat} {kn : List Nat} {left : Lit → Bool} {N first p : Nat} (h : Fst S cs kn left N first) (hp : p < N) (hS : S p = true) : Fst S cs kn (lessP left p) N (if cnt (dropL (cs p) kn) = 1 then min first p else first) := by
  obtain ⟨h1, h2, h3⟩ := h
  by_cases hc : cnt (dropL (cs p) kn) = 1
  · rw [if_pos hc]
    refine ⟨by omega, fun hlt => ?_, fun q hq hl hcq => ?_⟩
    · by_cases hm : first < p
      · rw [show min first p = first by omega] at hlt ⊢
        obtain ⟨a, b, c⟩ := h2 hlt
        exact ⟨a, by rw [lessP_at, b]; rfl, c⟩
      · rw [show min first p = p by omega]
        exact ⟨hS, by rw [lessP_at]; simp, hc⟩
    · rw [lessP_at] at hl
      by_cases e : q = p
      · omega
      · have := h3 q hq (by simpa [e] using hl) hcq
        omega
  · rw [if_neg hc]
    refine ⟨h1, fun hlt => ?_, fun q hq hl hcq => ?_⟩
    · obtain ⟨a, b, c⟩ := h2 hlt
      exact ⟨a, by rw [lessP_at, b]; rfl, c⟩
    · rw [lessP_at] at hl
      by_cases e : q = p
      · subst e; exact absurd hcq hc
      · exact h3 q hq (by simpa [e] using hl) hcq
theorem NxP.stay {w w2 : World} {B : Nat} {v : PV} {sz : Nat} {S : Nat → Bool} {f : Nat → Nat × Nat} {cs : Nat → List Nat} {kn : List Nat} {bs : List ByteArray} {r : Nat} {left : Lit → Bool} {c first : Nat} {D : DataW Value} {p : Nat} (h : NxP w w2 B v sz S f cs kn bs r left c first D p)
    (hp : p < v.n) (hS : S p = true) (hc : ¬ cnt (dropL (cs p) kn) = 0) : NxS w w2 B v sz S f cs kn bs r (lessP left p) c (if cnt (dropL (cs p) kn) = 1 then min first p else first) D := by
  obtain ⟨h1, h2, h3, h4, h5, h6, h7⟩ := h
  have e : stS S cs kn left = stS S cs kn (lessP left p) := by
    funext q
    unfold stS
    rw [lessP_at]
    by_cases e : q = p
    · subst e; simp [hc]
    · simp [e]
  rw [e] at h3 h4
  exact ⟨h1, h2, h3, h4, h5.more hp hS, h6, h7⟩
theorem NxP.gone {w w2 w3 : World} {B : Nat} {v : PV} {sz : Nat} {S : Nat → Bool} {f : Nat → Nat × Nat} {cs : Nat → List Nat} {kn : List Nat} {bs : List ByteArray} {r : Nat} {left : Lit → Bool} {c c3 first : Nat} {D : DataW Value} {p : Nat} (h : NxP w w2 B v sz S f cs kn bs r left c first D p)
    (hp : p < v.n) (hS : S p = true) (hc : cnt (dropL (cs p) kn) = 0) (hrg : w3.ranges Tryz.prog 3 slElem v.bm r v.n (D.del (.int .i64 (p : Int))) (lessP left p) c3) (ht : w2.mapTurned w3 v.bm) (hBm : B ≤ v.bm) (hBw : B ≤ w.heap.size) :
    NxS w w3 B v sz S f cs kn bs r (lessP left p) c3 first (D.del (.int .i64 (p : Int))) := by
  obtain ⟨h1, h2, h3, h4, h5, h6, h7⟩ := h
  have hg := ht.grown
  have e : ∀ q, (stS S cs kn left q && !decide (q = p)) = stS S cs kn (lessP left p) q := fun q => by
    unfold stS
    rw [lessP_at]
    by_cases e : q = p
    · subst e; simp [hc]
    · simp [e]
  have hnm : ∀ cur t m, w2.heap[v.bm]? ≠ some (.cells cur t m) := by
    obtain ⟨es, clock, hb, _⟩ := h2.owns
    intro cur t m e
    rw [hb] at e
    cases e
  have hfm := h5.more hp hS
  rw [if_neg (by omega)] at hfm
  have hL3 := h4.kept hg (fun q hq => own_nomap (h4.own q hq).1 h2.owns)
  refine ⟨h1.nocells hg hnm, hrg, (h3.del p).congr e (fun _ _ => rfl), ⟨fun q hq => ?_, fun q q' hq hq' => ?_⟩, hfm, h6.trans (gb_below hg (Nat.le_trans hBw h6.size) fun j hj => by cases hj; exact hBm), h7⟩
  · rw [← e, Bool.and_eq_true] at hq
    exact hL3.own q hq.1
  · rw [← e, Bool.and_eq_true] at hq hq'
    exact hL3.two q q' hq.1 hq'.1
/-- The places that are left behind all. -/
def leftS (S : Nat → Bool) (cs : Nat → List Nat) (kn : List Nat) (p : Nat) : Bool := S p && !decide (cnt (dropL (cs p) kn) = 0)
theorem NxS.done {w wr : World} {B : Nat} {v : PV} {sz : Nat} {S : Nat → Bool} {f : Nat → Nat × Nat} {cs : Nat → List Nat} {kn : List Nat} {bs : List ByteArray} {r : Nat} {left : Lit → Bool} {c first : Nat} {D : DataW Value} (h : NxS w wr B v sz S f cs kn bs r left c first D) (hl : ∀ kl, left kl = false)
    (hst : ∀ p, S p = true → p < v.n ∧ (f p).1 ≠ v.kg) (hBm : B ≤ v.bm) :
    PS wr B v sz (leftS S cs kn) f (fun p => dropL (cs p) kn) kn bs ∧ Below B w wr ∧ first ≤ v.n ∧ (first < v.n → S first = true ∧ cnt (dropL (cs first) kn) = 1) ∧ ∀ p, S p = true → cnt (dropL (cs p) kn) = 1 → first ≤ p := by
  obtain ⟨h1, h2, h3, h4, h5, h6, h7⟩ := h
  have e : stS S cs kn left = leftS S cs kn := by funext q; unfold stS leftS; rw [hl]; simp
  have e2 : stC cs kn left = fun p => dropL (cs p) kn := by funext q; unfold stC; rw [hl]; simp
  rw [e] at h3 h4
  rw [e2] at h4
  refine ⟨⟨h1, ⟨D, h2.owns, h3⟩, h4, fun p hp => ?_, hBm⟩, h6, h5.1, fun hlt => ⟨(h5.2.1 hlt).1, (h5.2.1 hlt).2.2⟩, fun p hp hc => h5.2.2 p hp (hl _) hc⟩
  unfold leftS at hp
  rw [Bool.and_eq_true] at hp
  exact hst p hp.1

set_option maxHeartbeats 2000000 in
theorem next_any (B : Nat) (v : PV) (sz : Nat) (S : Nat → Bool) (f : Nat → Nat × Nat) (cs : Nat → List Nat) (kn : List Nat) (bs : List ByteArray) (w : World) (h : PS w B v sz S f cs kn bs) (hB : B ≤ w.heap.size) (hz : sz ≤ 1048576) (hkl : kn.length ≤ 1048576) (hn : v.n ≤ 1048576) :
    Calls Tryz.prog 108 #[.pointer (some ⟨v.g, 0, none⟩)] w fun e w' => ∃ first : Nat, e = .returned (.tuple #[.int .i64 (first : Int), .bool (decide (first < v.n))]) ∧ PS w' B v sz (leftS S cs kn) f (fun p => dropL (cs p) kn) kn bs ∧ Below B w w' ∧
      first ≤ v.n ∧ (first < v.n → S first = true ∧ cnt (dropL (cs first) kn) = 1) ∧ ∀ p, S p = true → cnt (dropL (cs p) kn) = 1 → first ≤ p := by
  obtain ⟨h1, ⟨D0, h2, h3⟩, h4, h5, h6⟩ := h
  obtain ⟨x0, x1, x2, x3⟩ := h1.cells
  have HST := hide h5
  have HSTART := hide (fun w0 hrg hg => NxS.start (w0 := w0) h1 h3 h4 hrg hg hB)
  have H2 := hide h2
  clear h1 h2 h3 h4 h5
  go_enter Tryz.func108, Tryz.ntmps108
  go_wp2_with (first | (at_range; refine wpList_range_own _ rfl _ 151 rfl 3 27 lawI Tryz.underlying151 slElem v.bm v.n D0 rfl (unhide H2) ?_; intro w0 hrg0 hg0 hs0; have HN0 := hide (unhide HSTART w0 hrg0 hg0); clear hrg0 hg0 hs0 HSTART H2))
  go_frame
  go_loopw [5] (fun i wr => ∃ (first c : Nat) (left : Lit → Bool) (D : DataW Value), i = .int .i64 (first : Int) ∧ first ≤ 1048576 ∧ Hid (NxS w wr B v sz S f cs kn bs w.heap.size left c first D)) (fun _ wr => wr.rangeLeft v.bm w.heap.size)
  case atStart => exact ⟨_, _, _, _, rfl, hn, HN0⟩
  case round =>
    obtain ⟨first, c, left, D, rfl, hfn, HN⟩ := hrel
    clear HN0 x0 x1 x2 x3
    have hrgm := hide (unhide HN).2.1.left_eq
    go_wp2_with (first | (at_next; refine wpList_next_sl rfl _ rfl v.bm w.heap.size v.n sz D left c (stS S cs kn left) f (unhide HN).2.2.1 rfl (unhide HN).2.1 ?_ ?_))
    · intro hl
      have HD := hide ((unhide HN).done hl (unhide HST) h6)
      clear HN hl HST hrgm
      go_wp2
      go_ret2
      exact ⟨first, by simp, unhide HD⟩
    · intro p gp cp w1 c1 hf hp hl hrg1 hlt hg1 hen
      obtain ⟨o1, hlen, p1, hkg, hpn, hSp, hNP⟩ := (unhide HN).step (unhide HST) hf hp hl hrg1 hg1 hB
      have HDR := drop_any B (some ⟨gp, 0, none⟩) cp (cs p) (some ⟨v.kg, 0, none⟩) kn.length v.kc kn w1 (by rw [hlen]; exact o1) p1.known.at'.2 (.inr fun ad e => by cases e; simp [Value.ownBlock, hkg]) (by omega) hkl
      rw [hlen] at HDR
      have HD1 := hide HDR
      have HC := hide (fun w2 (ho : Own w2 B (.slice (some ⟨gp, 0, none⟩) sz cp) (dropL (cs p) kn)) => count_any (some ⟨gp, 0, none⟩) sz cp (dropL (cs p) kn) w2 (by have := ho.at'; rw [this.1]; exact this.2) hz)
      have HP := hide hNP
      obtain ⟨-, y1, -, -⟩ := p1.cells
      clear HDR hNP p1 o1 hlen hrg1 hl hp hf hg1 HN
      rcases Nat.lt_trichotomy (cnt (dropL (cs p) kn)) 1 with h0 | h0 | h0
      · have hc0 : cnt (dropL (cs p) kn) = 0 := by omega
        rw [hc0] at HC
        have HG := hide (fun w2 w3 c3 (hnp : NxP w w2 B v sz S f cs kn bs w.heap.size left c1 first D p) hrg ht => hnp.gone (w3 := w3) (c3 := c3) hpn hSp hc0 hrg ht h6 hB)
        clear h0 hc0
        go_wp2_with (first | (go_at_call 127; refine (unhide HD1).mono ?_; rintro e w2 ⟨rfl, ho2, hg2⟩; have HC2 := hide (unhide HC w2 ho2); have HNP := hide (unhide HP w2 hg2 ho2); obtain ⟨z0, z1, z2, z3⟩ := (unhide HNP).1.cells; clear ho2 hg2) | (go_at_call 78; refine (unhide HC2).mono ?_; rintro e w9 ⟨rfl, hw9⟩; obtain rfl := hw9.symm; clear hw9) | (at_delete; refine wpList_delete_ranges _ rfl _ _ 151 3 rfl 27 lawI Tryz.underlying151 slElem v.bm w.heap.size v.n D (lessP left p) c1 rfl (unhide HNP).2.1 (.int .i64 (p : Int)) (.int .i64 (p : Int)) rfl (key_nat (by omega)) ?_; intro w3 c3 hrg3 hle ht3; rw [show (fun z => lessP left p z && !z.sameKey (.int .i64 (p : Int))) = lessP left p from Maps.strike_twice left _] at hrg3; have HN3 := hide (unhide HG w2 w3 c3 (unhide HNP) hrg3 ht3); clear hrg3 ht3; go_frame))
        go_roundw
        case rel => exact ⟨first, c3, _, _, rfl, hfn, HN3⟩
        case measure => rw [(unhide HN3).2.1.left_eq, unhide hrgm]; omega
      · rw [h0] at HC
        have HG := hide (fun w2 (hnp : NxP w w2 B v sz S f cs kn bs w.heap.size left c1 first D p) => hnp.stay hpn hSp (by omega))
        rw [h0, if_pos rfl] at HG
        have hmin := fun wx ts t => min_run first p ts t wx
        obtain ⟨mn, hmn⟩ : ∃ mn, mn = min first p := ⟨_, rfl⟩
        rw [← hmn] at hmin HG
        have hmn' : mn ≤ 1048576 := by omega
        clear h0 hmn
        go_wp2_with (first | (go_at_call 127; refine (unhide HD1).mono ?_; rintro e w2 ⟨rfl, ho2, hg2⟩; have HC2 := hide (unhide HC w2 ho2); have HNP := hide (unhide HP w2 hg2 ho2); clear ho2 hg2) | (go_at_call 78; refine (unhide HC2).mono ?_; rintro e w9 ⟨rfl, hw9⟩; obtain rfl := hw9.symm; clear hw9))
        go_roundw
        case rel => exact ⟨mn, c1, _, _, rfl, hmn', hide (unhide HG w2 (unhide HNP))⟩
        case measure => rw [(unhide HNP).2.1.left_eq, unhide hrgm]; omega
      · have HG := hide (fun w2 (hnp : NxP w w2 B v sz S f cs kn bs w.heap.size left c1 first D p) => hnp.stay hpn hSp (by omega))
        rw [if_neg (by omega)] at HG
        have hne0 : ((cnt (dropL (cs p) kn) : Int) == 0) = false := by rw [beq_eq_false_iff_ne]; omega
        have hne1 : ((cnt (dropL (cs p) kn) : Int) == 1) = false := by rw [beq_eq_false_iff_ne]; omega
        clear h0
        generalize cnt (dropL (cs p) kn) = cr at *
        go_wp2_with (first | (go_at_call 127; refine (unhide HD1).mono ?_; rintro e w2 ⟨rfl, ho2, hg2⟩; have HC2 := hide (unhide HC w2 ho2); have HNP := hide (unhide HP w2 hg2 ho2); clear ho2 hg2) | (go_at_call 78; refine (unhide HC2).mono ?_; rintro e w9 ⟨rfl, hw9⟩; obtain rfl := hw9.symm; clear hw9))
        go_roundw
        case rel => exact ⟨first, c1, _, _, rfl, hfn, hide (unhide HG w2 (unhide HNP))⟩
        case measure => rw [(unhide HNP).2.1.left_eq, unhide hrgm]; omega
end Go.Proofs.YtnjdldbdkafnaaaGreatDoor
