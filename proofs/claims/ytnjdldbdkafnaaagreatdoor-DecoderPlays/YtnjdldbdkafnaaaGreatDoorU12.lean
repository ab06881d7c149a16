/-
  Contract of peel.Peel.
  peel.Peel for any k; plain mathematics of the reference's way: a row less the known ones, known ones with one more.
-/
import Derived.Test.YtnjdldbdkafnaaaGreatDoorU11
import Derived.Deep.LoopGhost
namespace Go.Proofs.YtnjdldbdkafnaaaGreatDoor
open Go.RowKit Go.Sort
set_option linter.unusedVariables false
set_option linter.unusedSimpArgs false
set_option maxRecDepth 4000

/-- The rows that are left at the end. -/
def restB (k : Int) (kn : List Nat) (r : RV) : Bool := validB k r.xs && !decide (cnt (dropL r.xs kn) = 0) && !decide (cnt (dropL r.xs kn) = 1)
def restL (k : Int) (rs : List RV) (kn : List Nat) (bs : List ByteArray) : List (List Nat × ByteArray) := (rs.filter (restB k kn)).map fun r => (dropL r.xs kn, txtL bs r.xs r.s)
/-- What holds of the map ahead of next. -/
def InvL (k : Int) (rs : List RV) (n : Nat) (S : Nat → Bool) (cs : Nat → List Nat) (kn : List Nat) : Prop :=
  (∀ p, S p = true → p < n ∧ validB k (rs.getD p .dflt).xs = true ∧ dropL (cs p) kn = dropL (rs.getD p .dflt).xs kn) ∧ ∀ p, p < n → validB k (rs.getD p .dflt).xs = true → S p = false → cnt (dropL (rs.getD p .dflt).xs kn) = 0
theorem InvL.start (k : Int) (rs : List RV) (n : Nat) (kn : List Nat) : InvL k rs n (valTo k rs n) (fun p => (rs.getD p .dflt).xs) kn := by
  refine ⟨fun p hp => ?_, fun p hp hv hS => ?_⟩
  · unfold valTo at hp
    rw [Bool.and_eq_true, decide_eq_true_eq] at hp
    exact ⟨hp.1, hp.2, rfl⟩
  · unfold valTo at hS
    rw [hv, decide_eq_true hp] at hS
    cases hS
/-- .. and behind it. -/
theorem InvL.next {k : Int} {rs : List RV} {n : Nat} {S : Nat → Bool} {cs : Nat → List Nat} {kn : List Nat} (h : InvL k rs n S cs kn) :
    (∀ p, leftS S cs kn p = true → p < n ∧ validB k (rs.getD p .dflt).xs = true ∧ dropL (cs p) kn = dropL (rs.getD p .dflt).xs kn ∧ ¬ cnt (dropL (rs.getD p .dflt).xs kn) = 0) ∧ ∀ p, p < n → validB k (rs.getD p .dflt).xs = true → leftS S cs kn p = false → cnt (dropL (rs.getD p .dflt).xs kn) = 0 := by
  refine ⟨fun p hp => ?_, fun p hp hv hS => ?_⟩
  · unfold leftS at hp
    rw [Bool.and_eq_true] at hp
    obtain ⟨h1, h2, h3⟩ := h.1 p hp.1
    refine ⟨h1, h2, h3, fun e => ?_⟩
    rw [h3, e] at hp
    simp at hp
  · cases hSp : S p
    · exact h.2 p hp hv hSp
    · unfold leftS at hS
      rw [hSp, Bool.true_and] at hS
      rw [← (h.1 p hSp).2.2]
      simpa using hS
theorem InvL.tell {k : Int} {rs : List RV} {n : Nat} {S : Nat → Bool} {cs : Nat → List Nat} {kn kn' : List Nat} (h : InvL k rs n S cs kn) (hsm : ∀ p, p < n → smalls (rs.getD p .dflt).xs) (hsub : ∀ i, getB kn i = true → getB kn' i = true) : InvL k rs n (leftS S cs kn) (fun p => dropL (cs p) kn) kn' := by
  obtain ⟨h1, h2⟩ := h.next
  refine ⟨fun p hp => ?_, fun p hp hv hS => ?_⟩
  · obtain ⟨a, b, c, _⟩ := h1 p hp
    refine ⟨a, b, ?_⟩
    show dropL (dropL (cs p) kn) kn' = _
    rw [c, dropL_twice _ _ _ hsub (hsm p a)]
  · have h0 := cnt_none.1 (h2 p hp hv hS)
    refine cnt_none.2 fun i => ?_
    have := h0 i
    rw [dropL_bit] at this ⊢
    cases hx : getB (rs.getD p .dflt).xs i
    · rfl
    · rw [hx] at this
      simp at this
      rw [hsub i this]; rfl
/-- The first that tells, by its place. -/
theorem InvL.found {k : Int} {rs : List RV} {n first : Nat} {S : Nat → Bool} {cs : Nat → List Nat} {kn : List Nat} (h : InvL k rs n S cs kn) (hl : rs.length = n) (hlt : first < n) (h1 : S first = true ∧ cnt (dropL (cs first) kn) = 1) (h2 : ∀ p, S p = true → cnt (dropL (cs p) kn) = 1 → first ≤ p) :
    rs.find? (tellsB k kn) = some (rs.getD first .dflt) ∧ tellsB k kn (rs.getD first .dflt) = true := by
  obtain ⟨a, b, c⟩ := h.1 first h1.1
  have ht : tellsB k kn (rs.getD first .dflt) = true := by
    unfold tellsB
    rw [b, ← c, h1.2]; rfl
  refine ⟨find_at (by omega) ht fun j hj => ?_, ht⟩
  cases hv : validB k (rs.getD j .dflt).xs
  · unfold tellsB; rw [hv]; rfl
  · unfold tellsB
    rw [hv, Bool.true_and, decide_eq_false_iff_not]
    intro hc
    cases hS : S j
    · have := h.2 j (by omega) hv hS; omega
    · have := h2 j hS (by rw [(h.1 j hS).2.2]; exact hc); omega
theorem InvL.nomore {k : Int} {rs : List RV} {n : Nat} {S : Nat → Bool} {cs : Nat → List Nat} {kn : List Nat} (h : InvL k rs n S cs kn) (hl : rs.length = n) (h2 : ∀ p, S p = true → cnt (dropL (cs p) kn) = 1 → n ≤ p) : rs.find? (tellsB k kn) = none := by
  refine find_no fun j hj => ?_
  cases hv : validB k (rs.getD j .dflt).xs
  · unfold tellsB; rw [hv]; rfl
  · unfold tellsB
    rw [hv, Bool.true_and, decide_eq_false_iff_not]
    intro hc
    cases hS : S j
    · have := h.2 j (by omega) hv hS; omega
    · have := h2 j hS (by rw [(h.1 j hS).2.2]; exact hc); omega
theorem range_filter (rs : List RV) (q : RV → Bool) (g : RV → List Nat × ByteArray) : ((List.range rs.length).filter fun p => q (rs.getD p .dflt)).map (fun p => g (rs.getD p .dflt)) = (rs.filter q).map g := by
  have e : (List.range rs.length).map (fun p => rs.getD p .dflt) = rs := by
    apply List.ext_getElem
    · simp
    · intro i h1 h2
      simp [List.getD_eq_getElem?_getD, List.getElem?_eq_getElem h2]
  conv => rhs; rw [← e, List.filter_map, List.map_map]
  rfl
theorem InvL.rest {k : Int} {rs : List RV} {n : Nat} {S : Nat → Bool} {cs : Nat → List Nat} {kn : List Nat} (h : InvL k rs n S cs kn) (hl : rs.length = n) (hnone : rs.find? (tellsB k kn) = none) (bs : List ByteArray) : restTo (leftS S cs kn) (fun p => dropL (cs p) kn) bs rs n = restL k rs kn bs := by
  obtain ⟨h1, h2⟩ := h.next
  have hq : ∀ p, p < n → leftS S cs kn p = restB k kn (rs.getD p .dflt) := fun p hp => by
    have hno : tellsB k kn (rs.getD p .dflt) = false := by
      rw [← Bool.not_eq_true]
      have := List.find?_eq_none.1 hnone rs[p] (List.getElem_mem (by omega))
      rwa [List.getD_eq_getElem?_getD, List.getElem?_eq_getElem (by omega)]
    unfold restB
    unfold tellsB at hno
    cases hS : leftS S cs kn p
    · cases hv : validB k (rs.getD p .dflt).xs
      · rfl
      · rw [h2 p hp hv hS]; rfl
    · obtain ⟨a, b, c, d⟩ := h1 p hS
      rw [b, Bool.true_and] at hno
      rw [b, decide_eq_false d, hno]; rfl
  unfold restTo restL
  subst hl
  rw [← range_filter rs (restB k kn) fun r => (dropL r.xs kn, txtL bs r.xs r.s)]
  have e1 : ((List.range rs.length).filter fun p => leftS S cs kn p) = ((List.range rs.length).filter fun p => restB k kn (rs.getD p .dflt)) := List.filter_congr fun p hp => hq p (List.mem_range.1 hp)
  rw [e1]
  apply List.map_congr_left
  intro p hp
  rw [List.mem_filter, List.mem_range] at hp
  have := h1 p (by rw [hq p hp.1]; exact hp.2)
  show (dropL (cs p) kn, _) = _
  rw [this.2.2.1]
theorem good_of {w : World} {a : Option Addr} {n : Nat} {rs : List RV} (h : RowsAt w a n rs) (hs : shortR rs) : Good rs := fun r hr => by
  obtain ⟨i, hi, rfl⟩ := List.mem_iff_getElem.1 hr
  have h1 := h.2.1 i (by rw [← h.1]; exact hi)
  have h2 := hs i
  rw [List.getD_eq_getElem?_getD, List.getElem?_eq_getElem hi] at h1 h2
  exact ⟨h1.2.1, h2.2⟩
/-- What a round of Peel leaves. -/
def PlS (w wr : World) (v : PV) (K : Nat) (rs : List RV) (f : Nat → Nat × Nat) (gk : Nat) (S : Nat → Bool) (cs : Nat → List Nat) (kn : List Nat) (bs : List ByteArray) : Prop :=
  ∃ j, Run (K : Int) rs j kn bs ∧ K = gk + j ∧ PS wr w.heap.size v (sizeOfK (K : Int)) S f cs kn bs ∧ InvL (K : Int) rs v.n S cs kn ∧ Below w.heap.size w wr
/-- The answers of Peel. -/
def PeelR (w w' : World) (k : Int) (rs : List RV) (a1 : Option Addr) (m1 c1 : Nat) (ts1 : List RV) (a2 : Option Addr) (m2 c2 : Nat) (ts2 : List RV) : Prop :=
  ∃ kn bs, PeelP k rs kn bs ∧ OwnS w' w.heap.size (.slice a1 m1 c1) ts1 ∧ RowsIn w' ts1 ∧ ts1.map core = toldTo k kn bs k.toNat ∧ OwnS w' w.heap.size (.slice a2 m2 c2) ts2 ∧ RowsIn w' ts2 ∧ ts2.map core = restL k rs kn bs ∧ Below w.heap.size w w'

set_option maxHeartbeats 2000000 in
theorem peel_yes (K : Nat) (a : Option Addr) (n c : Nat) (rs : List RV) (w : World) (ht : Tab w) (hsz : 0 < sizeOfK (K : Int)) (h : RowsAt w a n rs) (hs : shortR rs) (hn : n ≤ 1048576) :
    Calls Tryz.prog 96 #[.int .i64 (K : Int), .slice a n c] w fun e w' => ∃ a1 m1 c1 ts1 a2 m2 c2 ts2, e = .returned (.tuple #[.slice a1 m1 c1, .slice a2 m2 c2]) ∧ PeelR w w' (K : Int) rs a1 m1 c1 ts1 a2 m2 c2 ts2 := by
  have hroom := size_room hsz
  have hK : K ≤ 128 := by omega
  have hz2 := sizeOfK_le (K : Int)
  have hg := good_of h hs
  have hsm : ∀ p, p < n → smalls (rs.getD p .dflt).xs := fun p hp => (h.2.1 p hp).2.1
  have HKN := hide (fun (j : Nat) (kn : List Nat) (bs : List ByteArray) (hr : Run (K : Int) rs j kn bs) => Run.known hsz hg hr)
  have HBE := hide (begin_any K a n c rs w hsz h hs hn)
  have hne0 : ((sizeOfK (K : Int) : Nat) : Int) ≠ 0 := by omega
  have hnb : (((sizeOfK (K : Int) : Nat) : Int) == 0) = false := by rw [beq_eq_false_iff_ne]; exact hne0
  have HZ := hide (size_any (K : Int) w)
  have Hh := hide h
  have Hs := hide hs
  have HT := hide ht
  have HSM := hide hsm
  have HL := hide h.1
  clear h hs ht hsm hg hroom hsz hne0
  generalize hzz : sizeOfK (K : Int) = zz at HZ hnb
  clear hzz
  go_enter Tryz.func96, Tryz.ntmps96
  go_wp2_with (first | (go_at_call 93; refine (unhide HZ).mono ?_; rintro e w9 ⟨rfl, hw9⟩; obtain rfl := hw9.symm; clear hw9) | (go_at_call 107; refine (unhide HBE).mono ?_; rintro e w1 ⟨g, kg, bg, f, rfl, hp1, hb1⟩; have HP1 := hide hp1; have HB1 := hide hb1; clear hp1 hb1))
  go_loopg [7] K (fun gk _ wr => ∃ (S : Nat → Bool) (cs : Nat → List Nat) (kn : List Nat) (bs : List ByteArray), Hid (PlS w wr ⟨g, a, n, c, kg, sizeOfK (K : Int), bg, K, w.heap.size⟩ K rs f gk S cs kn bs))
  case atStart => exact ⟨_, _, _, _, hide ⟨0, ⟨rfl, by rw [Int.toNat_natCast]⟩, by omega, unhide HP1, InvL.start _ _ _ _, unhide HB1⟩⟩
  case round =>
    obtain ⟨S, cs, kn, bs, HPL⟩ := hrel
    obtain ⟨j, hrun, hKj, hPS, hInv, hBw⟩ := unhide HPL
    have hKn := unhide HKN j kn bs hrun
    have hbl := hKn.lenb
    rw [Int.toNat_natCast] at hbl
    have hkl := hKn.len
    have HNX := hide (next_any w.heap.size ⟨g, a, n, c, kg, sizeOfK (K : Int), bg, K, w.heap.size⟩ (sizeOfK (K : Int)) S f cs kn bs wr hPS hBw.size (by omega) (by omega) hn)
    have hRw := (unhide Hh).below hBw
    have HIN := hide hInv
    have HRN := hide hrun
    have HBW := hide hBw
    have HRW := hide hRw
    have HKJ := hide hKj
    have HKK := hide hKn
    have hbs := hide hKn.shorts
    clear HP1 HB1 hPS hInv hBw hrun hRw hKn HPL hKj
    go_wp2_with fail
    refine (unhide HNX).mono ?_
    rintro e w1 ⟨first, rfl, hp1, hb1, hf1, hf2, hf3⟩
    have hBw1 := (unhide HBW).trans hb1
    have HB1 := hide hBw1
    have HR1 := hide ((unhide Hh).below hBw1)
    have HT1 := hide ((unhide HT).below hBw1)
    have HP1 := hide hp1
    by_cases hlt : first < n
    · obtain ⟨hfd, htl⟩ := (unhide HIN).found (unhide HL) hlt (hf2 hlt) hf3
      obtain ⟨hv, hbits, hk0, hx0, hbk, hfi⟩ := tells_bit (unhide HSM first hlt) htl
      rw [Int.toNat_natCast] at hbk
      have hlS : leftS S cs kn first = true := by
        unfold leftS
        rw [(hf2 hlt).1, (hf2 hlt).2]; rfl
      have hsub : ∀ i, getB kn i = true → getB (setB kn (blkOf kn (rs.getD first .dflt)) true) i = true := fun i hi => by
        rw [bit_setB _ _ _ _ (by have := size_room (unhide HKK).size; omega)]
        split
        · rfl
        · exact hi
      have HTE := hide (tell_any w.heap.size ⟨g, a, n, c, kg, sizeOfK (K : Int), bg, K, w.heap.size⟩ (sizeOfK (K : Int)) (leftS S cs kn) f (fun p => dropL (cs p) kn) kn bs rs first (blkOf kn (rs.getD first .dflt)) w1 (unhide HT1) hp1 hBw1.size (unhide HR1) (unhide Hs) hn (unhide hbs) (by omega) (by omega) (by omega) hlS
        (by show firstI (dropL (cs first) kn) = _; rw [((unhide HIN).1 first (hf2 hlt).1).2.2]; exact hfi) (by omega) (by have := size_room (unhide HKK).size; omega))
      have HI2 := hide ((unhide HIN).tell (unhide HSM) hsub)
      have HR2 := hide (show Run (K : Int) rs (j + 1) _ _ from ⟨kn, bs, _, unhide HRN, hfd, rfl, rfl⟩)
      have hdt : decide (first < n) = true := decide_eq_true hlt
      rw [hdt]
      clear hfd htl hv hbits hk0 hx0 hbk hfi hlS hsub hdt hf1 hf2 hf3 hp1 hb1 hBw1 HNX
      go_wp2_with (go_at_call 111; refine (unhide HTE).mono ?_; rintro e w2 ⟨rfl, hp2, hb2⟩; have HP2 := hide hp2; have HB2 := hide ((unhide HB1).trans hb2); clear hp2 hb2)
      go_roundg (gk - 1)
      case measure =>
        have := (unhide HKN (j + 1) _ _ (unhide HR2)).le
        rw [Int.toNat_natCast] at this
        have := unhide HKJ
        omega
      case rel =>
        have h1 := (unhide HKN (j + 1) _ _ (unhide HR2)).le
        rw [Int.toNat_natCast] at h1
        have h2 := unhide HKJ
        exact ⟨_, _, _, _, hide ⟨j + 1, unhide HR2, by omega, unhide HP2, unhide HI2, unhide HB2⟩⟩
    · have hfn : first = n := by omega
      have hnone := (unhide HIN).nomore (unhide HL) (fun p hp hc => by have := hf3 p hp hc; omega)
      have HPP := hide (show PeelP (K : Int) rs kn bs from ⟨⟨j, unhide HRN⟩, hnone⟩)
      have HRE := hide ((unhide HIN).rest (unhide HL) hnone bs)
      have HTD := hide (told_any w.heap.size ⟨g, a, n, c, kg, sizeOfK (K : Int), bg, K, w.heap.size⟩ kn bs w1 hp1.1 (by omega) (by omega))
      have HRS := hide (fun w2 (hb2 : Below w1.heap.size w1 w2) => rest_any w.heap.size ⟨g, a, n, c, kg, sizeOfK (K : Int), bg, K, w.heap.size⟩ (sizeOfK (K : Int)) (leftS S cs kn) f (fun p => dropL (cs p) kn) kn bs rs w2 (hp1.below hb2) ((unhide HR1).below hb2) (unhide Hs) hn (unhide hbs) (by omega))
      rw [hbl] at HTD
      have hdt : decide (first < n) = false := decide_eq_false hlt
      rw [hdt]
      clear hnone hdt hf1 hf2 hf3 hp1 hb1 hBw1 HNX hlt hfn HIN hbl hkl
      go_wp2_with (first | (go_at_call 109; refine (unhide HTD).mono ?_; rintro e w2 ⟨a1, m1, c1, ts1, rfl, hG1⟩; have HG1 := hide hG1; have HRX := hide (unhide HRS w2 hG1.2.2.2.2); clear hG1) | (go_at_call 110; refine (unhide HRX).mono ?_; rintro e w3 ⟨a2, m2, c2, ts2, rfl, hG2⟩; have HG2 := hide hG2; clear hG2))
      go_ret2
      have g1 := unhide HG1
      have g2 := unhide HG2
      have hb3 := g2.2.2.2.2
      have hB1 := unhide HB1
      refine ⟨a1, m1, c1, ts1, a2, m2, c2, ts2, rfl, kn, bs, unhide HPP, (g1.1.below hb3).mono hB1.size, g1.2.1.below hb3, ?_, g2.1.mono (Nat.le_trans hB1.size g1.2.2.2.2.size), g2.2.1, ?_, below0 (below0 hB1 g1.2.2.2.2) hb3⟩
      · rw [Int.toNat_natCast]; exact g1.2.2.2.1
      · rw [← unhide HRE]; exact g2.2.2.2.1
end Go.Proofs.YtnjdldbdkafnaaaGreatDoor
namespace Go.Proofs.YtnjdldbdkafnaaaGreatDoor
open Go.RowKit Go.Sort
set_option linter.unusedVariables false
set_option linter.unusedSimpArgs false
set_option maxRecDepth 4000

theorem peelP_none {k : Int} {rs : List RV} (h : sizeOfK k = 0) : PeelP k rs [] (List.replicate k.toNat ByteArray.empty) ∧ toldTo k [] (List.replicate k.toNat ByteArray.empty) k.toNat = [] ∧ restL k rs [] (List.replicate k.toNat ByteArray.empty) = [] := by
  have hv : ∀ xs, validB k xs = false := fun xs => by
    rw [← Bool.not_eq_true]
    intro hx
    have := (valid_size hx).1
    omega
  refine ⟨⟨⟨0, by rw [h]; rfl, rfl⟩, ?_⟩, ?_, ?_⟩
  · rw [List.find?_eq_none]
    intro r _
    unfold tellsB
    rw [hv]; simp
  · unfold toldTo
    rw [List.filter_eq_nil_iff.2 (fun b _ => by rw [getB_nil]; simp)]
    rfl
  · unfold restL
    rw [List.filter_eq_nil_iff.2 (fun r _ => by unfold restB; rw [hv]; simp)]
    rfl
set_option maxHeartbeats 1000000 in
theorem peel_any (k : Int) (a : Option Addr) (n c : Nat) (rs : List RV) (w : World) (ht : Tab w) (h : RowsAt w a n rs) (hs : shortR rs) (hn : n ≤ 1048576) :
    Calls Tryz.prog 96 #[.int .i64 k, .slice a n c] w fun e w' => ∃ a1 m1 c1 ts1 a2 m2 c2 ts2, e = .returned (.tuple #[.slice a1 m1 c1, .slice a2 m2 c2]) ∧ PeelR w w' k rs a1 m1 c1 ts1 a2 m2 c2 ts2 := by
  by_cases hz : sizeOfK k = 0
  · have HZ := size_any k w
    rw [hz] at HZ
    have HZ := hide HZ
    obtain ⟨h1, h2, h3⟩ := peelP_none (rs := rs) hz
    have HR : Hid (PeelR w w k rs none 0 0 [] none 0 0 []) := hide ⟨_, _, h1, OwnS.nil _ _, RowsIn.nil _, h2.symm, OwnS.nil _ _, RowsIn.nil _, h3.symm, Below.refl _ _⟩
    clear h hs ht h1 h2 h3 hz
    go_enter Tryz.func96, Tryz.ntmps96
    go_wp2_with (first | (go_at_call 93; refine (unhide HZ).mono ?_; rintro e w9 ⟨rfl, hw9⟩; obtain rfl := hw9.symm; clear hw9))
    go_ret2
    exact ⟨none, 0, 0, [], none, 0, 0, [], rfl, unhide HR⟩
  · have hpos : 0 < sizeOfK k := by omega
    have hroom := size_room hpos
    obtain ⟨K, rfl⟩ := Int.eq_ofNat_of_zero_le (show 0 ≤ k by omega)
    exact peel_yes K a n c rs w ht hpos h hs hn

/-- A row without those of known ones whose first bit it has. -/
def lessStep (x y : List Nat × ByteArray) : List Nat × ByteArray := if getI x.1 (firstI y.1) = true then (xorL x.1 y.1, xorS x.2 y.2) else x
def lessL (ks : List (List Nat × ByteArray)) (x : List Nat × ByteArray) : List Nat × ByteArray := ks.foldl lessStep x
theorem lessL_snoc (ks : List (List Nat × ByteArray)) (y x : List Nat × ByteArray) : lessL (ks ++ [y]) x = lessStep (lessL ks x) y := by simp [lessL]
theorem xorS_assoc (a b c : ByteArray) : xorS (xorS a b) c = xorS a (xorS b c) := by
  apply tx_inj
  rw [tx_xorS, tx_xorS, tx_xorS, tx_xorS, xorL_assoc]
theorem xorS_empty (a : ByteArray) : xorS a ByteArray.empty = a := by
  apply tx_inj
  rw [tx_xorS]
  exact xorL_nil _
/-- So it goes with the known blocks below n. -/
theorem less_to {k : Int} {j : Nat} {kn : List Nat} {bs : List ByteArray} (hK : Kn k j kn bs) {xs : List Nat} {s : ByteArray} (hx : smalls xs) (hl : xs.length = sizeOfK k) : ∀ n, n ≤ k.toNat →
    smalls (lessL (toldTo k kn bs n) (xs, s)).1 ∧ (lessL (toldTo k kn bs n) (xs, s)).1.length = sizeOfK k ∧ (∀ i, getB (lessL (toldTo k kn bs n) (xs, s)).1 i = (getB xs i && !(getB kn i && decide (i < n)))) ∧ (lessL (toldTo k kn bs n) (xs, s)).2 = xorS s (st (ofL bs xs n))
  | 0, _ => ⟨hx, hl, fun i => by simp [toldTo, lessL], by show s = _; rw [show st (ofL bs xs 0) = ByteArray.empty from rfl, xorS_empty]⟩
  | n + 1, hn => by
    obtain ⟨h1, h2, h3, h4⟩ := less_to hK hx hl n (by omega)
    have hroom := size_room hK.size
    have hb : (n : Int) < k := by omega
    have hfu : firstI (unitL k (n : Int)) = (n : Int) := firstI_one (unit_small hb) (unit_bit hK.size hb)
    cases hkn : getB kn n
    · rw [toldTo_no hkn]
      refine ⟨h1, h2, fun i => ?_, ?_⟩
      · rw [h3]
        by_cases e : i = n
        · subst e; simp [hkn]
        · have : (i < n + 1) = (i < n) := propext (by omega)
          simp only [this]
      · rw [h4]
        cases hxn : getB xs n
        · rw [ofL_no hxn]
        · rw [ofL_yes hxn, hK.none n hkn]
          congr 2
          exact (xorL_nil _).symm
    · rw [toldTo_yes hkn, lessL_snoc]
      unfold lessStep
      rw [hfu, getI_nat, h3 n]
      simp only [Nat.lt_irrefl, decide_false, Bool.and_false, Bool.not_false, Bool.and_true]
      cases hxn : getB xs n
      · simp only [Bool.false_eq_true, if_false]
        refine ⟨h1, h2, fun i => ?_, by rw [ofL_no hxn]; exact h4⟩
        rw [h3]
        by_cases e : i = n
        · subst e; simp [hxn]
        · have : (i < n + 1) = (i < n) := propext (by omega)
          simp only [this]
      · simp only [if_true]
        refine ⟨xorL_small h1 (unit_small hb), by rw [xorL_length, h2, unit_len hb]; omega, fun i => ?_, ?_⟩
        · rw [getB_xorL, h3, unit_bit hK.size hb]
          by_cases e : i = n
          · subst e; simp [hxn, hkn]
          · have : (i < n + 1) = (i < n) := propext (by omega)
            simp only [this, e, decide_false, Bool.xor_false]
        · rw [h4, ofL_yes hxn, xorS_assoc, xorS_st (ofL_bytes _ _ _)]
theorem less_told {k : Int} {j : Nat} {kn : List Nat} {bs : List ByteArray} (hK : Kn k j kn bs) {xs : List Nat} {s : ByteArray} (hx : smalls xs) (hl : xs.length = sizeOfK k) : lessL (toldTo k kn bs k.toNat) (xs, s) = (dropL xs kn, txtL bs xs s) := by
  obtain ⟨h1, h2, h3, h4⟩ := less_to hK hx hl (s := s) k.toNat (Nat.le_refl _)
  refine Prod.ext (ext_bits (by rw [h2, dropL_length, hl]) h1 (dropL_small hx _) fun i => ?_) ?_
  · rw [h3, dropL_bit]
    cases hg : getB kn i
    · simp
    · rw [decide_eq_true (hK.below i hg)]; simp
  · rw [h4]
    unfold txtL
    rw [hK.lenb]

theorem range_cut {b K : Nat} (hb : b < K) : List.range K = List.range b ++ b :: List.range' (b + 1) (K - b - 1) := by
  rw [List.range_eq_range', List.range_eq_range', show K = b + (K - b - 1 + 1) by omega, ← List.range'_append_1, Nat.zero_add, List.range'_succ]
  congr 3
  omega
/-- Known ones with one more, by rising blocks. -/
theorem told_with {k : Int} {j : Nat} {kn : List Nat} {bs : List ByteArray} (hK : Kn k j kn bs) {b : Nat} (hb : b < k.toNat) (hnb : getB kn b = false) (t : ByteArray) {p : Nat} (hp : p ≤ (toldTo k kn bs k.toNat).length)
    (h1 : ∀ i, i < p → ¬ (b : Int) < firstI ((toldTo k kn bs k.toNat).getD i ([], ByteArray.empty)).1) (h2 : p < (toldTo k kn bs k.toNat).length → (b : Int) < firstI ((toldTo k kn bs k.toNat).getD p ([], ByteArray.empty)).1) :
    (toldTo k kn bs k.toNat).take p ++ (unitL k (b : Int), t) :: (toldTo k kn bs k.toNat).drop p = toldTo k (setB kn b true) (bs.set b t) k.toNat := by
  have hroom := size_room hK.size
  have hin : b < 64 * kn.length := by rw [hK.len]; omega
  obtain ⟨A, hA⟩ : ∃ A, A = (List.range b).filter fun i => getB kn i := ⟨_, rfl⟩
  obtain ⟨C, hC⟩ : ∃ C, C = (List.range' (b + 1) (k.toNat - b - 1)).filter fun i => getB kn i := ⟨_, rfl⟩
  have hAm : ∀ i ∈ A, i < b := fun i hi => by rw [hA, List.mem_filter, List.mem_range] at hi; exact hi.1
  have hCm : ∀ i ∈ C, b < i ∧ i < k.toNat := fun i hi => by
    rw [hC, List.mem_filter, List.mem_range'_1] at hi; omega
  have eI : (List.range k.toNat).filter (fun i => getB kn i) = A ++ C := by
    rw [range_cut hb, List.filter_append, List.filter_cons, hnb, hA, hC]; rfl
  have eI' : (List.range k.toNat).filter (fun i => getB (setB kn b true) i) = A ++ b :: C := by
    rw [range_cut hb, List.filter_append, List.filter_cons, bit_setB _ _ _ _ hin, if_pos rfl, if_pos rfl, hA, hC]
    congr 1
    · apply List.filter_congr
      intro i hi
      rw [List.mem_range] at hi
      rw [bit_setB _ _ _ _ hin, if_neg (by omega)]
    · congr 1
      apply List.filter_congr
      intro i hi
      rw [List.mem_range'_1] at hi
      rw [bit_setB _ _ _ _ hin, if_neg (by omega)]
  have eL : toldTo k kn bs k.toNat = A.map (fun (i : Nat) => (unitL k (i : Int), bs.getD i ByteArray.empty)) ++ C.map (fun (i : Nat) => (unitL k (i : Int), bs.getD i ByteArray.empty)) := by
    unfold toldTo; rw [eI, List.map_append]
  have eL' : toldTo k (setB kn b true) (bs.set b t) k.toNat = A.map (fun (i : Nat) => (unitL k (i : Int), bs.getD i ByteArray.empty)) ++ (unitL k (b : Int), t) :: C.map (fun (i : Nat) => (unitL k (i : Int), bs.getD i ByteArray.empty)) := by
    unfold toldTo
    rw [eI', List.map_append, List.map_cons]
    congr 1
    · apply List.map_congr_left
      intro i hi
      rw [getD_set_tx, if_neg (fun h => by have := hAm i hi; omega)]
    · congr 1
      · rw [getD_set_tx, if_pos ⟨rfl, by rw [hK.lenb]; exact hb⟩]
      · apply List.map_congr_left
        intro i hi
        rw [getD_set_tx, if_neg (fun h => by have := hCm i hi; omega)]
  have hfu : ∀ i : Nat, i < k.toNat → firstI (unitL k (i : Int)) = (i : Int) := fun i hi => firstI_one (unit_small (by omega)) (unit_bit hK.size (by omega))
  have hpA : p = A.length := by
    rw [eL] at hp h1 h2
    rw [List.length_append, List.length_map, List.length_map] at hp h2
    rcases Nat.lt_trichotomy p A.length with hlt | heq | hgt
    · have := h2 (by omega)
      rw [List.getD_eq_getElem?_getD, List.getElem?_append_left (by rw [List.length_map]; exact hlt), List.getElem?_map, List.getElem?_eq_getElem hlt] at this
      simp only [Option.map_some, Option.getD_some] at this
      have hm := hAm _ (List.getElem_mem hlt)
      rw [hfu _ (by omega)] at this
      omega
    · exact heq
    · have := h1 A.length hgt
      have hc : 0 < C.length := by omega
      rw [List.getD_eq_getElem?_getD, List.getElem?_append_right (by rw [List.length_map]; exact Nat.le_refl _), List.length_map, Nat.sub_self, List.getElem?_map, List.getElem?_eq_getElem hc] at this
      simp only [Option.map_some, Option.getD_some] at this
      have hm := hCm _ (List.getElem_mem hc)
      rw [hfu _ hm.2] at this
      omega
  rw [eL', eL, hpA]
  have hAl : A.length = (A.map (fun (i : Nat) => (unitL k (i : Int), bs.getD i ByteArray.empty))).length := by rw [List.length_map]
  rw [hAl, List.take_left, List.drop_left]
end Go.Proofs.YtnjdldbdkafnaaaGreatDoor
