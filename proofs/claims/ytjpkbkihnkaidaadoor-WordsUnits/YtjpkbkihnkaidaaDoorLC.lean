/-
  The walks of the laws WordsFirst and WordsUnits: for every input, in every world that holds the table of math/bits, each tells true and writes nothing that was there.
-/
import Derived.Test.YtjpkbkihnkaidaaDoorLB
namespace Go.Proofs.YtjpkbkihnkaidaaDoor
open Go.RowKit
set_option linter.unusedVariables false

theorem pop_flip : ∀ (c f x : Nat), c < f → x.testBit c = true → popF f (x ^^^ 2 ^ c) + 1 = popF f x
  | 0, f + 1, x, _, h => by
    simp only [popF]
    rw [Nat.testBit_zero] at h
    have h1 : x % 2 = 1 := by simpa using h
    have h2 : (x ^^^ 2 ^ 0) / 2 = x / 2 := by rw [Nat.xor_div_two]; simp
    have h3 : (x ^^^ 2 ^ 0) % 2 = 0 := by
      show (x ^^^ 1) % 2 = 0
      have h4 := Nat.mod_two_eq_zero_or_one (x ^^^ 1)
      rcases h4 with h4 | h4
      · exact h4
      · exact absurd (show x % 2 = 1 ↔ 1 % 2 = 1 from ⟨fun _ => rfl, fun _ => h1⟩) (Nat.xor_mod_two_eq_one.1 h4)
    rw [h2, h3, h1]
    omega
  | c + 1, f + 1, x, hc, h => by
    simp only [popF]
    have h0 : (x / 2).testBit c = true := by rw [← Nat.testBit_succ]; exact h
    have ih := pop_flip c f (x / 2) (by omega) h0
    have h2 : (x ^^^ 2 ^ (c + 1)) / 2 = x / 2 ^^^ 2 ^ c := by rw [Nat.xor_div_two]; congr 1; rw [Nat.pow_succ]; omega
    have h3 : (x ^^^ 2 ^ (c + 1)) % 2 = x % 2 := by
      have := @Nat.xor_mod_two_eq_one x (2 ^ (c + 1))
      have h5 : 2 ^ (c + 1) % 2 = 0 := by rw [Nat.pow_succ]; omega
      have h4 := Nat.mod_two_eq_zero_or_one (x ^^^ 2 ^ (c + 1))
      have h6 := Nat.mod_two_eq_zero_or_one x
      omega
    rw [h2, h3]
    omega
theorem pop_clear (x c : Nat) (hc : c < 64) (h : x.testBit c = true) : pop (setW x c false) + 1 = pop x := by
  unfold setW
  rw [if_neg (by rw [h]; decide)]
  exact pop_flip c 64 x hc h
theorem cnt_set : ∀ (xs : List Nat) (k y : Nat), k < xs.length → cnt (xs.set k y) + pop (xs.getD k 0) = cnt xs + pop y
  | [], k, y, h => by simp at h
  | x :: r, 0, y, _ => by simp [cnt_cons]; omega
  | x :: r, k + 1, y, h => by
    have ih := cnt_set r k y (by simpa using h)
    simp only [List.set_cons_succ, cnt_cons, List.getD_cons_succ]
    omega
theorem firstI_spec : ∀ (xs : List Nat), 0 ≤ firstI xs → ∃ k, k < xs.length ∧ (∀ j, j < k → xs.getD j 0 = 0) ∧ xs.getD k 0 ≠ 0 ∧ firstI xs = (k : Int) * 64 + Lib.ctz 64 (xs.getD k 0)
  | [], h => by simp [firstI] at h
  | x :: r, h => by
    by_cases hx : x = 0
    · have hr : 0 ≤ firstI r := by
        simp only [firstI, hx] at h
        split at h
        · omega
        · split at h
          · omega
          · omega
      obtain ⟨k, hk, hz, hne, he⟩ := firstI_spec r hr
      have hz' : ∀ j, j < k + 1 → (x :: r).getD j 0 = 0 := by
        intro j hj
        cases j with
        | zero => simpa using hx
        | succ j => simpa using hz j (by omega)
      have hk' : k + 1 < (x :: r).length := by simpa using hk
      have hne' : (x :: r).getD (k + 1) 0 ≠ 0 := by simpa using hne
      exact ⟨k + 1, hk', hz', hne', firstI_at _ _ hk' hz' hne'⟩
    · have hk' : 0 < (x :: r).length := by simp
      have hne' : (x :: r).getD 0 0 ≠ 0 := by simpa using hx
      exact ⟨0, hk', fun j hj => by omega, hne', firstI_at _ _ hk' (fun j hj => by omega) hne'⟩
/-- The first bit: it is set, none ahead of it is, and without it there is one less. -/
theorem first_facts (xs : List Nat) (hs : smalls xs) (h : 0 ≤ firstI xs) :
    firstI xs < 64 * (xs.length : Int) ∧ (∀ i : Nat, (i : Int) < firstI xs → getB xs i = false) ∧ getB xs (firstI xs).toNat = true ∧ cnt (setI xs (firstI xs) false) + 1 = cnt xs := by
  obtain ⟨k, hk, hz, hne, he⟩ := firstI_spec xs h
  have hx := hs.get k
  have hc := ctz_lt (xs.getD k 0) hne hx
  have hb := ctz_bit (xs.getD k 0) hne hx
  have hl := fun j hj => ctz_low (xs.getD k 0) j hne hx hj
  generalize Lib.ctz 64 (xs.getD k 0) = t at *
  rw [he]
  refine ⟨by omega, fun i hi => ?_, ?_, ?_⟩
  · unfold getB
    by_cases e : i / 64 < k
    · rw [hz _ e]; simp
    · rw [show i / 64 = k by omega]; exact hl _ (by omega)
  · rw [show ((k : Int) * 64 + (t : Int)).toNat = 64 * k + t by omega, getB_at xs k t hc]
    exact hb
  · unfold setI setB
    rw [if_neg (by omega), show ((k : Int) * 64 + (t : Int)).toNat / 64 = k by omega, show ((k : Int) * 64 + (t : Int)).toNat % 64 = t by omega]
    have h1 := cnt_set xs k (setW (xs.getD k 0) t false) hk
    have h2 := pop_clear (xs.getD k 0) t hc hb
    omega

set_option maxHeartbeats 2000000 in
theorem first_walk (a : Option Addr) (n c : Nat) (xs : List Nat) (w : World) (ht : Tab w) (h : RowAt w a n xs) :
    Calls Tryd.prog 7 #[.slice a n c] w fun e w' => e = .returned (.bool true) ∧ Below w.heap.size w w' := by
  by_cases hn : 100 < n
  · have hd : decide ((100 : Int) < (n : Int)) = true := by simp; omega
    clear h
    go_enter Tryd.func7, Tryd.ntmps7
    go_wp2_with (go_at_call 16; refine (awake_any _ ht).mono ?_; rintro e w5 ⟨rfl, hb⟩)
    go_ret
    exact ⟨rfl, hb⟩
  have hd : decide ((100 : Int) < (n : Int)) = false := by simp; omega
  have hn2 : n ≤ 1048576 := by omega
  have hn1 : n ≤ 100 := by omega
  clear hn
  by_cases hf : firstI xs < 0
  · have hcz := count_any a n c xs w h hn2
    rw [cnt_of_zero _ ((firstI_nonneg_iff xs).1 hf)] at hcz
    have HC := hide hcz
    have hdf : decide (firstI xs < 0) = true := by simpa using hf
    have HF := hide (first_any a n c xs w ht h hn2)
    clear h hcz
    generalize firstI xs = f at *
    go_enter Tryd.func7, Tryd.ntmps7
    go_wp2_with fail
    refine (unhide HF).mono ?_
    rintro e w' ⟨rfl, hw⟩
    obtain rfl := hw.symm
    go_wp2_with fail
    refine (unhide HC).mono ?_
    rintro e w' ⟨rfl, hw⟩
    obtain rfl := hw.symm
    go_wp2_with (go_at_call 16; refine (awake_any _ ht).mono ?_; rintro e w5 ⟨rfl, hb⟩)
    go_ret
    exact ⟨rfl, hb⟩
  · obtain ⟨hfl, hlow, hbit, hcnt⟩ := first_facts xs h.2.1 (by omega)
    have hf0 : 0 ≤ firstI xs := by omega
    have hdf : decide (firstI xs < 0) = false := by simp; omega
    have HF := hide (first_any a n c xs w ht h hn2)
    have HL := hide hlow
    have HG := hide (fun wx (hr : RowAt wx a n xs) => get_any a n c xs (firstI xs) wx hr hn2 (by have := h.1; omega))
    have HI := hide (show getI xs (firstI xs) = true from by rw [getI_in hf0]; exact hbit)
    have HS := hide (fun wx (hr : RowAt wx a n xs) => set_any a n c xs (firstI xs) false wx hr hn2 (by have := h.1; omega))
    have hsl := setI_length xs (firstI xs) false
    have HSL := hide hsl
    have HC := hide hcnt
    have hfb : firstI xs ≤ 6400 := by have := h.1; omega
    have hcb := cnt_le xs
    have hcb2 : cnt xs ≤ 6400 := by have := h.1; omega
    clear hf hlow hbit hcnt hsl hcb hfl
    generalize setI xs (firstI xs) false = zs at *
    generalize firstI xs = f at *
    go_enter Tryd.func7, Tryd.ntmps7
    go_wp2_with fail
    refine (unhide HF).mono ?_
    rintro e w' ⟨rfl, hw⟩
    obtain rfl := hw.symm
    go_wp2_with fail
    go_loopw [4] (fun i wr => ∃ k : Nat, (k : Int) ≤ f ∧ i = .int .i64 k ∧ Hid (Below w.heap.size w wr)) (fun i _ => (f - intOf i).toNat)
    case atStart => exact ⟨0, by omega, rfl, hide (Below.refl _ _)⟩
    case round =>
      obtain ⟨k, hk, rfl, HB⟩ := hrel
      by_cases hlt : (k : Int) < f
      · have hg := get_any a n c xs (k : Int) wr (h.below (unhide HB)) hn2 (by omega)
        rw [getI_in (by omega), Int.toNat_natCast, unhide HL k hlt] at hg
        have HG1 := hide hg
        clear hg h
        go_wp2_with fail
        refine (unhide HG1).mono ?_
        rintro e w1 ⟨rfl, d, hw⟩
        have HB1 := hide (show Below w.heap.size w w1 from by rw [hw]; exact below_drewN (unhide HB) d)
        clear hw HB
        go_wp2
        go_roundw
        case rel => exact ⟨k + 1, by omega, by go_num, HB1⟩
        case measure => simp [intOf]; omega
      · have hke : (k : Int) = f := by omega
        have HKE := hide hke
        clear hke
        go_wp2_with fail
        refine (unhide HG _ (h.below (unhide HB))).mono ?_
        rintro e w1 ⟨rfl, d, hw⟩
        rw [unhide HI]
        have hB1 : Below w.heap.size w w1 := by rw [hw]; exact below_drewN (unhide HB) d
        clear hw HB
        go_wp2_with fail
        refine (unhide HS _ (h.below hB1)).mono ?_
        rintro e w2 ⟨v, rfl, ho, hb⟩
        have hB2 := below0 hB1 hb
        obtain ⟨a2, c2, rfl, hr⟩ := ho.row
        clear ho hb hB1
        go_wp2_with fail
        refine (count_any _ _ _ _ _ hr (by rw [unhide HSL, h.1]; exact hn2)).mono ?_
        rintro e w' ⟨rfl, hw⟩
        obtain rfl := hw.symm
        go_wp2_with fail
        refine (count_any a n c xs _ (h.below hB2) hn2).mono ?_
        rintro e w' ⟨rfl, hw⟩
        obtain rfl := hw.symm
        have hee : (((cnt zs : Nat) : Int) == ((cnt xs : Nat) : Int) - 1) = true := by have := unhide HC; rw [beq_iff_eq]; omega
        clear hr
        go_wp2_with fail
        refine (awake_any _ (ht.below hB2)).mono ?_
        rintro e w5 ⟨rfl, hb⟩
        have HB5 := hide (below0 hB2 hb)
        clear hb hB2 h
        go_wp2
        go_ret
        exact ⟨rfl, unhide HB5⟩

theorem getB_xorL (a b : List Nat) (i : Nat) : getB (xorL a b) i = (getB a i ^^ getB b i) := by
  unfold getB
  rw [xorL_getD, Nat.testBit_xor]
theorem getB_nil (i : Nat) : getB [] i = false := by simp [getB]
theorem zero_of_bits (xs : List Nat) (hs : smalls xs) (h : ∀ i, getB xs i = false) : ∀ x ∈ xs, x = 0 := by
  rw [all_zero_iff]
  intro q
  apply Nat.eq_of_testBit_eq
  intro t
  rw [Nat.zero_testBit]
  by_cases ht : t < 64
  · rw [← getB_at xs q t ht]; exact h _
  · have := hs.get q
    exact Nat.testBit_lt_two_pow (Nat.lt_of_lt_of_le (show xs.getD q 0 < 2 ^ 64 by omega) (Nat.pow_le_pow_right (by decide) (by omega)))
theorem unit_facts (k i : Int) (hs : 0 < sizeOfK k) (h0 : 0 ≤ i) (hk : i < k) :
    (unitL k i).length = sizeOfK k ∧ (∀ j, getB (unitL k i) j = decide (j = i.toNat)) ∧ cnt (unitL k i) = 1 := by
  have hp := sizeOfK_pos hs
  have e : unitL k i = (List.replicate (sizeOfK k) 0).set (i.toNat / 64) (2 ^ (i.toNat % 64)) := by
    unfold unitL setI setB setW
    rw [if_neg (by omega), if_neg (by omega)]
    have hz : (List.replicate (sizeOfK k) 0).getD (i.toNat / 64) 0 = 0 := by
      rw [List.getD_eq_getElem?_getD, List.getElem?_replicate]
      split <;> rfl
    rw [hz]
    simp
  have hq : i.toNat / 64 < sizeOfK k := by omega
  have hzz : ∀ j, (List.replicate (sizeOfK k) 0).getD j 0 = 0 := by
    intro j
    rw [List.getD_eq_getElem?_getD, List.getElem?_replicate]
    split <;> rfl
  refine ⟨by rw [e]; simp, fun j => ?_, ?_⟩
  · rw [e]
    unfold getB
    rw [getD_set, hzz]
    split
    · rename_i h1
      rw [Nat.testBit_two_pow]
      by_cases e2 : j = i.toNat
      · simp [e2]
      · have : ¬ i.toNat % 64 = j % 64 := by omega
        simp [e2, this]
    · rename_i h1
      have : ¬ j = i.toNat := by
        intro e2
        apply h1
        rw [e2]
        exact ⟨rfl, by simpa using hq⟩
      simp [this]
  · rw [e]
    have h1 := cnt_set (List.replicate (sizeOfK k) 0) (i.toNat / 64) (2 ^ (i.toNat % 64)) (by simpa using hq)
    have h2 : cnt (List.replicate (sizeOfK k) 0) = 0 := cnt_zero_of _ (fun j _ => hzz j)
    have h3 := pop_flip (i.toNat % 64) 64 (2 ^ (i.toNat % 64)) (by omega) (by simp)
    rw [Nat.xor_self, popF_zero] at h3
    rw [hzz, h2, pop_zero] at h1
    unfold pop at h1
    omega
theorem unit_valid (k i : Int) (hs : 0 < sizeOfK k) (h0 : 0 ≤ i) (hk : i < k) : ValidP k (unitL k i) := by
  obtain ⟨h1, h2, _⟩ := unit_facts k i hs h0 hk
  refine ⟨by omega, h1, fun j hj => ?_⟩
  rw [h2]
  simp
  omega

set_option maxHeartbeats 2000000 in
theorem units_walk (k : Int) (a : Option Addr) (n c : Nat) (xs : List Nat) (w : World) (ht : Tab w) (h : RowAt w a n xs) :
    Calls Tryd.prog 8 #[.int .i64 k, .slice a n c] w fun e w' => e = .returned (.bool true) ∧ Below w.heap.size w w' := by
  go_enter Tryd.func8, Tryd.ntmps8
  go_wp2_with fail
  refine (rvalid_any a n c xs k _ h).mono ?_
  rintro e w' ⟨⟨b, rfl, hbv⟩, hw⟩
  obtain rfl := hw.symm
  cases b with
  | false =>
    clear h hbv
    go_wp2_with (go_at_call 16; refine (awake_any _ ht).mono ?_; rintro e w5 ⟨rfl, hb⟩)
    go_ret
    exact ⟨rfl, hb⟩
  | true =>
    have hv := hbv.1 rfl
    clear hbv
    have HV := hide hv
    have hp := sizeOfK_pos (k := k) (by have := hv.1; have := hv.2.1; omega)
    have hxl := h.1
    have hn2 : n ≤ 2 := by have := hv.2.1; have := sizeOfK_le k; omega
    have hsz : 0 < sizeOfK k := by have := hv.1; have := hv.2.1; omega
    obtain ⟨hk1, hk2, _⟩ := hp
    clear hv hxl
    go_wp2
    go_loopw [5, 6] (fun x t wr => ∃ i : Nat, (i : Int) ≤ k ∧ t = .int .i64 (i : Int) ∧ ∃ (a1 : Option Addr) (c1 : Nat) (ys : List Nat), x = .slice a1 ys.length c1 ∧ Hid (RowAt wr a1 ys.length ys ∧ ys.length ≤ 2 ∧ (∀ j, getB ys j = (decide (j < i) && getB xs j)) ∧ Below w.heap.size w wr)) (fun _ t _ => (k - intOf t).toNat)
    case atStart => exact ⟨0, by omega, rfl, none, 0, [], rfl, hide ⟨⟨rfl, (fun _ h => by cases h), .inl rfl⟩, by simp, fun j => by simp [getB_nil], Below.refl _ _⟩⟩
    case round =>
      obtain ⟨i, hi, rfl, a1, c1, ys, rfl, HR⟩ := hrel
      by_cases hlt : (i : Int) < k
      · obtain ⟨hr0, hl0, hg0, hB0⟩ := unhide HR
        clear HR
        have hu := unit_facts k (i : Int) hsz (by omega) hlt
        have hval := unit_valid k (i : Int) hsz (by omega) hlt
        have HG0 := hide hg0
        have HU := hide hu
        have HVAL := hide hval
        have hul := unitL_length k (i : Int)
        clear hg0 hu hval
        go_wp2_with fail
        refine (unit_any k (i : Int) _ (by omega)).mono ?_
        rintro e w1 ⟨v, rfl, ho, hb⟩
        have hB1 := below0 hB0 hb
        have hr1 := hr0.below hb
        obtain ⟨a2, c2, rfl, hr2⟩ := ho.row
        clear ho hb hB0 hr0
        go_wp2_with fail
        refine (valid_any _ _ _ _ k _ hr2).mono ?_
        rintro e w2 ⟨⟨b2, rfl, hb2⟩, hb⟩
        obtain rfl : b2 = true := hb2.2 (unhide HVAL)
        have hB2 := below0 hB1 hb
        have hr3 := hr1.below hb
        have hr4 := hr2.below hb
        clear hb2 hb hB1 hr1 hr2
        go_wp2_with fail
        have hc := count_any _ _ c2 _ _ hr4 (by omega)
        rw [(unhide HU).2.2] at hc
        refine hc.mono ?_
        rintro e w' ⟨rfl, hw⟩
        obtain rfl := hw.symm
        clear hc
        go_wp2_with fail
        refine (get_any a n c xs (i : Int) _ (h.below hB2) (by omega) (by omega)).mono ?_
        rintro e w3 ⟨rfl, d, hw⟩
        rw [getI_in (by omega), Int.toNat_natCast]
        have hbb : Below w2.heap.size w2 w3 := by rw [hw]; exact below_drewN (Below.refl _ _) d
        have hB3 := below0 hB2 hbb
        have hr5 := hr3.below hbb
        have hr6 := hr4.below hbb
        clear hw hbb hB2 hr3 hr4
        by_cases hg : getB xs i = true
        · rw [hg]
          go_wp2_with fail
          refine (xor_any _ _ _ _ _ _ _ _ _ hr5 hr6 (by omega) (by omega)).mono ?_
          rintro e w4 ⟨v, rfl, ho, hb⟩
          have hB4 := below0 hB3 hb
          obtain ⟨a3, c3, rfl, hr7⟩ := ho.row
          have hxl : (xorL ys (unitL k (i : Int))).length ≤ 2 := by rw [xorL_length]; omega
          have hgn : ∀ j, getB (xorL ys (unitL k (i : Int))) j = (decide (j < i + 1) && getB xs j) := by
            intro j
            rw [getB_xorL, unhide HG0 j, (unhide HU).2.1 j, Int.toNat_natCast]
            by_cases e : j = i
            · subst e; simp [hg]
            · have e2 : decide (j < i + 1) = decide (j < i) := by simp; omega
              rw [e2]; simp [e]
          have HN := hide (show RowAt w4 a3 (xorL ys (unitL k (i : Int))).length (xorL ys (unitL k (i : Int))) ∧ (xorL ys (unitL k (i : Int))).length ≤ 2 ∧ (∀ j, getB (xorL ys (unitL k (i : Int))) j = (decide (j < i + 1) && getB xs j)) ∧ Below w.heap.size w w4 from ⟨hr7, hxl, hgn, hB4⟩)
          clear ho hb hr5 hr6 hr7 hB3 hB4 hxl hgn h hg
          go_wp2
          go_roundw
          case rel => exact ⟨i + 1, by omega, by go_num, _, _, _, rfl, HN⟩
          case measure => simp [intOf]; omega
        · have hg' : getB xs i = false := by simpa using hg
          rw [hg']
          have hgn : ∀ j, getB ys j = (decide (j < i + 1) && getB xs j) := by
            intro j
            rw [unhide HG0 j]
            by_cases e : j = i
            · subst e; simp [hg']
            · have e2 : decide (j < i + 1) = decide (j < i) := by simp; omega
              rw [e2]
          have HN := hide (show RowAt w3 a1 ys.length ys ∧ ys.length ≤ 2 ∧ (∀ j, getB ys j = (decide (j < i + 1) && getB xs j)) ∧ Below w.heap.size w w3 from ⟨hr5, hl0, hgn, hB3⟩)
          clear hr5 hr6 hB3 hgn h hg hg'
          go_wp2
          go_roundw
          case rel => exact ⟨i + 1, by omega, by go_num, _, _, _, rfl, HN⟩
          case measure => simp [intOf]; omega
      · obtain ⟨hr0, hl0, hg0, hB0⟩ := unhide HR
        clear HR
        have hsame : decide (firstI (xorL ys xs) < 0) = true := by
          rw [decide_eq_true_eq, firstI_nonneg_iff]
          apply zero_of_bits _ (xorL_small hr0.2.1 h.2.1)
          intro j
          rw [getB_xorL, hg0 j]
          by_cases e : j < i
          · simp [e]
          · rw [(unhide HV).2.2 j (by omega)]; simp
        have hc := same_any a1 ys.length c1 ys a n c xs wr (ht.below hB0) hr0 (h.below hB0) (by omega) (by omega)
        rw [hsame] at hc
        have HC := hide hc
        clear hc hg0 hsame
        go_wp2_with fail
        refine (unhide HC).mono ?_
        rintro e w1 ⟨rfl, hb⟩
        have hB1 := below0 hB0 hb
        clear hb hB0 hr0
        go_wp2_with (go_at_call 16; refine (awake_any _ (ht.below hB1)).mono ?_; rintro e w5 ⟨rfl, hb⟩)
        have HB5 := hide (below0 hB1 hb)
        clear hb hB1 h
        go_ret
        exact ⟨rfl, unhide HB5⟩
end Go.Proofs.YtjpkbkihnkaidaaDoor
