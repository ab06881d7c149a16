/-
  Contracts of words.Valid, words.Unit and bucketlineref01.Valid, Unit: for every int and every row of at most 2^20 words.
  Whether a row is one of k blocks, as a Bool.
  Contracts of words.Unit, bucketlineref01.Unit: for all ints.
-/
import Derived.Test.YtnjdldbdkafnaaaGreatDoorU5
namespace Go.Proofs.YtnjdldbdkafnaaaGreatDoor
open Go.RowKit
set_option linter.unusedVariables false
set_option linter.unusedSimpArgs false
set_option maxRecDepth 4000

/-- A row of k blocks: just so many words, no bit beyond. -/
def ValidP (k : Int) (xs : List Nat) : Prop := 0 < xs.length ∧ xs.length = sizeOfK k ∧ ∀ i, k.toNat ≤ i → getB xs i = false

theorem sizeOfK_pos {k : Int} (h : 0 < sizeOfK k) : 1 ≤ k ∧ k ≤ 128 ∧ sizeOfK k = ((k + 63) / 64).toNat := by
  unfold sizeOfK at *
  split at h
  · omega
  · rename_i h1
    rw [if_neg h1]
    omega
theorem fmask_bit (r t : Nat) (ht : t < 64) : (fmask r).testBit t = decide (r ≤ t) := by
  unfold fmask
  rw [show (18446744073709551616 : Nat) = 2 ^ 64 from rfl, Nat.testBit_mod_two_pow, Nat.testBit_mul_two_pow, show (18446744073709551615 : Nat) = 2 ^ 64 - 1 from rfl, Nat.testBit_two_pow_sub_one]
  simp [ht]
  omega
theorem and_fmask (x r : Nat) (hx : x < 18446744073709551616) : (x &&& fmask r = 0) ↔ ∀ t, t < 64 → r ≤ t → x.testBit t = false := by
  constructor
  · intro h t ht hr
    have h1 : (x &&& fmask r).testBit t = false := by rw [h]; simp
    rw [Nat.testBit_and, fmask_bit r t ht] at h1
    simpa [hr] using h1
  · intro h
    apply Nat.eq_of_testBit_eq
    intro t
    rw [Nat.testBit_and, Nat.zero_testBit]
    by_cases ht : t < 64
    · rw [fmask_bit r t ht]
      by_cases hr : r ≤ t
      · simp [h t ht hr]
      · simp [hr]
    · have : x.testBit t = false := Nat.testBit_lt_two_pow (Nat.lt_of_lt_of_le (show x < 2 ^ 64 by omega) (Nat.pow_le_pow_right (by decide) (by omega)))
      simp [this]
theorem valid_all {k : Int} {xs : List Nat} (h0 : 0 < xs.length) (hs : xs.length = sizeOfK k) (hq : k / 64 = (xs.length : Int)) : cnt (zer xs 0 xs.length) = 0 ∧ ValidP k xs := by
  constructor
  · apply cnt_zero_of
    intro i hi
    rw [zer_length] at hi
    rw [zer_getD, if_pos (by omega)]
  · exact ⟨h0, hs, fun i hi => getB_out xs i (by omega)⟩
theorem valid_lt {k : Int} {xs : List Nat} {q : Nat} (hx : smalls xs) (h0 : 0 < xs.length) (hs : xs.length = sizeOfK k) (hk : 0 ≤ k) (hq : k / 64 = (q : Int)) (hqn : q < xs.length) :
    cnt ((zer xs 0 q).set q (xs.getD q 0 &&& fmask (k % 64).toNat)) = 0 ↔ ValidP k xs := by
  have hp := sizeOfK_pos (k := k) (by omega)
  have hqe : q + 1 = xs.length := by omega
  have hy : smalls ((zer xs 0 q).set q (xs.getD q 0 &&& fmask (k % 64).toNat)) := by
    have hz : smalls (zer xs 0 q) := by
      intro z hz
      obtain ⟨i, hi, rfl⟩ := List.getElem_of_mem hz
      have h1 := zer_getD q 0 xs i
      have h2 : (zer xs 0 q).getD i 0 = (zer xs 0 q)[i] := by simp [List.getD_eq_getElem?_getD, List.getElem?_eq_getElem hi]
      have h3 := hx.get i
      rw [h2] at h1
      show (zer xs 0 q)[i] < 18446744073709551616
      rw [h1]
      split
      · decide
      · exact h3
    exact hz.set _ _ (Nat.lt_of_le_of_lt Nat.and_le_left (hx.get q))
  have e1 : cnt ((zer xs 0 q).set q (xs.getD q 0 &&& fmask (k % 64).toNat)) = 0 ↔ xs.getD q 0 &&& fmask (k % 64).toNat = 0 := by
    constructor
    · intro h
      have h1 := (all_zero_iff _).1 (zero_of_cnt _ hy h) q
      rw [getD_set, if_pos ⟨rfl, by rw [zer_length]; exact hqn⟩] at h1
      exact h1
    · intro h
      apply cnt_zero_of
      intro i hi
      rw [List.length_set, zer_length] at hi
      rw [getD_set]
      split
      · exact h
      · rw [zer_getD, if_pos]
        rename_i hne
        rw [zer_length] at hne
        omega
  rw [e1, and_fmask _ _ (hx.get q)]
  constructor
  · intro h
    refine ⟨h0, hs, fun i hi => ?_⟩
    by_cases hi2 : 64 * xs.length ≤ i
    · exact getB_out xs i hi2
    · unfold getB
      rw [show i / 64 = q by omega]
      exact h (i % 64) (by omega) (by omega)
  · intro h t ht hr
    have := h.2.2 (64 * q + t) (by omega)
    rwa [getB_at xs q t ht] at this

/-- A Bool comes back that tells whether P holds. -/
def RetB (e : Ending) (P : Prop) : Prop := ∃ b, e = .returned (.bool b) ∧ (b = true ↔ P)
theorem RetB.no {P : Prop} (h : ¬ P) : RetB (.returned (.bool false)) P := ⟨false, rfl, by simp [h]⟩
theorem RetB.yes {P : Prop} (h : P) : RetB (.returned (.bool true)) P := ⟨true, rfl, by simp [h]⟩
set_option maxHeartbeats 1000000 in
theorem valid_any (a : Option Addr) (n c : Nat) (xs : List Nat) (k : Int) (w : World) (h : RowAt w a n xs) :
    Calls Tryz.prog 77 #[.int .i64 k, .slice a n c] w fun e w' => RetB e (ValidP k xs) ∧ Below w.heap.size w w' := by
  obtain rfl : n = xs.length := h.1.symm
  have HZ := hide (size_any k)
  by_cases h0 : xs.length = 0
  · have hb0 : ((xs.length : Int) == 0) = true := by rw [h0]; rfl
    have HF := hide (show ¬ ValidP k xs from fun hv => by have := hv.1; omega)
    clear h h0
    go_enter Tryz.func77, Tryz.ntmps77
    go_wp2
    go_ret
    exact ⟨RetB.no (unhide HF), Below.refl _ _⟩
  · have hb0 : ((xs.length : Int) == 0) = false := by simp only [beq_eq_false_iff_ne, ne_eq]; omega
    by_cases hs : xs.length = sizeOfK k
    · have hp := sizeOfK_pos (k := k) (by omega)
      have hb1 : ((xs.length : Int) != ((sizeOfK k : Nat) : Int)) = false := by rw [hs]; simp
      have hn2 : xs.length ≤ 1048576 := by omega
      obtain ⟨q, hq⟩ := Int.eq_ofNat_of_zero_le (show 0 ≤ k / 64 by omega)
      have he : ∀ q : Nat, ((q : Int) == 0) = true ↔ q = 0 := fun q => by
        by_cases e : q = 0
        · subst e; simp
        · simp [e]
      have HE := hide he
      clear he
      by_cases hqn : q < xs.length
      · have HV := hide (valid_lt h.2.1 (by omega) hs (by omega) hq hqn)
        have HF := hide (fun wx (hr : RowAt wx a xs.length xs) => from_lt a xs.length c xs k q wx hr hn2 (by omega) (by omega) hq hqn)
        have hres : ((zer xs 0 q).set q (xs.getD q 0 &&& fmask (k % 64).toNat)).length = xs.length := by rw [List.length_set, zer_length]
        have HR := hide hres
        generalize (zer xs 0 q).set q (xs.getD q 0 &&& fmask (k % 64).toNat) = res at *
        clear hq hqn hs hres
        go_enter Tryz.func77, Tryz.ntmps77
        go_wp2_with (go_at_call 93; refine (unhide HZ _).mono ?_; rintro e w' ⟨rfl, rfl⟩)
        refine (unhide HF _ h).mono ?_
        rintro e w1 ⟨v, rfl, ho, hb⟩
        obtain ⟨a1, c1, rfl, hr⟩ := ho.row
        go_wp2_with fail
        refine (count_any a1 _ c1 _ _ hr (by rw [unhide HR]; omega)).mono ?_
        rintro e w2 ⟨rfl, rfl⟩
        clear ho
        go_wp2
        go_ret
        exact ⟨⟨_, rfl, (unhide HE _).trans (unhide HV)⟩, hb⟩
      · have hqe : k / 64 = (xs.length : Int) := by omega
        have HV := hide (valid_all (by omega) hs hqe)
        have HF := hide (fun wx (hr : RowAt wx a xs.length xs) => from_all a xs.length c xs k wx hr hn2 (by omega) (by omega) (by omega) hqe)
        have HR := hide (zer_length xs.length 0 xs)
        generalize zer xs 0 xs.length = res at *
        clear hq hqn hqe hs
        go_enter Tryz.func77, Tryz.ntmps77
        go_wp2_with (go_at_call 93; refine (unhide HZ _).mono ?_; rintro e w' ⟨rfl, rfl⟩)
        refine (unhide HF _ h).mono ?_
        rintro e w1 ⟨v, rfl, ho, hb⟩
        obtain ⟨a1, c1, rfl, hr⟩ := ho.row
        go_wp2_with fail
        refine (count_any a1 _ c1 _ _ hr (by rw [unhide HR]; omega)).mono ?_
        rintro e w2 ⟨rfl, rfl⟩
        clear ho
        go_wp2
        go_ret
        exact ⟨⟨_, rfl, (unhide HE _).trans ⟨fun _ => (unhide HV).2, fun _ => (unhide HV).1⟩⟩, hb⟩
    · have hb1 : ((xs.length : Int) != ((sizeOfK k : Nat) : Int)) = true := by rw [bne_iff_ne]; omega
      have HF := hide (show ¬ ValidP k xs from fun hv => hs hv.2.1)
      clear h h0 hs
      go_enter Tryz.func77, Tryz.ntmps77
      go_wp2_with (go_at_call 93; refine (unhide HZ _).mono ?_; rintro e w' ⟨rfl, rfl⟩)
      go_ret
      exact ⟨RetB.no (unhide HF), Below.refl _ _⟩

set_option maxHeartbeats 1000000 in
theorem rvalid_any (a : Option Addr) (n c : Nat) (xs : List Nat) (k : Int) (w : World) (h : RowAt w a n xs) :
    Calls Tryz.prog 37 #[.int .i64 k, .slice a n c] w fun e w' => RetB e (ValidP k xs) ∧ w' = w := by
  obtain rfl : n = xs.length := h.1.symm
  have HZ := hide (rsize_any k)
  by_cases h0 : sizeOfK k = 0
  · have hb0 : (((sizeOfK k : Nat) : Int) == 0) = true := by rw [h0]; rfl
    have HF := hide (show ¬ ValidP k xs from fun hv => by have := hv.1; have := hv.2.1; omega)
    clear h h0
    go_enter Tryz.func37, Tryz.ntmps37
    go_wp2_with (go_at_call 54; refine (unhide HZ _).mono ?_; rintro e w' ⟨rfl, rfl⟩)
    go_ret
    exact ⟨RetB.no (unhide HF), rfl⟩
  · have hb0 : (((sizeOfK k : Nat) : Int) == 0) = false := by simp only [beq_eq_false_iff_ne, ne_eq]; omega
    by_cases hs : xs.length = sizeOfK k
    · have hp := sizeOfK_pos (k := k) (by omega)
      have hb1 : ((xs.length : Int) != ((sizeOfK k : Nat) : Int)) = false := by rw [hs]; simp
      have hn2 : xs.length ≤ 1048576 := by omega
      have HS := hide hs
      have hl0 : 0 < xs.length := by omega
      obtain ⟨hp1, hp2, hp3⟩ := hp
      have HP := hide hp3
      clear hs h0 hp3
      go_enter Tryz.func37, Tryz.ntmps37
      go_wp2_with (go_at_call 54; refine (unhide HZ _).mono ?_; rintro e w' ⟨rfl, rfl⟩)
      go_loop [5] (fun t => ∃ i : Nat, k.toNat ≤ i ∧ i ≤ 64 * xs.length ∧ t = .int .i64 (i : Int) ∧ Hid (∀ j, k.toNat ≤ j → j < i → getB xs j = false)) (fun t => 64 * xs.length - (intOf t).toNat)
      case atStart => exact ⟨k.toNat, Nat.le_refl _, by have := unhide HS; have := unhide HP; omega, by rw [show ((k.toNat : Nat) : Int) = k by omega], hide (fun j h1 h2 => by omega)⟩
      case round =>
        obtain ⟨i, hi1, hi2, rfl, HL⟩ := hrel
        by_cases hlt : i < 64 * xs.length
        · have hlt' : (i : Int) < 64 * (xs.length : Int) := by omega
          have hG := rget_in a xs.length c xs (i : Int) _ h (by omega) (by omega) (by omega) (by omega)
          rw [Int.toNat_natCast] at hG
          by_cases hg : getB xs i = true
          · rw [hg] at hG
            have HG := hide hG
            have HF := hide (show ¬ ValidP k xs from fun hv => by have := hv.2.2 i hi1; rw [hg] at this; cases this)
            clear hG h hg
            go_wp2_with (go_at_call 39; refine (unhide HG).mono ?_; rintro e w' ⟨rfl, rfl⟩)
            go_ret
            exact ⟨RetB.no (unhide HF), rfl⟩
          · have hg' : getB xs i = false := by simpa using hg
            rw [hg'] at hG
            have HG := hide hG
            have HL' := hide (show ∀ j, k.toNat ≤ j → j < i + 1 → getB xs j = false from fun j h1 h2 => by
              by_cases e : j = i
              · rw [e]; exact hg'
              · exact unhide HL j h1 (by omega))
            clear hG h hg hg'
            go_wp2_with (go_at_call 39; refine (unhide HG).mono ?_; rintro e w' ⟨rfl, rfl⟩)
            go_round
            case rel => exact ⟨i + 1, by omega, by omega, by go_num, HL'⟩
            case measure => simp [intOf]; omega
        · have hge : ¬ ((i : Int) < 64 * (xs.length : Int)) := by omega
          have HF := hide (show ValidP k xs from ⟨hl0, unhide HS, fun j hj => by
            by_cases e : j < i
            · exact unhide HL j hj e
            · exact getB_out xs j (by omega)⟩)
          clear h
          go_wp2
          go_ret
          exact ⟨RetB.yes (unhide HF), rfl⟩
    · have hb1 : ((xs.length : Int) != ((sizeOfK k : Nat) : Int)) = true := by rw [bne_iff_ne]; omega
      have HF := hide (show ¬ ValidP k xs from fun hv => hs hv.2.1)
      clear h h0 hs
      go_enter Tryz.func37, Tryz.ntmps37
      go_wp2_with (go_at_call 54; refine (unhide HZ _).mono ?_; rintro e w' ⟨rfl, rfl⟩)
      go_ret
      exact ⟨RetB.no (unhide HF), rfl⟩
end Go.Proofs.YtnjdldbdkafnaaaGreatDoor
namespace Go.Proofs.YtnjdldbdkafnaaaGreatDoor
open Go.RowKit
set_option linter.unusedVariables false
set_option linter.unusedSimpArgs false
set_option maxRecDepth 4000

theorem smalls_zeros (n : Nat) : smalls (List.replicate n 0) := fun x hx => by rw [(List.mem_replicate.1 hx).2]; show 0 < 18446744073709551616; decide
theorem size_room {k : Int} (hs : 0 < sizeOfK k) : k.toNat ≤ 64 * sizeOfK k ∧ 1 ≤ k ∧ k ≤ 128 := by
  obtain ⟨h1, h2, h3⟩ := sizeOfK_pos hs
  omega
/-- Is it a row of k blocks? -/
def validB (k : Int) (xs : List Nat) : Bool := decide (0 < xs.length) && decide (xs.length = sizeOfK k) && (List.range (64 * xs.length)).all fun i => decide (i < k.toNat) || !getB xs i
theorem validB_iff {k : Int} {xs : List Nat} : validB k xs = true ↔ ValidP k xs := by
  unfold validB ValidP
  rw [Bool.and_eq_true, Bool.and_eq_true, decide_eq_true_eq, decide_eq_true_eq, List.all_eq_true, and_assoc]
  refine and_congr_right fun _ => and_congr_right fun _ => ?_
  constructor
  · intro h i hi
    by_cases hl : i < 64 * xs.length
    · have := h i (List.mem_range.2 hl)
      rw [decide_eq_false (by omega)] at this
      simpa using this
    · exact getB_out xs i (by omega)
  · intro h i _
    by_cases hi : i < k.toNat
    · simp [hi]
    · rw [h i (by omega)]; simp
theorem valid_size {k : Int} {xs : List Nat} (h : validB k xs = true) : 0 < sizeOfK k ∧ xs.length = sizeOfK k ∧ ∀ i, getB xs i = true → i < k.toNat := by
  obtain ⟨h1, h2, h3⟩ := validB_iff.1 h
  refine ⟨by omega, h2, fun i hi => ?_⟩
  rcases Nat.lt_or_ge i k.toNat with h0 | h0
  · exact h0
  · rw [h3 i h0] at hi; cases hi
theorem retV {e : Ending} {k : Int} {xs : List Nat} (h : RetB e (ValidP k xs)) : e = .returned (.bool (validB k xs)) := by
  obtain ⟨b, rfl, hb⟩ := h
  have : b = validB k xs := by
    cases hv : validB k xs
    · rw [← Bool.not_eq_true]
      intro h
      rw [validB_iff.2 (hb.1 h)] at hv
      cases hv
    · exact hb.2 (validB_iff.1 hv)
  rw [this]
end Go.Proofs.YtnjdldbdkafnaaaGreatDoor
namespace Go.Proofs.YtnjdldbdkafnaaaGreatDoor
open Go.RowKit
set_option linter.unusedVariables false
set_option linter.unusedSimpArgs false
set_option maxRecDepth 4000

/-- The row of one block. -/
def unitL (k i : Int) : List Nat := if i < 0 ∨ k ≤ i then [] else setI (List.replicate (sizeOfK k) 0) i true

theorem own_made {w w' : World} {n : Nat} (h : w'.ownsRow w.heap.size 53 1 (.slice (some ⟨w.heap.size, 0, none⟩) n n) n (madeCells (Value.int .u64 0).cells (n * 1)).toList) :
    Own w' w.heap.size (.slice (some ⟨w.heap.size, 0, none⟩) n n) (List.replicate n 0) := by
  refine ⟨fun x hx => ?_, ?_⟩
  · rw [(List.mem_replicate.1 hx).2]; show 0 < 18446744073709551616; decide
  · have e : cellsU (List.replicate n 0) = (madeCells (Value.int .u64 0).cells (n * 1)).toList := by
      rw [show (Value.int .u64 0).cells = #[Value.int .u64 0] from rfl, toList_madeCells_one]
      simp [cellsU]
    rw [e, List.length_replicate]
    exact h
theorem sizeOfK_le (k : Int) : sizeOfK k ≤ 2 := by
  unfold sizeOfK
  split
  · omega
  · omega

set_option maxHeartbeats 1000000 in
theorem unit_any (k i : Int) (w : World) (hi : i ≤ 9223372036854775807) :
    Calls Tryz.prog 100 #[.int .i64 k, .int .i64 i] w fun e w' => ∃ v, e = .returned v ∧ Own w' w.heap.size v (unitL k i) ∧ Below w.heap.size w w' := by
  have HZ := hide (size_any k)
  by_cases hin : i < 0 ∨ k ≤ i
  · have HU := hide (show unitL k i = [] from by unfold unitL; rw [if_pos hin])
    by_cases h1 : i < 0
    · have hd1 : decide (i < 0) = true := by simp; omega
      clear hin
      go_enter Tryz.func100, Tryz.ntmps100
      go_wp2
      go_ret
      exact ⟨_, rfl, by rw [unhide HU]; exact Own.nil _ _, Below.refl _ _⟩
    · have hd1 : decide (i < 0) = false := by simp; omega
      have hd2 : decide (k ≤ i) = true := by simp; omega
      clear hin
      go_enter Tryz.func100, Tryz.ntmps100
      go_wp2
      go_ret
      exact ⟨_, rfl, by rw [unhide HU]; exact Own.nil _ _, Below.refl _ _⟩
  · have HU := hide (show unitL k i = setI (List.replicate (sizeOfK k) 0) i true from by unfold unitL; rw [if_neg hin])
    have hd1 : decide (i < 0) = false := by simp; omega
    have hd2 : decide (k ≤ i) = false := by simp; omega
    have hs := sizeOfK_le k
    obtain ⟨i0, hi0, hz0, hz1, hz2⟩ := info_parts info_u64
    obtain ⟨wm, hrun, hown, hgrow⟩ := run_make_full (P := Tryz.prog) w w.heap.size 27 53 i0 (.int .u64 0) 1 Tryz.underlying27 hi0 hz0 hz1 .i64 .i64 (sizeOfK k) (by rw [hz2]; omega) (by unfold maxLen; omega) (Nat.le_refl _)
    have ho := own_made hown
    have hb : Below w.heap.size w wm := (Below.refl _ _).grown hgrow (Nat.le_refl _) (fun k hk => by cases hk)
    obtain ⟨a1, c1, hv, hr⟩ := ho.row
    rw [List.length_replicate] at hv hr
    have hr1 : RowAt wm (some ⟨w.heap.size, 0, none⟩) (sizeOfK k) (List.replicate (sizeOfK k) 0) := by
      simp only [Value.slice.injEq] at hv
      rw [hv.1]; exact hr
    clear hin hown hgrow ho hv hr
    go_enter Tryz.func100, Tryz.ntmps100
    go_wp2_with (go_at_call 93; refine (unhide HZ _).mono ?_; rintro e w' ⟨rfl, hw⟩; obtain rfl := hw.symm)
    refine (set_any _ _ _ _ _ _ _ hr1 (by omega) hi).mono ?_
    rintro e w2 ⟨v, rfl, ho2, hb2⟩
    have HO := hide ho2
    have HB := hide (hb.trans (hb2.mono hb.size))
    clear ho2 hb2 hr1
    have hbs := hb.size
    go_wp2
    go_ret
    exact ⟨_, rfl, by rw [unhide HU]; exact (unhide HO).mono hbs, unhide HB⟩

set_option maxHeartbeats 1000000 in
theorem runit_any (k i : Int) (w : World) (hi : i ≤ 9223372036854775807) :
    Calls Tryz.prog 60 #[.int .i64 k, .int .i64 i] w fun e w' => ∃ v, e = .returned v ∧ Own w' w.heap.size v (unitL k i) ∧ Below w.heap.size w w' := by
  have HZ := hide (rsize_any k)
  by_cases h00 : sizeOfK k = 0
  · have hb0 : (((sizeOfK k : Nat) : Int) == 0) = true := by rw [h00]; rfl
    have HU := hide (show unitL k i = [] from by
      unfold unitL
      split
      · rfl
      · rw [h00]; unfold setI; split
        · rfl
        · simp [setB])
    clear h00
    go_enter Tryz.func60, Tryz.ntmps60
    go_wp2_with (go_at_call 54; refine (unhide HZ _).mono ?_; rintro e w' ⟨rfl, hw⟩; obtain rfl := hw.symm)
    go_ret
    exact ⟨_, rfl, by rw [unhide HU]; exact Own.nil _ _, Below.refl _ _⟩
  · have hb0 : (((sizeOfK k : Nat) : Int) == 0) = false := by simp only [beq_eq_false_iff_ne, ne_eq]; omega
    by_cases hin : i < 0 ∨ k ≤ i
    · have HU := hide (show unitL k i = [] from by unfold unitL; rw [if_pos hin])
      by_cases h1 : i < 0
      · have hd1 : decide (i < 0) = true := by simp; omega
        clear hin
        go_enter Tryz.func60, Tryz.ntmps60
        go_wp2_with (go_at_call 54; refine (unhide HZ _).mono ?_; rintro e w' ⟨rfl, hw⟩; obtain rfl := hw.symm)
        go_ret
        exact ⟨_, rfl, by rw [unhide HU]; exact Own.nil _ _, Below.refl _ _⟩
      · have hd1 : decide (i < 0) = false := by simp; omega
        have hd2 : decide (k ≤ i) = true := by simp; omega
        clear hin
        go_enter Tryz.func60, Tryz.ntmps60
        go_wp2_with (go_at_call 54; refine (unhide HZ _).mono ?_; rintro e w' ⟨rfl, hw⟩; obtain rfl := hw.symm)
        go_ret
        exact ⟨_, rfl, by rw [unhide HU]; exact Own.nil _ _, Below.refl _ _⟩
    · have HU := hide (show unitL k i = setI (List.replicate (sizeOfK k) 0) i true from by unfold unitL; rw [if_neg hin])
      have hd1 : decide (i < 0) = false := by simp; omega
      have hd2 : decide (k ≤ i) = false := by simp; omega
      have hs := sizeOfK_le k
      obtain ⟨i0, hi0, hz0, hz1, hz2⟩ := info_parts info_u64
      obtain ⟨wm, hrun, hown, hgrow⟩ := run_make_full (P := Tryz.prog) w w.heap.size 27 53 i0 (.int .u64 0) 1 Tryz.underlying27 hi0 hz0 hz1 .i64 .i64 (sizeOfK k) (by rw [hz2]; omega) (by unfold maxLen; omega) (Nat.le_refl _)
      have ho := own_made hown
      have hb : Below w.heap.size w wm := (Below.refl _ _).grown hgrow (Nat.le_refl _) (fun k hk => by cases hk)
      obtain ⟨a1, c1, hv, hr⟩ := ho.row
      rw [List.length_replicate] at hv hr
      have hr1 : RowAt wm (some ⟨w.heap.size, 0, none⟩) (sizeOfK k) (List.replicate (sizeOfK k) 0) := by
        simp only [Value.slice.injEq] at hv
        rw [hv.1]; exact hr
      clear hin hown hgrow ho hv hr
      go_enter Tryz.func60, Tryz.ntmps60
      go_wp2_with (go_at_call 54; refine (unhide HZ _).mono ?_; rintro e w' ⟨rfl, hw⟩; obtain rfl := hw.symm)
      refine (rset_any _ _ _ _ _ _ _ hr1 (by omega) hi).mono ?_
      rintro e w2 ⟨v, rfl, ho2, hb2⟩
      have HO := hide ho2
      have HB := hide (hb.trans (hb2.mono hb.size))
      clear ho2 hb2 hr1
      have hbs := hb.size
      go_wp2
      go_ret
      exact ⟨_, rfl, by rw [unhide HU]; exact (unhide HO).mono hbs, unhide HB⟩
end Go.Proofs.YtnjdldbdkafnaaaGreatDoor
