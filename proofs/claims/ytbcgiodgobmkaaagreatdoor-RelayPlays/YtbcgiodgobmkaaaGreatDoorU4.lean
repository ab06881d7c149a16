/-
  Contracts of words.from, words.Valid and bucketlineref01.Valid: for every int and every row.
  Contracts of words.Valid, words.Unit and bucketlineref01.Valid, Unit: for every int and every row of at most 2^20 words.
-/
import Derived.Test.YtbcgiodgobmkaaaGreatDoorU3
import Derived.Lib.SliceRun
namespace Go.Proofs.YtbcgiodgobmkaaaGreatDoor
open Go.RowKit
set_option linter.unusedVariables false
set_option linter.unusedSimpArgs false
set_option maxRecDepth 4000

def zer (xs : List Nat) : Nat → Nat → List Nat
  | _, 0 => xs
  | o, m + 1 => zer (xs.set o 0) (o + 1) m
theorem zer_length : ∀ (m o : Nat) (xs : List Nat), (zer xs o m).length = xs.length
  | 0, _, _ => rfl
  | m + 1, o, xs => by rw [zer, zer_length m]; simp
theorem zer_getD : ∀ (m o : Nat) (xs : List Nat) (j : Nat), (zer xs o m).getD j 0 = if o ≤ j ∧ j < o + m then 0 else xs.getD j 0
  | 0, o, xs, j => by simp [zer]; omega
  | m + 1, o, xs, j => by
    rw [zer, zer_getD m (o + 1), getD_set]
    by_cases h1 : o + 1 ≤ j ∧ j < o + 1 + m
    · rw [if_pos h1, if_pos (by omega)]
    · rw [if_neg h1]
      by_cases h2 : j = o
      · subst h2
        rw [if_pos (c := j ≤ j ∧ j < j + (m + 1)) (by omega)]
        split
        · rfl
        · exact getD_of_le (by omega)
      · rw [if_neg (by omega), if_neg (by omega)]
theorem Own.cleared {B g cap : Nat} : ∀ (m o : Nat) (xs : List Nat) (w : World), Own w B (.slice (some ⟨g, 0, none⟩) xs.length cap) xs →
    Own (w.setCells g o (List.replicate m (.int .u64 0))) B (.slice (some ⟨g, 0, none⟩) xs.length cap) (zer xs o m)
  | 0, _, _, _, h => h
  | m + 1, o, xs, w, h => by
    have h1 := h.stored o 0 (by decide)
    have h2 := Own.cleared m (o + 1) (xs.set o 0) (w.setCell ⟨g, o, none⟩ (.int .u64 0)) (by simpa using h1)
    rw [List.replicate_succ]
    have h3 : (xs.set o 0).length = xs.length := by simp
    rw [h3] at h2
    exact h2
theorem Below.cells {B g : Nat} {w0 : World} (hg : B ≤ g) : ∀ (vs : List Value) (o : Nat) (w : World), Below B w0 w → Below B w0 (w.setCells g o vs)
  | [], _, _, h => h
  | v :: r, o, w, h => Below.cells hg r (o + 1) (w.setCell ⟨g, o, none⟩ v) (h.setCell (by exact hg) v)

/-- The mask from bit r on. -/
def fmask (r : Nat) : Nat := 18446744073709551615 * 2 ^ r % 18446744073709551616
theorem fmask_lt (r : Nat) : fmask r < 18446744073709551616 := Nat.mod_lt _ (by decide)
theorem zero_u64 (w : World) : (zeroValue 59).run Tryz.prog w = .ok (.int .u64 0) w := by kernel_rfl

theorem clear_run {w1 : World} {B g cap : Nat} {xs : List Nat} {q : Nat} (ho : Own w1 B (.slice (some ⟨g, 0, none⟩) xs.length cap) xs) (hq : q ≤ xs.length) :
    ∀ ty, (Builtin.clear_ #[25] ty #[.slice (some ⟨g, 0, none⟩) q cap]).run Tryz.prog w1 = .ok (.tuple #[]) (w1.setCells g 0 (List.replicate q (.int .u64 0))) := by
  intro ty
  by_cases e : q = 0
  · subst e
    simp [Builtin.clear_, run_underlying Tryz.underlying25, World.setCells]
  · obtain ⟨g', cap', hv, _, _, hcg, hfg⟩ := ho.at (by omega)
    simp only [Value.slice.injEq, Option.some.injEq, Addr.mk.injEq, and_true, true_and] at hv
    obtain ⟨rfl, rfl⟩ := hv
    exact Lib.run_clear_slice w1 25 59 ty (.int .u64 0) Tryz.underlying25 zero_u64 rfl rfl g 0 q cap (by omega) (fun j hj => by rw [Nat.zero_add, hcg j (by omega)]; rfl) (fun j hj => by rw [Nat.zero_add]; exact hfg j)

theorem from_num (x r : Nat) (hx : x < 18446744073709551616) : bits .and .u64 (x : Int) (IntKind.u64.wrap (18446744073709551615 * 2 ^ r)) = ((x &&& fmask r : Nat) : Int) := by
  have e : IntKind.u64.wrap (18446744073709551615 * 2 ^ r) = ((fmask r : Nat) : Int) := by
    rw [IntKind.wrap_u64]; unfold fmask; simp
  rw [e, u64_and_nat x _ hx (fmask_lt r)]

set_option maxHeartbeats 1000000 in
theorem from_lt (a : Option Addr) (n c : Nat) (xs : List Nat) (k : Int) (q : Nat) (w : World) (h : RowAt w a n xs) (hn : n ≤ 1048576) (h0 : 0 ≤ k) (hk : k ≤ 9223372036854775807) (hq : k / 64 = (q : Int)) (hqn : q < n) :
    Calls Tryz.prog 149 #[.slice a n c, .int .i64 k] w fun e w' => ∃ v, e = .returned v ∧ Own w' w.heap.size v ((zer xs 0 q).set q (xs.getD q 0 &&& fmask (k % 64).toNat)) ∧ Below w.heap.size w w' := by
  obtain rfl : n = xs.length := h.1.symm
  have hqw := div_wrap k q h0 hk hq
  have hql' : (q : Int) < (xs.length : Int) := by omega
  go_enter Tryz.func149, Tryz.ntmps149
  go_wp2_with fail
  refine (clone_any a xs.length c xs _ h (by omega)).mono ?_
  rintro e w1 ⟨v, rfl, ho, hb⟩
  obtain ⟨g, cap, rfl, hBg, hgs, hcg, hfg⟩ := ho.at (by omega)
  have hcap := ho.cap
  have hcl := clear_run ho (by omega : q ≤ xs.length)
  have ho2 := Own.cleared q 0 xs w1 ho
  have hb2 := Below.cells (w0 := w) hBg (List.replicate q (.int .u64 0)) 0 w1 hb
  generalize w1.setCells g 0 (List.replicate q (.int .u64 0)) = w2 at *
  have hlz := zer_length q 0 xs
  rw [← hlz] at ho2
  obtain ⟨g', cap', hv, _, hgs2, hcg2, hfg2⟩ := ho2.at (by omega)
  simp only [Value.slice.injEq, Option.some.injEq, Addr.mk.injEq, and_true, true_and] at hv
  obtain ⟨rfl, rfl⟩ := hv
  have hcell := hcg2 q (by omega)
  have hfz := hfg2 q
  rw [zer_getD, if_neg (by omega)] at hcell
  have hnum := from_num (xs.getD q 0) (k % 64).toNat (h.2.1.get q)
  have hlt2 : xs.getD q 0 &&& fmask (k % 64).toNat < 18446744073709551616 := Nat.lt_of_le_of_lt Nat.and_le_left (h.2.1.get q)
  have hst := ho2.stored q (xs.getD q 0 &&& fmask (k % 64).toNat) hlt2
  have hbs := hb2.setCell (p := ⟨g, q, none⟩) (by exact hBg) (.int .u64 ((xs.getD q 0 &&& fmask (k % 64).toNat : Nat) : Int))
  rw [hlz] at hst
  obtain ⟨y, hy⟩ : ∃ y, y = xs.getD q 0 &&& fmask (k % 64).toNat := ⟨_, rfl⟩
  rw [← hy] at hnum hst hbs
  have HST := hide hst
  have HBS := hide hbs
  have HY := hide hy
  clear hcg hfg hcg2 hfg2 ho ho2 hb hb2 h hlz hst hbs hlt2 hy
  generalize xs.getD q 0 = x at hnum hcell
  go_wp2
  go_ret
  exact ⟨_, rfl, by rw [← unhide HY]; exact unhide HST, unhide HBS⟩

set_option maxHeartbeats 1000000 in
theorem from_all (a : Option Addr) (n c : Nat) (xs : List Nat) (k : Int) (w : World) (h : RowAt w a n xs) (hn : n ≤ 1048576) (hn0 : 0 < n) (h0 : 0 ≤ k) (hk : k ≤ 9223372036854775807) (hq : k / 64 = (n : Int)) :
    Calls Tryz.prog 149 #[.slice a n c, .int .i64 k] w fun e w' => ∃ v, e = .returned v ∧ Own w' w.heap.size v (zer xs 0 n) ∧ Below w.heap.size w w' := by
  obtain rfl : n = xs.length := h.1.symm
  have hqw := div_wrap k xs.length h0 hk hq
  go_enter Tryz.func149, Tryz.ntmps149
  go_wp2_with fail
  refine (clone_any a xs.length c xs _ h (by omega)).mono ?_
  rintro e w1 ⟨v, rfl, ho, hb⟩
  obtain ⟨g, cap, rfl, hBg, hgs, hcg, hfg⟩ := ho.at (by omega)
  have hcap := ho.cap
  have hcl := clear_run ho (Nat.le_refl _)
  have ho2 := Own.cleared xs.length 0 xs w1 ho
  have hb2 := Below.cells (w0 := w) hBg (List.replicate xs.length (.int .u64 0)) 0 w1 hb
  generalize w1.setCells g 0 (List.replicate xs.length (.int .u64 0)) = w2 at *
  have HST := hide ho2
  have HBS := hide hb2
  clear hcg hfg ho ho2 hb hb2 h
  go_wp2
  go_ret
  exact ⟨_, rfl, unhide HST, unhide HBS⟩
end Go.Proofs.YtbcgiodgobmkaaaGreatDoor
namespace Go.Proofs.YtbcgiodgobmkaaaGreatDoor
open Go.RowKit
set_option linter.unusedVariables false
set_option linter.unusedSimpArgs false
set_option maxRecDepth 4000

/-- A row of k blocks: just so many words, no bit beyond. -/
def ValidP (k : Int) (xs : List Nat) : Prop := 0 < xs.length ∧ xs.length = sizeOfK k ∧ ∀ i, k.toNat ≤ i → getB xs i = false

theorem sizeOfK_pos {k : Int} (h : 0 < sizeOfK k) : 1 ≤ k ∧ k ≤ 128 ∧ sizeOfK k = ((k + 63) / 64).toNat := by
  unfold sizeOfK at *
  split at h
  · omega
  · rename_i h1
    rw [if_neg h1]
    omega
theorem fmask_bit (r t : Nat) (ht : t < 64) : (fmask r).testBit t = decide (r ≤ t) := by
  unfold fmask
  rw [show (18446744073709551616 : Nat) = 2 ^ 64 from rfl, Nat.testBit_mod_two_pow, Nat.testBit_mul_two_pow, show (18446744073709551615 : Nat) = 2 ^ 64 - 1 from rfl, Nat.testBit_two_pow_sub_one]
  simp [ht]
  omega
theorem and_fmask (x r : Nat) (hx : x < 18446744073709551616) : (x &&& fmask r = 0) ↔ ∀ t, t < 64 → r ≤ t → x.testBit t = false := by
  constructor
  · intro h t ht hr
    have h1 : (x &&& fmask r).testBit t = false := by rw [h]; simp
    rw [Nat.testBit_and, fmask_bit r t ht] at h1
    simpa [hr] using h1
  · intro h
    apply Nat.eq_of_testBit_eq
    intro t
    rw [Nat.testBit_and, Nat.zero_testBit]
    by_cases ht : t < 64
    · rw [fmask_bit r t ht]
      by_cases hr : r ≤ t
      · simp [h t ht hr]
      · simp [hr]
    · have : x.testBit t = false := Nat.testBit_lt_two_pow (Nat.lt_of_lt_of_le (show x < 2 ^ 64 by omega) (Nat.pow_le_pow_right (by decide) (by omega)))
      simp [this]
theorem valid_all {k : Int} {xs : List Nat} (h0 : 0 < xs.length) (hs : xs.length = sizeOfK k) (hq : k / 64 = (xs.length : Int)) : cnt (zer xs 0 xs.length) = 0 ∧ ValidP k xs := by
  constructor
  · apply cnt_zero_of
    intro i hi
    rw [zer_length] at hi
    rw [zer_getD, if_pos (by omega)]
  · exact ⟨h0, hs, fun i hi => getB_out xs i (by omega)⟩
theorem valid_lt {k : Int} {xs : List Nat} {q : Nat} (hx : smalls xs) (h0 : 0 < xs.length) (hs : xs.length = sizeOfK k) (hk : 0 ≤ k) (hq : k / 64 = (q : Int)) (hqn : q < xs.length) :
    cnt ((zer xs 0 q).set q (xs.getD q 0 &&& fmask (k % 64).toNat)) = 0 ↔ ValidP k xs := by
  have hp := sizeOfK_pos (k := k) (by omega)
  have hqe : q + 1 = xs.length := by omega
  have hy : smalls ((zer xs 0 q).set q (xs.getD q 0 &&& fmask (k % 64).toNat)) := by
    have hz : smalls (zer xs 0 q) := by
      intro z hz
      obtain ⟨i, hi, rfl⟩ := List.getElem_of_mem hz
      have h1 := zer_getD q 0 xs i
      have h2 : (zer xs 0 q).getD i 0 = (zer xs 0 q)[i] := by simp [List.getD_eq_getElem?_getD, List.getElem?_eq_getElem hi]
      have h3 := hx.get i
      rw [h2] at h1
      show (zer xs 0 q)[i] < 18446744073709551616
      rw [h1]
      split
      · decide
      · exact h3
    exact hz.set _ _ (Nat.lt_of_le_of_lt Nat.and_le_left (hx.get q))
  have e1 : cnt ((zer xs 0 q).set q (xs.getD q 0 &&& fmask (k % 64).toNat)) = 0 ↔ xs.getD q 0 &&& fmask (k % 64).toNat = 0 := by
    constructor
    · intro h
      have h1 := (all_zero_iff _).1 (zero_of_cnt _ hy h) q
      rw [getD_set, if_pos ⟨rfl, by rw [zer_length]; exact hqn⟩] at h1
      exact h1
    · intro h
      apply cnt_zero_of
      intro i hi
      rw [List.length_set, zer_length] at hi
      rw [getD_set]
      split
      · exact h
      · rw [zer_getD, if_pos]
        rename_i hne
        rw [zer_length] at hne
        omega
  rw [e1, and_fmask _ _ (hx.get q)]
  constructor
  · intro h
    refine ⟨h0, hs, fun i hi => ?_⟩
    by_cases hi2 : 64 * xs.length ≤ i
    · exact getB_out xs i hi2
    · unfold getB
      rw [show i / 64 = q by omega]
      exact h (i % 64) (by omega) (by omega)
  · intro h t ht hr
    have := h.2.2 (64 * q + t) (by omega)
    rwa [getB_at xs q t ht] at this

/-- A Bool comes back that tells whether P holds. -/
def RetB (e : Ending) (P : Prop) : Prop := ∃ b, e = .returned (.bool b) ∧ (b = true ↔ P)
theorem RetB.no {P : Prop} (h : ¬ P) : RetB (.returned (.bool false)) P := ⟨false, rfl, by simp [h]⟩
theorem RetB.yes {P : Prop} (h : P) : RetB (.returned (.bool true)) P := ⟨true, rfl, by simp [h]⟩
set_option maxHeartbeats 1000000 in
theorem valid_any (a : Option Addr) (n c : Nat) (xs : List Nat) (k : Int) (w : World) (h : RowAt w a n xs) :
    Calls Tryz.prog 146 #[.int .i64 k, .slice a n c] w fun e w' => RetB e (ValidP k xs) ∧ Below w.heap.size w w' := by
  obtain rfl : n = xs.length := h.1.symm
  have HZ := hide (size_any k)
  by_cases h0 : xs.length = 0
  · have hb0 : ((xs.length : Int) == 0) = true := by rw [h0]; rfl
    have HF := hide (show ¬ ValidP k xs from fun hv => by have := hv.1; omega)
    clear h h0
    go_enter Tryz.func146, Tryz.ntmps146
    go_wp2
    go_ret
    exact ⟨RetB.no (unhide HF), Below.refl _ _⟩
  · have hb0 : ((xs.length : Int) == 0) = false := by simp only [beq_eq_false_iff_ne, ne_eq]; omega
    by_cases hs : xs.length = sizeOfK k
    · have hp := sizeOfK_pos (k := k) (by omega)
      have hb1 : ((xs.length : Int) != ((sizeOfK k : Nat) : Int)) = false := by rw [hs]; simp
      have hn2 : xs.length ≤ 1048576 := by omega
      obtain ⟨q, hq⟩ := Int.eq_ofNat_of_zero_le (show 0 ≤ k / 64 by omega)
      have he : ∀ q : Nat, ((q : Int) == 0) = true ↔ q = 0 := fun q => by
        by_cases e : q = 0
        · subst e; simp
        · simp [e]
      have HE := hide he
      clear he
      by_cases hqn : q < xs.length
      · have HV := hide (valid_lt h.2.1 (by omega) hs (by omega) hq hqn)
        have HF := hide (fun wx (hr : RowAt wx a xs.length xs) => from_lt a xs.length c xs k q wx hr hn2 (by omega) (by omega) hq hqn)
        have hres : ((zer xs 0 q).set q (xs.getD q 0 &&& fmask (k % 64).toNat)).length = xs.length := by rw [List.length_set, zer_length]
        have HR := hide hres
        generalize (zer xs 0 q).set q (xs.getD q 0 &&& fmask (k % 64).toNat) = res at *
        clear hq hqn hs hres
        go_enter Tryz.func146, Tryz.ntmps146
        go_wp2_with (go_at_call 148; refine (unhide HZ _).mono ?_; rintro e w' ⟨rfl, rfl⟩)
        refine (unhide HF _ h).mono ?_
        rintro e w1 ⟨v, rfl, ho, hb⟩
        obtain ⟨a1, c1, rfl, hr⟩ := ho.row
        go_wp2_with fail
        refine (count_any a1 _ c1 _ _ hr (by rw [unhide HR]; omega)).mono ?_
        rintro e w2 ⟨rfl, rfl⟩
        clear ho
        go_wp2
        go_ret
        exact ⟨⟨_, rfl, (unhide HE _).trans (unhide HV)⟩, hb⟩
      · have hqe : k / 64 = (xs.length : Int) := by omega
        have HV := hide (valid_all (by omega) hs hqe)
        have HF := hide (fun wx (hr : RowAt wx a xs.length xs) => from_all a xs.length c xs k wx hr hn2 (by omega) (by omega) (by omega) hqe)
        have HR := hide (zer_length xs.length 0 xs)
        generalize zer xs 0 xs.length = res at *
        clear hq hqn hqe hs
        go_enter Tryz.func146, Tryz.ntmps146
        go_wp2_with (go_at_call 148; refine (unhide HZ _).mono ?_; rintro e w' ⟨rfl, rfl⟩)
        refine (unhide HF _ h).mono ?_
        rintro e w1 ⟨v, rfl, ho, hb⟩
        obtain ⟨a1, c1, rfl, hr⟩ := ho.row
        go_wp2_with fail
        refine (count_any a1 _ c1 _ _ hr (by rw [unhide HR]; omega)).mono ?_
        rintro e w2 ⟨rfl, rfl⟩
        clear ho
        go_wp2
        go_ret
        exact ⟨⟨_, rfl, (unhide HE _).trans ⟨fun _ => (unhide HV).2, fun _ => (unhide HV).1⟩⟩, hb⟩
    · have hb1 : ((xs.length : Int) != ((sizeOfK k : Nat) : Int)) = true := by rw [bne_iff_ne]; omega
      have HF := hide (show ¬ ValidP k xs from fun hv => hs hv.2.1)
      clear h h0 hs
      go_enter Tryz.func146, Tryz.ntmps146
      go_wp2_with (go_at_call 148; refine (unhide HZ _).mono ?_; rintro e w' ⟨rfl, rfl⟩)
      go_ret
      exact ⟨RetB.no (unhide HF), Below.refl _ _⟩

set_option maxHeartbeats 1000000 in
theorem rvalid_any (a : Option Addr) (n c : Nat) (xs : List Nat) (k : Int) (w : World) (h : RowAt w a n xs) :
    Calls Tryz.prog 41 #[.int .i64 k, .slice a n c] w fun e w' => RetB e (ValidP k xs) ∧ w' = w := by
  obtain rfl : n = xs.length := h.1.symm
  have HZ := hide (rsize_any k)
  by_cases h0 : sizeOfK k = 0
  · have hb0 : (((sizeOfK k : Nat) : Int) == 0) = true := by rw [h0]; rfl
    have HF := hide (show ¬ ValidP k xs from fun hv => by have := hv.1; have := hv.2.1; omega)
    clear h h0
    go_enter Tryz.func41, Tryz.ntmps41
    go_wp2_with (go_at_call 61; refine (unhide HZ _).mono ?_; rintro e w' ⟨rfl, rfl⟩)
    go_ret
    exact ⟨RetB.no (unhide HF), rfl⟩
  · have hb0 : (((sizeOfK k : Nat) : Int) == 0) = false := by simp only [beq_eq_false_iff_ne, ne_eq]; omega
    by_cases hs : xs.length = sizeOfK k
    · have hp := sizeOfK_pos (k := k) (by omega)
      have hb1 : ((xs.length : Int) != ((sizeOfK k : Nat) : Int)) = false := by rw [hs]; simp
      have hn2 : xs.length ≤ 1048576 := by omega
      have HS := hide hs
      have hl0 : 0 < xs.length := by omega
      obtain ⟨hp1, hp2, hp3⟩ := hp
      have HP := hide hp3
      clear hs h0 hp3
      go_enter Tryz.func41, Tryz.ntmps41
      go_wp2_with (go_at_call 61; refine (unhide HZ _).mono ?_; rintro e w' ⟨rfl, rfl⟩)
      go_loop [5] (fun t => ∃ i : Nat, k.toNat ≤ i ∧ i ≤ 64 * xs.length ∧ t = .int .i64 (i : Int) ∧ Hid (∀ j, k.toNat ≤ j → j < i → getB xs j = false)) (fun t => 64 * xs.length - (intOf t).toNat)
      case atStart => exact ⟨k.toNat, Nat.le_refl _, by have := unhide HS; have := unhide HP; omega, by rw [show ((k.toNat : Nat) : Int) = k by omega], hide (fun j h1 h2 => by omega)⟩
      case round =>
        obtain ⟨i, hi1, hi2, rfl, HL⟩ := hrel
        by_cases hlt : i < 64 * xs.length
        · have hlt' : (i : Int) < 64 * (xs.length : Int) := by omega
          have hG := rget_in a xs.length c xs (i : Int) _ h (by omega) (by omega) (by omega) (by omega)
          rw [Int.toNat_natCast] at hG
          by_cases hg : getB xs i = true
          · rw [hg] at hG
            have HG := hide hG
            have HF := hide (show ¬ ValidP k xs from fun hv => by have := hv.2.2 i hi1; rw [hg] at this; cases this)
            clear hG h hg
            go_wp2_with (go_at_call 37; refine (unhide HG).mono ?_; rintro e w' ⟨rfl, rfl⟩)
            go_ret
            exact ⟨RetB.no (unhide HF), rfl⟩
          · have hg' : getB xs i = false := by simpa using hg
            rw [hg'] at hG
            have HG := hide hG
            have HL' := hide (show ∀ j, k.toNat ≤ j → j < i + 1 → getB xs j = false from fun j h1 h2 => by
              by_cases e : j = i
              · rw [e]; exact hg'
              · exact unhide HL j h1 (by omega))
            clear hG h hg hg'
            go_wp2_with (go_at_call 37; refine (unhide HG).mono ?_; rintro e w' ⟨rfl, rfl⟩)
            go_round
            case rel => exact ⟨i + 1, by omega, by omega, by go_num, HL'⟩
            case measure => simp [intOf]; omega
        · have hge : ¬ ((i : Int) < 64 * (xs.length : Int)) := by omega
          have HF := hide (show ValidP k xs from ⟨hl0, unhide HS, fun j hj => by
            by_cases e : j < i
            · exact unhide HL j hj e
            · exact getB_out xs j (by omega)⟩)
          clear h
          go_wp2
          go_ret
          exact ⟨RetB.yes (unhide HF), rfl⟩
    · have hb1 : ((xs.length : Int) != ((sizeOfK k : Nat) : Int)) = true := by rw [bne_iff_ne]; omega
      have HF := hide (show ¬ ValidP k xs from fun hv => hs hv.2.1)
      clear h h0 hs
      go_enter Tryz.func41, Tryz.ntmps41
      go_wp2_with (go_at_call 61; refine (unhide HZ _).mono ?_; rintro e w' ⟨rfl, rfl⟩)
      go_ret
      exact ⟨RetB.no (unhide HF), rfl⟩
end Go.Proofs.YtbcgiodgobmkaaaGreatDoor
