/-
  The table of soliton ('PTab'). Contracts of math/bits.Len64 and Len (below 256), soliton.base, more, Table, bucketlineref10.Table: in every world that holds the table.
  Contract of bucketlineref10.Table: of 1 to 128 blocks, a spread of 0 to as many. Written by gen_zc.py.
-/
import Derived.Test.YtigmckjjoabfeaaDoorM7
import Derived.Lib.BitFns
namespace Go.Proofs.YtigmckjjoabfeaaDoor
open Go.RowKit
set_option linter.unusedVariables false
set_option maxRecDepth 4000

/-- The table of soliton lies where its initialiser laid it. -/
def PTab (w : World) : Prop := ∀ i, i < 127 → w.cell? ⟨0, i, none⟩ = some (.int .u32 ((1048576 / ((i + 2) * (i + 1)) : Nat) : Int))
theorem PTab.below {w w' : World} (h : PTab w) (hb : Below w.heap.size w w') : PTab w' := fun i hi => (hb.cell (World.block_lt_of_cell? w _ (h i hi))).trans (h i hi)

theorem blen_same (x : Nat) (hx : x < 256) : Lib.bitLen x = bitLen x := by
  have h : ∀ j : Fin 256, Lib.bitLen j.val = bitLen j.val := by decide +kernel
  exact h ⟨x, hx⟩
theorem len8_nat (x : Nat) (hx : x < 256) : Lib.len8 (x : Int) = ((bitLen x : Nat) : Int) := by
  rw [Lib.len8_of (x : Int) (by omega) (by omega), Int.toNat_natCast, blen_same x hx]

set_option maxHeartbeats 1000000 in
set_option maxRecDepth 100000 in
theorem zlen64_any (x : Nat) (hx : x < 256) (w : World) :
    Calls Tryd.prog 73 #[.int .u64 (x : Int)] w fun e w' => e = .returned (.int .i64 ((bitLen x : Nat) : Int)) ∧ w' = w := by
  have H := len8_nat x hx
  have hI := fun W => Lib.run_index_len8tab (P := Tryd.prog) W 9 .u8 (x : Int) Tryd.underlying9 (by omega) (by omega)
  rw [H] at hI
  clear H
  have hb : ((bitLen x : Nat) : Int) ≤ 8 := by have := bitLen_le8 x hx; omega
  have hx' : (x : Int) ≤ 255 := by omega
  generalize bitLen x = z at *
  clear hx
  go_enter Tryd.func73, Tryd.ntmps73
  generalize hT : ByteArray.mk (List.toArray _) = T at *
  have hT' : T = Lib.len8tab := hT.symm.trans (by kernel_rfl)
  clear hT
  rw [← hT'] at hI
  clear hT'
  generalize hQ : bodyPost _ _ _ = Q at *
  have HQ := hide hQ
  clear hQ
  iterate 20 go_step
  refine wp_cond_split rfl (fun h => ?_) (fun h => ?_)
  · exact absurd (of_decide_eq_true h) (by omega)
  clear h
  iterate 15 go_step
  refine wp_cond_split rfl (fun h => ?_) (fun h => ?_)
  · exact absurd (of_decide_eq_true h) (by omega)
  clear h
  iterate 15 go_step
  refine wp_cond_split rfl (fun h => ?_) (fun h => ?_)
  · exact absurd (of_decide_eq_true h) (by omega)
  clear h
  go_wp2
  rw [← unhide HQ]
  go_ret
  exact ⟨rfl, rfl⟩

set_option maxHeartbeats 400000 in
theorem zlen_any (x : Nat) (hx : x < 256) (w : World) :
    Calls Tryd.prog 66 #[.int .u64 (x : Int)] w fun e w' => e = .returned (.int .i64 ((bitLen x : Nat) : Int)) ∧ w' = w := by
  have H := hide (zlen64_any x hx w)
  generalize bitLen x = z at *
  go_enter Tryd.func66, Tryd.ntmps66
  go_wp2_with (go_at_call 73; refine (unhide H).mono ?_; rintro e w1 ⟨rfl, hw⟩; obtain rfl := hw.symm)
  go_ret
  exact ⟨rfl, rfl⟩

set_option maxHeartbeats 400000 in
theorem base_any (k d : Nat) (hk : 1 ≤ k) (hk2 : k ≤ 128) (hd : 1 ≤ d) (hd2 : d ≤ 128) (w : World) (ht : PTab w) :
    Calls Tryd.prog 51 #[.int .i64 (k : Int), .int .i64 (d : Int)] w fun e w' => e = .returned (.int .i64 ((baseN k d : Nat) : Int)) ∧ w' = w := by
  by_cases h1 : d = 1
  · subst h1
    have hq : (1048576 : Int) / (k : Int) = ((1048576 / k : Nat) : Int) := by simp
    have hle := Nat.div_le_self 1048576 k
    rw [baseN_one]
    have hkp : (1 : Int) ≤ (k : Int) := by omega
    generalize 1048576 / k = q at *
    clear ht
    go_enter Tryd.func51, Tryd.ntmps51
    go_wp2
    go_ret
    exact ⟨ret_int (by first | rfl | rw [hq]), rfl⟩
  · rw [baseN_more h1]
    obtain ⟨i, rfl⟩ : ∃ i, d = i + 2 := ⟨d - 2, by omega⟩
    have hcell := ht i (by omega)
    rw [show (i + 2) * (i + 2 - 1) = (i + 2) * (i + 1) from rfl]
    have hle := Nat.div_le_self 1048576 ((i + 2) * (i + 1))
    have hii : ((i + 2 : Nat) : Int) - 2 = (i : Int) := by omega
    generalize 1048576 / ((i + 2) * (i + 1)) = q at *
    clear ht
    go_enter Tryd.func51, Tryd.ntmps51
    go_wp2
    go_ret
    exact ⟨rfl, rfl⟩

set_option maxHeartbeats 400000 in
theorem more_any (k s d : Nat) (hk : 1 ≤ k) (hk2 : k ≤ 128) (hd : 1 ≤ d) (hd2 : d ≤ 128) (hs : s ≤ 128) (w : World) :
    Calls Tryd.prog 52 #[.int .i64 (k : Int), .int .i64 (s : Int), .int .i64 (d : Int)] w fun e w' => e = .returned (.int .i64 ((moreN k s d : Nat) : Int)) ∧ w' = w := by
  by_cases h0 : s = 0
  · subst h0
    rw [moreN_none]
    go_enter Tryd.func52, Tryd.ntmps52
    go_wp2
    go_ret
    exact ⟨rfl, rfl⟩
  · have hs0 : (1 : Int) ≤ (s : Int) := by omega
    have hkp : (1 : Int) ≤ (k : Int) := by omega
    have hdp : (1 : Int) ≤ (d : Int) := by omega
    have hm : (k : Int) / (s : Int) = ((k / s : Nat) : Int) := by simp
    have hml := Nat.div_le_self k s
    by_cases h1 : d < k / s
    · rw [moreN_less h0 h1]
      have hkd : k * d ≤ 128 * 128 := Nat.mul_le_mul hk2 hd2
      have hkd1 : 1 * 1 ≤ k * d := Nat.mul_le_mul hk hd
      have hmi : (k : Int) * (d : Int) = ((k * d : Nat) : Int) := by simp
      have hq : (1048576 * s : Int) / ((k * d : Nat) : Int) = ((1048576 * s / (k * d) : Nat) : Int) := by simp
      have hle := Nat.div_le_self (1048576 * s) (k * d)
      have hki : (1 : Int) ≤ ((k * d : Nat) : Int) := by omega
      generalize 1048576 * s / (k * d) = q at *
      generalize k * d = m at *
      generalize k / s = m' at *
      go_enter Tryd.func52, Tryd.ntmps52
      go_wp2
      go_ret
      exact ⟨ret_int (by first | rfl | rw [hq]), rfl⟩
    · by_cases h2 : d = k / s
      · rw [moreN_same h0 h2]
        have HL := hide (zlen_any s (by omega) w)
        have hb8 := bitLen_le8 s (by omega)
        have hp2 : 1048576 * s * bitLen s ≤ 1048576 * 128 * 8 := Nat.mul_le_mul (Nat.mul_le_mul_left _ hs) hb8
        have hmi : (1048576 * (s : Int)) * ((bitLen s : Nat) : Int) = ((1048576 * s * bitLen s : Nat) : Int) := by simp
        have hq : ((1048576 * s * bitLen s : Nat) : Int) / (k : Int) = ((1048576 * s * bitLen s / k : Nat) : Int) := by simp
        have hle := Nat.div_le_self (1048576 * s * bitLen s) k
        have hdm : (d : Int) = ((k / s : Nat) : Int) := by omega
        generalize 1048576 * s * bitLen s / k = q at *
        generalize 1048576 * s * bitLen s = p at *
        generalize bitLen s = z at *
        generalize k / s = m' at *
        subst h2
        clear h1 hdm
        go_enter Tryd.func52, Tryd.ntmps52
        go_wp2_with (go_at_call 66; refine (unhide HL).mono ?_; rintro e w1 ⟨rfl, hw⟩; obtain rfl := hw.symm)
        go_ret
        exact ⟨ret_int (by first | rfl | rw [hq]), rfl⟩
      · rw [moreN_over h0 (by omega)]
        generalize k / s = m' at *
        have h3 : m' < d := by omega
        clear h1 h2
        go_enter Tryd.func52, Tryd.ntmps52
        go_wp2
        go_ret
        exact ⟨rfl, rfl⟩

/-- What a slice of shares that Table answers is. -/
theorem share_max (k s d : Nat) : max 1 (baseN k d + moreN k s d) = shareN k s d := rfl
set_option maxHeartbeats 1000000 in
theorem table_any (k s : Nat) (hk : 1 ≤ k) (hk2 : k ≤ 128) (hs : s ≤ k) (w : World) (ht : PTab w) :
    Calls Tryd.prog 29 #[.int .i64 (k : Int), .int .i64 (s : Int)] w fun e w' => ∃ v, e = .returned v ∧ OwnZ w' w.heap.size v (tableL k s) ∧ Below w.heap.size w w' := by
  have hmk := make_intz k (by omega)
  have HM := hide (made_intz w k (by omega) (filledZ (tableL k s) 0) (by rw [filledZ_zero, tableL_len]))
  have HBM : Hid (Below w.heap.size w (w.alloc (.cells (madeCells #[.int .i64 0] k) 3))) := hide ((Below.refl _ _).alloc (Nat.le_refl _) _)
  have e1 : decide ((k : Int) < 1) = false := by rw [decide_eq_false_iff_not]; omega
  have e2 : decide (128 < (k : Int)) = false := by rw [decide_eq_false_iff_not]; omega
  have e3 : decide ((s : Int) < 0) = false := by rw [decide_eq_false_iff_not]; omega
  have e4 : decide (k < s) = false := by rw [decide_eq_false_iff_not]; omega
  have hs1 : s ≤ 128 := by omega
  have HK := hide hk
  clear hk hs
  go_enter Tryd.func29, Tryd.ntmps29
  go_wp2
  go_loopw [27] (fun i wr => ∃ j : Nat, j ≤ k ∧ i = .int .i64 j ∧ Hid (OwnZ wr w.heap.size (.slice (some ⟨w.heap.size, 0, none⟩) k k) (filledZ (tableL k s) j)) ∧ Hid (Below w.heap.size w wr)) (fun i _ => k - (intOf i).toNat)
  case atStart => exact ⟨0, Nat.zero_le _, rfl, HM, HBM⟩
  case round =>
    obtain ⟨j, hj, rfl, HI, HB⟩ := hrel
    have hB := unhide HB
    by_cases hlt : j < k
    · have hI := unhide HI
      have hfl : (filledZ (tableL k s) j).length = k := by rw [filledZ_length _ _ (by rw [tableL_len]; exact hj), tableL_len]
      obtain ⟨g, cap, e1, _, _, hcg, hfg⟩ := hI.at (by omega)
      simp only [Value.slice.injEq, Option.some.injEq, Addr.mk.injEq, and_true] at e1
      obtain ⟨rfl, -, -⟩ := e1
      have hcell2 := hcg j (by omega)
      have hfz := hfg j
      have hjj : ((j + 1 : Nat) : Int) = (j : Int) + 1 := by omega
      have hA := base_any k (j + 1) (unhide HK) hk2 (by omega) (by omega) wr (ht.below hB)
      have hC := more_any k s (j + 1) (unhide HK) hk2 (by omega) (by omega) (by omega) wr
      rw [hjj] at hA hC
      have HA := hide hA
      have HC := hide hC
      have hb1 := baseN_le k (j + 1)
      have hb2 := moreN_le k s (j + 1) (by omega)
      have hmx := max1_run (baseN k (j + 1) + moreN k s (j + 1))
      have hs2 := hI.stored j ((shareN k s (j + 1) : Nat) : Int)
      rw [← tableL_get k s j hlt, filledZ_succ _ _ (by rw [tableL_len]; exact hlt), tableL_get k s j hlt] at hs2
      have HS := hide hs2
      have HB2 := hide (hB.setCell (p := ⟨w.heap.size, j, none⟩) (by exact Nat.le_refl _) (.int .i64 ((shareN k s (j + 1) : Nat) : Int)))
      rw [share_max] at hmx
      clear hA hC hjj
      clear hI hfl hcg hfg hs2 hB HB HI HM HBM ht
      generalize shareN k s (j + 1) = q at *
      generalize baseN k (j + 1) = x at *
      generalize moreN k s (j + 1) = y at *
      have hxy : ((x + y : Nat) : Int) = (x : Int) + (y : Int) := by omega
      rw [hxy] at hmx
      clear hxy
      go_wp2_with (first | (go_at_call 51; refine (unhide HA).mono ?_; rintro e w1 ⟨rfl, hw⟩; obtain rfl := hw.symm) | (go_at_call 52; refine (unhide HC).mono ?_; rintro e w1 ⟨rfl, hw⟩; obtain rfl := hw.symm))
      go_roundw
      case rel => exact ⟨j + 1, by omega, by go_num, HS, HB2⟩
      case measure => simp [intOf]; omega
    · obtain rfl : j = k := by omega
      rw [show filledZ (tableL j s) j = tableL j s by
        have := filledZ_all (tableL j s)
        rwa [tableL_len] at this] at HI
      clear HM HBM
      go_wp2
      go_ret
      exact ⟨_, rfl, unhide HI, unhide HB⟩
/-- Of other numbers there is no share. -/
def TableBad (k s : Int) : Prop := k < 1 ∨ 128 < k ∨ s < 0 ∨ k < s
set_option maxHeartbeats 400000 in
theorem table_no (k s : Int) (h : TableBad k s) (w : World) : Calls Tryd.prog 29 #[.int .i64 k, .int .i64 s] w fun e w' => e = .returned (.slice none 0 0) ∧ w' = w := by
  rcases h with h | h | h | h
  · go_enter Tryd.func29, Tryd.ntmps29
    go_wp2
    go_ret
    exact ⟨rfl, rfl⟩
  · go_enter Tryd.func29, Tryd.ntmps29
    go_wp2
    all_goals (go_ret; exact ⟨rfl, rfl⟩)
  · go_enter Tryd.func29, Tryd.ntmps29
    go_wp2
    all_goals (go_ret; exact ⟨rfl, rfl⟩)
  · go_enter Tryd.func29, Tryd.ntmps29
    go_wp2
    all_goals (go_ret; exact ⟨rfl, rfl⟩)
set_option maxHeartbeats 400000 in
theorem table10_no (k s : Int) (h : TableBad k s) (w : World) : Calls Tryd.prog 35 #[.int .i64 k, .int .i64 s] w fun e w' => e = .returned (.slice none 0 0) ∧ w' = w := by
  rcases h with h | h | h | h
  · go_enter Tryd.func35, Tryd.ntmps35
    go_wp2
    go_ret
    exact ⟨rfl, rfl⟩
  · go_enter Tryd.func35, Tryd.ntmps35
    go_wp2
    all_goals (go_ret; exact ⟨rfl, rfl⟩)
  · go_enter Tryd.func35, Tryd.ntmps35
    go_wp2
    all_goals (go_ret; exact ⟨rfl, rfl⟩)
  · go_enter Tryd.func35, Tryd.ntmps35
    go_wp2
    all_goals (go_ret; exact ⟨rfl, rfl⟩)
end Go.Proofs.YtigmckjjoabfeaaDoor
namespace Go.Proofs.YtigmckjjoabfeaaDoor
open Go.RowKit
set_option linter.unusedVariables false
set_option maxRecDepth 4000

theorem tableL_take (k s d : Nat) (h1 : 1 ≤ d) (h2 : d ≤ k) : (tableL k s).take (d - 1) ++ [((shareN k s d : Nat) : Int)] = (tableL k s).take d := by
  obtain ⟨i, rfl⟩ : ∃ i, d = i + 1 := ⟨d - 1, by omega⟩
  have hi : i < (tableL k s).length := by rw [tableL_len]; omega
  rw [List.take_succ_eq_append_getElem hi, Nat.add_sub_cancel]
  have := tableL_get k s i (by omega)
  rw [List.getD_eq_getElem?_getD, List.getElem?_eq_getElem hi] at this
  simp only [Option.getD_some] at this
  rw [this]
theorem share_of {k s d x y : Nat} (hx : baseN k d = x) (hy : moreN k s d = y) : max 1 (x + y) = shareN k s d := by rw [← hx, ← hy]; rfl
theorem len_push (l : List Int) (x : Int) : (l ++ [x]).length = l.length + 1 := by simp

set_option maxHeartbeats 4000000 in
theorem table10_any (k s : Nat) (hk : 1 ≤ k) (hk2 : k ≤ 128) (hs : s ≤ k) (w : World) :
    Calls Tryd.prog 35 #[.int .i64 (k : Int), .int .i64 (s : Int)] w fun e w' => ∃ v, e = .returned v ∧ OwnZ w' w.heap.size v (tableL k s) ∧ Below w.heap.size w w' := by
  have e1 : decide ((k : Int) < 1) = false := by rw [decide_eq_false_iff_not]; omega
  have e2 : decide (128 < (k : Int)) = false := by rw [decide_eq_false_iff_not]; omega
  have e3 : decide ((s : Int) < 0) = false := by rw [decide_eq_false_iff_not]; omega
  have e4 : decide (k < s) = false := by rw [decide_eq_false_iff_not]; omega
  have hs1 : s ≤ 128 := by omega
  have hb8 := bitLen_le8 s (by omega)
  have HK := hide hk
  have HE := hide (show (tableL k s).take k = tableL k s by rw [List.take_of_length_le (by rw [tableL_len]; exact Nat.le_refl _)])
  have HT := hide (fun d h1 h2 => tableL_take k s d h1 h2)
  have HLN := hide (fun j => (List.length_take_le j (tableL k s)))
  clear hk hs
  obtain ⟨z, hz⟩ : ∃ z, bitLen s = z := ⟨_, rfl⟩
  have HZ := hide hz
  rw [hz] at hb8
  clear hz
  go_enter Tryd.func35, Tryd.ntmps35
  go_wp2
  go_loop [5, 6] (fun t i => ∃ b x : Nat, t = .int .i64 (b : Int) ∧ i = .int .i64 (x : Int) ∧ x ≤ 128 ∧ b ≤ 8 ∧ Hid (b + bitLen x = z)) (fun _ i => (intOf i).toNat)
  case atStart => exact ⟨0, s, rfl, rfl, hs1, by omega, hide (by rw [unhide HZ]; omega)⟩
  case round =>
    obtain ⟨b, x, rfl, rfl, hx, hb, HQ⟩ := hrel
    by_cases h0 : 0 < x
    · have hh := bitLen_half x h0
      have hq := unhide HQ
      have hdv : (x : Int) / 2 = ((x / 2 : Nat) : Int) := by simp
      have hb' : b + 1 ≤ 8 := by omega
      have HQ1 := hide (show b + 1 + bitLen (x / 2) = z by omega)
      have hlt : x / 2 < x := by omega
      have hxi : (1 : Int) ≤ (x : Int) := by omega
      clear hh hq HQ
      generalize x / 2 = y at *
      go_wp2
      go_round
      case rel => exact ⟨b + 1, y, by go_num, by first | rfl | rw [hdv], by omega, hb', HQ1⟩
      case measure => simp [intOf]; omega
    · obtain rfl : x = 0 := by omega
      obtain rfl : b = z := by have := unhide HQ; rw [bitLen_zero] at this; omega
      clear HQ h0
      go_wp2
      go_loopw [7, 8] (fun l i wr => ∃ d : Nat, 1 ≤ d ∧ d ≤ k + 1 ∧ i = .int .i64 d ∧ ∃ a c n, n ≤ 128 ∧ l = .slice a n c ∧ Hid (OwnZ wr w.heap.size (.slice a n c) ((tableL k s).take (d - 1))) ∧ Hid (Below w.heap.size w wr)) (fun _ i _ => k + 1 - (intOf i).toNat)
      case atStart => exact ⟨1, Nat.le_refl _, by omega, rfl, none, 0, 0, by omega, rfl, hide (OwnZ.nil _ _), hide (Below.refl _ _)⟩
      case round =>
        obtain ⟨d, hd1, hd2, rfl, a, c, n, hn, rfl, HO, HB⟩ := hrel
        by_cases hlt : d ≤ k
        · have hlti : (d : Int) ≤ (k : Int) := by omega
          have hk1 := unhide HK
          have hki : (1 : Int) ≤ (k : Int) := by omega
          have hdi : (1 : Int) ≤ (d : Int) := by omega
          have HT1 := hide (unhide HT d hd1 hlt)
          have hLN := unhide HLN (d - 1)
          have hll : ((tableL k s).take (d - 1)).length ≤ 128 := by omega
          have HLL := hide hll
          have hln : ((tableL k s).take d).length ≤ 128 := Nat.le_trans (unhide HLN d) (by omega)
          have HLD := hide hln
          clear HT HLN hLN hll hln
          have hq1 : (1048576 : Int) / (k : Int) = ((1048576 / k : Nat) : Int) := by simp
          have hle1 := Nat.div_le_self 1048576 k
          by_cases hd : d = 1
          · have hx : baseN k d = 1048576 / k := by rw [hd]; exact baseN_one k
            have hg1 : (d : Int) ≤ 1 := by omega
            clear hd
            generalize 1048576 / k = x at *
            by_cases hs0 : s = 0
            · have hy : moreN k s d = 0 := by rw [hs0]; exact moreN_none k d
              have es : decide (0 < (s : Int)) = false := by rw [decide_eq_false_iff_not]; omega
              have es2 : decide (0 < s) = false := by rw [decide_eq_false_iff_not]; omega
              clear hs0
              have hE := share_of hx hy
              clear hx hy
              obtain ⟨q, hq⟩ : ∃ q, shareN k s d = q := ⟨_, rfl⟩
              rw [hq] at hE HT1
              clear hq
              have hmx := max1_run' x
              rw [show max 1 x = q from hE] at hmx
              have HE1 := hide hE
              clear hE
              have HLT := hide hlt
              have HM := hide hmx
              clear HM
              go_wp2_with (at_builtin; refine wpList_pushZ rfl _ _ rfl w.heap.size (.slice a n c) ((tableL k s).take (d - 1)) (q : Int) rfl rfl (unhide HO) (unhide HB).size (Nat.le_trans (unhide HLL) (by decide)) ?_; intro s4 w4 hI4 hb4; rw [unhide HT1] at hI4; obtain ⟨a4, c4, hs4, _⟩ := hI4.ints; rw [hs4] at hI4 ⊢; have HI4 := hide hI4; have HB4 := hide ((unhide HB).trans hb4); clear hI4 hb4 hs4; generalize ((tableL k s).take d).length = n4 at *)
              go_roundw
              case rel => exact ⟨d + 1, by omega, by omega, by go_num, a4, c4, n4, unhide HLD, rfl, HI4, HB4⟩
              case measure => simp [intOf]; omega
            · by_cases hm1 : d < k / s
              · have es : decide (0 < (s : Int)) = true := by rw [decide_eq_true_iff]; omega
                have es2 : decide (0 < s) = true := by rw [decide_eq_true_iff]; omega
                have hsi : (1 : Int) ≤ (s : Int) := by omega
                have hm : (k : Int) / (s : Int) = ((k / s : Nat) : Int) := by simp
                have hml := Nat.div_le_self k s
                have hkd : k * d ≤ 128 * 128 := Nat.mul_le_mul hk2 (by omega)
                have hkd1 : 1 * 1 ≤ k * d := Nat.mul_le_mul hk1 hd1
                have hmi : (k : Int) * (d : Int) = ((k * d : Nat) : Int) := by simp
                have hq3 : (1048576 * s : Int) / ((k * d : Nat) : Int) = ((1048576 * s / (k * d) : Nat) : Int) := by simp
                have hle3 := Nat.div_le_self (1048576 * s) (k * d)
                have hkdi : (1 : Int) ≤ ((k * d : Nat) : Int) := by omega
                have hy := moreN_less hs0 hm1
                have hmlt : (d : Int) < ((k / s : Nat) : Int) := by omega
                have hne : ¬ (d : Int) = ((k / s : Nat) : Int) := by omega
                have hneq : ((d : Int) == ((k / s : Nat) : Int)) = false := by simpa using hne
                have hneq2 : (d == k / s) = false := by simp; omega
                generalize 1048576 * s / (k * d) = y at *
                generalize k * d = p at *
                generalize k / s = m at *
                clear hne
                have hE := share_of hx hy
                clear hx hy
                obtain ⟨q, hq⟩ : ∃ q, shareN k s d = q := ⟨_, rfl⟩
                rw [hq] at hE HT1
                clear hq
                have hmx := max1_run' (x + y)
                rw [hE, Int.natCast_add] at hmx
                have HE1 := hide hE
                clear hE
                have HLT := hide hlt
                have HM := hide hmx
                clear HM
                go_wp2_with (at_builtin; refine wpList_pushZ rfl _ _ rfl w.heap.size (.slice a n c) ((tableL k s).take (d - 1)) (q : Int) rfl rfl (unhide HO) (unhide HB).size (Nat.le_trans (unhide HLL) (by decide)) ?_; intro s4 w4 hI4 hb4; rw [unhide HT1] at hI4; obtain ⟨a4, c4, hs4, _⟩ := hI4.ints; rw [hs4] at hI4 ⊢; have HI4 := hide hI4; have HB4 := hide ((unhide HB).trans hb4); clear hI4 hb4 hs4; generalize ((tableL k s).take d).length = n4 at *)
                go_roundw
                case rel => exact ⟨d + 1, by omega, by omega, by go_num, a4, c4, n4, unhide HLD, rfl, HI4, HB4⟩
                case measure => simp [intOf]; omega
              · by_cases hm1 : d = k / s
                · have es : decide (0 < (s : Int)) = true := by rw [decide_eq_true_iff]; omega
                  have es2 : decide (0 < s) = true := by rw [decide_eq_true_iff]; omega
                  have hsi : (1 : Int) ≤ (s : Int) := by omega
                  have hm : (k : Int) / (s : Int) = ((k / s : Nat) : Int) := by simp
                  have hml := Nat.div_le_self k s
                  have hp2 : 1048576 * s * b ≤ 1048576 * 128 * 8 := Nat.mul_le_mul (Nat.mul_le_mul_left _ hs1) hb8
                  have hmi : (1048576 * (s : Int)) * (b : Int) = ((1048576 * s * b : Nat) : Int) := by simp
                  have hq3 : ((1048576 * s * b : Nat) : Int) / (k : Int) = ((1048576 * s * b / k : Nat) : Int) := by simp
                  have hle3 := Nat.div_le_self (1048576 * s * b) k
                  have hy : moreN k s d = 1048576 * s * b / k := by rw [moreN_same hs0 hm1, unhide HZ]
                  have hmlt : ((k / s : Nat) : Int) ≤ (d : Int) := by omega
                  have hmeq : (d : Int) = ((k / s : Nat) : Int) := by omega
                  have heq : ((d : Int) == ((k / s : Nat) : Int)) = true := by simpa using hmeq
                  have heq2 : (d == k / s) = true := by simpa using hm1
                  have hdl : decide ((d : Int) < ((k / s : Nat) : Int)) = false := by rw [decide_eq_false_iff_not]; omega
                  have hdl2 : decide (d < k / s) = false := by rw [decide_eq_false_iff_not]; omega
                  generalize 1048576 * s * b / k = y at *
                  generalize 1048576 * s * b = p at *
                  generalize k / s = m at *
                  have HM1 := hide hm1
                  clear hmeq hm1
                  have hE := share_of hx hy
                  clear hx hy
                  obtain ⟨q, hq⟩ : ∃ q, shareN k s d = q := ⟨_, rfl⟩
                  rw [hq] at hE HT1
                  clear hq
                  have hmx := max1_run' (x + y)
                  rw [hE, Int.natCast_add] at hmx
                  have HE1 := hide hE
                  clear hE
                  have HLT := hide hlt
                  have HM := hide hmx
                  clear HM
                  go_wp2_with (at_builtin; refine wpList_pushZ rfl _ _ rfl w.heap.size (.slice a n c) ((tableL k s).take (d - 1)) (q : Int) rfl rfl (unhide HO) (unhide HB).size (Nat.le_trans (unhide HLL) (by decide)) ?_; intro s4 w4 hI4 hb4; rw [unhide HT1] at hI4; obtain ⟨a4, c4, hs4, _⟩ := hI4.ints; rw [hs4] at hI4 ⊢; have HI4 := hide hI4; have HB4 := hide ((unhide HB).trans hb4); clear hI4 hb4 hs4; generalize ((tableL k s).take d).length = n4 at *)
                  go_roundw
                  case rel => exact ⟨d + 1, by omega, by omega, by go_num, a4, c4, n4, unhide HLD, rfl, HI4, HB4⟩
                  case measure => simp [intOf]; omega
                · have hm1 : k / s < d := by omega
                  have es : decide (0 < (s : Int)) = true := by rw [decide_eq_true_iff]; omega
                  have es2 : decide (0 < s) = true := by rw [decide_eq_true_iff]; omega
                  have hsi : (1 : Int) ≤ (s : Int) := by omega
                  have hm : (k : Int) / (s : Int) = ((k / s : Nat) : Int) := by simp
                  have hml := Nat.div_le_self k s
                  have hy := moreN_over hs0 hm1
                  have hmlt : ((k / s : Nat) : Int) < (d : Int) := by omega
                  have hneq : ((d : Int) == ((k / s : Nat) : Int)) = false := by simp; omega
                  have hneq2 : (d == k / s) = false := by simp; omega
                  generalize k / s = m at *
                  have hE := share_of hx hy
                  clear hx hy
                  obtain ⟨q, hq⟩ : ∃ q, shareN k s d = q := ⟨_, rfl⟩
                  rw [hq] at hE HT1
                  clear hq
                  have hmx := max1_run' x
                  rw [show max 1 x = q from hE] at hmx
                  have HE1 := hide hE
                  clear hE
                  have HLT := hide hlt
                  have HM := hide hmx
                  clear HM
                  go_wp2_with (at_builtin; refine wpList_pushZ rfl _ _ rfl w.heap.size (.slice a n c) ((tableL k s).take (d - 1)) (q : Int) rfl rfl (unhide HO) (unhide HB).size (Nat.le_trans (unhide HLL) (by decide)) ?_; intro s4 w4 hI4 hb4; rw [unhide HT1] at hI4; obtain ⟨a4, c4, hs4, _⟩ := hI4.ints; rw [hs4] at hI4 ⊢; have HI4 := hide hI4; have HB4 := hide ((unhide HB).trans hb4); clear hI4 hb4 hs4; generalize ((tableL k s).take d).length = n4 at *)
                  go_roundw
                  case rel => exact ⟨d + 1, by omega, by omega, by go_num, a4, c4, n4, unhide HLD, rfl, HI4, HB4⟩
                  case measure => simp [intOf]; omega
          · have hx : baseN k d = 1048576 / (d * (d - 1)) := baseN_more hd
            have hg1 : (1 : Int) < (d : Int) := by omega
            have hpi : (d : Int) * ((d : Int) - 1) = ((d * (d - 1) : Nat) : Int) := by rw [Int.natCast_mul, Int.natCast_sub hd1]; rfl
            have hq2 : (1048576 : Int) / ((d * (d - 1) : Nat) : Int) = ((1048576 / (d * (d - 1)) : Nat) : Int) := by simp
            have hle2 := Nat.div_le_self 1048576 (d * (d - 1))
            have hpb : d * (d - 1) ≤ 128 * 128 := Nat.mul_le_mul (by omega) (by omega)
            have hpc : 1 * 1 ≤ d * (d - 1) := Nat.mul_le_mul (by omega) (by omega)
            clear hd
            generalize 1048576 / (d * (d - 1)) = x at *
            generalize d * (d - 1) = pd at *
            have hpdi : (1 : Int) ≤ (pd : Int) := by omega
            generalize 1048576 / k = x1 at *
            by_cases hs0 : s = 0
            · have hy : moreN k s d = 0 := by rw [hs0]; exact moreN_none k d
              have es : decide (0 < (s : Int)) = false := by rw [decide_eq_false_iff_not]; omega
              have es2 : decide (0 < s) = false := by rw [decide_eq_false_iff_not]; omega
              clear hs0
              have hE := share_of hx hy
              clear hx hy
              obtain ⟨q, hq⟩ : ∃ q, shareN k s d = q := ⟨_, rfl⟩
              rw [hq] at hE HT1
              clear hq
              have hmx := max1_run' x
              rw [show max 1 x = q from hE] at hmx
              have HE1 := hide hE
              clear hE
              have HLT := hide hlt
              have HM := hide hmx
              clear HM
              go_wp2_with (at_builtin; refine wpList_pushZ rfl _ _ rfl w.heap.size (.slice a n c) ((tableL k s).take (d - 1)) (q : Int) rfl rfl (unhide HO) (unhide HB).size (Nat.le_trans (unhide HLL) (by decide)) ?_; intro s4 w4 hI4 hb4; rw [unhide HT1] at hI4; obtain ⟨a4, c4, hs4, _⟩ := hI4.ints; rw [hs4] at hI4 ⊢; have HI4 := hide hI4; have HB4 := hide ((unhide HB).trans hb4); clear hI4 hb4 hs4; generalize ((tableL k s).take d).length = n4 at *)
              go_roundw
              case rel => exact ⟨d + 1, by omega, by omega, by go_num, a4, c4, n4, unhide HLD, rfl, HI4, HB4⟩
              case measure => simp [intOf]; omega
            · by_cases hm1 : d < k / s
              · have es : decide (0 < (s : Int)) = true := by rw [decide_eq_true_iff]; omega
                have es2 : decide (0 < s) = true := by rw [decide_eq_true_iff]; omega
                have hsi : (1 : Int) ≤ (s : Int) := by omega
                have hm : (k : Int) / (s : Int) = ((k / s : Nat) : Int) := by simp
                have hml := Nat.div_le_self k s
                have hkd : k * d ≤ 128 * 128 := Nat.mul_le_mul hk2 (by omega)
                have hkd1 : 1 * 1 ≤ k * d := Nat.mul_le_mul hk1 hd1
                have hmi : (k : Int) * (d : Int) = ((k * d : Nat) : Int) := by simp
                have hq3 : (1048576 * s : Int) / ((k * d : Nat) : Int) = ((1048576 * s / (k * d) : Nat) : Int) := by simp
                have hle3 := Nat.div_le_self (1048576 * s) (k * d)
                have hkdi : (1 : Int) ≤ ((k * d : Nat) : Int) := by omega
                have hy := moreN_less hs0 hm1
                have hmlt : (d : Int) < ((k / s : Nat) : Int) := by omega
                have hne : ¬ (d : Int) = ((k / s : Nat) : Int) := by omega
                have hneq : ((d : Int) == ((k / s : Nat) : Int)) = false := by simpa using hne
                have hneq2 : (d == k / s) = false := by simp; omega
                generalize 1048576 * s / (k * d) = y at *
                generalize k * d = p at *
                generalize k / s = m at *
                clear hne
                have hE := share_of hx hy
                clear hx hy
                obtain ⟨q, hq⟩ : ∃ q, shareN k s d = q := ⟨_, rfl⟩
                rw [hq] at hE HT1
                clear hq
                have hmx := max1_run' (x + y)
                rw [hE, Int.natCast_add] at hmx
                have HE1 := hide hE
                clear hE
                have HLT := hide hlt
                have HM := hide hmx
                clear HM
                go_wp2_with (at_builtin; refine wpList_pushZ rfl _ _ rfl w.heap.size (.slice a n c) ((tableL k s).take (d - 1)) (q : Int) rfl rfl (unhide HO) (unhide HB).size (Nat.le_trans (unhide HLL) (by decide)) ?_; intro s4 w4 hI4 hb4; rw [unhide HT1] at hI4; obtain ⟨a4, c4, hs4, _⟩ := hI4.ints; rw [hs4] at hI4 ⊢; have HI4 := hide hI4; have HB4 := hide ((unhide HB).trans hb4); clear hI4 hb4 hs4; generalize ((tableL k s).take d).length = n4 at *)
                go_roundw
                case rel => exact ⟨d + 1, by omega, by omega, by go_num, a4, c4, n4, unhide HLD, rfl, HI4, HB4⟩
                case measure => simp [intOf]; omega
              · by_cases hm1 : d = k / s
                · have es : decide (0 < (s : Int)) = true := by rw [decide_eq_true_iff]; omega
                  have es2 : decide (0 < s) = true := by rw [decide_eq_true_iff]; omega
                  have hsi : (1 : Int) ≤ (s : Int) := by omega
                  have hm : (k : Int) / (s : Int) = ((k / s : Nat) : Int) := by simp
                  have hml := Nat.div_le_self k s
                  have hp2 : 1048576 * s * b ≤ 1048576 * 128 * 8 := Nat.mul_le_mul (Nat.mul_le_mul_left _ hs1) hb8
                  have hmi : (1048576 * (s : Int)) * (b : Int) = ((1048576 * s * b : Nat) : Int) := by simp
                  have hq3 : ((1048576 * s * b : Nat) : Int) / (k : Int) = ((1048576 * s * b / k : Nat) : Int) := by simp
                  have hle3 := Nat.div_le_self (1048576 * s * b) k
                  have hy : moreN k s d = 1048576 * s * b / k := by rw [moreN_same hs0 hm1, unhide HZ]
                  have hmlt : ((k / s : Nat) : Int) ≤ (d : Int) := by omega
                  have hmeq : (d : Int) = ((k / s : Nat) : Int) := by omega
                  have heq : ((d : Int) == ((k / s : Nat) : Int)) = true := by simpa using hmeq
                  have heq2 : (d == k / s) = true := by simpa using hm1
                  have hdl : decide ((d : Int) < ((k / s : Nat) : Int)) = false := by rw [decide_eq_false_iff_not]; omega
                  have hdl2 : decide (d < k / s) = false := by rw [decide_eq_false_iff_not]; omega
                  generalize 1048576 * s * b / k = y at *
                  generalize 1048576 * s * b = p at *
                  generalize k / s = m at *
                  have HM1 := hide hm1
                  clear hmeq hm1
                  have hE := share_of hx hy
                  clear hx hy
                  obtain ⟨q, hq⟩ : ∃ q, shareN k s d = q := ⟨_, rfl⟩
                  rw [hq] at hE HT1
                  clear hq
                  have hmx := max1_run' (x + y)
                  rw [hE, Int.natCast_add] at hmx
                  have HE1 := hide hE
                  clear hE
                  have HLT := hide hlt
                  have HM := hide hmx
                  clear HM
                  go_wp2_with (at_builtin; refine wpList_pushZ rfl _ _ rfl w.heap.size (.slice a n c) ((tableL k s).take (d - 1)) (q : Int) rfl rfl (unhide HO) (unhide HB).size (Nat.le_trans (unhide HLL) (by decide)) ?_; intro s4 w4 hI4 hb4; rw [unhide HT1] at hI4; obtain ⟨a4, c4, hs4, _⟩ := hI4.ints; rw [hs4] at hI4 ⊢; have HI4 := hide hI4; have HB4 := hide ((unhide HB).trans hb4); clear hI4 hb4 hs4; generalize ((tableL k s).take d).length = n4 at *)
                  go_roundw
                  case rel => exact ⟨d + 1, by omega, by omega, by go_num, a4, c4, n4, unhide HLD, rfl, HI4, HB4⟩
                  case measure => simp [intOf]; omega
                · have hm1 : k / s < d := by omega
                  have es : decide (0 < (s : Int)) = true := by rw [decide_eq_true_iff]; omega
                  have es2 : decide (0 < s) = true := by rw [decide_eq_true_iff]; omega
                  have hsi : (1 : Int) ≤ (s : Int) := by omega
                  have hm : (k : Int) / (s : Int) = ((k / s : Nat) : Int) := by simp
                  have hml := Nat.div_le_self k s
                  have hy := moreN_over hs0 hm1
                  have hmlt : ((k / s : Nat) : Int) < (d : Int) := by omega
                  have hneq : ((d : Int) == ((k / s : Nat) : Int)) = false := by simp; omega
                  have hneq2 : (d == k / s) = false := by simp; omega
                  generalize k / s = m at *
                  have hE := share_of hx hy
                  clear hx hy
                  obtain ⟨q, hq⟩ : ∃ q, shareN k s d = q := ⟨_, rfl⟩
                  rw [hq] at hE HT1
                  clear hq
                  have hmx := max1_run' x
                  rw [show max 1 x = q from hE] at hmx
                  have HE1 := hide hE
                  clear hE
                  have HLT := hide hlt
                  have HM := hide hmx
                  clear HM
                  go_wp2_with (at_builtin; refine wpList_pushZ rfl _ _ rfl w.heap.size (.slice a n c) ((tableL k s).take (d - 1)) (q : Int) rfl rfl (unhide HO) (unhide HB).size (Nat.le_trans (unhide HLL) (by decide)) ?_; intro s4 w4 hI4 hb4; rw [unhide HT1] at hI4; obtain ⟨a4, c4, hs4, _⟩ := hI4.ints; rw [hs4] at hI4 ⊢; have HI4 := hide hI4; have HB4 := hide ((unhide HB).trans hb4); clear hI4 hb4 hs4; generalize ((tableL k s).take d).length = n4 at *)
                  go_roundw
                  case rel => exact ⟨d + 1, by omega, by omega, by go_num, a4, c4, n4, unhide HLD, rfl, HI4, HB4⟩
                  case measure => simp [intOf]; omega
        · obtain rfl : d = k + 1 := by omega
          rw [Nat.add_sub_cancel, unhide HE] at HO
          clear HT HLN
          go_wp2
          go_ret
          exact ⟨_, rfl, unhide HO, unhide HB⟩
end Go.Proofs.YtigmckjjoabfeaaDoor
