/-
  The table of soliton ('PTab'). Contracts of math/bits.Len64 and Len (below 256), soliton.base, more, Table, bucketlineref10.Table: in every world that holds the table.
  What a bare row's frame shares: what came in, cell by cell. No condition.
-/
import Derived.Test.YtakoaadimhpclaaGreatDoorU4
import Derived.Lib.BitFns
import Derived.ProofKit
import Derived.OpenShut
import Derived.ShutString
import Derived.ChangeOld
import Derived.ChangeMaps5
import Derived.SliceStrings
import Derived.Deep.SlicePairs
import Derived.Deep.DeepHandedRow
import Derived.Lib.LaidTab
import Derived.Below
import Derived.Sort.Defs
import Derived.Test.YtakoaadimhpclaaGreatDoorU1
namespace Go.Proofs.YtakoaadimhpclaaGreatDoor
open Go.RowKit
set_option linter.unusedVariables false
set_option linter.unusedSimpArgs false
set_option maxRecDepth 4000

/-- The table of soliton lies where its initialiser laid it. -/
def PTab (w : World) : Prop := ∀ i, i < 127 → w.cell? ⟨0, i, none⟩ = some (.int .u32 ((1048576 / ((i + 2) * (i + 1)) : Nat) : Int))
theorem PTab.below {w w' : World} (h : PTab w) (hb : Below w.heap.size w w') : PTab w' := fun i hi => (hb.cell (World.block_lt_of_cell? w _ (h i hi))).trans (h i hi)

theorem blen_same (x : Nat) (hx : x < 256) : Lib.bitLen x = bitLen x := by
  have h : ∀ j : Fin 256, Lib.bitLen j.val = bitLen j.val := by decide +kernel
  exact h ⟨x, hx⟩
theorem len8_nat (x : Nat) (hx : x < 256) : Lib.len8 (x : Int) = ((bitLen x : Nat) : Int) := by
  rw [Lib.len8_of (x : Int) (by omega) (by omega), Int.toNat_natCast, blen_same x hx]

set_option maxHeartbeats 1000000 in
set_option maxRecDepth 100000 in
theorem zlen64_any (x : Nat) (hx : x < 256) (w : World) :
    Calls Tryz.prog 78 #[.int .u64 (x : Int)] w fun e w' => e = .returned (.int .i64 ((bitLen x : Nat) : Int)) ∧ w' = w := by
  have H := len8_nat x hx
  have hI := fun W => Lib.run_index_len8tab (P := Tryz.prog) W 9 .u8 (x : Int) Tryz.underlying9 (by omega) (by omega)
  rw [H] at hI
  clear H
  have hb : ((bitLen x : Nat) : Int) ≤ 8 := by have := bitLen_le8 x hx; omega
  have hx' : (x : Int) ≤ 255 := by omega
  generalize bitLen x = z at *
  clear hx
  go_enter Tryz.func78, Tryz.ntmps78
  generalize hT : ByteArray.mk (List.toArray _) = T at *
  have hT' : T = Lib.len8tab := hT.symm.trans (by kernel_rfl)
  clear hT
  rw [← hT'] at hI
  clear hT'
  generalize hQ : bodyPost _ _ _ = Q at *
  have HQ := hide hQ
  clear hQ
  iterate 20 go_step
  refine wp_cond_split rfl (fun h => ?_) (fun h => ?_)
  · exact absurd (of_decide_eq_true h) (by omega)
  clear h
  iterate 15 go_step
  refine wp_cond_split rfl (fun h => ?_) (fun h => ?_)
  · exact absurd (of_decide_eq_true h) (by omega)
  clear h
  iterate 15 go_step
  refine wp_cond_split rfl (fun h => ?_) (fun h => ?_)
  · exact absurd (of_decide_eq_true h) (by omega)
  clear h
  go_wp2
  rw [← unhide HQ]
  go_ret
  exact ⟨rfl, rfl⟩

set_option maxHeartbeats 400000 in
theorem zlen_any (x : Nat) (hx : x < 256) (w : World) :
    Calls Tryz.prog 64 #[.int .u64 (x : Int)] w fun e w' => e = .returned (.int .i64 ((bitLen x : Nat) : Int)) ∧ w' = w := by
  have H := hide (zlen64_any x hx w)
  generalize bitLen x = z at *
  go_enter Tryz.func64, Tryz.ntmps64
  go_wp2_with (go_at_call 78; refine (unhide H).mono ?_; rintro e w1 ⟨rfl, hw⟩; obtain rfl := hw.symm)
  go_ret
  exact ⟨rfl, rfl⟩

set_option maxHeartbeats 400000 in
theorem base_any (k d : Nat) (hk : 1 ≤ k) (hk2 : k ≤ 128) (hd : 1 ≤ d) (hd2 : d ≤ 128) (w : World) (ht : PTab w) :
    Calls Tryz.prog 41 #[.int .i64 (k : Int), .int .i64 (d : Int)] w fun e w' => e = .returned (.int .i64 ((baseN k d : Nat) : Int)) ∧ w' = w := by
  by_cases h1 : d = 1
  · subst h1
    have hq : (1048576 : Int) / (k : Int) = ((1048576 / k : Nat) : Int) := by simp
    have hle := Nat.div_le_self 1048576 k
    rw [baseN_one]
    have hkp : (1 : Int) ≤ (k : Int) := by omega
    generalize 1048576 / k = q at *
    clear ht
    go_enter Tryz.func41, Tryz.ntmps41
    go_wp2
    go_ret
    exact ⟨ret_int (by first | rfl | rw [hq]), rfl⟩
  · rw [baseN_more h1]
    obtain ⟨i, rfl⟩ : ∃ i, d = i + 2 := ⟨d - 2, by omega⟩
    have hcell := ht i (by omega)
    rw [show (i + 2) * (i + 2 - 1) = (i + 2) * (i + 1) from rfl]
    have hle := Nat.div_le_self 1048576 ((i + 2) * (i + 1))
    have hii : ((i + 2 : Nat) : Int) - 2 = (i : Int) := by omega
    generalize 1048576 / ((i + 2) * (i + 1)) = q at *
    clear ht
    go_enter Tryz.func41, Tryz.ntmps41
    go_wp2
    go_ret
    exact ⟨rfl, rfl⟩

set_option maxHeartbeats 400000 in
theorem more_any (k s d : Nat) (hk : 1 ≤ k) (hk2 : k ≤ 128) (hd : 1 ≤ d) (hd2 : d ≤ 128) (hs : s ≤ 128) (w : World) :
    Calls Tryz.prog 42 #[.int .i64 (k : Int), .int .i64 (s : Int), .int .i64 (d : Int)] w fun e w' => e = .returned (.int .i64 ((moreN k s d : Nat) : Int)) ∧ w' = w := by
  by_cases h0 : s = 0
  · subst h0
    rw [moreN_none]
    go_enter Tryz.func42, Tryz.ntmps42
    go_wp2
    go_ret
    exact ⟨rfl, rfl⟩
  · have hs0 : (1 : Int) ≤ (s : Int) := by omega
    have hkp : (1 : Int) ≤ (k : Int) := by omega
    have hdp : (1 : Int) ≤ (d : Int) := by omega
    have hm : (k : Int) / (s : Int) = ((k / s : Nat) : Int) := by simp
    have hml := Nat.div_le_self k s
    by_cases h1 : d < k / s
    · rw [moreN_less h0 h1]
      have hkd : k * d ≤ 128 * 128 := Nat.mul_le_mul hk2 hd2
      have hkd1 : 1 * 1 ≤ k * d := Nat.mul_le_mul hk hd
      have hmi : (k : Int) * (d : Int) = ((k * d : Nat) : Int) := by simp
      have hq : (1048576 * s : Int) / ((k * d : Nat) : Int) = ((1048576 * s / (k * d) : Nat) : Int) := by simp
      have hle := Nat.div_le_self (1048576 * s) (k * d)
      have hki : (1 : Int) ≤ ((k * d : Nat) : Int) := by omega
      generalize 1048576 * s / (k * d) = q at *
      generalize k * d = m at *
      generalize k / s = m' at *
      go_enter Tryz.func42, Tryz.ntmps42
      go_wp2
      go_ret
      exact ⟨ret_int (by first | rfl | rw [hq]), rfl⟩
    · by_cases h2 : d = k / s
      · rw [moreN_same h0 h2]
        have HL := hide (zlen_any s (by omega) w)
        have hb8 := bitLen_le8 s (by omega)
        have hp2 : 1048576 * s * bitLen s ≤ 1048576 * 128 * 8 := Nat.mul_le_mul (Nat.mul_le_mul_left _ hs) hb8
        have hmi : (1048576 * (s : Int)) * ((bitLen s : Nat) : Int) = ((1048576 * s * bitLen s : Nat) : Int) := by simp
        have hq : ((1048576 * s * bitLen s : Nat) : Int) / (k : Int) = ((1048576 * s * bitLen s / k : Nat) : Int) := by simp
        have hle := Nat.div_le_self (1048576 * s * bitLen s) k
        have hdm : (d : Int) = ((k / s : Nat) : Int) := by omega
        generalize 1048576 * s * bitLen s / k = q at *
        generalize 1048576 * s * bitLen s = p at *
        generalize bitLen s = z at *
        generalize k / s = m' at *
        subst h2
        clear h1 hdm
        go_enter Tryz.func42, Tryz.ntmps42
        go_wp2_with (go_at_call 64; refine (unhide HL).mono ?_; rintro e w1 ⟨rfl, hw⟩; obtain rfl := hw.symm)
        go_ret
        exact ⟨ret_int (by first | rfl | rw [hq]), rfl⟩
      · rw [moreN_over h0 (by omega)]
        generalize k / s = m' at *
        have h3 : m' < d := by omega
        clear h1 h2
        go_enter Tryz.func42, Tryz.ntmps42
        go_wp2
        go_ret
        exact ⟨rfl, rfl⟩

/-- What a slice of shares that Table answers is. -/
theorem share_max (k s d : Nat) : max 1 (baseN k d + moreN k s d) = shareN k s d := rfl
set_option maxHeartbeats 1000000 in
theorem table_any (k s : Nat) (hk : 1 ≤ k) (hk2 : k ≤ 128) (hs : s ≤ k) (w : World) (ht : PTab w) :
    Calls Tryz.prog 19 #[.int .i64 (k : Int), .int .i64 (s : Int)] w fun e w' => ∃ v, e = .returned v ∧ OwnZ w' w.heap.size v (tableL k s) ∧ Below w.heap.size w w' := by
  have hmk := make_intz k (by omega)
  have HM := hide (made_intz w k (by omega) (filledZ (tableL k s) 0) (by rw [filledZ_zero, tableL_len]))
  have HBM : Hid (Below w.heap.size w (w.alloc (.cells (madeCells #[.int .i64 0] k) 3))) := hide ((Below.refl _ _).alloc (Nat.le_refl _) _)
  have e1 : decide ((k : Int) < 1) = false := by rw [decide_eq_false_iff_not]; omega
  have e2 : decide (128 < (k : Int)) = false := by rw [decide_eq_false_iff_not]; omega
  have e3 : decide ((s : Int) < 0) = false := by rw [decide_eq_false_iff_not]; omega
  have e4 : decide (k < s) = false := by rw [decide_eq_false_iff_not]; omega
  have hs1 : s ≤ 128 := by omega
  have HK := hide hk
  clear hk hs
  go_enter Tryz.func19, Tryz.ntmps19
  go_wp2
  go_loopw [27] (fun i wr => ∃ j : Nat, j ≤ k ∧ i = .int .i64 j ∧ Hid (OwnZ wr w.heap.size (.slice (some ⟨w.heap.size, 0, none⟩) k k) (filledZ (tableL k s) j)) ∧ Hid (Below w.heap.size w wr)) (fun i _ => k - (intOf i).toNat)
  case atStart => exact ⟨0, Nat.zero_le _, rfl, HM, HBM⟩
  case round =>
    obtain ⟨j, hj, rfl, HI, HB⟩ := hrel
    have hB := unhide HB
    by_cases hlt : j < k
    · have hI := unhide HI
      have hfl : (filledZ (tableL k s) j).length = k := by rw [filledZ_length _ _ (by rw [tableL_len]; exact hj), tableL_len]
      obtain ⟨g, cap, e1, _, _, hcg, hfg⟩ := hI.at (by omega)
      simp only [Value.slice.injEq, Option.some.injEq, Addr.mk.injEq, and_true] at e1
      obtain ⟨rfl, -, -⟩ := e1
      have hcell2 := hcg j (by omega)
      have hfz := hfg j
      have hjj : ((j + 1 : Nat) : Int) = (j : Int) + 1 := by omega
      have hA := base_any k (j + 1) (unhide HK) hk2 (by omega) (by omega) wr (ht.below hB)
      have hC := more_any k s (j + 1) (unhide HK) hk2 (by omega) (by omega) (by omega) wr
      rw [hjj] at hA hC
      have HA := hide hA
      have HC := hide hC
      have hb1 := baseN_le k (j + 1)
      have hb2 := moreN_le k s (j + 1) (by omega)
      have hmx := max1_run (baseN k (j + 1) + moreN k s (j + 1))
      have hs2 := hI.stored j ((shareN k s (j + 1) : Nat) : Int)
      rw [← tableL_get k s j hlt, filledZ_succ _ _ (by rw [tableL_len]; exact hlt), tableL_get k s j hlt] at hs2
      have HS := hide hs2
      have HB2 := hide (hB.setCell (p := ⟨w.heap.size, j, none⟩) (by exact Nat.le_refl _) (.int .i64 ((shareN k s (j + 1) : Nat) : Int)))
      rw [share_max] at hmx
      clear hA hC hjj
      clear hI hfl hcg hfg hs2 hB HB HI HM HBM ht
      generalize shareN k s (j + 1) = q at *
      generalize baseN k (j + 1) = x at *
      generalize moreN k s (j + 1) = y at *
      have hxy : ((x + y : Nat) : Int) = (x : Int) + (y : Int) := by omega
      rw [hxy] at hmx
      clear hxy
      go_wp2_with (first | (go_at_call 41; refine (unhide HA).mono ?_; rintro e w1 ⟨rfl, hw⟩; obtain rfl := hw.symm) | (go_at_call 42; refine (unhide HC).mono ?_; rintro e w1 ⟨rfl, hw⟩; obtain rfl := hw.symm))
      go_roundw
      case rel => exact ⟨j + 1, by omega, by go_num, HS, HB2⟩
      case measure => simp [intOf]; omega
    · obtain rfl : j = k := by omega
      rw [show filledZ (tableL j s) j = tableL j s by
        have := filledZ_all (tableL j s)
        rwa [tableL_len] at this] at HI
      clear HM HBM
      go_wp2
      go_ret
      exact ⟨_, rfl, unhide HI, unhide HB⟩
end Go.Proofs.YtakoaadimhpclaaGreatDoor
namespace Go.Proofs.YtakoaadimhpclaaGreatDoor
open Go.ChangeShapes Go.WideShapes Go.ChangeAt Go.RowKit
set_option linter.unusedVariables false
set_option linter.unusedSimpArgs false
set_option maxRecDepth 4000

theorem own : ownKnob Tryz.prog.godebug = none := by kernel_rfl
theorem max_len {n : Nat} (h : n ≤ maxLen) : n ≤ 9223372036854775807 := by simpa [maxLen] using h

end Go.Proofs.YtakoaadimhpclaaGreatDoor
