/-
  Contracts of bucketlineref01.Count, Xor, First, Same, Words: for every row of at most 2^20 words.
  Contracts of bucketlineref01.First, Same, Words, Size, Set and of words.Size, Set: for every row of at most 2^20 words, every int.
  Texts as lists of bytes; slices of bytes of the call's own ('OwnB'); '[]byte(s)', 'string(b)' and 'copy(b, s)' on them. No condition.
-/
import Derived.Test.YtnjdldbdkafnaaaGreatDoorU1
import Derived.RegionTactic
import Derived.Deep.RegionWith
import Derived.Test.YtnjdldbdkafnaaaGreatDoorU0
import Derived.Laws.IdiomStrings
import Derived.Laws.CopyRow
import Derived.Laws.MakeOwn
namespace Go.Proofs.YtnjdldbdkafnaaaGreatDoor
open Go.RowKit
set_option linter.unusedVariables false
set_option linter.unusedSimpArgs false
set_option maxRecDepth 4000

theorem rcnt_num (x : Nat) (hx : x < 18446744073709551616) : bits .and .u64 (x : Int) 1 = ((x % 2 : Nat) : Int) := by
  have h := u64_and_nat x 1 hx (by omega)
  rwa [nat_mask1] at h

set_option maxHeartbeats 1000000 in
theorem rcount_any (a : Option Addr) (n c : Nat) (xs : List Nat) (w : World) (h : RowAt w a n xs) (hn : n ≤ 1048576) :
    Calls Tryz.prog 38 #[.slice a n c] w fun e w' => e = .returned (.int .i64 ((cnt xs : Nat) : Int)) ∧ w' = w := by
  go_enter Tryz.func38, Tryz.ntmps38
  go_wp2
  go_loop [3, 4] (fun t i => ∃ k : Nat, k ≤ n ∧ i = .int .i64 k ∧ t = .int .i64 ((cnt (xs.take k) : Nat) : Int)) (fun _ i => n - (intOf i).toNat)
  case atStart => exact ⟨0, Nat.zero_le _, rfl, rfl⟩
  case round =>
    obtain ⟨k, hk, rfl, rfl⟩ := hrel
    by_cases hlt : k < n
    · obtain ⟨b, off, rfl, hc⟩ := h.at hlt
      have hcell := hc k hlt
      have hx := h.2.1.get k
      have hs := cnt_take xs k (by rw [h.1]; exact hlt)
      have hb := cnt_le (xs.take k)
      have hlen : (xs.take k).length ≤ k := List.length_take_le _ _
      have hp := pop_le (xs.getD k 0)
      have HS := hide hs
      generalize xs.getD k 0 = x at *
      generalize cnt (xs.take k) = s at *
      clear hs hc h
      go_wp2
      go_loop [3, 5] (fun t y => ∃ z q : Nat, z < 18446744073709551616 ∧ y = .int .u64 (z : Int) ∧ t = .int .i64 (q : Int) ∧ q + pop z = s + pop x) (fun _ y => (intOf y).toNat)
      case atStart => exact ⟨x, s, hx, rfl, rfl, rfl⟩
      case round =>
        obtain ⟨z, q, hz, rfl, rfl, hq⟩ := hrel
        have HQ := hide hq
        have hqb : q ≤ 200000000 := by omega
        clear hq
        by_cases hz0 : 0 < z
        · have hb1 := rcnt_num z hz
          have HP := hide (pop_step z hz)
          go_wp2
          go_round
          case rel => exact ⟨z / 2, q + z % 2, by omega, by go_num, by go_num, by have := unhide HP; have := unhide HQ; omega⟩
          case measure => simp [intOf]; omega
        · have hz1 : z = 0 := by omega
          subst hz1
          have hfin : cnt (xs.take (k + 1)) = q := by
            have h1 := unhide HS
            have h2 := unhide HQ
            rw [pop_zero] at h2
            omega
          have HF := hide hfin
          clear hfin
          go_wp2
          go_round
          case rel => exact ⟨k + 1, by omega, by go_num, by rw [unhide HF]⟩
          case measure => simp [intOf]; omega
    · go_wp2
      go_ret
      exact ⟨ret_int (by rw [List.take_of_length_le (by rw [h.1]; omega)]), rfl⟩

theorem rxor_round {w wr : World} {B g cap : Nat} {xs ys : List Nat} {k : Nat} (hx : smalls xs) (hy : smalls ys) (hk : k < xs.length) (hB : B ≤ g)
    (ho : Own wr B (.slice (some ⟨g, 0, none⟩) xs.length cap) (xorTo xs ys k)) (hb : Below B w wr) :
    Own (wr.setCell ⟨g, k, none⟩ (.int .u64 ((xs.getD k 0 ^^^ ys.getD k 0 : Nat) : Int))).drew B (.slice (some ⟨g, 0, none⟩) xs.length cap) (xorTo xs ys (k + 1)) ∧
    Below B w (wr.setCell ⟨g, k, none⟩ (.int .u64 ((xs.getD k 0 ^^^ ys.getD k 0 : Nat) : Int))).drew := by
  obtain ⟨h1, h2⟩ := xor_round hx hy hk hB ho hb
  exact ⟨⟨h1.1, h1.2.drew⟩, h2.drew⟩

set_option maxHeartbeats 1000000 in
theorem rxor_any (a : Option Addr) (n c : Nat) (xs : List Nat) (a' : Option Addr) (m c' : Nat) (ys : List Nat) (w : World) (h : RowAt w a n xs) (h' : RowAt w a' m ys) (hn : n ≤ 1048576) (hm : m ≤ 1048576) :
    Calls Tryz.prog 92 #[.slice a n c, .slice a' m c'] w fun e w' => ∃ v, e = .returned v ∧ Own w' w.heap.size v (xorL xs ys) ∧ Below w.heap.size w w' := by
  obtain rfl : n = xs.length := h.1.symm
  obtain rfl : m = ys.length := h'.1.symm
  by_cases hsw : xs.length < ys.length
  · have hge : ((xs.length : Int) < (ys.length : Int)) := by omega
    go_enter Tryz.func92, Tryz.ntmps92
    go_wp2_with (first | (at_builtin; refine wpList_append_nil rfl _ _ rfl a' ys.length c' ys rfl rfl h' (by omega) ?_; intro v w1 ho hb))
    go_loopw [6] (fun i wr => ∃ k : Nat, k ≤ xs.length ∧ i = .int .i64 k ∧ Hid (Own wr w.heap.size v (xorTo ys xs k)) ∧ Hid (Below w.heap.size w wr)) (fun i _ => xs.length - (intOf i).toNat)
    case atStart => exact ⟨0, Nat.zero_le _, rfl, hide (by rw [xorTo_zero]; exact ho), hide hb⟩
    case round =>
      obtain ⟨k, hk, rfl, HO, HB⟩ := hrel
      clear ho hb
      by_cases hlt : k < xs.length
      · obtain ⟨b', off', rfl, hc'⟩ := (h.below (unhide HB)).at hlt
        have hkn : k < ys.length := by omega
        have hkn' : (k : Int) < (ys.length : Int) := by omega
        have hlt' : (k : Int) < (xs.length : Int) := by omega
        obtain ⟨g, cap, rfl, hBg, hgs, hcg, hfg⟩ := (unhide HO).at (by rw [xorTo_length]; omega)
        have hcell' := hc' k hlt
        have hcell := hcg k (by rw [xorTo_length]; omega)
        have hfz := hfg k
        rw [xorTo_getD ys xs k k (by omega), if_neg (by omega)] at hcell
        have hxo := u64_xor_nat (ys.getD k 0) (xs.getD k 0) (h'.2.1.get k) (h.2.1.get k)
        rw [xorTo_length] at HO
        have R := hide (rxor_round h'.2.1 h.2.1 (by omega) hBg (unhide HO) (unhide HB))
        rw [xorTo_length]
        generalize ys.getD k 0 = x at *
        generalize xs.getD k 0 = y at *
        clear hc' hcg hfg h h' HO
        go_wp2
        go_region
        all_goals go_wp2
        go_roundw
        case rel => exact ⟨k + 1, by omega, by go_num, hide (unhide R).1, hide (unhide R).2⟩
        case measure => simp [intOf]; omega
      · have hke : k = xs.length := by omega
        subst hke
        rw [xorTo_all ys xs (by omega)] at HO
        clear h h'
        go_wp2
        go_ret
        exact ⟨_, rfl, by rw [xorL_comm]; exact unhide HO, unhide HB⟩
  · have hge : ¬ ((xs.length : Int) < (ys.length : Int)) := by omega
    go_enter Tryz.func92, Tryz.ntmps92
    go_wp2_with (first | (at_builtin; refine wpList_append_nil rfl _ _ rfl a xs.length c xs rfl rfl h (by omega) ?_; intro v w1 ho hb))
    go_loopw [6] (fun i wr => ∃ k : Nat, k ≤ ys.length ∧ i = .int .i64 k ∧ Hid (Own wr w.heap.size v (xorTo xs ys k)) ∧ Hid (Below w.heap.size w wr)) (fun i _ => ys.length - (intOf i).toNat)
    case atStart => exact ⟨0, Nat.zero_le _, rfl, hide (by rw [xorTo_zero]; exact ho), hide hb⟩
    case round =>
      obtain ⟨k, hk, rfl, HO, HB⟩ := hrel
      clear ho hb
      by_cases hlt : k < ys.length
      · obtain ⟨b', off', rfl, hc'⟩ := (h'.below (unhide HB)).at hlt
        have hkn : k < xs.length := by omega
        have hkn' : (k : Int) < (xs.length : Int) := by omega
        have hlt' : (k : Int) < (ys.length : Int) := by omega
        obtain ⟨g, cap, rfl, hBg, hgs, hcg, hfg⟩ := (unhide HO).at (by rw [xorTo_length]; omega)
        have hcell' := hc' k hlt
        have hcell := hcg k (by rw [xorTo_length]; omega)
        have hfz := hfg k
        rw [xorTo_getD xs ys k k (by omega), if_neg (by omega)] at hcell
        have hxo := u64_xor_nat (xs.getD k 0) (ys.getD k 0) (h.2.1.get k) (h'.2.1.get k)
        rw [xorTo_length] at HO
        have R := hide (rxor_round h.2.1 h'.2.1 (by omega) hBg (unhide HO) (unhide HB))
        rw [xorTo_length]
        generalize xs.getD k 0 = x at *
        generalize ys.getD k 0 = y at *
        clear hc' hcg hfg h h' HO
        go_wp2
        go_region
        all_goals go_wp2
        go_roundw
        case rel => exact ⟨k + 1, by omega, by go_num, hide (unhide R).1, hide (unhide R).2⟩
        case measure => simp [intOf]; omega
      · have hke : k = ys.length := by omega
        subst hke
        rw [xorTo_all xs ys (by omega)] at HO
        clear h h'
        go_wp2
        go_ret
        exact ⟨_, rfl, unhide HO, unhide HB⟩

end Go.Proofs.YtnjdldbdkafnaaaGreatDoor
namespace Go.Proofs.YtnjdldbdkafnaaaGreatDoor
open Go.RowKit
set_option linter.unusedVariables false
set_option linter.unusedSimpArgs false
set_option maxRecDepth 4000

set_option maxHeartbeats 1000000 in
theorem rfirst_any (a : Option Addr) (n c : Nat) (xs : List Nat) (w : World) (h : RowAt w a n xs) (hn : n ≤ 1048576) :
    Calls Tryz.prog 71 #[.slice a n c] w fun e w' => e = .returned (.int .i64 (firstI xs)) ∧ w' = w := by
  go_enter Tryz.func71, Tryz.ntmps71
  go_wp2
  go_loop [3] (fun i => ∃ k : Nat, k ≤ n ∧ i = .int .i64 k ∧ Hid (∀ j, j < k → xs.getD j 0 = 0)) (fun i => n - (intOf i).toNat)
  case atStart => exact ⟨0, Nat.zero_le _, rfl, hide (fun j hj => by omega)⟩
  case round =>
    obtain ⟨k, hk, rfl, HZ⟩ := hrel
    by_cases hlt : k < n
    · have hR := h
      obtain ⟨b, off, rfl, hc⟩ := h.at hlt
      have hcell := hc k hlt
      have hx := h.2.1.get k
      by_cases h0 : xs.getD k 0 = 0
      · rw [h0] at hcell
        have HS := hide (first_step xs k (unhide HZ) h0)
        clear hc h h0 hx hR
        go_wp2
        go_round
        case rel => exact ⟨k + 1, by omega, by go_num, HS⟩
        case measure => simp [intOf]; omega
      · have HF := hide (firstI_at xs k (by rw [h.1]; exact hlt) (unhide HZ) h0)
        have hct := ctz_lt (xs.getD k 0) h0 hx
        have HB := hide (ctz_bit (xs.getD k 0) h0 hx)
        have HL := hide (fun j (hj : j < Lib.ctz 64 (xs.getD k 0)) => ctz_low (xs.getD k 0) j h0 hx hj)
        have HG := hide (fun j (hj : j < 64) => getB_at xs k j hj)
        have hne : (((xs.getD k 0 : Nat) : Int) == 0) = false := by simp only [beq_eq_false_iff_ne, ne_eq]; omega
        generalize xs.getD k 0 = x at *
        generalize Lib.ctz 64 x = t at *
        clear hc h h0
        go_wp2
        go_loop [4] (fun y => ∃ j : Nat, j ≤ t ∧ y = .int .i64 (64 * (k : Int) + (j : Int))) (fun y => (64 * k + t) - (intOf y).toNat)
        case atStart => exact ⟨0, by omega, by go_num⟩
        case round =>
          obtain ⟨j, hj, rfl⟩ := hrel
          have hc := rget_in (some ⟨b, off, none⟩) n c xs (64 * (k : Int) + (j : Int)) w hR (by omega) (by omega) (by omega) (by omega)
          rw [show (64 * (k : Int) + (j : Int)).toNat = 64 * k + j by omega, unhide HG j (by omega)] at hc
          by_cases hjt : j < t
          · rw [unhide HL j hjt] at hc
            have HC := hide hc
            clear hc hR
            go_wp2_with (go_at_call 39; refine (unhide HC).mono ?_; rintro e w' ⟨rfl, rfl⟩)
            go_round
            case rel => exact ⟨j + 1, by omega, by go_num⟩
            case measure => simp [intOf]; omega
          · have hje : j = t := by omega
            subst hje
            rw [unhide HB] at hc
            have HC := hide hc
            clear hc hR
            go_wp2_with (go_at_call 39; refine (unhide HC).mono ?_; rintro e w' ⟨rfl, rfl⟩)
            go_ret
            exact ⟨ret_int (by rw [unhide HF]; omega), rfl⟩
    · have HF := hide (first_none xs (fun j hj => unhide HZ j (by have := h.1; omega)))
      go_wp2
      go_ret
      exact ⟨ret_int (unhide HF).symm, rfl⟩

def sizeOfK (k : Int) : Nat := if k < 1 ∨ 128 < k then 0 else ((k + 63) / 64).toNat
set_option maxHeartbeats 400000 in
theorem size_any (k : Int) (w : World) :
    Calls Tryz.prog 93 #[.int .i64 k] w fun e w' => e = .returned (.int .i64 ((sizeOfK k : Nat) : Int)) ∧ w' = w := by
  by_cases h1 : k < 1
  · have e : sizeOfK k = 0 := by unfold sizeOfK; rw [if_pos (.inl h1)]
    rw [e]
    go_enter Tryz.func93, Tryz.ntmps93
    go_wp2
    go_ret
    exact ⟨rfl, rfl⟩
  · by_cases h2 : 128 < k
    · have e : sizeOfK k = 0 := by unfold sizeOfK; rw [if_pos (.inr h2)]
      rw [e]
      go_enter Tryz.func93, Tryz.ntmps93
      go_wp2
      go_ret
      exact ⟨rfl, rfl⟩
    · have e : ((sizeOfK k : Nat) : Int) = (k + 64 - 1) / 64 := by unfold sizeOfK; rw [if_neg (by omega)]; omega
      have HE := hide e
      clear e
      go_enter Tryz.func93, Tryz.ntmps93
      go_wp2
      go_ret
      exact ⟨ret_int (unhide HE).symm, rfl⟩
set_option maxHeartbeats 400000 in
theorem rsize_any (k : Int) (w : World) :
    Calls Tryz.prog 54 #[.int .i64 k] w fun e w' => e = .returned (.int .i64 ((sizeOfK k : Nat) : Int)) ∧ w' = w := by
  by_cases h1 : k < 1
  · have e : sizeOfK k = 0 := by unfold sizeOfK; rw [if_pos (.inl h1)]
    rw [e]
    go_enter Tryz.func54, Tryz.ntmps54
    go_wp2
    go_ret
    exact ⟨rfl, rfl⟩
  · by_cases h2 : 128 < k
    · have e : sizeOfK k = 0 := by unfold sizeOfK; rw [if_pos (.inr h2)]
      rw [e]
      go_enter Tryz.func54, Tryz.ntmps54
      go_wp2
      go_ret
      exact ⟨rfl, rfl⟩
    · have e : ((sizeOfK k : Nat) : Int) = (k + 64 - 1) / 64 := by unfold sizeOfK; rw [if_neg (by omega)]; omega
      have HE := hide e
      clear e
      go_enter Tryz.func54, Tryz.ntmps54
      go_wp2
      go_loop [3] (fun t => ∃ q : Nat, 64 * ((q : Int) - 1) < k ∧ t = .int .i64 (q : Int)) (fun t => 10 - (intOf t).toNat)
      case atStart => exact ⟨0, by omega, rfl⟩
      case round =>
        obtain ⟨q, hq, rfl⟩ := hrel
        by_cases hl : 64 * (q : Int) < k
        · go_wp2
          go_round
          case rel => exact ⟨q + 1, by omega, by go_num⟩
          case measure => simp [intOf]; omega
        · go_wp2
          go_ret
          exact ⟨ret_int (by rw [unhide HE]; omega), rfl⟩
end Go.Proofs.YtnjdldbdkafnaaaGreatDoor
namespace Go.Proofs.YtnjdldbdkafnaaaGreatDoor
open Go.RowKit
set_option linter.unusedVariables false
set_option linter.unusedSimpArgs false
set_option maxRecDepth 4000

/-- The bytes of a text. -/
def tx (s : ByteArray) : List Nat := s.data.toList.map fun b => b.toNat
/-- The text of bytes. -/
def st (xs : List Nat) : ByteArray := ⟨(xs.map UInt8.ofNat).toArray⟩
def bytes (xs : List Nat) : Prop := ∀ x ∈ xs, x < 256
theorem tx_length (s : ByteArray) : (tx s).length = s.size := by cases s; simp [tx, ByteArray.size]
theorem tx_bytes (s : ByteArray) : bytes (tx s) := by
  intro x hx
  obtain ⟨b, _, rfl⟩ := List.mem_map.1 hx
  exact b.toNat_lt
theorem st_tx (s : ByteArray) : st (tx s) = s := by
  cases s with
  | mk d =>
    unfold st tx
    congr 1
    rw [List.map_map]
    have e : ((fun x => UInt8.ofNat x) ∘ fun b : UInt8 => b.toNat) = id := by funext b; simp
    rw [e]; simp
theorem tx_st {xs : List Nat} (h : bytes xs) : tx (st xs) = xs := by
  unfold tx st
  simp only [List.map_map]
  conv => rhs; rw [← List.map_id xs]
  apply List.map_congr_left
  intro x hx
  have := h x hx
  simp [Nat.mod_eq_of_lt this]
theorem tx_inj {a b : ByteArray} (h : tx a = tx b) : a = b := by rw [← st_tx a, ← st_tx b, h]
theorem bytes_take {xs : List Nat} (h : bytes xs) (k : Nat) : bytes (xs.take k) := fun x hx => h x (List.mem_of_mem_take hx)
theorem bytes.get {xs : List Nat} (h : bytes xs) (i : Nat) : xs.getD i 0 < 256 := by
  rw [List.getD_eq_getElem?_getD]
  cases hx : xs[i]? with
  | none => simp
  | some x => exact h x (List.mem_of_getElem? hx)
theorem tx_get (s : ByteArray) (k : Nat) (h : k < s.size) : s[k].toNat = (tx s).getD k 0 := by
  cases s with
  | mk d =>
    have hd : k < d.size := h
    simp only [tx, List.getD_eq_getElem?_getD, List.getElem?_map, Array.getElem?_toList, Array.getElem?_eq_getElem hd]
    rfl
theorem bytes.set {xs : List Nat} (h : bytes xs) (i x : Nat) (hx : x < 256) : bytes (xs.set i x) := by
  intro y hy
  rcases List.mem_or_eq_of_mem_set hy with h1 | rfl
  · exact h y h1
  · exact hx
theorem xorB_lt {x y : Nat} (hx : x < 256) (hy : y < 256) : x ^^^ y < 256 := Nat.xor_lt_two_pow (n := 8) (by omega) (by omega)
theorem xorL_bytes {xs ys : List Nat} (hx : bytes xs) (hy : bytes ys) : bytes (xorL xs ys) := by
  intro z hz
  unfold xorL at hz
  obtain ⟨i, _, rfl⟩ := List.mem_map.1 hz
  exact xorB_lt (hx.get i) (hy.get i)
theorem bytes_nil : bytes [] := fun _ h => by cases h
/-- The xor of two texts. -/
def xorS (a b : ByteArray) : ByteArray := st (xorL (tx a) (tx b))
theorem tx_xorS (a b : ByteArray) : tx (xorS a b) = xorL (tx a) (tx b) := tx_st (xorL_bytes (tx_bytes a) (tx_bytes b))
theorem xorS_size (a b : ByteArray) : (xorS a b).size = max a.size b.size := by rw [← tx_length, tx_xorS, xorL_length, tx_length, tx_length]
theorem xorL_nil (a : List Nat) : xorL a [] = a := by
  apply ext_getD
  · rw [xorL_length]; simp
  · intro i hi; rw [xorL_getD]; simp
theorem nil_xorL (a : List Nat) : xorL [] a = a := by rw [xorL_comm, xorL_nil]
theorem xorL_assoc (a b c : List Nat) : xorL (xorL a b) c = xorL a (xorL b c) := by
  apply ext_getD
  · simp only [xorL_length]; omega
  · intro i hi; simp only [xorL_getD]; exact Nat.xor_assoc _ _ _

/-- A slice of bytes of the call's own. -/
def OwnB (w : World) (B : Nat) (v : Value) (xs : List Nat) : Prop :=
  bytes xs ∧ ((v = .slice none 0 0 ∧ xs = []) ∨ ∃ g cap, v = .slice (some ⟨g, 0, none⟩) xs.length cap ∧ B ≤ g ∧ g < w.heap.size ∧
    (∀ i, i < xs.length → w.cell? ⟨g, i, none⟩ = some (.int .u8 ((xs.getD i 0 : Nat) : Int))) ∧ ∀ i, i < xs.length → w.frozen? ⟨g, i, none⟩ = false)
theorem OwnB.nil (w : World) (B : Nat) : OwnB w B (.slice none 0 0) [] := ⟨bytes_nil, .inl ⟨rfl, rfl⟩⟩
theorem OwnB.slice {w : World} {B : Nat} {v : Value} {xs : List Nat} (h : OwnB w B v xs) : ∃ a c, v = .slice a xs.length c := by
  rcases h.2 with ⟨rfl, rfl⟩ | ⟨g, cap, rfl, _⟩
  · exact ⟨_, _, rfl⟩
  · exact ⟨_, _, rfl⟩
theorem OwnB.at {w : World} {B : Nat} {v : Value} {xs : List Nat} (h : OwnB w B v xs) (hn : 0 < xs.length) :
    ∃ g cap, v = .slice (some ⟨g, 0, none⟩) xs.length cap ∧ B ≤ g ∧ g < w.heap.size ∧ (∀ i, i < xs.length → w.cell? ⟨g, i, none⟩ = some (.int .u8 ((xs.getD i 0 : Nat) : Int))) ∧ ∀ i, i < xs.length → w.frozen? ⟨g, i, none⟩ = false := by
  rcases h.2 with ⟨_, rfl⟩ | h
  · simp at hn
  · exact h
theorem OwnB.mono {w : World} {B B' : Nat} {v : Value} {xs : List Nat} (h : OwnB w B v xs) (hB : B' ≤ B) : OwnB w B' v xs := by
  refine ⟨h.1, ?_⟩
  rcases h.2 with h0 | ⟨g, cap, h1, hb, r⟩
  · exact .inl h0
  · exact .inr ⟨g, cap, h1, Nat.le_trans hB hb, r⟩
theorem OwnB.below {w w' : World} {B : Nat} {v : Value} {xs : List Nat} (h : OwnB w B v xs) (hb : Below w.heap.size w w') : OwnB w' B v xs := by
  refine ⟨h.1, ?_⟩
  rcases h.2 with h0 | ⟨g, cap, h1, hg, hgg, hc, hf⟩
  · exact .inl h0
  · exact .inr ⟨g, cap, h1, hg, Nat.lt_of_lt_of_le hgg hb.size, fun i hi => ((bcell hb).1 g i hgg).trans (hc i hi), fun i hi => ((bcell hb).2 g i hgg).trans (hf i hi)⟩
theorem OwnB.stored {w : World} {B g cap : Nat} {xs : List Nat} (h : OwnB w B (.slice (some ⟨g, 0, none⟩) xs.length cap) xs) (i x : Nat) (hx : x < 256) :
    OwnB (w.setCell ⟨g, i, none⟩ (.int .u8 (x : Int))) B (.slice (some ⟨g, 0, none⟩) xs.length cap) (xs.set i x) := by
  refine ⟨h.1.set i x hx, .inr ?_⟩
  rcases h.2 with ⟨h1, _⟩ | ⟨g', cap', h1, hg, hgg, hc, hf⟩
  · cases h1
  · simp only [Value.slice.injEq, Option.some.injEq, Addr.mk.injEq, and_true, true_and] at h1
    obtain ⟨rfl, rfl⟩ := h1
    refine ⟨g, cap, by rw [List.length_set], hg, by simpa using hgg, fun j hj => ?_, fun j hj => by rw [World.frozen?_setCell]; exact hf j (by simpa using hj)⟩
    rw [List.length_set] at hj
    rw [getD_set]
    by_cases e : j = i
    · subst e
      rw [if_pos ⟨rfl, hj⟩]
      exact World.cell?_setCell_same _ _ _ (hc j hj)
    · rw [if_neg (fun h => e h.1)]
      have hne : (⟨g, i, none⟩ : Addr) ≠ ⟨g, j, none⟩ := fun h => e (by injection h with h1 h2; exact h2.symm)
      exact (World.cell?_setCell_other (h := hne) ..).trans (hc j hj)
theorem OwnB.drew {w : World} {B : Nat} {v : Value} {xs : List Nat} (h : OwnB w B v xs) : OwnB w.drew B v xs := by
  refine ⟨h.1, ?_⟩
  rcases h.2 with h0 | ⟨g, cap, h1, hg, hgg, hc, hf⟩
  · exact .inl h0
  · exact .inr ⟨g, cap, h1, hg, hgg, hc, hf⟩

theorem xb_round {w wr : World} {B g cap : Nat} {xs ys : List Nat} {k z : Nat} (hx : bytes xs) (hy : bytes ys) (hk : k < xs.length) (hB : B ≤ g)
    (ho : OwnB wr B (.slice (some ⟨g, 0, none⟩) xs.length cap) (xorTo xs ys k)) (hb : Below B w wr) (hz : z = xs.getD k 0 ^^^ ys.getD k 0) :
    OwnB (wr.setCell ⟨g, k, none⟩ (.int .u8 (z : Int))) B (.slice (some ⟨g, 0, none⟩) xs.length cap) (xorTo xs ys (k + 1)) ∧ Below B w (wr.setCell ⟨g, k, none⟩ (.int .u8 (z : Int))) := by
  have hl := xorTo_length xs ys k
  subst hz
  rw [← hl] at ho
  have h1 := ho.stored k (xs.getD k 0 ^^^ ys.getD k 0) (xorB_lt (hx.get k) (hy.get k))
  rw [xorTo_succ xs ys k hk, hl] at h1
  exact ⟨h1, hb.setCell (by exact hB) _⟩
theorem xb_roundd {w wr : World} {B g cap : Nat} {xs ys : List Nat} {k z : Nat} (hx : bytes xs) (hy : bytes ys) (hk : k < xs.length) (hB : B ≤ g)
    (ho : OwnB wr B (.slice (some ⟨g, 0, none⟩) xs.length cap) (xorTo xs ys k)) (hb : Below B w wr) (hz : z = xs.getD k 0 ^^^ ys.getD k 0) :
    OwnB (wr.setCell ⟨g, k, none⟩ (.int .u8 (z : Int))).drew B (.slice (some ⟨g, 0, none⟩) xs.length cap) (xorTo xs ys (k + 1)) ∧ Below B w (wr.setCell ⟨g, k, none⟩ (.int .u8 (z : Int))).drew := by
  obtain ⟨h1, h2⟩ := xb_round hx hy hk hB ho hb hz
  exact ⟨h1.drew, h2.drew⟩

/-- 'string(b)' of a slice of one's own. -/
theorem OwnB.text {w : World} {B : Nat} {v : Value} {xs : List Nat} (h : OwnB w B v xs) : (convert 74 9 v).run Tryz.prog w = .ok (.string (st xs)) w := by
  rcases h.2 with ⟨rfl, rfl⟩ | ⟨g, cap, rfl, hg, hgg, hc, hf⟩
  · rw [run_convert_bytes_string w 74 9 5 none 0 0 Tryz.underlying74 Tryz.underlying5 Tryz.underlying9]
    rfl
  · have := run_convert_bytes_back (P := Tryz.prog) w 74 9 5 ⟨g, 0, none⟩ cap (xs.map UInt8.ofNat) Tryz.underlying74 Tryz.underlying5 Tryz.underlying9 (fun j hj => by
      have hj' : j < xs.length := by simpa using hj
      have e : (⟨g, 0, none⟩ : Addr).add j = ⟨g, j, none⟩ := by unfold Addr.add; split <;> simp_all
      rw [e, hc j hj']
      have hb := h.1.get j
      simp only [List.getElem_map]
      rw [List.getD_eq_getElem?_getD, List.getElem?_eq_getElem hj'] at hb ⊢
      simp only [Option.getD_some] at hb ⊢
      rw [UInt8.toNat_ofNat_of_lt' hb])
    rw [List.length_map] at this
    exact this

theorem info_u8 : (Tryz.prog.info? 5).map (fun i => (i.zero, i.size, i.bytes)) = some (some (.int .u8 0), 1, 1) := by kernel_rfl
/-- 'copy(b, s)', b new and as long as s. -/
theorem run_copy_text_of {P : Program} (w : World) (dT sT ty elem : TypeId) (g n cap : Nat) (s : ByteArray) (cur : Array Value) (t : TypeId) (hu : P.underlying dT = some (.slice elem)) (hs : (P.info? elem).map (·.size) = some 1)
    (hg : w.heap[g]? = some (.cells cur t (0, 0))) (hc : cur.size = s.size) (hn : n = s.size) :
    (Builtin.copy_ #[dT, sT] ty #[.slice (some ⟨g, 0, none⟩) n cap, .string s]).run P w = .ok (goInt s.size) (w.setRow g (s.data.map fun b => Value.int .u8 (b.toNat : Int))) := by
  subst hn
  have hlen : (s.data.toList.map fun b => Value.int .u8 (b.toNat : Int)).length = s.size := by rw [List.length_map]; rfl
  have hst := run_storeCells_at P g 0 t (s.data.toList.map fun b => Value.int .u8 (b.toNat : Int)) 0 cur w hg (by rw [hlen, hc]; omega)
    (fun v hv => by obtain ⟨b, _, rfl⟩ := List.mem_map.1 hv; rfl)
  have hd : (List.take (0 + 0) cur.toList ++ (s.data.toList.map fun b => Value.int .u8 (b.toNat : Int)) ++ List.drop (0 + 0 + (s.data.toList.map fun b => Value.int .u8 (b.toNat : Int)).length) cur.toList).toArray = s.data.map fun b => Value.int .u8 (b.toNat : Int) := by
    rw [List.drop_eq_nil_of_le (by rw [hlen, Array.length_toList, hc]; omega)]
    apply Array.ext'
    simp
  rw [hd] at hst
  have hmin : Nat.min s.size s.size = s.size := Nat.min_self _
  have hex : List.take s.size (s.data.toList.map fun b => Value.int .u8 (b.toNat : Int)) = s.data.toList.map fun b => Value.int .u8 (b.toNat : Int) := List.take_of_length_le (by rw [hlen]; omega)
  cases hq : P.info? elem with
  | none => simp [hq] at hs
  | some i =>
    simp [Builtin.copy_, run_underlying hu, Builtin.lenOf, Builtin.firstCells, sizeOf, typeInfo, hq, hmin, hex, hst]
theorem ret_str {a b : ByteArray} (h : a = b) : Ending.returned (.string a) = .returned (.string b) := by rw [h]

/-- '[]byte(s)'. -/
theorem bytes_text (w : World) (s : ByteArray) : ∃ w' cap, (convert 9 74 (.string s)).run Tryz.prog w = .ok (.slice (some ⟨w.heap.size, 0, none⟩) s.size cap) w' ∧
    OwnB w' w.heap.size (.slice (some ⟨w.heap.size, 0, none⟩) s.size cap) (tx s) ∧ Below w.heap.size w w' := by
  refine ⟨_, _, run_bytes_of_string w 9 74 5 s Tryz.underlying9 Tryz.underlying74 Tryz.underlying5, ⟨tx_bytes s, .inr ⟨w.heap.size, _, by rw [tx_length], Nat.le_refl _, by simp, fun i hi => ?_, fun i hi => ?_⟩⟩, ?_⟩
  · have hi' : i < s.size := by rwa [tx_length] at hi
    have h1 := World.cell?_alloc_mark w.drew (bytesRow s (grownCap w s.size 0 5)) 5 ((bytesRow s (grownCap w s.size 0 5)).size, (bytesRow s (grownCap w s.size 0 5)).size + 1) i
    refine h1.trans ?_
    rw [bytesRow_at s _ i hi', ← tx_get s i hi']
    rfl
  · have hi' : i < s.size := by rwa [tx_length] at hi
    have h1 := World.frozen?_alloc_mark w.drew (bytesRow s (grownCap w s.size 0 5)) 5 (bytesRow s (grownCap w s.size 0 5)).size ((bytesRow s (grownCap w s.size 0 5)).size + 1) i
    refine h1.trans ?_
    have h2 : s.size ≤ (bytesRow s (grownCap w s.size 0 5)).size := by
      unfold bytesRow
      rw [Array.size_append, Array.size_map]
      exact Nat.le_add_right _ _
    have : ¬ (bytesRow s (grownCap w s.size 0 5)).size ≤ i := by omega
    simp [this]
  · exact ((Below.refl _ _).drew).alloc (Nat.le_refl _) _
theorem tx_append (a b : ByteArray) : tx (a ++ b) = tx a ++ tx b := by
  unfold tx
  rw [ByteArray.data_append, Array.toList_append, List.map_append]
theorem st_len (xs : List Nat) : (st xs).size = xs.length := by simp [st, ByteArray.size]
theorem tx_cut (s : ByteArray) (a b : Nat) : tx (s.extract a b) = ((tx s).drop a).take (b - a) := by
  unfold tx
  rw [ByteArray.data_extract, Array.toList_extract, List.extract_eq_take_drop, List.map_take, List.map_drop]
theorem min_run (x y : Nat) (ts : Array TypeId) (t : TypeId) (w : World) : (Builtin.min_ ts t #[.int .i64 (x : Int), .int .i64 (y : Int)]).run Tryz.prog w = .ok (.int .i64 ((min x y : Nat) : Int)) w := by
  rw [run_min_int2]
  congr 2
  split <;> omega
end Go.Proofs.YtnjdldbdkafnaaaGreatDoor
