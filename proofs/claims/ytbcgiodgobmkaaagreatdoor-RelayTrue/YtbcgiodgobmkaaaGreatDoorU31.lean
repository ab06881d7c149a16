/-
  Contracts of xor.Xor, bucketlineref02.Xor, xor.zero, xor.Sum, bucketlineref02.Sum, xor.Of, bucketlineref02.Of: for texts of at most 2^20 bytes and rows of at most 2^20 words.
  Slices of texts ('TextsAt'); contracts of xor.Sum, bucketlineref02.Sum, xor.Of, bucketlineref02.Of, xor.reached: for up to 2^20 texts of at most 2^20 bytes.
  Rows (a slice of words and a text) by value and in slices; contracts of bucketlineref02.Same, xor.Holds, bucketlineref02.Holds.
-/
import Derived.Test.YtbcgiodgobmkaaaGreatDoorXA
import Derived.Test.YtbcgiodgobmkaaaGreatDoorU13
import Derived.Test.YtbcgiodgobmkaaaGreatDoorU11
import Derived.Test.YtbcgiodgobmkaaaGreatDoorU5
import Derived.Deep.RegionWith
import Derived.Lib.QuietBelow
namespace Go.Proofs.YtbcgiodgobmkaaaGreatDoor
open Go.RowKit
set_option linter.unusedVariables false
set_option linter.unusedSimpArgs false
set_option maxRecDepth 4000

set_option maxHeartbeats 1000000 in
theorem rx_any (a b : ByteArray) (w : World) (hn : a.size ≤ 1048576) (hm : b.size ≤ 1048576) :
    Calls Tryz.prog 38 #[.string a, .string b] w fun e w' => e = .returned (.string (xorS a b)) ∧ Below w.heap.size w w' := by
  by_cases hsw : a.size < b.size
  · have hge : decide ((a.size : Int) < (b.size : Int)) = true := by simp; omega
    obtain ⟨w1, cap, hcv, ho, hb⟩ := bytes_text w b
    have HO1 := hide ho
    have HB1 := hide hb
    clear ho hb
    have hta := tx_length a
    have htb := tx_length b
    go_enter Tryz.func38, Tryz.ntmps38
    go_wp2
    go_loopw [6] (fun i wr => ∃ k : Nat, k ≤ a.size ∧ i = .int .i64 k ∧ Hid (OwnB wr w.heap.size (.slice (some ⟨w.heap.size, 0, none⟩) b.size cap) (xorTo (tx b) (tx a) k)) ∧ Hid (Below w.heap.size w wr)) (fun i _ => a.size - (intOf i).toNat)
    case atStart => exact ⟨0, Nat.zero_le _, rfl, hide (by rw [xorTo_zero]; exact unhide HO1), HB1⟩
    case round =>
      obtain ⟨k, hk, rfl, HO, HB⟩ := hrel
      clear HO1 HB1 hcv
      by_cases hlt : k < a.size
      · have hkn : k < b.size := by omega
        have hkn' : (k : Int) < (b.size : Int) := by omega
        have hlt' : (k : Int) < (a.size : Int) := by omega
        obtain ⟨g, cap', hv, hBg, hgs, hcg, hfg⟩ := (unhide HO).at (by rw [xorTo_length]; omega)
        rw [xorTo_length, htb] at hv
        simp only [Value.slice.injEq, Option.some.injEq, Addr.mk.injEq, and_true, true_and] at hv
        obtain ⟨rfl, rfl⟩ := hv
        have hcell := hcg k (by rw [xorTo_length]; omega)
        have hfz := hfg k (by rw [xorTo_length]; omega)
        rw [xorTo_getD (tx b) (tx a) k k (by omega), if_neg (by omega)] at hcell
        have hxo := u8_xor_nat ((tx b).getD k 0) a[k].toNat ((tx_bytes b).get k) a[k].toNat_lt
        rw [← htb] at HO
        have R := hide (xb_roundd (z := (tx b).getD k 0 ^^^ a[k].toNat) (tx_bytes b) (tx_bytes a) (by omega) hBg (unhide HO) (unhide HB) (by rw [tx_get a k hlt]))
        rw [htb] at R
        generalize (tx b).getD k 0 = x at *
        clear hcg hfg HO hge hsw
        go_wp2
        go_region
        all_goals go_wp2
        go_roundw
        case rel => exact ⟨k + 1, by omega, by go_num, hide (unhide R).1, hide (unhide R).2⟩
        case measure => simp [intOf]; omega
      · have hke : k = (tx a).length := by omega
        rw [hke, xorTo_all (tx b) (tx a) (by omega)] at HO
        have hct := (unhide HO).text
        go_wp2
        go_ret
        exact ⟨ret_str (by unfold xorS; rw [xorL_comm]), unhide HB⟩
  · have hge : decide ((a.size : Int) < (b.size : Int)) = false := by simp; omega
    obtain ⟨w1, cap, hcv, ho, hb⟩ := bytes_text w a
    have HO1 := hide ho
    have HB1 := hide hb
    clear ho hb
    have hta := tx_length a
    have htb := tx_length b
    go_enter Tryz.func38, Tryz.ntmps38
    go_wp2
    go_loopw [6] (fun i wr => ∃ k : Nat, k ≤ b.size ∧ i = .int .i64 k ∧ Hid (OwnB wr w.heap.size (.slice (some ⟨w.heap.size, 0, none⟩) a.size cap) (xorTo (tx a) (tx b) k)) ∧ Hid (Below w.heap.size w wr)) (fun i _ => b.size - (intOf i).toNat)
    case atStart => exact ⟨0, Nat.zero_le _, rfl, hide (by rw [xorTo_zero]; exact unhide HO1), HB1⟩
    case round =>
      obtain ⟨k, hk, rfl, HO, HB⟩ := hrel
      clear HO1 HB1 hcv
      by_cases hlt : k < b.size
      · have hkn : k < a.size := by omega
        have hkn' : (k : Int) < (a.size : Int) := by omega
        have hlt' : (k : Int) < (b.size : Int) := by omega
        obtain ⟨g, cap', hv, hBg, hgs, hcg, hfg⟩ := (unhide HO).at (by rw [xorTo_length]; omega)
        rw [xorTo_length, hta] at hv
        simp only [Value.slice.injEq, Option.some.injEq, Addr.mk.injEq, and_true, true_and] at hv
        obtain ⟨rfl, rfl⟩ := hv
        have hcell := hcg k (by rw [xorTo_length]; omega)
        have hfz := hfg k (by rw [xorTo_length]; omega)
        rw [xorTo_getD (tx a) (tx b) k k (by omega), if_neg (by omega)] at hcell
        have hxo := u8_xor_nat ((tx a).getD k 0) b[k].toNat ((tx_bytes a).get k) b[k].toNat_lt
        rw [← hta] at HO
        have R := hide (xb_roundd (z := (tx a).getD k 0 ^^^ b[k].toNat) (tx_bytes a) (tx_bytes b) (by omega) hBg (unhide HO) (unhide HB) (by rw [tx_get b k hlt]))
        rw [hta] at R
        generalize (tx a).getD k 0 = x at *
        clear hcg hfg HO hge hsw
        go_wp2
        go_region
        all_goals go_wp2
        go_roundw
        case rel => exact ⟨k + 1, by omega, by go_num, hide (unhide R).1, hide (unhide R).2⟩
        case measure => simp [intOf]; omega
      · have hke : k = (tx b).length := by omega
        rw [hke, xorTo_all (tx a) (tx b) (by omega)] at HO
        have hct := (unhide HO).text
        go_wp2
        go_ret
        exact ⟨rfl, unhide HB⟩

/-- No byte but 0. -/
def zeroB (s : ByteArray) : Bool := (tx s).all fun x => x == 0
theorem zeroB_iff (s : ByteArray) : zeroB s = true ↔ ∀ i, (tx s).getD i 0 = 0 := by
  rw [← all_zero_iff]; simp [zeroB]
theorem zeroS_step {s : ByteArray} {k : Nat} (h : ∀ j, j < k → (tx s).getD j 0 = 0) (h0 : (tx s).getD k 0 = 0) : ∀ j, j < k + 1 → (tx s).getD j 0 = 0 := by
  intro j hj
  by_cases e : j = k
  · rw [e]; exact h0
  · exact h j (by omega)
end Go.Proofs.YtbcgiodgobmkaaaGreatDoor
namespace Go.Proofs.YtbcgiodgobmkaaaGreatDoor
open Go.RowKit
set_option linter.unusedVariables false
set_option linter.unusedSimpArgs false
set_option maxRecDepth 4000

/-- The xor of all. -/
def sumL (ss : List ByteArray) : List Nat := ss.foldl (fun a s => xorL a (tx s)) []
theorem sumL_take (ss : List ByteArray) (k : Nat) (h : k < ss.length) : sumL (ss.take (k + 1)) = xorL (sumL (ss.take k)) (tx (ss.getD k ByteArray.empty)) := by
  unfold sumL
  rw [List.take_succ_eq_append_getElem h, List.foldl_append]
  simp [List.getD_eq_getElem?_getD, List.getElem?_eq_getElem h]
theorem foldl_len (ss : List ByteArray) (hs : shorts ss) : ∀ a : List Nat, a.length ≤ 1048576 → (ss.foldl (fun a s => xorL a (tx s)) a).length ≤ 1048576 := by
  induction ss with
  | nil => exact fun a h => h
  | cons s ss ih =>
    intro a h
    refine ih (fun s hs' => hs s (List.mem_cons_of_mem _ hs')) _ ?_
    rw [xorL_length, tx_length]
    have := hs s List.mem_cons_self
    omega
theorem sumL_len (ss : List ByteArray) (hs : shorts ss) (k : Nat) : (sumL (ss.take k)).length ≤ 1048576 := foldl_len _ (fun s h => hs s (List.mem_of_mem_take h)) [] (by simp)
theorem st_size {xs : List Nat} (h : bytes xs) : (st xs).size = xs.length := by rw [← tx_length, tx_st h]
theorem xorS_st {xs : List Nat} (h : bytes xs) (s : ByteArray) : xorS (st xs) s = st (xorL xs (tx s)) := by unfold xorS; rw [tx_st h]

set_option maxHeartbeats 400000 in
theorem sum_any (a : Option Addr) (n c : Nat) (ss : List ByteArray) (w : World) (h : TextsAt w a n ss) (hs : shorts ss) (hn : n ≤ 1048576) :
    Calls Tryz.prog 82 #[.slice a n c] w fun e w' => e = .returned (.string (st (sumL ss))) ∧ Below w.heap.size w w' := by
  go_enter Tryz.func82, Tryz.ntmps82
  go_wp2
  go_loopw [3, 8] (fun v i wr => ∃ k : Nat, k ≤ n ∧ i = .int .i64 k ∧ Hid (OwnB wr w.heap.size v (sumL (ss.take k))) ∧ Hid (Below w.heap.size w wr)) (fun _ i _ => n - (intOf i).toNat)
  case atStart => exact ⟨0, Nat.zero_le _, rfl, hide (OwnB.nil _ _), hide (Below.refl _ _)⟩
  case round =>
    rename_i wr
    obtain ⟨k, hk, rfl, HO, HB⟩ := hrel
    by_cases hlt : k < n
    · obtain ⟨b, off, rfl, hc⟩ := (h.below (unhide HB)).at hlt
      have hcell := hc k hlt
      have H := hide h
      have HS := hide hs
      have hlt' : (k : Int) < (n : Int) := by omega
      clear hc h hs
      go_wp2_with fail
      refine (add_any _ _ _ w.heap.size _ (unhide HO) (unhide HB).size (sumL_len ss (unhide HS) k) ((unhide HS).get k)).mono ?_
      rintro e w1 ⟨v1, rfl, ho1, hb1⟩
      rw [← sumL_take ss k (by rw [(unhide H).1]; exact hlt)] at ho1
      have HO1 := hide ho1
      have HB1 := hide ((unhide HB).trans hb1)
      clear ho1 hb1 HO HB hcell
      go_wp2
      go_roundw
      case rel => exact ⟨k + 1, by omega, by go_num, HO1, HB1⟩
      case measure => simp [intOf]; omega
    · have hct := (unhide HO).text
      have he : ss.take k = ss := List.take_of_length_le (by rw [h.1]; omega)
      rw [he] at hct
      clear h hs he
      go_wp2
      go_ret
      exact ⟨rfl, unhide HB⟩

/-- The xor of the blocks whose bits are set, of the first k. -/
def ofL (ss : List ByteArray) (vs : List Nat) : Nat → List Nat
  | 0 => []
  | k + 1 => if getB vs k then xorL (ofL ss vs k) (tx (ss.getD k ByteArray.empty)) else ofL ss vs k
theorem ofL_bytes (ss : List ByteArray) (vs : List Nat) : ∀ k, bytes (ofL ss vs k)
  | 0 => bytes_nil
  | k + 1 => by
    unfold ofL
    split
    · exact xorL_bytes (ofL_bytes ss vs k) (tx_bytes _)
    · exact ofL_bytes ss vs k
theorem ofL_len (ss : List ByteArray) (vs : List Nat) (hs : shorts ss) : ∀ k, (ofL ss vs k).length ≤ 1048576
  | 0 => by simp [ofL]
  | k + 1 => by
    unfold ofL
    have := ofL_len ss vs hs k
    split
    · rw [xorL_length, tx_length]; have := hs.get k; omega
    · exact this
theorem ofL_yes {ss : List ByteArray} {vs : List Nat} {k : Nat} (h : getB vs k = true) : ofL ss vs (k + 1) = xorL (ofL ss vs k) (tx (ss.getD k ByteArray.empty)) := by simp [ofL, h]
theorem ofL_no {ss : List ByteArray} {vs : List Nat} {k : Nat} (h : getB vs k = false) : ofL ss vs (k + 1) = ofL ss vs k := by simp [ofL, h]

set_option maxHeartbeats 400000 in
theorem rof_any (a : Option Addr) (n c : Nat) (ss : List ByteArray) (a' : Option Addr) (m c' : Nat) (vs : List Nat) (w : World) (h : TextsAt w a n ss) (hs : shorts ss) (hn : n ≤ 1048576) (h' : RowAt w a' m vs) (hm : m ≤ 1048576) :
    Calls Tryz.prog 39 #[.slice a n c, .slice a' m c'] w fun e w' => e = .returned (.string (st (ofL ss vs n))) ∧ Below w.heap.size w w' := by
  go_enter Tryz.func39, Tryz.ntmps39
  go_wp2
  go_loopw [5, 6] (fun v i wr => ∃ k : Nat, ∃ t : ByteArray, k ≤ n ∧ i = .int .i64 k ∧ v = .string t ∧ Hid (t = st (ofL ss vs k)) ∧ Hid (Below w.heap.size w wr)) (fun _ i _ => n - (intOf i).toNat)
  case atStart => exact ⟨0, _, Nat.zero_le _, rfl, rfl, hide rfl, hide (Below.refl _ _)⟩
  case round =>
    rename_i wr
    obtain ⟨k, t, hk, rfl, rfl, HT, HB⟩ := hrel
    by_cases hlt : k < n
    · obtain ⟨b, off, rfl, hc⟩ := (h.below (unhide HB)).at hlt
      have hcell := hc k hlt
      have HS := hide hs
      have HR := hide (h'.below (unhide HB))
      have hlt' : (k : Int) < (n : Int) := by omega
      clear hc h hs h'
      go_wp2_with fail
      refine (rgetN_any a' m c' vs k _ (unhide HR) hm (by omega)).mono ?_
      rintro e w1 ⟨rfl, hw⟩
      obtain rfl := hw.symm
      clear HR
      cases hg : getB vs k
      · rw [← ofL_no (ss := ss) hg] at HT
        go_wp2
        go_roundw
        case rel => exact ⟨k + 1, _, by omega, by go_num, rfl, HT, HB⟩
        case measure => simp [intOf]; omega
      · go_wp2_with fail
        refine (rx_any t _ _ (by rw [unhide HT, st_size (ofL_bytes _ _ _)]; exact ofL_len ss vs (unhide HS) k) ((unhide HS).get k)).mono ?_
        rintro e w2 ⟨rfl, hb2⟩
        have HT1 := hide (show xorS t (ss.getD k ByteArray.empty) = st (ofL ss vs (k + 1)) from by rw [unhide HT, xorS_st (ofL_bytes _ _ _), ofL_yes hg])
        have HB1 := hide (below0 (unhide HB) hb2)
        clear hb2 HT HB hcell
        go_wp2
        go_roundw
        case rel => exact ⟨k + 1, _, by omega, by go_num, rfl, HT1, HB1⟩
        case measure => simp [intOf]; omega
    · have hke : k = n := by omega
      subst hke
      clear h hs h'
      go_wp2
      go_ret
      exact ⟨ret_str (unhide HT), unhide HB⟩

end Go.Proofs.YtbcgiodgobmkaaaGreatDoor
namespace Go.Proofs.YtbcgiodgobmkaaaGreatDoor
open Go.RowKit Go.Sort
set_option linter.unusedVariables false
set_option linter.unusedSimpArgs false
set_option maxRecDepth 4000

theorem TextsAt.alloc {w : World} {a : Option Addr} {n : Nat} {ss : List ByteArray} (h : TextsAt w a n ss) (o : Obj) : TextsAt (w.alloc o) a n ss := h.below ((Below.refl _ _).alloc (Nat.le_refl _) _)

/-- What xor.Holds tells. -/
def holdsB (ss : List ByteArray) (vs : List Nat) (s : ByteArray) : Bool := zeroB (xorS (st (ofL ss vs ss.length)) s) && decide (upTo vs ss.length = cnt vs)

end Go.Proofs.YtbcgiodgobmkaaaGreatDoor
