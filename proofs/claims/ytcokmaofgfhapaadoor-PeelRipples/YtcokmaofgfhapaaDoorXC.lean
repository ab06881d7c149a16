/-
  Slices of texts ('TextsAt'); contracts of xor.Sum, bucketlineref02.Sum, xor.Of, bucketlineref02.Of, xor.reached: for up to 2^20 texts of at most 2^20 bytes.
-/
import Derived.Test.YtcokmaofgfhapaaDoorXB
import Derived.Test.YtcokmaofgfhapaaDoorBitsB
import Derived.Test.YtcokmaofgfhapaaDoorTs
namespace Go.Proofs.YtcokmaofgfhapaaDoor
open Go.RowKit
set_option linter.unusedVariables false
set_option maxRecDepth 4000

/-- The xor of all. -/
def sumL (ss : List ByteArray) : List Nat := ss.foldl (fun a s => xorL a (tx s)) []
theorem sumL_take (ss : List ByteArray) (k : Nat) (h : k < ss.length) : sumL (ss.take (k + 1)) = xorL (sumL (ss.take k)) (tx (ss.getD k ByteArray.empty)) := by
  unfold sumL
  rw [List.take_succ_eq_append_getElem h, List.foldl_append]
  simp [List.getD_eq_getElem?_getD, List.getElem?_eq_getElem h]
theorem foldl_bytes (ss : List ByteArray) : ∀ a, bytes a → bytes (ss.foldl (fun a s => xorL a (tx s)) a) := by
  induction ss with
  | nil => exact fun a h => h
  | cons s ss ih => exact fun a h => ih _ (xorL_bytes h (tx_bytes s))
theorem sumL_bytes (ss : List ByteArray) : bytes (sumL ss) := foldl_bytes ss [] bytes_nil
theorem foldl_len (ss : List ByteArray) (hs : shorts ss) : ∀ a : List Nat, a.length ≤ 1048576 → (ss.foldl (fun a s => xorL a (tx s)) a).length ≤ 1048576 := by
  induction ss with
  | nil => exact fun a h => h
  | cons s ss ih =>
    intro a h
    refine ih (fun s hs' => hs s (List.mem_cons_of_mem _ hs')) _ ?_
    rw [xorL_length, tx_length]
    have := hs s List.mem_cons_self
    omega
theorem sumL_len (ss : List ByteArray) (hs : shorts ss) (k : Nat) : (sumL (ss.take k)).length ≤ 1048576 := foldl_len _ (fun s h => hs s (List.mem_of_mem_take h)) [] (by simp)
theorem st_size {xs : List Nat} (h : bytes xs) : (st xs).size = xs.length := by rw [← tx_length, tx_st h]
theorem xorS_st {xs : List Nat} (h : bytes xs) (s : ByteArray) : xorS (st xs) s = st (xorL xs (tx s)) := by unfold xorS; rw [tx_st h]



/-- The xor of the blocks whose bits are set, of the first k. -/
def ofL (ss : List ByteArray) (vs : List Nat) : Nat → List Nat
  | 0 => []
  | k + 1 => if getB vs k then xorL (ofL ss vs k) (tx (ss.getD k ByteArray.empty)) else ofL ss vs k
theorem ofL_bytes (ss : List ByteArray) (vs : List Nat) : ∀ k, bytes (ofL ss vs k)
  | 0 => bytes_nil
  | k + 1 => by
    unfold ofL
    split
    · exact xorL_bytes (ofL_bytes ss vs k) (tx_bytes _)
    · exact ofL_bytes ss vs k
theorem ofL_len (ss : List ByteArray) (vs : List Nat) (hs : shorts ss) : ∀ k, (ofL ss vs k).length ≤ 1048576
  | 0 => by simp [ofL]
  | k + 1 => by
    unfold ofL
    have := ofL_len ss vs hs k
    split
    · rw [xorL_length, tx_length]; have := hs.get k; omega
    · exact this
theorem ofL_yes {ss : List ByteArray} {vs : List Nat} {k : Nat} (h : getB vs k = true) : ofL ss vs (k + 1) = xorL (ofL ss vs k) (tx (ss.getD k ByteArray.empty)) := by simp [ofL, h]
theorem ofL_no {ss : List ByteArray} {vs : List Nat} {k : Nat} (h : getB vs k = false) : ofL ss vs (k + 1) = ofL ss vs k := by simp [ofL, h]

set_option maxHeartbeats 400000 in
theorem of_any (a : Option Addr) (n c : Nat) (ss : List ByteArray) (a' : Option Addr) (m c' : Nat) (vs : List Nat) (w : World) (h : TextsAt w a n ss) (hs : shorts ss) (hn : n ≤ 1048576) (h' : RowAt w a' m vs) (hm : m ≤ 1048576) :
    Calls Tryd.prog 56 #[.slice a n c, .slice a' m c'] w fun e w' => e = .returned (.string (st (ofL ss vs n))) ∧ Below w.heap.size w w' := by
  go_enter Tryd.func56, Tryd.ntmps56
  go_wp2
  go_loopw [5, 10] (fun v i wr => ∃ k : Nat, k ≤ n ∧ i = .int .i64 k ∧ Hid (OwnB wr w.heap.size v (ofL ss vs k)) ∧ Hid (Below w.heap.size w wr)) (fun _ i _ => n - (intOf i).toNat)
  case atStart => exact ⟨0, Nat.zero_le _, rfl, hide (OwnB.nil _ _), hide (Below.refl _ _)⟩
  case round =>
    rename_i wr
    obtain ⟨k, hk, rfl, HO, HB⟩ := hrel
    by_cases hlt : k < n
    · obtain ⟨b, off, rfl, hc⟩ := (h.below (unhide HB)).at hlt
      have hcell := hc k hlt
      have HS := hide hs
      have HR := hide (h'.below (unhide HB))
      have hlt' : (k : Int) < (n : Int) := by omega
      clear hc h hs h'
      go_wp2_with fail
      refine (getN_any a' m c' vs k _ (unhide HR) hm (by omega)).mono ?_
      rintro e w1 ⟨rfl, hb1⟩
      have HO1 := hide ((unhide HO).below hb1)
      have HB1 := hide (below0 (unhide HB) hb1)
      clear HO HB hb1 HR hcell
      cases hg : getB vs k
      · rw [← ofL_no (ss := ss) hg] at HO1
        go_wp2
        go_roundw
        case rel => exact ⟨k + 1, by omega, by go_num, HO1, HB1⟩
        case measure => simp [intOf]; omega
      · go_wp2_with fail
        refine (add_any _ _ _ w.heap.size _ (unhide HO1) (unhide HB1).size (ofL_len ss vs (unhide HS) k) ((unhide HS).get k)).mono ?_
        rintro e w2 ⟨v2, rfl, ho2, hb2⟩
        rw [← ofL_yes hg] at ho2
        have HO2 := hide ho2
        have HB2 := hide ((unhide HB1).trans hb2)
        clear ho2 hb2 HO1 HB1
        go_wp2
        go_roundw
        case rel => exact ⟨k + 1, by omega, by go_num, HO2, HB2⟩
        case measure => simp [intOf]; omega
    · have hke : k = n := by omega
      subst hke
      have hct := (unhide HO).text
      clear h hs h'
      go_wp2
      go_ret
      exact ⟨rfl, unhide HB⟩

set_option maxHeartbeats 400000 in
theorem rof_any (a : Option Addr) (n c : Nat) (ss : List ByteArray) (a' : Option Addr) (m c' : Nat) (vs : List Nat) (w : World) (h : TextsAt w a n ss) (hs : shorts ss) (hn : n ≤ 1048576) (h' : RowAt w a' m vs) (hm : m ≤ 1048576) :
    Calls Tryd.prog 37 #[.slice a n c, .slice a' m c'] w fun e w' => e = .returned (.string (st (ofL ss vs n))) ∧ Below w.heap.size w w' := by
  go_enter Tryd.func37, Tryd.ntmps37
  go_wp2
  go_loopw [5, 6] (fun v i wr => ∃ k : Nat, ∃ t : ByteArray, k ≤ n ∧ i = .int .i64 k ∧ v = .string t ∧ Hid (t = st (ofL ss vs k)) ∧ Hid (Below w.heap.size w wr)) (fun _ i _ => n - (intOf i).toNat)
  case atStart => exact ⟨0, _, Nat.zero_le _, rfl, rfl, hide rfl, hide (Below.refl _ _)⟩
  case round =>
    rename_i wr
    obtain ⟨k, t, hk, rfl, rfl, HT, HB⟩ := hrel
    by_cases hlt : k < n
    · obtain ⟨b, off, rfl, hc⟩ := (h.below (unhide HB)).at hlt
      have hcell := hc k hlt
      have HS := hide hs
      have HR := hide (h'.below (unhide HB))
      have hlt' : (k : Int) < (n : Int) := by omega
      clear hc h hs h'
      go_wp2_with fail
      refine (rgetN_any a' m c' vs k _ (unhide HR) hm (by omega)).mono ?_
      rintro e w1 ⟨rfl, hw⟩
      obtain rfl := hw.symm
      clear HR
      cases hg : getB vs k
      · rw [← ofL_no (ss := ss) hg] at HT
        go_wp2
        go_roundw
        case rel => exact ⟨k + 1, _, by omega, by go_num, rfl, HT, HB⟩
        case measure => simp [intOf]; omega
      · go_wp2_with fail
        refine (rx_any t _ _ (by rw [unhide HT, st_size (ofL_bytes _ _ _)]; exact ofL_len ss vs (unhide HS) k) ((unhide HS).get k)).mono ?_
        rintro e w2 ⟨rfl, hb2⟩
        have HT1 := hide (show xorS t (ss.getD k ByteArray.empty) = st (ofL ss vs (k + 1)) from by rw [unhide HT, xorS_st (ofL_bytes _ _ _), ofL_yes hg])
        have HB1 := hide (below0 (unhide HB) hb2)
        clear hb2 HT HB hcell
        go_wp2
        go_roundw
        case rel => exact ⟨k + 1, _, by omega, by go_num, rfl, HT1, HB1⟩
        case measure => simp [intOf]; omega
    · have hke : k = n := by omega
      subst hke
      clear h hs h'
      go_wp2
      go_ret
      exact ⟨ret_str (unhide HT), unhide HB⟩

end Go.Proofs.YtcokmaofgfhapaaDoor
