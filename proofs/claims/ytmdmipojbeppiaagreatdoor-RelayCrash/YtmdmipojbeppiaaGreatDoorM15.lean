/-
  Contracts of xor.add, xor.Xor, bucketlineref02.Xor, xor.zero: for every text of at most 2^20 bytes.
  Contracts of xor.Xor, bucketlineref02.Xor, xor.zero, xor.Sum, bucketlineref02.Sum, xor.Of, bucketlineref02.Of: for texts of at most 2^20 bytes and rows of at most 2^20 words.
  Slices of texts ('TextsAt'); contracts of xor.Sum, bucketlineref02.Sum, xor.Of, bucketlineref02.Of, xor.reached: for up to 2^20 texts of at most 2^20 bytes.
  Rows (a slice of words and a text) by value and in slices; contracts of bucketlineref02.Same, xor.Holds, bucketlineref02.Holds.
  Contracts of bucketlineref02.Holds, bucketlinelaw02.few.
  Rows that are true of blocks, by bits and bytes ('HoldsP'); their xor is, too ('holds_all'). No condition.
  Plain mathematics of what a relay emits: of packets that may be ('emitD'): it may be, it is in the span of what was put, it is true of blocks where they are. No condition.
-/
import Derived.Test.YtmdmipojbeppiaaGreatDoorM2
import Derived.BigQuiet
import Derived.Test.YtmdmipojbeppiaaGreatDoorM7
import Derived.Test.YtmdmipojbeppiaaGreatDoorM6
import Derived.Test.YtmdmipojbeppiaaGreatDoorM4
import Derived.Deep.RegionWith
import Derived.Lib.QuietBelow
import Derived.Test.YtmdmipojbeppiaaGreatDoorM3
import Derived.Test.YtmdmipojbeppiaaGreatDoorM14
import Derived.Test.YtmdmipojbeppiaaGreatDoorM9
namespace Go.Proofs.YtmdmipojbeppiaaGreatDoor
open Go.RowKit
set_option linter.unusedVariables false
set_option maxRecDepth 4000

theorem copy_text (w : World) (g : Nat) (t : ByteArray) (cur : Array Value) (e : TypeId) (hg : w.heap[g]? = some (.cells cur e (0, 0))) (hc : cur.size = t.size)
    (B : Nat) (w0 : World) (hb : Below B w0 w) (hBg : B ≤ g) :
    ∃ w', (Builtin.copy_ #[114, 9] 3 #[.slice (some ⟨g, 0, none⟩) t.size t.size, .string t]).run Tryz.prog w = .ok (goInt t.size) w' ∧ OwnB w' B (.slice (some ⟨g, 0, none⟩) t.size t.size) (tx t) ∧ Below B w0 w' := by
  obtain ⟨i0, hi0, hz0, hz1, hz2⟩ := info_parts info_u8
  refine ⟨_, run_copy_text_of w 114 9 3 5 g t.size t.size t cur e Tryz.underlying114 (by rw [hi0]; simp [hz1]) hg hc rfl, ⟨tx_bytes t, .inr ⟨g, t.size, by rw [tx_length], hBg, ?_, fun i hi => ?_, fun i hi => ?_⟩⟩, ?_⟩
  · simpa using (Array.getElem?_eq_some_iff.1 hg).1
  · rw [cell_setRow_same w g i _ _ _ _ hg]
    have hi' : i < t.size := by rwa [tx_length] at hi
    rw [← tx_get t i hi']
    have : i < t.data.size := hi'
    simp only [Array.getElem?_map, Array.getElem?_eq_getElem this]
    rfl
  · simp [World.frozen?, setRow_heap w g _ _ _ _ hg]
  · exact hb.trans ⟨rfl, rfl, rfl, by simp, fun k hk => setRow_other w g k _ (by omega)⟩

set_option maxHeartbeats 1000000 in
theorem add_any (v : Value) (xs : List Nat) (s : ByteArray) (B : Nat) (w : World) (h : OwnB w B v xs) (hB : B ≤ w.heap.size) (hn : xs.length ≤ 1048576) (hm : s.size ≤ 1048576) :
    Calls Tryz.prog 102 #[v, .string s] w fun e w' => ∃ v', e = .returned v' ∧ OwnB w' B v' (xorL xs (tx s)) ∧ Below B w w' := by
  obtain ⟨va, vc, rfl⟩ := h.slice
  have hts := tx_length s
  by_cases hle : s.size ≤ xs.length
  · have hle' : decide ((s.size : Int) ≤ (xs.length : Int)) = true := by simp; omega
    go_enter Tryz.func102, Tryz.ntmps102
    go_wp2
    go_loopw [16] (fun i wr => ∃ k : Nat, k ≤ s.size ∧ i = .int .i64 k ∧ Hid (OwnB wr B (.slice va xs.length vc) (xorTo xs (tx s) k)) ∧ Hid (Below B w wr)) (fun i _ => s.size - (intOf i).toNat)
    case atStart => exact ⟨0, Nat.zero_le _, rfl, hide (by rw [xorTo_zero]; exact h), hide (Below.refl _ _)⟩
    case round =>
      obtain ⟨k, hk, rfl, HO, HB⟩ := hrel
      by_cases hlt : k < s.size
      · have hkn : k < xs.length := by omega
        have hkn' : (k : Int) < (xs.length : Int) := by omega
        have hlt' : (k : Int) < (s.size : Int) := by omega
        obtain ⟨g, cap, hv, hBg, hgs, hcg, hfg⟩ := (unhide HO).at (by rw [xorTo_length]; omega)
        rw [xorTo_length] at hv
        simp only [Value.slice.injEq, true_and] at hv
        obtain ⟨rfl, rfl⟩ := hv
        have hcell := hcg k (by rw [xorTo_length]; omega)
        have hfz := hfg k (by rw [xorTo_length]; omega)
        rw [xorTo_getD xs (tx s) k k (by omega), if_neg (by omega)] at hcell
        have hxo := u8_xor_nat (xs.getD k 0) s[k].toNat (h.1.get k) s[k].toNat_lt
        have R := hide (xb_roundd (z := xs.getD k 0 ^^^ s[k].toNat) h.1 (tx_bytes s) (by omega) hBg (unhide HO) (unhide HB) (by rw [tx_get s k hlt]))
        generalize xs.getD k 0 = x at *
        clear hcg hfg h HO hle hle'
        go_wp2
        go_region
        all_goals go_wp2
        go_roundw
        case rel => exact ⟨k + 1, by omega, by go_num, hide (unhide R).1, hide (unhide R).2⟩
        case measure => simp [intOf]; omega
      · have hke : k = (tx s).length := by omega
        rw [hke, xorTo_all xs (tx s) (by omega)] at HO
        clear h
        go_wp2
        go_ret
        exact ⟨_, rfl, unhide HO, unhide HB⟩
  · have hle' : decide ((s.size : Int) ≤ (xs.length : Int)) = false := by simp; omega
    obtain ⟨i0, hi0, hz0, hz1, hz2⟩ := info_parts info_u8
    have hrun := run_make (P := Tryz.prog) w 114 5 i0 (.int .u8 0) Tryz.underlying114 hi0 hz0 .i64 .i64 (s.size : Int) (s.size : Int) (by omega) (by omega) (by rw [hz2]; omega) (by omega)
    simp only [Int.toNat_natCast] at hrun
    have hgw : (w.alloc (.cells (madeCells (Value.int .u8 0).cells (s.size * i0.size)) 5)).heap[w.heap.size]? = some (.cells (madeCells (Value.int .u8 0).cells (s.size * i0.size)) 5 (0, 0)) := by
      show (w.heap.push _)[w.heap.size]? = _
      simp
    have hcs : (madeCells (Value.int .u8 0).cells (s.size * i0.size)).size = s.size := by rw [size_madeCells, hz1, Nat.mul_one]
    have hbw : Below w.heap.size w (w.alloc (.cells (madeCells (Value.int .u8 0).cells (s.size * i0.size)) 5)) := (Below.refl _ _).alloc (Nat.le_refl _) _
    generalize madeCells (Value.int .u8 0).cells (s.size * i0.size) = cur at *
    generalize w.alloc (.cells cur 5) = wm at *
    obtain ⟨w1, hcp, ho, hb⟩ := copy_text wm w.heap.size s cur 5 hgw hcs w.heap.size w hbw (Nat.le_refl _)
    have HO1 := hide ho
    have HB1 := hide hb
    clear ho hb hgw hcs hbw
    go_enter Tryz.func102, Tryz.ntmps102
    go_wp2
    go_loopw [38] (fun i wr => ∃ k : Nat, k ≤ xs.length ∧ i = .int .i64 k ∧ Hid (OwnB wr w.heap.size (.slice (some ⟨w.heap.size, 0, none⟩) s.size s.size) (xorTo (tx s) xs k)) ∧ Hid (Below w.heap.size w wr)) (fun i _ => xs.length - (intOf i).toNat)
    case atStart => exact ⟨0, Nat.zero_le _, rfl, hide (by rw [xorTo_zero]; exact unhide HO1), HB1⟩
    case round =>
      obtain ⟨k, hk, rfl, HO, HB⟩ := hrel
      clear HO1 HB1 hcp hrun
      by_cases hlt : k < xs.length
      · have hkn : k < s.size := by omega
        have hkn' : (k : Int) < (s.size : Int) := by omega
        have hlt' : (k : Int) < (xs.length : Int) := by omega
        obtain ⟨g', cap', hv', _, _, hcg', _⟩ := (h.below (unhide HB)).at (by omega)
        simp only [Value.slice.injEq, true_and] at hv'
        obtain ⟨rfl, rfl⟩ := hv'
        have hcell' := hcg' k hlt
        obtain ⟨g, cap, hv, hBg, hgs, hcg, hfg⟩ := (unhide HO).at (by rw [xorTo_length]; omega)
        rw [xorTo_length, hts] at hv
        simp only [Value.slice.injEq, Option.some.injEq, Addr.mk.injEq, and_true, true_and] at hv
        obtain ⟨rfl, rfl⟩ := hv
        have hcell := hcg k (by rw [xorTo_length]; omega)
        have hfz := hfg k (by rw [xorTo_length]; omega)
        rw [xorTo_getD (tx s) xs k k (by omega), if_neg (by omega)] at hcell
        have hxo := u8_xor_nat ((tx s).getD k 0) (xs.getD k 0) ((tx_bytes s).get k) (h.1.get k)
        rw [← hts] at HO
        have R := hide (xb_round (tx_bytes s) h.1 (by omega) hBg (unhide HO) (unhide HB) rfl)
        rw [hts] at R
        generalize (tx s).getD k 0 = x at *
        generalize xs.getD k 0 = y at *
        clear hcg hfg hcg' h HO hle hle'
        go_wp2
        go_roundw
        case rel => exact ⟨k + 1, by omega, by go_num, hide (unhide R).1, hide (unhide R).2⟩
        case measure => simp [intOf]; omega
      · have hke : k = xs.length := by omega
        rw [hke, xorTo_all (tx s) xs (by omega), xorL_comm] at HO
        clear h
        go_wp2
        go_ret
        exact ⟨_, rfl, (unhide HO).mono hB, (unhide HB).mono hB⟩
end Go.Proofs.YtmdmipojbeppiaaGreatDoor
namespace Go.Proofs.YtmdmipojbeppiaaGreatDoor
open Go.RowKit
set_option linter.unusedVariables false
set_option maxRecDepth 4000


theorem rx_swap (a b : ByteArray) : xorS a b = xorS b a := by unfold xorS; rw [xorL_comm]

set_option maxHeartbeats 1000000 in
theorem rx_any (a b : ByteArray) (w : World) (hn : a.size ≤ 1048576) (hm : b.size ≤ 1048576) :
    Calls Tryz.prog 49 #[.string a, .string b] w fun e w' => e = .returned (.string (xorS a b)) ∧ Below w.heap.size w w' := by
  by_cases hsw : a.size < b.size
  · have hge : decide ((a.size : Int) < (b.size : Int)) = true := by simp; omega
    obtain ⟨w1, cap, hcv, ho, hb⟩ := bytes_text w b
    have HO1 := hide ho
    have HB1 := hide hb
    clear ho hb
    have hta := tx_length a
    have htb := tx_length b
    go_enter Tryz.func49, Tryz.ntmps49
    go_wp2
    go_loopw [6] (fun i wr => ∃ k : Nat, k ≤ a.size ∧ i = .int .i64 k ∧ Hid (OwnB wr w.heap.size (.slice (some ⟨w.heap.size, 0, none⟩) b.size cap) (xorTo (tx b) (tx a) k)) ∧ Hid (Below w.heap.size w wr)) (fun i _ => a.size - (intOf i).toNat)
    case atStart => exact ⟨0, Nat.zero_le _, rfl, hide (by rw [xorTo_zero]; exact unhide HO1), HB1⟩
    case round =>
      obtain ⟨k, hk, rfl, HO, HB⟩ := hrel
      clear HO1 HB1 hcv
      by_cases hlt : k < a.size
      · have hkn : k < b.size := by omega
        have hkn' : (k : Int) < (b.size : Int) := by omega
        have hlt' : (k : Int) < (a.size : Int) := by omega
        obtain ⟨g, cap', hv, hBg, hgs, hcg, hfg⟩ := (unhide HO).at (by rw [xorTo_length]; omega)
        rw [xorTo_length, htb] at hv
        simp only [Value.slice.injEq, Option.some.injEq, Addr.mk.injEq, and_true, true_and] at hv
        obtain ⟨rfl, rfl⟩ := hv
        have hcell := hcg k (by rw [xorTo_length]; omega)
        have hfz := hfg k (by rw [xorTo_length]; omega)
        rw [xorTo_getD (tx b) (tx a) k k (by omega), if_neg (by omega)] at hcell
        have hxo := u8_xor_nat ((tx b).getD k 0) a[k].toNat ((tx_bytes b).get k) a[k].toNat_lt
        rw [← htb] at HO
        have R := hide (xb_roundd (z := (tx b).getD k 0 ^^^ a[k].toNat) (tx_bytes b) (tx_bytes a) (by omega) hBg (unhide HO) (unhide HB) (by rw [tx_get a k hlt]))
        rw [htb] at R
        generalize (tx b).getD k 0 = x at *
        clear hcg hfg HO hge hsw
        go_wp2
        go_region
        all_goals go_wp2
        go_roundw
        case rel => exact ⟨k + 1, by omega, by go_num, hide (unhide R).1, hide (unhide R).2⟩
        case measure => simp [intOf]; omega
      · have hke : k = (tx a).length := by omega
        rw [hke, xorTo_all (tx b) (tx a) (by omega)] at HO
        have hct := (unhide HO).text
        go_wp2
        go_ret
        exact ⟨ret_str (by unfold xorS; rw [xorL_comm]), unhide HB⟩
  · have hge : decide ((a.size : Int) < (b.size : Int)) = false := by simp; omega
    obtain ⟨w1, cap, hcv, ho, hb⟩ := bytes_text w a
    have HO1 := hide ho
    have HB1 := hide hb
    clear ho hb
    have hta := tx_length a
    have htb := tx_length b
    go_enter Tryz.func49, Tryz.ntmps49
    go_wp2
    go_loopw [6] (fun i wr => ∃ k : Nat, k ≤ b.size ∧ i = .int .i64 k ∧ Hid (OwnB wr w.heap.size (.slice (some ⟨w.heap.size, 0, none⟩) a.size cap) (xorTo (tx a) (tx b) k)) ∧ Hid (Below w.heap.size w wr)) (fun i _ => b.size - (intOf i).toNat)
    case atStart => exact ⟨0, Nat.zero_le _, rfl, hide (by rw [xorTo_zero]; exact unhide HO1), HB1⟩
    case round =>
      obtain ⟨k, hk, rfl, HO, HB⟩ := hrel
      clear HO1 HB1 hcv
      by_cases hlt : k < b.size
      · have hkn : k < a.size := by omega
        have hkn' : (k : Int) < (a.size : Int) := by omega
        have hlt' : (k : Int) < (b.size : Int) := by omega
        obtain ⟨g, cap', hv, hBg, hgs, hcg, hfg⟩ := (unhide HO).at (by rw [xorTo_length]; omega)
        rw [xorTo_length, hta] at hv
        simp only [Value.slice.injEq, Option.some.injEq, Addr.mk.injEq, and_true, true_and] at hv
        obtain ⟨rfl, rfl⟩ := hv
        have hcell := hcg k (by rw [xorTo_length]; omega)
        have hfz := hfg k (by rw [xorTo_length]; omega)
        rw [xorTo_getD (tx a) (tx b) k k (by omega), if_neg (by omega)] at hcell
        have hxo := u8_xor_nat ((tx a).getD k 0) b[k].toNat ((tx_bytes a).get k) b[k].toNat_lt
        rw [← hta] at HO
        have R := hide (xb_roundd (z := (tx a).getD k 0 ^^^ b[k].toNat) (tx_bytes a) (tx_bytes b) (by omega) hBg (unhide HO) (unhide HB) (by rw [tx_get b k hlt]))
        rw [hta] at R
        generalize (tx a).getD k 0 = x at *
        clear hcg hfg HO hge hsw
        go_wp2
        go_region
        all_goals go_wp2
        go_roundw
        case rel => exact ⟨k + 1, by omega, by go_num, hide (unhide R).1, hide (unhide R).2⟩
        case measure => simp [intOf]; omega
      · have hke : k = (tx b).length := by omega
        rw [hke, xorTo_all (tx a) (tx b) (by omega)] at HO
        have hct := (unhide HO).text
        go_wp2
        go_ret
        exact ⟨rfl, unhide HB⟩

/-- No byte but 0. -/
def zeroB (s : ByteArray) : Bool := (tx s).all fun x => x == 0
theorem zeroB_iff (s : ByteArray) : zeroB s = true ↔ ∀ i, (tx s).getD i 0 = 0 := by
  rw [← all_zero_iff]; simp [zeroB]
theorem zeroS_step {s : ByteArray} {k : Nat} (h : ∀ j, j < k → (tx s).getD j 0 = 0) (h0 : (tx s).getD k 0 = 0) : ∀ j, j < k + 1 → (tx s).getD j 0 = 0 := by
  intro j hj
  by_cases e : j = k
  · rw [e]; exact h0
  · exact h j (by omega)
end Go.Proofs.YtmdmipojbeppiaaGreatDoor
namespace Go.Proofs.YtmdmipojbeppiaaGreatDoor
open Go.RowKit
set_option linter.unusedVariables false
set_option maxRecDepth 4000

/-- The xor of all. -/
def sumL (ss : List ByteArray) : List Nat := ss.foldl (fun a s => xorL a (tx s)) []
theorem sumL_take (ss : List ByteArray) (k : Nat) (h : k < ss.length) : sumL (ss.take (k + 1)) = xorL (sumL (ss.take k)) (tx (ss.getD k ByteArray.empty)) := by
  unfold sumL
  rw [List.take_succ_eq_append_getElem h, List.foldl_append]
  simp [List.getD_eq_getElem?_getD, List.getElem?_eq_getElem h]
theorem foldl_bytes (ss : List ByteArray) : ∀ a, bytes a → bytes (ss.foldl (fun a s => xorL a (tx s)) a) := by
  induction ss with
  | nil => exact fun a h => h
  | cons s ss ih => exact fun a h => ih _ (xorL_bytes h (tx_bytes s))
theorem sumL_bytes (ss : List ByteArray) : bytes (sumL ss) := foldl_bytes ss [] bytes_nil
theorem foldl_len (ss : List ByteArray) (hs : shorts ss) : ∀ a : List Nat, a.length ≤ 1048576 → (ss.foldl (fun a s => xorL a (tx s)) a).length ≤ 1048576 := by
  induction ss with
  | nil => exact fun a h => h
  | cons s ss ih =>
    intro a h
    refine ih (fun s hs' => hs s (List.mem_cons_of_mem _ hs')) _ ?_
    rw [xorL_length, tx_length]
    have := hs s List.mem_cons_self
    omega
theorem sumL_len (ss : List ByteArray) (hs : shorts ss) (k : Nat) : (sumL (ss.take k)).length ≤ 1048576 := foldl_len _ (fun s h => hs s (List.mem_of_mem_take h)) [] (by simp)
theorem st_size {xs : List Nat} (h : bytes xs) : (st xs).size = xs.length := by rw [← tx_length, tx_st h]
theorem xorS_st {xs : List Nat} (h : bytes xs) (s : ByteArray) : xorS (st xs) s = st (xorL xs (tx s)) := by unfold xorS; rw [tx_st h]

set_option maxHeartbeats 400000 in
theorem sum_any (a : Option Addr) (n c : Nat) (ss : List ByteArray) (w : World) (h : TextsAt w a n ss) (hs : shorts ss) (hn : n ≤ 1048576) :
    Calls Tryz.prog 88 #[.slice a n c] w fun e w' => e = .returned (.string (st (sumL ss))) ∧ Below w.heap.size w w' := by
  go_enter Tryz.func88, Tryz.ntmps88
  go_wp2
  go_loopw [3, 8] (fun v i wr => ∃ k : Nat, k ≤ n ∧ i = .int .i64 k ∧ Hid (OwnB wr w.heap.size v (sumL (ss.take k))) ∧ Hid (Below w.heap.size w wr)) (fun _ i _ => n - (intOf i).toNat)
  case atStart => exact ⟨0, Nat.zero_le _, rfl, hide (OwnB.nil _ _), hide (Below.refl _ _)⟩
  case round =>
    rename_i wr
    obtain ⟨k, hk, rfl, HO, HB⟩ := hrel
    by_cases hlt : k < n
    · obtain ⟨b, off, rfl, hc⟩ := (h.below (unhide HB)).at hlt
      have hcell := hc k hlt
      have H := hide h
      have HS := hide hs
      have hlt' : (k : Int) < (n : Int) := by omega
      clear hc h hs
      go_wp2_with fail
      refine (add_any _ _ _ w.heap.size _ (unhide HO) (unhide HB).size (sumL_len ss (unhide HS) k) ((unhide HS).get k)).mono ?_
      rintro e w1 ⟨v1, rfl, ho1, hb1⟩
      rw [← sumL_take ss k (by rw [(unhide H).1]; exact hlt)] at ho1
      have HO1 := hide ho1
      have HB1 := hide ((unhide HB).trans hb1)
      clear ho1 hb1 HO HB hcell
      go_wp2
      go_roundw
      case rel => exact ⟨k + 1, by omega, by go_num, HO1, HB1⟩
      case measure => simp [intOf]; omega
    · have hct := (unhide HO).text
      have he : ss.take k = ss := List.take_of_length_le (by rw [h.1]; omega)
      rw [he] at hct
      clear h hs he
      go_wp2
      go_ret
      exact ⟨rfl, unhide HB⟩


/-- The xor of the blocks whose bits are set, of the first k. -/
def ofL (ss : List ByteArray) (vs : List Nat) : Nat → List Nat
  | 0 => []
  | k + 1 => if getB vs k then xorL (ofL ss vs k) (tx (ss.getD k ByteArray.empty)) else ofL ss vs k
theorem ofL_bytes (ss : List ByteArray) (vs : List Nat) : ∀ k, bytes (ofL ss vs k)
  | 0 => bytes_nil
  | k + 1 => by
    unfold ofL
    split
    · exact xorL_bytes (ofL_bytes ss vs k) (tx_bytes _)
    · exact ofL_bytes ss vs k
theorem ofL_len (ss : List ByteArray) (vs : List Nat) (hs : shorts ss) : ∀ k, (ofL ss vs k).length ≤ 1048576
  | 0 => by simp [ofL]
  | k + 1 => by
    unfold ofL
    have := ofL_len ss vs hs k
    split
    · rw [xorL_length, tx_length]; have := hs.get k; omega
    · exact this
theorem ofL_yes {ss : List ByteArray} {vs : List Nat} {k : Nat} (h : getB vs k = true) : ofL ss vs (k + 1) = xorL (ofL ss vs k) (tx (ss.getD k ByteArray.empty)) := by simp [ofL, h]
theorem ofL_no {ss : List ByteArray} {vs : List Nat} {k : Nat} (h : getB vs k = false) : ofL ss vs (k + 1) = ofL ss vs k := by simp [ofL, h]


set_option maxHeartbeats 400000 in
theorem rof_any (a : Option Addr) (n c : Nat) (ss : List ByteArray) (a' : Option Addr) (m c' : Nat) (vs : List Nat) (w : World) (h : TextsAt w a n ss) (hs : shorts ss) (hn : n ≤ 1048576) (h' : RowAt w a' m vs) (hm : m ≤ 1048576) :
    Calls Tryz.prog 50 #[.slice a n c, .slice a' m c'] w fun e w' => e = .returned (.string (st (ofL ss vs n))) ∧ Below w.heap.size w w' := by
  go_enter Tryz.func50, Tryz.ntmps50
  go_wp2
  go_loopw [5, 6] (fun v i wr => ∃ k : Nat, ∃ t : ByteArray, k ≤ n ∧ i = .int .i64 k ∧ v = .string t ∧ Hid (t = st (ofL ss vs k)) ∧ Hid (Below w.heap.size w wr)) (fun _ i _ => n - (intOf i).toNat)
  case atStart => exact ⟨0, _, Nat.zero_le _, rfl, rfl, hide rfl, hide (Below.refl _ _)⟩
  case round =>
    rename_i wr
    obtain ⟨k, t, hk, rfl, rfl, HT, HB⟩ := hrel
    by_cases hlt : k < n
    · obtain ⟨b, off, rfl, hc⟩ := (h.below (unhide HB)).at hlt
      have hcell := hc k hlt
      have HS := hide hs
      have HR := hide (h'.below (unhide HB))
      have hlt' : (k : Int) < (n : Int) := by omega
      clear hc h hs h'
      go_wp2_with fail
      refine (rgetN_any a' m c' vs k _ (unhide HR) hm (by omega)).mono ?_
      rintro e w1 ⟨rfl, hw⟩
      obtain rfl := hw.symm
      clear HR
      cases hg : getB vs k
      · rw [← ofL_no (ss := ss) hg] at HT
        go_wp2
        go_roundw
        case rel => exact ⟨k + 1, _, by omega, by go_num, rfl, HT, HB⟩
        case measure => simp [intOf]; omega
      · go_wp2_with fail
        refine (rx_any t _ _ (by rw [unhide HT, st_size (ofL_bytes _ _ _)]; exact ofL_len ss vs (unhide HS) k) ((unhide HS).get k)).mono ?_
        rintro e w2 ⟨rfl, hb2⟩
        have HT1 := hide (show xorS t (ss.getD k ByteArray.empty) = st (ofL ss vs (k + 1)) from by rw [unhide HT, xorS_st (ofL_bytes _ _ _), ofL_yes hg])
        have HB1 := hide (below0 (unhide HB) hb2)
        clear hb2 HT HB hcell
        go_wp2
        go_roundw
        case rel => exact ⟨k + 1, _, by omega, by go_num, rfl, HT1, HB1⟩
        case measure => simp [intOf]; omega
    · have hke : k = n := by omega
      subst hke
      clear h hs h'
      go_wp2
      go_ret
      exact ⟨ret_str (unhide HT), unhide HB⟩

end Go.Proofs.YtmdmipojbeppiaaGreatDoor
namespace Go.Proofs.YtmdmipojbeppiaaGreatDoor
open Go.RowKit Go.Sort
set_option linter.unusedVariables false
set_option maxRecDepth 4000

theorem TextsAt.alloc {w : World} {a : Option Addr} {n : Nat} {ss : List ByteArray} (h : TextsAt w a n ss) (o : Obj) : TextsAt (w.alloc o) a n ss := h.below ((Below.refl _ _).alloc (Nat.le_refl _) _)

theorem holds_yes {vs : List Nat} {n : Nat} : (((upTo vs n : Nat) : Int) == ((cnt vs : Nat) : Int)) = decide (upTo vs n = cnt vs) := by
  by_cases h : upTo vs n = cnt vs
  · simp [h]
  · simp [h]; omega
/-- What xor.Holds tells. -/
def holdsB (ss : List ByteArray) (vs : List Nat) (s : ByteArray) : Bool := zeroB (xorS (st (ofL ss vs ss.length)) s) && decide (upTo vs ss.length = cnt vs)

end Go.Proofs.YtmdmipojbeppiaaGreatDoor
namespace Go.Proofs.YtmdmipojbeppiaaGreatDoor
open Go.RowKit Go.Sort
set_option linter.unusedVariables false
set_option maxRecDepth 4000

theorem holdsB_iff (ss : List ByteArray) (vs : List Nat) (s : ByteArray) : holdsB ss vs s = true ↔ zeroB (xorS (st (ofL ss vs ss.length)) s) = true ∧ ∀ i, ss.length ≤ i → getB vs i = false := by
  unfold holdsB
  rw [Bool.and_eq_true, decide_eq_true_eq, upTo_cnt]
theorem holdsB_bit {ss : List ByteArray} {vs : List Nat} {s : ByteArray} {k : Nat} (hk : ss.length ≤ k) (hg : getB vs k = true) : holdsB ss vs s = false := by
  rw [← Bool.not_eq_true, holdsB_iff]
  intro h
  rw [h.2 k hk] at hg
  cases hg
theorem holdsB_byte {ss : List ByteArray} {vs : List Nat} {s : ByteArray} (hg : zeroB (xorS (st (ofL ss vs ss.length)) s) = false) : holdsB ss vs s = false := by
  unfold holdsB
  rw [hg]; rfl

set_option maxHeartbeats 1000000 in
theorem rholds_any (a : Option Addr) (n c : Nat) (ss : List ByteArray) (a' : Option Addr) (m c' : Nat) (vs : List Nat) (s : ByteArray) (w : World) (h : TextsAt w a n ss) (hs : shorts ss) (hn : n ≤ 1048576) (h' : RowAt w a' m vs) (hm : m ≤ 1048576) (hz : s.size ≤ 1048576) :
    Calls Tryz.prog 28 #[.slice a n c, .agg #[.slice a' m c', .string s]] w fun e w' => e = .returned (.bool (holdsB ss vs s)) ∧ Below w.heap.size w w' := by
  obtain rfl := h.1
  have hx := box_new w (.slice a' m c') (.string s)
  have h0 := h.alloc (.cells #[.slice a' m c', .string s] 40)
  have r0 := row_alloc h' (.cells #[.slice a' m c', .string s] 40)
  have b0 := (Below.refl _ w).alloc (Nat.le_refl _) (.cells #[.slice a' m c', .string s] 40)
  have hsz : (st (ofL ss vs ss.length)).size ≤ 1048576 := by rw [st_size (ofL_bytes _ _ _)]; exact ofL_len ss vs hs _
  have hsz2 : (xorS (st (ofL ss vs ss.length)) s).size ≤ 1048576 := by rw [xorS_size]; omega
  have k0 := hide (cell_regrown hx.1)
  have k1 := hide (cell_regrown hx.2)
  have cOf := hide (quietB (fun w' hb => rof_any a _ c ss a' m c' vs w' (h0.below hb) hs hn (r0.below hb) hm))
  have cXor := hide (quietB (W := w.alloc (.cells #[.slice a' m c', .string s] 40)) (fun w' hb => rx_any (st (ofL ss vs ss.length)) s w' hsz hz))
  have B0 := hide b0
  have R0 := hide r0
  have hml : Hid (vs.length = m) := hide h'.1
  clear h hs h' h0 r0 b0 hx hsz
  go_enter Tryz.func28, Tryz.ntmps28
  go_wp2
  go_loop [5] (fun i => ∃ k : Nat, ss.length ≤ k ∧ k ≤ 67108864 ∧ i = .int .i64 k ∧ Hid (∀ j, ss.length ≤ j → j < k → getB vs j = false)) (fun i => 64 * m - (intOf i).toNat)
  case atStart => exact ⟨ss.length, Nat.le_refl _, by omega, rfl, hide (fun j h1 h2 => by omega)⟩
  case round =>
    obtain ⟨k, hk, hkm, rfl, HZ⟩ := hrel
    by_cases hlt : k < 64 * m
    · have hlt' : decide ((k : Int) < 64 * (m : Int)) = true := by simp; omega
      go_wp2_with fail
      refine (rgetN_any a' m c' vs k _ (unhide R0) hm (by omega)).mono ?_
      rintro e w1 ⟨rfl, hw⟩
      subst hw
      cases hg : getB vs k
      · have HS := hide (show ∀ j, ss.length ≤ j → j < k + 1 → getB vs j = false from fun j h1 h2 => by
          by_cases e : j = k
          · rw [e]; exact hg
          · exact unhide HZ j h1 (by omega))
        clear hg HZ
        go_wp2
        go_round
        case rel => exact ⟨k + 1, by omega, by omega, by go_num, HS⟩
        case measure => simp [intOf]; omega
      · have HE := hide (holdsB_bit (s := s) hk hg)
        clear hg HZ
        go_wp2
        go_ret
        exact ⟨ret_bool (unhide HE).symm, unhide B0⟩
    · have hlt' : decide ((k : Int) < 64 * (m : Int)) = false := by simp; omega
      have HA := hide (show ∀ j, ss.length ≤ j → getB vs j = false from fun j h1 => by
        by_cases e : j < k
        · exact unhide HZ j h1 e
        · exact getB_out vs j (by rw [unhide hml]; omega))
      clear HZ
      go_wp2_with fail
      have k0 := unhide k0
      have k1 := unhide k1
      have cOf := unhide cOf
      have cXor := unhide cXor
      refine wp_region_quiet_below (by kernel_rfl) (by kernel_rfl) ?_
      repeat (with_reducible refine wpQuiet_step (fun K hK => ?_); go_simp; first | (with_reducible refine hK _ ?_; clear hK K) | (apply Exists.intro; apply And.intro; (intro _; first | (go_at_call 50; exact cOf _ _) | (go_at_call 49; exact cXor _ _)); with_reducible refine hK _ ?_; clear hK K))
      refine wpQuiet_nil ?_
      intro _ hw'
      obtain ⟨⟨dq, osq⟩, hw''⟩ := hw'
      subst hw''
      have B1 := hide (below0 (unhide B0) (below_regrown _ dq osq))
      have HE : Hid (∀ z, zeroB (xorS (st (ofL ss vs ss.length)) s) = z → holdsB ss vs s = z) := hide (fun z hz => by
        cases z with
        | false => exact holdsB_byte hz
        | true => exact (holdsB_iff ss vs s).2 ⟨hz, unhide HA⟩)
      generalize grow _ _ = wq at *
      generalize xorS (st (ofL ss vs ss.length)) s = x at *
      clear HA k0 k1 cOf cXor hlt hlt'
      go_wp2
      go_loop [7] (fun i => ∃ k : Nat, k ≤ x.size ∧ i = .int .i64 k ∧ Hid (∀ j, j < k → (tx x).getD j 0 = 0)) (fun i => x.size - (intOf i).toNat)
      case atStart => exact ⟨0, Nat.zero_le _, rfl, hide (fun j hj => by omega)⟩
      case round =>
        obtain ⟨k, hk, rfl, HZ⟩ := hrel
        by_cases hlt : k < x.size
        · have hlt' : (k : Int) < (x.size : Int) := by omega
          have hg := tx_get x k hlt
          by_cases h0 : x[k].toNat = 0
          · have hne : (((x[k].toNat : Nat) : Int) != 0) = false := by rw [h0]; rfl
            have HS := hide (zeroS_step (unhide HZ) (by rw [← hg]; exact h0))
            clear hg h0 HZ
            go_wp2
            go_round
            case rel => exact ⟨k + 1, by omega, by go_num, HS⟩
            case measure => simp [intOf]; omega
          · have hne : (((x[k].toNat : Nat) : Int) != 0) = true := by rw [bne_iff_ne]; omega
            have HF := hide (unhide HE false (show zeroB x = false from by
              rw [← Bool.not_eq_true]
              intro h
              exact h0 (by rw [hg]; exact (zeroB_iff x).1 h k)))
            clear hg h0 HZ
            go_wp2
            go_ret
            exact ⟨ret_bool (unhide HF).symm, unhide B1⟩
        · have HF := hide (unhide HE true (show zeroB x = true from by
            rw [zeroB_iff]
            intro i
            by_cases hi : i < k
            · exact unhide HZ i hi
            · exact getD_of_le (by rw [tx_length]; omega)))
          go_wp2
          go_ret
          exact ⟨ret_bool (unhide HF).symm, unhide B1⟩

/-- Texts that are not too many nor too long. -/
def FewT (ss : List ByteArray) : Prop := ss.length ≤ 300 ∧ ∀ i, (ss.getD i ByteArray.empty).size ≤ 1000
theorem FewT.shorts {ss : List ByteArray} (h : FewT ss) : shorts ss := by
  intro s hs
  obtain ⟨i, hi, rfl⟩ := List.mem_iff_getElem.1 hs
  have := h.2 i
  rw [List.getD_eq_getElem?_getD, List.getElem?_eq_getElem hi] at this
  simp at this
  omega
/-- What few tells, behind a name. -/
def RetP (e : Ending) (P : Prop) : Prop := ∃ b : Bool, e = .returned (.bool b) ∧ (b = true ↔ P)
end Go.Proofs.YtmdmipojbeppiaaGreatDoor
namespace Go.Proofs.YtmdmipojbeppiaaGreatDoor
open Go.RowKit Go.Sort
set_option linter.unusedVariables false
set_option maxRecDepth 4000

/-- A row that is true of blocks, by bits and bytes. -/
def HoldsP (ss : List ByteArray) (vs : List Nat) (xs : List Nat) : Prop := (∀ i, (ofL ss vs ss.length).getD i 0 = xs.getD i 0) ∧ ∀ i, ss.length ≤ i → getB vs i = false
theorem xor_zero_iff (x y : Nat) : x ^^^ y = 0 ↔ x = y := by
  constructor
  · intro h
    have h2 : (x ^^^ y) ^^^ y = x := by rw [Nat.xor_assoc, Nat.xor_self, Nat.xor_zero]
    rw [h, Nat.zero_xor] at h2
    exact h2.symm
  · intro h; rw [h, Nat.xor_self]
theorem holds_iff (ss : List ByteArray) (vs : List Nat) (s : ByteArray) : holdsB ss vs s = true ↔ HoldsP ss vs (tx s) := by
  rw [holdsB_iff, zeroB_iff, tx_xorS, tx_st (ofL_bytes _ _ _)]
  unfold HoldsP
  refine and_congr_left fun _ => forall_congr' fun i => ?_
  rw [xorL_getD]
  exact xor_zero_iff _ _
theorem ofL_xor (ss : List ByteArray) (u v : List Nat) (i : Nat) : ∀ k, (ofL ss (xorL u v) k).getD i 0 = (ofL ss u k).getD i 0 ^^^ (ofL ss v k).getD i 0
  | 0 => by simp [ofL]
  | k + 1 => by
    have ih := ofL_xor ss u v i k
    have hx := getB_xorL u v k
    unfold ofL
    rw [hx]
    cases getB u k <;> cases getB v k
    · simpa using ih
    · simp only [Bool.false_xor, if_true, xorL_getD, ih, Bool.false_eq_true, if_false]
      rw [Nat.xor_assoc]
    · simp only [Bool.xor_false, if_true, xorL_getD, ih, Bool.false_eq_true, if_false]
      rw [Nat.xor_assoc, Nat.xor_comm ((ofL ss v k).getD i 0), ← Nat.xor_assoc]
    · simp only [Bool.xor_self, if_true, xorL_getD, ih, Bool.false_eq_true, if_false]
      generalize (ofL ss u k).getD i 0 = x
      generalize (ofL ss v k).getD i 0 = y
      generalize (tx (ss.getD k ByteArray.empty)).getD i 0 = z
      rw [Nat.xor_assoc x z, ← Nat.xor_assoc z y, Nat.xor_comm z y, Nat.xor_assoc y z z, Nat.xor_self, Nat.xor_zero]
theorem HoldsP.nil (ss : List ByteArray) : HoldsP ss [] [] := by
  refine ⟨fun i => ?_, fun i _ => getB_nil i⟩
  have : ∀ k, ofL ss [] k = [] := fun k => by
    induction k with
    | zero => rfl
    | succ k ih => unfold ofL; rw [getB_nil]; simpa using ih
  rw [this]
theorem HoldsP.xor {ss : List ByteArray} {u v xs ys : List Nat} (h : HoldsP ss u xs) (h' : HoldsP ss v ys) : HoldsP ss (xorL u v) (xorL xs ys) := by
  refine ⟨fun i => ?_, fun i hi => ?_⟩
  · rw [ofL_xor, xorL_getD, h.1 i, h'.1 i]
  · rw [getB_xorL, h.2 i hi, h'.2 i hi]; rfl
theorem HoldsP.all (ss : List ByteArray) (rs : List RV) (h : ∀ r ∈ rs, HoldsP ss r.xs (tx r.s)) : ∀ u xs, HoldsP ss u xs → HoldsP ss (rs.foldl (fun a r => xorL a r.xs) u) ((rs.map fun r => r.s).foldl (fun a s => xorL a (tx s)) xs) := by
  induction rs with
  | nil => exact fun u xs hu => hu
  | cons r rs ih => exact fun u xs hu => ih (fun r hr => h r (List.mem_cons_of_mem _ hr)) _ _ (hu.xor (h r List.mem_cons_self))
theorem holds_all (ss : List ByteArray) (rs : List RV) (h : ∀ r ∈ rs, holdsB ss r.xs r.s = true) : holdsB ss (vecL rs) (st (sumL (rs.map fun r => r.s))) = true := by
  rw [holds_iff, tx_st (sumL_bytes _)]
  exact HoldsP.all ss rs (fun r hr => (holds_iff _ _ _).1 (h r hr)) [] [] (HoldsP.nil ss)
end Go.Proofs.YtmdmipojbeppiaaGreatDoor
namespace Go.Proofs.YtmdmipojbeppiaaGreatDoor
open Go.RowKit Go.Sort
set_option linter.unusedVariables false
set_option maxRecDepth 4000

/-- What is emitted, where the row at b is the first to be chosen. -/
def emitD (L : List PD) (b : Nat) (t : Int) : Option PD := mixD L (castZ (placesCh (chTo (vecsD L) t b 31).ch L.length))
theorem mixD_parts {L : List PD} {ws : List Int} {d : PD} (h : mixD L ws = some d) : ∃ q Q, selL .dflt L ws = q :: Q ∧ mixL (q :: Q) = some d ∧ d.xs = vecX (q :: Q) ∧ d.s = st (txtX (q :: Q)) ∧ (∀ p ∈ q :: Q, p ∈ L) := by
  have h2 : mixL (selL .dflt L ws) = some d := h
  cases hu : selL .dflt L ws with
  | nil => rw [hu] at h2; cases h2
  | cons q Q =>
    rw [hu] at h2
    refine ⟨q, Q, rfl, h2, ?_, ?_, fun p hp => selL_mem (by rw [hu]; exact hp)⟩
    all_goals
      rw [mixL_cons] at h2
      split at h2
      · obtain rfl := Option.some.inj h2; rfl
      · cases h2
theorem mixD_ok {L : List PD} {ws : List Int} {d : PD} (hok : ∀ p ∈ L, okD p = true) (h : mixD L ws = some d) : okD d = true ∧ 1 ≤ d.h := by
  obtain ⟨q, Q, _, h2, _, _, hsub⟩ := mixD_parts h
  obtain ⟨k1, k2⟩ := mix_ok (fun p hp => hok p (hsub p hp)) h2
  have hg := hop_ge (q := q) (Q := Q) (p := q) List.mem_cons_self
  obtain ⟨⟨_, _, _, hh⟩, _⟩ := okD_iff.1 (hok q (hsub q List.mem_cons_self))
  have h5 : 0 ≤ q.h := hh.1
  exact ⟨k1, by omega⟩
theorem vecX_span {V : List (List Nat)} : ∀ (Q : List PD) (a : List Nat), smalls a → Ech.Sp (V.map val) (val a) → (∀ p ∈ Q, p.xs ∈ V ∧ smalls p.xs) → Ech.Sp (V.map val) (val (Q.foldl (fun a p => xorL a p.xs) a))
  | [], a, _, ha, _ => ha
  | q :: Q, a, hs, ha, h => by
    have hq := h q List.mem_cons_self
    rw [List.foldl_cons]
    refine vecX_span Q _ (xorL_small hs hq.2) ?_ fun p hp => h p (List.mem_cons_of_mem _ hp)
    rw [val_xor hs hq.2]
    exact ha.xor (.of_mem (List.mem_map_of_mem hq.1))
/-- What is mixed is in the span of all that was put. -/
theorem mixD_span {L : List PD} {V : List (List Nat)} {ws : List Int} {d : PD} (hV : ∀ p ∈ L, p.xs ∈ V ∧ smalls p.xs) (h : mixD L ws = some d) : Ech.Sp (V.map val) (val d.xs) := by
  obtain ⟨q, Q, _, _, h3, _, hsub⟩ := mixD_parts h
  rw [h3]
  unfold vecX
  exact vecX_span _ [] (fun x hx => by cases hx) (by rw [show val [] = 0 from rfl]; exact .zero) fun p hp => hV p (hsub p hp)
/-- .. and true of the blocks that all of them are true of. -/
theorem mixD_true {bs : List ByteArray} {L : List PD} {ws : List Int} {d : PD} (hT : ∀ p ∈ L, holdsB bs p.xs p.s = true) (h : mixD L ws = some d) : holdsB bs d.xs d.s = true := by
  obtain ⟨q, Q, _, _, h3, h4, hsub⟩ := mixD_parts h
  have key : ∀ (Q : List PD) (u xs : List Nat), (∀ p ∈ Q, holdsB bs p.xs p.s = true) → HoldsP bs u xs → HoldsP bs (Q.foldl (fun a p => xorL a p.xs) u) (Q.foldl (fun a p => xorL a (tx p.s)) xs) := fun Q => by
    induction Q with
    | nil => exact fun u xs _ hu => hu
    | cons r rs ih => exact fun u xs hp hu => ih _ _ (fun x hx => hp x (List.mem_cons_of_mem _ hx)) (hu.xor ((holds_iff _ _ _).1 (hp r List.mem_cons_self)))
  have hb : ∀ (Q : List PD) (a : List Nat), bytes a → bytes (Q.foldl (fun a p => xorL a (tx p.s)) a) := fun Q => by
    induction Q with
    | nil => exact fun a h => h
    | cons s ss ih => exact fun a h => ih _ (xorL_bytes h (tx_bytes s.s))
  have hbx : bytes (txtX (q :: Q)) := hb (q :: Q) [] (fun x hx => by cases hx)
  rw [h3, h4, holds_iff, tx_st hbx]
  exact key (q :: Q) [] [] (fun p hp => hT p (hsub p hp)) (HoldsP.nil bs)
end Go.Proofs.YtmdmipojbeppiaaGreatDoor
