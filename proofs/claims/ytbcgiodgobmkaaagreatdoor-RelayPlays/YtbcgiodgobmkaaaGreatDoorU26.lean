/-
  Contracts of xor.add, xor.Xor, bucketlineref02.Xor, xor.zero: for every text of at most 2^20 bytes.
  Contracts of xor.Xor, bucketlineref02.Xor, xor.zero, xor.Sum, bucketlineref02.Sum, xor.Of, bucketlineref02.Of: for texts of at most 2^20 bytes and rows of at most 2^20 words.
  Slices of texts ('TextsAt'); contracts of xor.Sum, bucketlineref02.Sum, xor.Of, bucketlineref02.Of, xor.reached: for up to 2^20 texts of at most 2^20 bytes.
  Rows (a slice of words and a text) by value and in slices; contracts of bucketlineref02.Same, xor.Holds, bucketlineref02.Holds.
  Plain mathematics of what a relay emits: of packets that may be ('emitD'): it may be, it is in the span of what was put, it is true of blocks where they are. No condition.
-/
import Derived.Test.YtbcgiodgobmkaaaGreatDoorU3
import Derived.BigQuiet
import Derived.Test.YtbcgiodgobmkaaaGreatDoorU9
import Derived.Test.YtbcgiodgobmkaaaGreatDoorU8
import Derived.Test.YtbcgiodgobmkaaaGreatDoorU7
import Derived.Deep.RegionWith
import Derived.Lib.QuietBelow
import Derived.Test.YtbcgiodgobmkaaaGreatDoorGE
import Derived.Test.YtbcgiodgobmkaaaGreatDoorU25
import Derived.Test.YtbcgiodgobmkaaaGreatDoorU14
import Derived.Test.YtbcgiodgobmkaaaGreatDoorU5
namespace Go.Proofs.YtbcgiodgobmkaaaGreatDoor
open Go.RowKit
set_option linter.unusedVariables false
set_option linter.unusedSimpArgs false
set_option maxRecDepth 4000

theorem copy_text (w : World) (g : Nat) (t : ByteArray) (cur : Array Value) (e : TypeId) (hg : w.heap[g]? = some (.cells cur e (0, 0))) (hc : cur.size = t.size)
    (B : Nat) (w0 : World) (hb : Below B w0 w) (hBg : B ≤ g) :
    ∃ w', (Builtin.copy_ #[108, 9] 3 #[.slice (some ⟨g, 0, none⟩) t.size t.size, .string t]).run Tryz.prog w = .ok (goInt t.size) w' ∧ OwnB w' B (.slice (some ⟨g, 0, none⟩) t.size t.size) (tx t) ∧ Below B w0 w' := by
  obtain ⟨i0, hi0, hz0, hz1, hz2⟩ := info_parts info_u8
  refine ⟨_, run_copy_text_of w 108 9 3 5 g t.size t.size t cur e Tryz.underlying108 (by rw [hi0]; simp [hz1]) hg hc rfl, ⟨tx_bytes t, .inr ⟨g, t.size, by rw [tx_length], hBg, ?_, fun i hi => ?_, fun i hi => ?_⟩⟩, ?_⟩
  · simpa using (Array.getElem?_eq_some_iff.1 hg).1
  · rw [cell_setRow_same w g i _ _ _ _ hg]
    have hi' : i < t.size := by rwa [tx_length] at hi
    rw [← tx_get t i hi']
    have : i < t.data.size := hi'
    simp only [Array.getElem?_map, Array.getElem?_eq_getElem this]
    rfl
  · simp [World.frozen?, setRow_heap w g _ _ _ _ hg]
  · exact hb.trans ⟨rfl, rfl, rfl, by simp, fun k hk => setRow_other w g k _ (by omega)⟩

set_option maxHeartbeats 1000000 in
theorem add_any (v : Value) (xs : List Nat) (s : ByteArray) (B : Nat) (w : World) (h : OwnB w B v xs) (hB : B ≤ w.heap.size) (hn : xs.length ≤ 1048576) (hm : s.size ≤ 1048576) :
    Calls Tryz.prog 98 #[v, .string s] w fun e w' => ∃ v', e = .returned v' ∧ OwnB w' B v' (xorL xs (tx s)) ∧ Below B w w' := by
  obtain ⟨va, vc, rfl⟩ := h.slice
  have hts := tx_length s
  by_cases hle : s.size ≤ xs.length
  · have hle' : decide ((s.size : Int) ≤ (xs.length : Int)) = true := by simp; omega
    go_enter Tryz.func98, Tryz.ntmps98
    go_wp2
    go_loopw [16] (fun i wr => ∃ k : Nat, k ≤ s.size ∧ i = .int .i64 k ∧ Hid (OwnB wr B (.slice va xs.length vc) (xorTo xs (tx s) k)) ∧ Hid (Below B w wr)) (fun i _ => s.size - (intOf i).toNat)
    case atStart => exact ⟨0, Nat.zero_le _, rfl, hide (by rw [xorTo_zero]; exact h), hide (Below.refl _ _)⟩
    case round =>
      obtain ⟨k, hk, rfl, HO, HB⟩ := hrel
      by_cases hlt : k < s.size
      · have hkn : k < xs.length := by omega
        have hkn' : (k : Int) < (xs.length : Int) := by omega
        have hlt' : (k : Int) < (s.size : Int) := by omega
        obtain ⟨g, cap, hv, hBg, hgs, hcg, hfg⟩ := (unhide HO).at (by rw [xorTo_length]; omega)
        rw [xorTo_length] at hv
        simp only [Value.slice.injEq, true_and] at hv
        obtain ⟨rfl, rfl⟩ := hv
        have hcell := hcg k (by rw [xorTo_length]; omega)
        have hfz := hfg k (by rw [xorTo_length]; omega)
        rw [xorTo_getD xs (tx s) k k (by omega), if_neg (by omega)] at hcell
        have hxo := u8_xor_nat (xs.getD k 0) s[k].toNat (h.1.get k) s[k].toNat_lt
        have R := hide (xb_roundd (z := xs.getD k 0 ^^^ s[k].toNat) h.1 (tx_bytes s) (by omega) hBg (unhide HO) (unhide HB) (by rw [tx_get s k hlt]))
        generalize xs.getD k 0 = x at *
        clear hcg hfg h HO hle hle'
        go_wp2
        go_region
        all_goals go_wp2
        go_roundw
        case rel => exact ⟨k + 1, by omega, by go_num, hide (unhide R).1, hide (unhide R).2⟩
        case measure => simp [intOf]; omega
      · have hke : k = (tx s).length := by omega
        rw [hke, xorTo_all xs (tx s) (by omega)] at HO
        clear h
        go_wp2
        go_ret
        exact ⟨_, rfl, unhide HO, unhide HB⟩
  · have hle' : decide ((s.size : Int) ≤ (xs.length : Int)) = false := by simp; omega
    obtain ⟨i0, hi0, hz0, hz1, hz2⟩ := info_parts info_u8
    have hrun := run_make (P := Tryz.prog) w 108 5 i0 (.int .u8 0) Tryz.underlying108 hi0 hz0 .i64 .i64 (s.size : Int) (s.size : Int) (by omega) (by omega) (by rw [hz2]; omega) (by omega)
    simp only [Int.toNat_natCast] at hrun
    have hgw : (w.alloc (.cells (madeCells (Value.int .u8 0).cells (s.size * i0.size)) 5)).heap[w.heap.size]? = some (.cells (madeCells (Value.int .u8 0).cells (s.size * i0.size)) 5 (0, 0)) := by
      show (w.heap.push _)[w.heap.size]? = _
      simp
    have hcs : (madeCells (Value.int .u8 0).cells (s.size * i0.size)).size = s.size := by rw [size_madeCells, hz1, Nat.mul_one]
    have hbw : Below w.heap.size w (w.alloc (.cells (madeCells (Value.int .u8 0).cells (s.size * i0.size)) 5)) := (Below.refl _ _).alloc (Nat.le_refl _) _
    generalize madeCells (Value.int .u8 0).cells (s.size * i0.size) = cur at *
    generalize w.alloc (.cells cur 5) = wm at *
    obtain ⟨w1, hcp, ho, hb⟩ := copy_text wm w.heap.size s cur 5 hgw hcs w.heap.size w hbw (Nat.le_refl _)
    have HO1 := hide ho
    have HB1 := hide hb
    clear ho hb hgw hcs hbw
    go_enter Tryz.func98, Tryz.ntmps98
    go_wp2
    go_loopw [38] (fun i wr => ∃ k : Nat, k ≤ xs.length ∧ i = .int .i64 k ∧ Hid (OwnB wr w.heap.size (.slice (some ⟨w.heap.size, 0, none⟩) s.size s.size) (xorTo (tx s) xs k)) ∧ Hid (Below w.heap.size w wr)) (fun i _ => xs.length - (intOf i).toNat)
    case atStart => exact ⟨0, Nat.zero_le _, rfl, hide (by rw [xorTo_zero]; exact unhide HO1), HB1⟩
    case round =>
      obtain ⟨k, hk, rfl, HO, HB⟩ := hrel
      clear HO1 HB1 hcp hrun
      by_cases hlt : k < xs.length
      · have hkn : k < s.size := by omega
        have hkn' : (k : Int) < (s.size : Int) := by omega
        have hlt' : (k : Int) < (xs.length : Int) := by omega
        obtain ⟨g', cap', hv', _, _, hcg', _⟩ := (h.below (unhide HB)).at (by omega)
        simp only [Value.slice.injEq, true_and] at hv'
        obtain ⟨rfl, rfl⟩ := hv'
        have hcell' := hcg' k hlt
        obtain ⟨g, cap, hv, hBg, hgs, hcg, hfg⟩ := (unhide HO).at (by rw [xorTo_length]; omega)
        rw [xorTo_length, hts] at hv
        simp only [Value.slice.injEq, Option.some.injEq, Addr.mk.injEq, and_true, true_and] at hv
        obtain ⟨rfl, rfl⟩ := hv
        have hcell := hcg k (by rw [xorTo_length]; omega)
        have hfz := hfg k (by rw [xorTo_length]; omega)
        rw [xorTo_getD (tx s) xs k k (by omega), if_neg (by omega)] at hcell
        have hxo := u8_xor_nat ((tx s).getD k 0) (xs.getD k 0) ((tx_bytes s).get k) (h.1.get k)
        rw [← hts] at HO
        have R := hide (xb_round (tx_bytes s) h.1 (by omega) hBg (unhide HO) (unhide HB) rfl)
        rw [hts] at R
        generalize (tx s).getD k 0 = x at *
        generalize xs.getD k 0 = y at *
        clear hcg hfg hcg' h HO hle hle'
        go_wp2
        go_roundw
        case rel => exact ⟨k + 1, by omega, by go_num, hide (unhide R).1, hide (unhide R).2⟩
        case measure => simp [intOf]; omega
      · have hke : k = xs.length := by omega
        rw [hke, xorTo_all (tx s) xs (by omega), xorL_comm] at HO
        clear h
        go_wp2
        go_ret
        exact ⟨_, rfl, (unhide HO).mono hB, (unhide HB).mono hB⟩
end Go.Proofs.YtbcgiodgobmkaaaGreatDoor
namespace Go.Proofs.YtbcgiodgobmkaaaGreatDoor
open Go.RowKit
set_option linter.unusedVariables false
set_option linter.unusedSimpArgs false
set_option maxRecDepth 4000

set_option maxHeartbeats 1000000 in
theorem rx_any (a b : ByteArray) (w : World) (hn : a.size ≤ 1048576) (hm : b.size ≤ 1048576) :
    Calls Tryz.prog 38 #[.string a, .string b] w fun e w' => e = .returned (.string (xorS a b)) ∧ Below w.heap.size w w' := by
  by_cases hsw : a.size < b.size
  · have hge : decide ((a.size : Int) < (b.size : Int)) = true := by simp; omega
    obtain ⟨w1, cap, hcv, ho, hb⟩ := bytes_text w b
    have HO1 := hide ho
    have HB1 := hide hb
    clear ho hb
    have hta := tx_length a
    have htb := tx_length b
    go_enter Tryz.func38, Tryz.ntmps38
    go_wp2
    go_loopw [6] (fun i wr => ∃ k : Nat, k ≤ a.size ∧ i = .int .i64 k ∧ Hid (OwnB wr w.heap.size (.slice (some ⟨w.heap.size, 0, none⟩) b.size cap) (xorTo (tx b) (tx a) k)) ∧ Hid (Below w.heap.size w wr)) (fun i _ => a.size - (intOf i).toNat)
    case atStart => exact ⟨0, Nat.zero_le _, rfl, hide (by rw [xorTo_zero]; exact unhide HO1), HB1⟩
    case round =>
      obtain ⟨k, hk, rfl, HO, HB⟩ := hrel
      clear HO1 HB1 hcv
      by_cases hlt : k < a.size
      · have hkn : k < b.size := by omega
        have hkn' : (k : Int) < (b.size : Int) := by omega
        have hlt' : (k : Int) < (a.size : Int) := by omega
        obtain ⟨g, cap', hv, hBg, hgs, hcg, hfg⟩ := (unhide HO).at (by rw [xorTo_length]; omega)
        rw [xorTo_length, htb] at hv
        simp only [Value.slice.injEq, Option.some.injEq, Addr.mk.injEq, and_true, true_and] at hv
        obtain ⟨rfl, rfl⟩ := hv
        have hcell := hcg k (by rw [xorTo_length]; omega)
        have hfz := hfg k (by rw [xorTo_length]; omega)
        rw [xorTo_getD (tx b) (tx a) k k (by omega), if_neg (by omega)] at hcell
        have hxo := u8_xor_nat ((tx b).getD k 0) a[k].toNat ((tx_bytes b).get k) a[k].toNat_lt
        rw [← htb] at HO
        have R := hide (xb_roundd (z := (tx b).getD k 0 ^^^ a[k].toNat) (tx_bytes b) (tx_bytes a) (by omega) hBg (unhide HO) (unhide HB) (by rw [tx_get a k hlt]))
        rw [htb] at R
        generalize (tx b).getD k 0 = x at *
        clear hcg hfg HO hge hsw
        go_wp2
        go_region
        all_goals go_wp2
        go_roundw
        case rel => exact ⟨k + 1, by omega, by go_num, hide (unhide R).1, hide (unhide R).2⟩
        case measure => simp [intOf]; omega
      · have hke : k = (tx a).length := by omega
        rw [hke, xorTo_all (tx b) (tx a) (by omega)] at HO
        have hct := (unhide HO).text
        go_wp2
        go_ret
        exact ⟨ret_str (by unfold xorS; rw [xorL_comm]), unhide HB⟩
  · have hge : decide ((a.size : Int) < (b.size : Int)) = false := by simp; omega
    obtain ⟨w1, cap, hcv, ho, hb⟩ := bytes_text w a
    have HO1 := hide ho
    have HB1 := hide hb
    clear ho hb
    have hta := tx_length a
    have htb := tx_length b
    go_enter Tryz.func38, Tryz.ntmps38
    go_wp2
    go_loopw [6] (fun i wr => ∃ k : Nat, k ≤ b.size ∧ i = .int .i64 k ∧ Hid (OwnB wr w.heap.size (.slice (some ⟨w.heap.size, 0, none⟩) a.size cap) (xorTo (tx a) (tx b) k)) ∧ Hid (Below w.heap.size w wr)) (fun i _ => b.size - (intOf i).toNat)
    case atStart => exact ⟨0, Nat.zero_le _, rfl, hide (by rw [xorTo_zero]; exact unhide HO1), HB1⟩
    case round =>
      obtain ⟨k, hk, rfl, HO, HB⟩ := hrel
      clear HO1 HB1 hcv
      by_cases hlt : k < b.size
      · have hkn : k < a.size := by omega
        have hkn' : (k : Int) < (a.size : Int) := by omega
        have hlt' : (k : Int) < (b.size : Int) := by omega
        obtain ⟨g, cap', hv, hBg, hgs, hcg, hfg⟩ := (unhide HO).at (by rw [xorTo_length]; omega)
        rw [xorTo_length, hta] at hv
        simp only [Value.slice.injEq, Option.some.injEq, Addr.mk.injEq, and_true, true_and] at hv
        obtain ⟨rfl, rfl⟩ := hv
        have hcell := hcg k (by rw [xorTo_length]; omega)
        have hfz := hfg k (by rw [xorTo_length]; omega)
        rw [xorTo_getD (tx a) (tx b) k k (by omega), if_neg (by omega)] at hcell
        have hxo := u8_xor_nat ((tx a).getD k 0) b[k].toNat ((tx_bytes a).get k) b[k].toNat_lt
        rw [← hta] at HO
        have R := hide (xb_roundd (z := (tx a).getD k 0 ^^^ b[k].toNat) (tx_bytes a) (tx_bytes b) (by omega) hBg (unhide HO) (unhide HB) (by rw [tx_get b k hlt]))
        rw [hta] at R
        generalize (tx a).getD k 0 = x at *
        clear hcg hfg HO hge hsw
        go_wp2
        go_region
        all_goals go_wp2
        go_roundw
        case rel => exact ⟨k + 1, by omega, by go_num, hide (unhide R).1, hide (unhide R).2⟩
        case measure => simp [intOf]; omega
      · have hke : k = (tx b).length := by omega
        rw [hke, xorTo_all (tx a) (tx b) (by omega)] at HO
        have hct := (unhide HO).text
        go_wp2
        go_ret
        exact ⟨rfl, unhide HB⟩

end Go.Proofs.YtbcgiodgobmkaaaGreatDoor
namespace Go.Proofs.YtbcgiodgobmkaaaGreatDoor
open Go.RowKit
set_option linter.unusedVariables false
set_option linter.unusedSimpArgs false
set_option maxRecDepth 4000

/-- The xor of all. -/
def sumL (ss : List ByteArray) : List Nat := ss.foldl (fun a s => xorL a (tx s)) []
theorem sumL_take (ss : List ByteArray) (k : Nat) (h : k < ss.length) : sumL (ss.take (k + 1)) = xorL (sumL (ss.take k)) (tx (ss.getD k ByteArray.empty)) := by
  unfold sumL
  rw [List.take_succ_eq_append_getElem h, List.foldl_append]
  simp [List.getD_eq_getElem?_getD, List.getElem?_eq_getElem h]
theorem foldl_bytes (ss : List ByteArray) : ∀ a, bytes a → bytes (ss.foldl (fun a s => xorL a (tx s)) a) := by
  induction ss with
  | nil => exact fun a h => h
  | cons s ss ih => exact fun a h => ih _ (xorL_bytes h (tx_bytes s))
theorem sumL_bytes (ss : List ByteArray) : bytes (sumL ss) := foldl_bytes ss [] bytes_nil
theorem foldl_len (ss : List ByteArray) (hs : shorts ss) : ∀ a : List Nat, a.length ≤ 1048576 → (ss.foldl (fun a s => xorL a (tx s)) a).length ≤ 1048576 := by
  induction ss with
  | nil => exact fun a h => h
  | cons s ss ih =>
    intro a h
    refine ih (fun s hs' => hs s (List.mem_cons_of_mem _ hs')) _ ?_
    rw [xorL_length, tx_length]
    have := hs s List.mem_cons_self
    omega
theorem sumL_len (ss : List ByteArray) (hs : shorts ss) (k : Nat) : (sumL (ss.take k)).length ≤ 1048576 := foldl_len _ (fun s h => hs s (List.mem_of_mem_take h)) [] (by simp)
theorem st_size {xs : List Nat} (h : bytes xs) : (st xs).size = xs.length := by rw [← tx_length, tx_st h]
theorem xorS_st {xs : List Nat} (h : bytes xs) (s : ByteArray) : xorS (st xs) s = st (xorL xs (tx s)) := by unfold xorS; rw [tx_st h]

set_option maxHeartbeats 400000 in
theorem sum_any (a : Option Addr) (n c : Nat) (ss : List ByteArray) (w : World) (h : TextsAt w a n ss) (hs : shorts ss) (hn : n ≤ 1048576) :
    Calls Tryz.prog 82 #[.slice a n c] w fun e w' => e = .returned (.string (st (sumL ss))) ∧ Below w.heap.size w w' := by
  go_enter Tryz.func82, Tryz.ntmps82
  go_wp2
  go_loopw [3, 8] (fun v i wr => ∃ k : Nat, k ≤ n ∧ i = .int .i64 k ∧ Hid (OwnB wr w.heap.size v (sumL (ss.take k))) ∧ Hid (Below w.heap.size w wr)) (fun _ i _ => n - (intOf i).toNat)
  case atStart => exact ⟨0, Nat.zero_le _, rfl, hide (OwnB.nil _ _), hide (Below.refl _ _)⟩
  case round =>
    rename_i wr
    obtain ⟨k, hk, rfl, HO, HB⟩ := hrel
    by_cases hlt : k < n
    · obtain ⟨b, off, rfl, hc⟩ := (h.below (unhide HB)).at hlt
      have hcell := hc k hlt
      have H := hide h
      have HS := hide hs
      have hlt' : (k : Int) < (n : Int) := by omega
      clear hc h hs
      go_wp2_with fail
      refine (add_any _ _ _ w.heap.size _ (unhide HO) (unhide HB).size (sumL_len ss (unhide HS) k) ((unhide HS).get k)).mono ?_
      rintro e w1 ⟨v1, rfl, ho1, hb1⟩
      rw [← sumL_take ss k (by rw [(unhide H).1]; exact hlt)] at ho1
      have HO1 := hide ho1
      have HB1 := hide ((unhide HB).trans hb1)
      clear ho1 hb1 HO HB hcell
      go_wp2
      go_roundw
      case rel => exact ⟨k + 1, by omega, by go_num, HO1, HB1⟩
      case measure => simp [intOf]; omega
    · have hct := (unhide HO).text
      have he : ss.take k = ss := List.take_of_length_le (by rw [h.1]; omega)
      rw [he] at hct
      clear h hs he
      go_wp2
      go_ret
      exact ⟨rfl, unhide HB⟩

end Go.Proofs.YtbcgiodgobmkaaaGreatDoor
namespace Go.Proofs.YtbcgiodgobmkaaaGreatDoor
open Go.RowKit Go.Sort
set_option linter.unusedVariables false
set_option linter.unusedSimpArgs false
set_option maxRecDepth 4000

theorem TextsAt.alloc {w : World} {a : Option Addr} {n : Nat} {ss : List ByteArray} (h : TextsAt w a n ss) (o : Obj) : TextsAt (w.alloc o) a n ss := h.below ((Below.refl _ _).alloc (Nat.le_refl _) _)

end Go.Proofs.YtbcgiodgobmkaaaGreatDoor
namespace Go.Proofs.YtbcgiodgobmkaaaGreatDoor
open Go.RowKit Go.Sort
set_option linter.unusedVariables false
set_option linter.unusedSimpArgs false
set_option maxRecDepth 4000

/-- What is emitted, where the row at b is the first to be chosen. -/
def emitD (L : List PD) (b : Nat) (t : Int) : Option PD := mixD L (castZ (placesCh (chTo (vecsD L) t b 31).ch L.length))
theorem mixD_parts {L : List PD} {ws : List Int} {d : PD} (h : mixD L ws = some d) : ∃ q Q, selL .dflt L ws = q :: Q ∧ mixL (q :: Q) = some d ∧ d.xs = vecX (q :: Q) ∧ d.s = st (txtX (q :: Q)) ∧ (∀ p ∈ q :: Q, p ∈ L) := by
  have h2 : mixL (selL .dflt L ws) = some d := h
  cases hu : selL .dflt L ws with
  | nil => rw [hu] at h2; cases h2
  | cons q Q =>
    rw [hu] at h2
    refine ⟨q, Q, rfl, h2, ?_, ?_, fun p hp => selL_mem (by rw [hu]; exact hp)⟩
    all_goals
      rw [mixL_cons] at h2
      split at h2
      · obtain rfl := Option.some.inj h2; rfl
      · cases h2
theorem mixD_ok {L : List PD} {ws : List Int} {d : PD} (hok : ∀ p ∈ L, okD p = true) (h : mixD L ws = some d) : okD d = true ∧ 1 ≤ d.h := by
  obtain ⟨q, Q, _, h2, _, _, hsub⟩ := mixD_parts h
  obtain ⟨k1, k2⟩ := mix_ok (fun p hp => hok p (hsub p hp)) h2
  have hg := hop_ge (q := q) (Q := Q) (p := q) List.mem_cons_self
  obtain ⟨⟨_, _, _, hh⟩, _⟩ := okD_iff.1 (hok q (hsub q List.mem_cons_self))
  have h5 : 0 ≤ q.h := hh.1
  exact ⟨k1, by omega⟩
end Go.Proofs.YtbcgiodgobmkaaaGreatDoor
