/-
  Contract of bucketlineref13.Ripple.
  Contract of bucketlineref02.All, of equal rows; the example of the chapter (awake).
  The example of the chapter: bucketlinelaw13.awake tells true.
  The walks of PeelPeels and PeelRipples: for every input each tells true and writes nothing that was there.
-/
import Derived.Test.YtcokmaofgfhapaaDoorYB
import Derived.Test.YtcokmaofgfhapaaDoorM2
namespace Go.Proofs.YtcokmaofgfhapaaDoor
open Go.RowKit Go.Sort
set_option linter.unusedVariables false
set_option maxRecDepth 4000

theorem bit_unset (xs : List Nat) (b i : Nat) : getB (setB xs b false) i = (getB xs i && !decide (i = b)) := by
  by_cases h : b < 64 * xs.length
  · rw [bit_setB _ _ _ _ h]
    by_cases e : i = b
    · simp [e]
    · simp [e]
  · rw [setB_out xs b false (by omega)]
    by_cases e : i = b
    · subst e; rw [getB_out xs i (by omega)]; rfl
    · simp [e]
/-- What the inner loop leaves of a row. -/
def RpS (wo wq : World) (ks : List RV) (xs : List Nat) (j : Nat) (a : Option Addr) (n : Nat) (vs : List Nat) : Prop :=
  RowAt wq a n vs ∧ n ≤ 10 ∧ (∀ i, getB vs i = (getB xs i && !kbit (ks.take j) i)) ∧ Below wo.heap.size wo wq
theorem RpS.skip {wo wq : World} {ks : List RV} {xs : List Nat} {j : Nat} {a : Option Addr} {n : Nat} {vs : List Nat} (h : RpS wo wq ks xs j a n vs) (hj : j < ks.length) (h1 : ¬ cnt (ks.getD j .dflt).xs = 1) : RpS wo wq ks xs (j + 1) a n vs :=
  ⟨h.1, h.2.1, fun i => by rw [h.2.2.1, kbit_snoc ks j hj, decide_eq_false h1]; simp, h.2.2.2⟩
theorem RpS.more {wo wq w1 : World} {ks : List RV} {xs : List Nat} {j : Nat} {a : Option Addr} {n : Nat} {vs : List Nat} {bt : Nat} {a2 : Option Addr} {c2 : Nat} (h : RpS wo wq ks xs j a n vs) (hj : j < ks.length) (h1 : cnt (ks.getD j .dflt).xs = 1) (hbb : ∀ i, getB (ks.getD j .dflt).xs i = decide (i = bt))
    (ho : Own w1 wq.heap.size (.slice a2 (setI vs (bt : Int) false).length c2) (setI vs (bt : Int) false)) (hb : Below wq.heap.size wq w1) : RpS wo w1 ks xs (j + 1) a2 (setI vs (bt : Int) false).length (setI vs (bt : Int) false) := by
  have e : setI vs (bt : Int) false = setB vs bt false := by unfold setI; rw [if_neg (by omega), Int.toNat_natCast]
  refine ⟨ho.at'.2, by rw [e, setB_length, h.1.1]; exact h.2.1, fun i => ?_, below0 h.2.2.2 hb⟩
  rw [e, bit_unset, h.2.2.1, kbit_snoc ks j hj, h1, hbb]
  cases getB xs i <;> cases kbit (ks.take j) i <;> cases decide (i = bt) <;> rfl

set_option maxHeartbeats 2000000 in
theorem rripple_any (a : Option Addr) (n c : Nat) (ks : List RV) (a' : Option Addr) (m c' : Nat) (rs : List RV) (u : List Nat) (w : World) (h : RowsAt w a n ks) (hs : shortR ks) (hn : n ≤ 1048576) (h' : RowsAt w a' m rs) (hs' : shortR rs) (hm : m ≤ 1048576) (hu : ∀ i, getB u i = kbit ks i) :
    Calls Tryd.prog 15 #[.slice a n c, .slice a' m c'] w fun e w' => ∃ v, e = .returned v ∧ OwnZ w' w.heap.size v (ripTo u rs m) ∧ Below w.heap.size w w' := by
  obtain rfl := h'.1
  obtain rfl := h.1
  have Hk := hide h
  have Hks := hide hs
  have Hh := hide h'
  have Hs := hide hs'
  have HU := hide hu
  clear h hs h' hs' hu
  go_enter Tryd.func15, Tryd.ntmps15
  go_wp2
  go_loopw [5, 6] (fun v i wr => ∃ k : Nat, ∃ a1 : Option Addr, ∃ m1 c1 : Nat, k ≤ rs.length ∧ i = .int .i64 k ∧ v = .slice a1 m1 c1 ∧ Hid (OwnZ wr w.heap.size (.slice a1 m1 c1) (ripTo u rs k)) ∧ Hid (Below w.heap.size w wr)) (fun _ i _ => rs.length - (intOf i).toNat)
  case atStart => exact ⟨0, none, 0, 0, Nat.zero_le _, rfl, rfl, hide (OwnZ.nil _ _), hide (Below.refl _ _)⟩
  case round =>
    obtain ⟨k, a1, m1, c1, hk, rfl, rfl, HO, HB⟩ := hrel
    by_cases hlt : k < rs.length
    · have hR := (unhide Hh).below (unhide HB)
      obtain ⟨b, off, rfl, hcl⟩ := hR.at hlt
      obtain ⟨hc0, hc1⟩ := hcl k hlt
      have hrow := hR.2.1 k hlt
      have hlt' : (k : Int) < (rs.length : Int) := by omega
      have hsh := (unhide Hs) k
      have HY := hide (fun h => ripTo_yes (u := u) (rs := rs) (k := k) h)
      have HN := hide (fun h => ripTo_no (u := u) (rs := rs) (k := k) h)
      have hrl := ripTo_len u rs k
      generalize rs.getD k .dflt = r at *
      have HR := hide (show RpS wr wr ks r.xs 0 r.a r.n r.xs from ⟨hrow, hsh.1, fun i => by simp [kbit], Below.refl _ _⟩)
      clear hcl hR hrow
      obtain ⟨wo, hwo⟩ : ∃ wo, wo = wr := ⟨wr, rfl⟩
      rw [← hwo] at HO HB hc0 hc1 HR ⊢
      clear hwo wr
      go_wp2
      go_loopw [7, 8] (fun v j wr => ∃ jj : Nat, ∃ av : Option Addr, ∃ nv cv : Nat, ∃ vs : List Nat, jj ≤ ks.length ∧ j = .int .i64 jj ∧ v = .slice av nv cv ∧ Hid (RpS wo wr ks r.xs jj av nv vs)) (fun _ j _ => ks.length - (intOf j).toNat)
      case atStart => exact ⟨0, r.a, r.n, r.c, r.xs, Nat.zero_le _, rfl, rfl, HR⟩
      case round =>
        obtain ⟨jj, av, nv, cv, vs, hjk, rfl, rfl, HP⟩ := hrel
        clear HR hc0 hc1
        by_cases hjl : jj < ks.length
        · have hP := unhide HP
          have hK := (unhide Hk).below (below0 (unhide HB) hP.2.2.2)
          obtain ⟨b2, off2, rfl, hcl⟩ := hK.at hjl
          obtain ⟨hc0, hc1⟩ := hcl jj hjl
          have hrow := hK.2.1 jj hjl
          have hjl' : (jj : Int) < (ks.length : Int) := by omega
          have hsk := (unhide Hks) jj
          have HSK := hide (fun h1 => hP.skip hjl h1)
          have HSM := hide (fun (w1 : World) (bt : Nat) (a2 : Option Addr) (c2 : Nat) h1 hbb => hP.more (w1 := w1) (bt := bt) (a2 := a2) (c2 := c2) hjl h1 hbb)
          generalize ks.getD jj .dflt = q at *
          have HC := hide (rcount_any q.a q.n q.c q.xs _ hrow (by omega))
          by_cases h1 : cnt q.xs = 1
          · rw [h1] at HC
            obtain ⟨bt, hf, hbl, hbb⟩ := one_bit hrow.2.1 h1
            have HF := hide (rfirst_any q.a q.n q.c q.xs _ hrow (by omega))
            rw [hf] at HF
            have HST := hide (rset_any av nv cv vs (bt : Int) false wr hP.1 (by have := hP.2.1; omega) (by have := hrow.1; omega))
            have HM2 := hide (fun (w1 : World) (a2 : Option Addr) (c2 : Nat) => unhide HSM w1 bt a2 c2 h1 hbb)
            clear hP hK hrow hcl hbb h1 hf HSK HSM hbl HP
            go_wp2_with (first | (go_at_call 18; refine (unhide HC).mono ?_; rintro e w' ⟨rfl, rfl⟩) | (go_at_call 17; refine (unhide HF).mono ?_; rintro e w' ⟨rfl, rfl⟩) | (go_at_call 35; refine (unhide HST).mono ?_; rintro e w1 ⟨v1, rfl, ho1, hb1⟩; obtain ⟨a2, c2, rfl, _⟩ := ho1.row; have HM3 := hide (unhide HM2 w1 a2 c2 ho1 hb1); clear ho1 hb1))
            go_roundw
            case rel => exact ⟨jj + 1, a2, _, c2, _, by omega, by go_num, rfl, HM3⟩
            case measure => simp [intOf]; omega
          · have hne : ((cnt q.xs : Int) == 1) = false := by rw [beq_eq_false_iff_ne]; omega
            have HS2 := hide (unhide HSK h1)
            clear hP hK hrow hcl h1 HSK HSM HP
            generalize cnt q.xs = cq at *
            go_wp2_with (go_at_call 18; refine (unhide HC).mono ?_; rintro e w' ⟨rfl, rfl⟩)
            go_roundw
            case rel => exact ⟨jj + 1, av, nv, cv, vs, by omega, by go_num, rfl, HS2⟩
            case measure => simp [intOf]; omega
        · have hP := unhide HP
          rw [RpS, List.take_of_length_le (by omega)] at hP
          have hcc : cnt vs = cnt (dropL r.xs u) := cnt_congr fun i => by rw [hP.2.2.1, dropL_bit, unhide HU]
          have HC := hide (rcount_any av nv cv vs _ hP.1 (by have := hP.2.1; omega))
          rw [hcc] at HC
          have HB3 := hide hP.2.2.2
          clear hP hcc HP
          by_cases h1 : cnt (dropL r.xs u) = 1
          · rw [h1] at HC
            have HE := hide (unhide HY h1)
            clear HY HN h1
            go_wp2_with (first | (go_at_call 18; refine (unhide HC).mono ?_; rintro e w' ⟨rfl, rfl⟩) | (at_builtin; refine wpList_pushZ rfl (.tmp 44) (.tmp 46) rfl w.heap.size (.slice a1 m1 c1) (ripTo u rs k) (k : Int) rfl rfl ((unhide HO).below (unhide HB3)) (Nat.le_trans (unhide HB).size (unhide HB3).size) (by omega) ?_; intro v4 w4 ho4 hb4; obtain ⟨a4, c4, rfl, _⟩ := ho4.ints; have HO4 := hide ho4; have HB4 := hide hb4; clear ho4 hb4))
            go_roundw
            case rel => exact ⟨k + 1, a4, _, c4, by omega, by go_num, rfl, hide (by have := unhide HO4; rw [List.length_append] at this; rw [unhide HE]; exact this), hide ((below0 (unhide HB) (unhide HB3)).trans (unhide HB4))⟩
            case measure => simp [intOf]; omega
          · have hne : ((cnt (dropL r.xs u) : Int) == 1) = false := by rw [beq_eq_false_iff_ne]; omega
            have HE := hide (unhide HN h1)
            clear HY HN h1
            generalize cnt (dropL r.xs u) = cr at *
            go_wp2_with (go_at_call 18; refine (unhide HC).mono ?_; rintro e w' ⟨rfl, rfl⟩)
            go_roundw
            case rel => exact ⟨k + 1, a1, m1, c1, by omega, by go_num, rfl, hide (by rw [unhide HE]; exact (unhide HO).below (unhide HB3)), hide (below0 (unhide HB) (unhide HB3))⟩
            case measure => simp [intOf]; omega
    · have hke : k = rs.length := by omega
      subst hke
      go_wp2
      go_ret
      exact ⟨_, rfl, unhide HO, unhide HB⟩
end Go.Proofs.YtcokmaofgfhapaaDoor
namespace Go.Proofs.YtcokmaofgfhapaaDoor
open Go.RowKit Go.Sort
set_option linter.unusedVariables false
set_option maxRecDepth 4000


theorem ripTo_congr {u u' : List Nat} {rs : List RV} (h : ∀ i, getB u i = getB u' i) (m : Nat) : ripTo u rs m = ripTo u' rs m := by
  unfold ripTo
  congr 1
  apply List.filter_congr
  intro i _
  rw [cnt_congr (a := dropL (rs.getD i .dflt).xs u) (b := dropL (rs.getD i .dflt).xs u') fun j => by rw [dropL_bit, dropL_bit, h]]

/-- The rows of the example. -/
def awR (a1 a2 a3 : Option Addr) : List RV := [⟨a1, 1, 1, [1], ⟨#[97]⟩⟩, ⟨a2, 1, 1, [3], ⟨#[3]⟩⟩, ⟨a3, 1, 1, [12], ⟨#[120]⟩⟩]
theorem aw_v1 : validB 4 [1] = true := by decide
theorem aw_v3 : validB 4 [3] = true := by decide
theorem aw_v12 : validB 4 [12] = true := by decide
theorem aw_t1 : txtL [ByteArray.empty, ByteArray.empty, ByteArray.empty, ByteArray.empty] [1] ⟨#[97]⟩ = ⟨#[97]⟩ := by kernel_rfl
theorem aw_t2 : txtL [⟨#[97]⟩, ByteArray.empty, ByteArray.empty, ByteArray.empty] [3] ⟨#[3]⟩ = ⟨#[98]⟩ := by kernel_rfl
theorem aw_t3 : txtL [⟨#[97]⟩, ⟨#[98]⟩, ByteArray.empty, ByteArray.empty] [12] ⟨#[120]⟩ = ⟨#[120]⟩ := by kernel_rfl
theorem aw_peel (a1 a2 a3 : Option Addr) : PeelP 4 (awR a1 a2 a3) [3] [⟨#[97]⟩, ⟨#[98]⟩, ByteArray.empty, ByteArray.empty] := by
  have b1 : blkOf [0] ⟨a1, 1, 1, [1], ⟨#[97]⟩⟩ = 0 := by show (firstI (dropL [1] [0])).toNat = 0; decide
  have b2 : blkOf [1] ⟨a2, 1, 1, [3], ⟨#[3]⟩⟩ = 1 := by show (firstI (dropL [3] [1])).toNat = 1; decide
  refine ⟨⟨2, ⟨[1], [⟨#[97]⟩, ByteArray.empty, ByteArray.empty, ByteArray.empty], ⟨a2, 1, 1, [3], ⟨#[3]⟩⟩, ⟨[0], [ByteArray.empty, ByteArray.empty, ByteArray.empty, ByteArray.empty], ⟨a1, 1, 1, [1], ⟨#[97]⟩⟩, ⟨by decide, rfl⟩, ?_, ?_, ?_⟩, ?_, ?_, ?_⟩⟩, ?_⟩
  · unfold awR
    rw [List.find?_cons_of_pos]
    show (validB 4 [1] && decide (cnt (dropL [1] [0]) = 1)) = true
    decide
  · rw [b1]; decide
  · rw [b1]; show _ = [txtL [ByteArray.empty, ByteArray.empty, ByteArray.empty, ByteArray.empty] [1] ⟨#[97]⟩, ByteArray.empty, ByteArray.empty, ByteArray.empty]; rw [aw_t1]
  · unfold awR
    rw [List.find?_cons_of_neg, List.find?_cons_of_pos]
    · show (validB 4 [3] && decide (cnt (dropL [3] [1]) = 1)) = true
      decide
    · show ¬ (validB 4 [1] && decide (cnt (dropL [1] [1]) = 1)) = true
      decide
  · rw [b2]; decide
  · rw [b2]; show _ = [⟨#[97]⟩, txtL [⟨#[97]⟩, ByteArray.empty, ByteArray.empty, ByteArray.empty] [3] ⟨#[3]⟩, ByteArray.empty, ByteArray.empty]; rw [aw_t2]
  · unfold awR
    rw [List.find?_cons_of_neg, List.find?_cons_of_neg, List.find?_cons_of_neg]
    · rfl
    · show ¬ (validB 4 [12] && decide (cnt (dropL [12] [3]) = 1)) = true
      decide
    · show ¬ (validB 4 [3] && decide (cnt (dropL [3] [3]) = 1)) = true
      decide
    · show ¬ (validB 4 [1] && decide (cnt (dropL [1] [3]) = 1)) = true
      decide
theorem aw_told : toldTo 4 [3] [⟨#[97]⟩, ⟨#[98]⟩, ByteArray.empty, ByteArray.empty] (4 : Int).toNat = [([1], ⟨#[97]⟩), ([2], ⟨#[98]⟩)] := by kernel_rfl
theorem aw_rest (a1 a2 a3 : Option Addr) : restL 4 (awR a1 a2 a3) [3] [⟨#[97]⟩, ⟨#[98]⟩, ByteArray.empty, ByteArray.empty] = [([12], ⟨#[120]⟩)] := by
  unfold restL awR
  rw [List.filter_cons_of_neg, List.filter_cons_of_neg, List.filter_cons_of_pos]
  · show [(dropL [12] [3], txtL [⟨#[97]⟩, ⟨#[98]⟩, ByteArray.empty, ByteArray.empty] [12] ⟨#[120]⟩)] = _
    rw [aw_t3]
    rfl
  · show (validB 4 [12] && !decide (cnt (dropL [12] [3]) = 0) && !decide (cnt (dropL [12] [3]) = 1)) = true
    decide
  · show ¬ (validB 4 [3] && !decide (cnt (dropL [3] [3]) = 0) && !decide (cnt (dropL [3] [3]) = 1)) = true
    decide
  · show ¬ (validB 4 [1] && !decide (cnt (dropL [1] [3]) = 0) && !decide (cnt (dropL [1] [3]) = 1)) = true
    decide
theorem aw_rip0 (a1 a2 a3 : Option Addr) : ripTo [] (awR a1 a2 a3) 3 = [0] := by
  unfold ripTo
  rw [show List.range 3 = [0, 1, 2] from rfl, List.filter_cons_of_pos, List.filter_cons_of_neg, List.filter_cons_of_neg]
  · rfl
  · show ¬ decide (cnt (dropL [12] []) = 1) = true; decide
  · show ¬ decide (cnt (dropL [3] []) = 1) = true; decide
  · show decide (cnt (dropL [1] []) = 1) = true; decide
theorem aw_rip1 (a1 a2 a3 : Option Addr) : ripTo [1] (awR a1 a2 a3) 3 = [1] := by
  unfold ripTo
  rw [show List.range 3 = [0, 1, 2] from rfl, List.filter_cons_of_neg, List.filter_cons_of_pos, List.filter_cons_of_neg]
  · rfl
  · show ¬ decide (cnt (dropL [12] [1]) = 1) = true; decide
  · show decide (cnt (dropL [3] [1]) = 1) = true; decide
  · show ¬ decide (cnt (dropL [1] [1]) = 1) = true; decide
theorem aw_short (a1 a2 a3 : Option Addr) : shortR (awR a1 a2 a3) := fun i => by
  match i with
  | 0 => exact ⟨by show 1 ≤ 10; decide, by show (1 : Nat) ≤ 1000; decide⟩
  | 1 => exact ⟨by show 1 ≤ 10; decide, by show (1 : Nat) ≤ 1000; decide⟩
  | 2 => exact ⟨by show 1 ≤ 10; decide, by show (1 : Nat) ≤ 1000; decide⟩
  | i + 3 => exact ⟨Nat.zero_le _, Nat.zero_le _⟩
end Go.Proofs.YtcokmaofgfhapaaDoor
namespace Go.Proofs.YtcokmaofgfhapaaDoor
open Go.RowKit Go.Sort
set_option linter.unusedVariables false
set_option maxRecDepth 4000

theorem rows_three {w : World} {r q s : RV} (hr : RowAt w r.a r.n r.xs) (hq : RowAt w q.a q.n q.xs) (hs : RowAt w s.a s.n s.xs) : RowsAt (w.alloc (.cells #[.slice r.a r.n r.c, .string r.s, .slice q.a q.n q.c, .string q.s, .slice s.a s.n s.c, .string s.s] 36)) (some ⟨w.heap.size, 0, none⟩) 3 [r, q, s] := by
  have hb : Below w.heap.size w (w.alloc (.cells #[.slice r.a r.n r.c, .string r.s, .slice q.a q.n q.c, .string q.s, .slice s.a s.n s.c, .string s.s] 36)) := (Below.refl _ _).alloc (Nat.le_refl _) _
  refine ⟨rfl, fun i hi => ?_, .inr ⟨w.heap.size, 0, rfl, fun i hi => ?_⟩⟩
  · match i, hi with
    | 0, _ => exact hr.below hb
    | 1, _ => exact hq.below hb
    | 2, _ => exact hs.below hb
  · match i, hi with
    | 0, _ => constructor <;> simp
    | 1, _ => constructor <;> simp
    | 2, _ => constructor <;> simp
theorem aw_lit (w : World) : RowsAt ((((w.alloc (.cells #[.int .u64 1] 41)).alloc (.cells #[.int .u64 3] 41)).alloc (.cells #[.int .u64 12] 41)).alloc (.cells #[.slice (some ⟨w.heap.size, 0, none⟩) 1 1, .string ⟨#[97]⟩, .slice (some ⟨w.heap.size + 1, 0, none⟩) 1 1, .string ⟨#[3]⟩, .slice (some ⟨w.heap.size + 1 + 1, 0, none⟩) 1 1, .string ⟨#[120]⟩] 36)) (some ⟨w.heap.size + 1 + 1 + 1, 0, none⟩) 3 (awR (some ⟨w.heap.size, 0, none⟩) (some ⟨w.heap.size + 1, 0, none⟩) (some ⟨w.heap.size + 1 + 1, 0, none⟩)) ∧
    Below w.heap.size w ((((w.alloc (.cells #[.int .u64 1] 41)).alloc (.cells #[.int .u64 3] 41)).alloc (.cells #[.int .u64 12] 41)).alloc (.cells #[.slice (some ⟨w.heap.size, 0, none⟩) 1 1, .string ⟨#[97]⟩, .slice (some ⟨w.heap.size + 1, 0, none⟩) 1 1, .string ⟨#[3]⟩, .slice (some ⟨w.heap.size + 1 + 1, 0, none⟩) 1 1, .string ⟨#[120]⟩] 36)) := by
  have r1 := row_lit w 1 (by decide)
  have r2 := row_lit (w.alloc (.cells #[.int .u64 1] 41)) 3 (by decide)
  have r3 := row_lit ((w.alloc (.cells #[.int .u64 1] 41)).alloc (.cells #[.int .u64 3] 41)) 12 (by decide)
  have h := rows_three (w := ((w.alloc (.cells #[.int .u64 1] 41)).alloc (.cells #[.int .u64 3] 41)).alloc (.cells #[.int .u64 12] 41)) (r := ⟨_, 1, 1, [1], ⟨#[97]⟩⟩) (q := ⟨_, 1, 1, [3], ⟨#[3]⟩⟩) (s := ⟨_, 1, 1, [12], ⟨#[120]⟩⟩) ((r1.below (alloc_b _ _)).below (alloc_b _ _)) (r2.below (alloc_b _ _)) r3
  simp only [alloc_size] at h
  exact ⟨h, below0 (below0 (below0 (alloc_b _ _) (alloc_b _ _)) (alloc_b _ _)) (alloc_b _ _)⟩
def awT (a1 a2 : Option Addr) : List RV := [⟨a1, 1, 1, [1], ⟨#[97]⟩⟩, ⟨a2, 1, 1, [2], ⟨#[98]⟩⟩]
theorem aw_lit2 (w : World) : RowsAt (((w.alloc (.cells #[.int .u64 1] 41)).alloc (.cells #[.int .u64 2] 41)).alloc (.cells #[.slice (some ⟨w.heap.size, 0, none⟩) 1 1, .string ⟨#[97]⟩, .slice (some ⟨w.heap.size + 1, 0, none⟩) 1 1, .string ⟨#[98]⟩] 36)) (some ⟨w.heap.size + 1 + 1, 0, none⟩) 2 (awT (some ⟨w.heap.size, 0, none⟩) (some ⟨w.heap.size + 1, 0, none⟩)) ∧
    Below w.heap.size w (((w.alloc (.cells #[.int .u64 1] 41)).alloc (.cells #[.int .u64 2] 41)).alloc (.cells #[.slice (some ⟨w.heap.size, 0, none⟩) 1 1, .string ⟨#[97]⟩, .slice (some ⟨w.heap.size + 1, 0, none⟩) 1 1, .string ⟨#[98]⟩] 36)) := by
  have r1 := row_lit w 1 (by decide)
  have r2 := row_lit (w.alloc (.cells #[.int .u64 1] 41)) 2 (by decide)
  have h := rows_two (w := (w.alloc (.cells #[.int .u64 1] 41)).alloc (.cells #[.int .u64 2] 41)) (r := ⟨_, 1, 1, [1], ⟨#[97]⟩⟩) (q := ⟨_, 1, 1, [2], ⟨#[98]⟩⟩) (r1.below (alloc_b _ _)) r2
  simp only [alloc_size] at h
  exact ⟨h, below0 (below0 (alloc_b _ _) (alloc_b _ _)) (alloc_b _ _)⟩
theorem intz_lit1 (w : World) (x : Int) : IntzAt (w.alloc (.cells #[.int .i64 x] 3)) (some ⟨w.heap.size, 0, none⟩) 1 [x] := by
  refine ⟨rfl, .inr ⟨w.heap.size, 0, rfl, fun i hi => ?_⟩⟩
  match i, hi with
  | 0, _ => simp
theorem kbit_core (ts : List RV) (i : Nat) : kbit ts i = (ts.map core).any fun x => decide (cnt x.1 = 1) && getB x.1 i := by
  unfold kbit
  rw [List.any_map]
  rfl
theorem aw_kbit {ts : List RV} (h : ts.map core = [([1], ⟨#[97]⟩), ([2], ⟨#[98]⟩)]) (i : Nat) : kbit (ts.take 1) i = getB [1] i := by
  rw [kbit_core, List.map_take, h]
  show ((decide (cnt [1] = 1) && getB [1] i) || false) = getB [1] i
  rw [decide_eq_true (by decide)]
  simp
theorem aw_small : ∀ x ∈ ([([1], ⟨#[97]⟩), ([2], ⟨#[98]⟩)] : List (List Nat × ByteArray)), x.1.length ≤ 10 ∧ x.2.size ≤ 1000 := by
  intro x hx
  rcases List.mem_cons.1 hx with rfl | hx
  · exact ⟨by decide, by show (1 : Nat) ≤ 1000; decide⟩
  · rw [List.mem_singleton.1 hx]
    exact ⟨by decide, by show (1 : Nat) ≤ 1000; decide⟩
theorem aw_small3 : ∀ x ∈ ([([12], ⟨#[120]⟩)] : List (List Nat × ByteArray)), x.1.length ≤ 10 ∧ x.2.size ≤ 1000 := by
  intro x hx
  rw [List.mem_singleton.1 hx]
  exact ⟨by decide, by show (1 : Nat) ≤ 1000; decide⟩
set_option maxHeartbeats 2000000 in
theorem awake_any (w : World) (ht : Tab w) : Calls Tryd.prog 9 #[] w fun e w' => e = .returned (.bool true) ∧ Below w.heap.size w w' := by
  have HL := hide (aw_lit w)
  have HT := hide ht
  clear ht
  go_enter Tryd.func9, Tryd.ntmps9
  go_wp2_with fail
  obtain ⟨hR, hB⟩ := unhide HL
  have hT4 := (unhide HT).below hB
  have hsh := hide (aw_short (some ⟨w.heap.size, 0, none⟩) (some ⟨w.heap.size + 1, 0, none⟩) (some ⟨w.heap.size + 1 + 1, 0, none⟩))
  have hpl := hide (aw_peel (some ⟨w.heap.size, 0, none⟩) (some ⟨w.heap.size + 1, 0, none⟩) (some ⟨w.heap.size + 1 + 1, 0, none⟩))
  have hre := hide (aw_rest (some ⟨w.heap.size, 0, none⟩) (some ⟨w.heap.size + 1, 0, none⟩) (some ⟨w.heap.size + 1 + 1, 0, none⟩))
  have hr0 := hide (aw_rip0 (some ⟨w.heap.size, 0, none⟩) (some ⟨w.heap.size + 1, 0, none⟩) (some ⟨w.heap.size + 1 + 1, 0, none⟩))
  have hr1 := hide (aw_rip1 (some ⟨w.heap.size, 0, none⟩) (some ⟨w.heap.size + 1, 0, none⟩) (some ⟨w.heap.size + 1 + 1, 0, none⟩))
  have hdr : Hid ((awR (some ⟨w.heap.size, 0, none⟩) (some ⟨w.heap.size + 1, 0, none⟩) (some ⟨w.heap.size + 1 + 1, 0, none⟩)).drop 2 = [⟨some ⟨w.heap.size + 1 + 1, 0, none⟩, 1, 1, [12], ⟨#[120]⟩⟩]) := hide rfl
  generalize ((((w.alloc (.cells #[.int .u64 1] 41)).alloc (.cells #[.int .u64 3] 41)).alloc (.cells #[.int .u64 12] 41)).alloc (.cells #[.slice (some ⟨w.heap.size, 0, none⟩) 1 1, .string ⟨#[97]⟩, .slice (some ⟨w.heap.size + 1, 0, none⟩) 1 1, .string ⟨#[3]⟩, .slice (some ⟨w.heap.size + 1 + 1, 0, none⟩) 1 1, .string ⟨#[120]⟩] 36)) = w4 at *
  generalize awR (some ⟨w.heap.size, 0, none⟩) (some ⟨w.heap.size + 1, 0, none⟩) (some ⟨w.heap.size + 1 + 1, 0, none⟩) = rs at *
  clear HL
  generalize hg : w.heap.size + 1 + 1 + 1 = g at *
  clear hg
  refine (peel_any 4 (some ⟨g, 0, none⟩) 3 3 rs w4 hT4 hR (unhide hsh) (by omega)).mono ?_
  rintro e w5 ⟨a1, m1, c1, ts1, a2, m2, c2, ts2, rfl, kn, bs, hP, o1, i1, e1, o2, i2, e2, hb5⟩
  obtain ⟨rfl, rfl⟩ := hP.uniq (unhide hpl)
  rw [aw_told] at e1
  rw [unhide hre] at e2
  obtain ⟨R1, l1, hcc1, hcm1⟩ := o1.at' i1
  obtain ⟨R2, l2, -, -⟩ := o2.at' i2
  have hm1 : m1 = 2 := by rw [l1]; have := congrArg List.length e1; rw [List.length_map] at this; exact this
  have hm2 : m2 = 1 := by rw [l2]; have := congrArg List.length e2; rw [List.length_map] at this; exact this
  subst hm1 hm2
  have s1 := short_core i1 e1 aw_small
  have s2 := short_core i2 e2 aw_small3
  obtain ⟨b1, off1, rfl, -⟩ := R1.at (i := 0) (by omega)
  have hsl : ∀ wx : World, (Instr.sliceAt 22 (.slice (some ⟨g, 0, none⟩) 3 3) (some (.int .i64 2)) none none).run Tryd.prog wx = .ok (.slice (some ⟨g, 4, none⟩) 1 1) wx := fun wx => slice_lo g 0 3 3 2 (by omega) (by omega) wx
  have hsh1 : ∀ wx : World, (Instr.sliceAt 22 (.slice (some ⟨b1, off1, none⟩) 2 c1) none (some (.int .i64 1)) none).run Tryd.prog wx = .ok (.slice (some ⟨b1, off1, none⟩) 1 c1) wx := fun wx => slice_hi b1 off1 2 c1 1 (by omega) wx
  have HE1 := hide e1
  have HE2 := hide e2
  have H1 := hide R1
  have H2 := hide R2
  have HS1 := hide s1
  have HS2 := hide s2
  have HR5 := hide (hR.below hb5)
  have HT5 := hide (hT4.below hb5)
  have HB5 := hide (below0 hB hb5)
  have HL2 := hide (aw_lit2 w5)
  clear e1 e2 R1 R2 s1 s2 hR hT4 hB hb5 o1 o2 i1 i2 l1 l2 hP hcc1 hcm1 hpl hre
  go_wp2_with fail
  obtain ⟨q1, q2⟩ := unhide HL2
  have hco : Hid (([([1], ⟨#[97]⟩), ([2], ⟨#[98]⟩)] : List (List Nat × ByteArray)) = (awT (some ⟨w5.heap.size, 0, none⟩) (some ⟨w5.heap.size + 1, 0, none⟩)).map core) := hide rfl
  generalize (((w5.alloc (.cells #[.int .u64 1] 41)).alloc (.cells #[.int .u64 2] 41)).alloc (.cells #[.slice (some ⟨w5.heap.size, 0, none⟩) 1 1, .string ⟨#[97]⟩, .slice (some ⟨w5.heap.size + 1, 0, none⟩) 1 1, .string ⟨#[98]⟩] 36)) = w6 at *
  generalize awT (some ⟨w5.heap.size, 0, none⟩) (some ⟨w5.heap.size + 1, 0, none⟩) = us at *
  generalize hg : w5.heap.size + 1 + 1 = g6 at *
  clear hg HL2
  refine (rall_any (some ⟨b1, off1, none⟩) 2 c1 ts1 (some ⟨g6, 0, none⟩) 2 2 us w6 ((unhide H1).below q2) q1 ((unhide HE1).trans (unhide hco)) (unhide HS1) (by omega)).mono ?_
  rintro e w7 ⟨rfl, hb7⟩
  have hb57 := below0 q2 hb7
  have HR7 := hide ((unhide HR5).below hb57)
  have HK7 := hide ((unhide H1).below hb57)
  have HL7 := hide ((unhide H2).below hb57)
  have HT7 := hide ((unhide HT5).below hb57)
  have HB7 := hide (below0 (unhide HB5) hb57)
  clear hb7 hb57 q1 q2 hco HR5 H1 H2 HT5 HB5
  go_wp2_with fail
  refine (rall_any a2 1 c2 ts2 (some ⟨g, 4, none⟩) 1 1 (rs.drop 2) w7 (unhide HL7) (by have := (unhide HR7).drop 2 (by omega); exact this) (by rw [unhide HE2, unhide hdr]; rfl) (unhide HS2) (by omega)).mono ?_
  rintro e w8 ⟨rfl, hb8⟩
  have HR8 := hide ((unhide HR7).below hb8)
  have HK8 := hide ((unhide HK7).below hb8)
  have HT8 := hide ((unhide HT7).below hb8)
  have HB8 := hide (below0 (unhide HB7) hb8)
  clear hb8 HR7 HK7 HL7 HT7 HB7
  go_wp2_with fail
  refine (ripple_any none 0 0 [] (some ⟨g, 0, none⟩) 3 3 rs w8 (unhide HT8) (rows_nil _) short_nil (by omega) (unhide HR8) (unhide hsh) (by omega)).mono ?_
  rintro e w9 ⟨v9, u9, rfl, o9, hu9, hb9⟩
  rw [(ripTo_congr (u' := []) (fun i => by rw [hu9, getB_nil]; rfl) 3).trans (unhide hr0)] at o9
  obtain ⟨a9, c9, rfl, z9⟩ := o9.ints
  have HZ9 := hide z9
  have HR9 := hide ((unhide HR8).below hb9)
  have HK9 := hide ((unhide HK8).below hb9)
  have HT9 := hide ((unhide HT8).below hb9)
  have HB9 := hide (below0 (unhide HB8) hb9)
  clear hb9 HR8 HK8 HT8 HB8 o9 z9 hu9
  go_wp2_with fail
  refine (intz_any a9 1 c9 [0] (some ⟨w9.heap.size, 0, none⟩) 1 1 [0] _ ((unhide HZ9).below (alloc_b _ _)) (intz_lit1 _ _) rfl (by omega)).mono ?_
  rintro e w10 ⟨rfl, hb10⟩
  have hb910 := below0 (alloc_b w9 (.cells #[.int .i64 0] 3)) hb10
  have HR10 := hide ((unhide HR9).below hb910)
  have HK10 := hide ((unhide HK9).below hb910)
  have HT10 := hide ((unhide HT9).below hb910)
  have HB10 := hide (below0 (unhide HB9) hb910)
  clear hb10 hb910 HR9 HK9 HT9 HB9 HZ9
  go_wp2_with fail
  refine (ripple_any (some ⟨b1, off1, none⟩) 1 c1 (ts1.take 1) (some ⟨g, 0, none⟩) 3 3 rs w10 (unhide HT10) ((unhide HK10).take 1 (by omega)) (short_take (unhide HS1) 1) (by omega) (unhide HR10) (unhide hsh) (by omega)).mono ?_
  rintro e w11 ⟨v11, u11, rfl, o11, hu11, hb11⟩
  rw [(ripTo_congr (u' := [1]) (fun i => by rw [hu11, aw_kbit (unhide HE1)]) 3).trans (unhide hr1)] at o11
  obtain ⟨a11, c11, rfl, z11⟩ := o11.ints
  have HZ11 := hide z11
  have HB11 := hide (below0 (unhide HB10) hb11)
  clear hb11 HR10 HK10 HT10 HB10 o11 z11 hu11
  go_wp2_with fail
  refine (intz_any a11 1 c11 [1] (some ⟨w11.heap.size, 0, none⟩) 1 1 [1] _ ((unhide HZ11).below (alloc_b _ _)) (intz_lit1 _ _) rfl (by omega)).mono ?_
  rintro e w12 ⟨rfl, hb12⟩
  have HB12 := hide (below0 (below0 (unhide HB11) (alloc_b w11 (.cells #[.int .i64 1] 3))) hb12)
  clear hb12 HB11 HZ11
  go_wp2
  go_ret
  exact ⟨rfl, unhide HB12⟩
end Go.Proofs.YtcokmaofgfhapaaDoor
namespace Go.Proofs.YtcokmaofgfhapaaDoor
open Go.RowKit Go.Sort
set_option linter.unusedVariables false
set_option maxRecDepth 4000

theorem PeelP.kn {k : Int} {rs : List RV} {kn : List Nat} {bs : List ByteArray} (h : PeelP k rs kn bs) (hg : Good rs) (hz : 0 < sizeOfK k) : ∃ j, Kn k j kn bs := by
  obtain ⟨⟨j, hj⟩, _⟩ := h
  exact ⟨j, Run.known hz hg hj⟩
/-- Few rows, short ones: so are the answers. -/
theorem PeelR.short {w w' : World} {k : Int} {rs : List RV} {a1 : Option Addr} {m1 c1 : Nat} {ts1 : List RV} {a2 : Option Addr} {m2 c2 : Nat} {ts2 : List RV} (h : PeelR w w' k rs a1 m1 c1 ts1 a2 m2 c2 ts2) (hg : Good rs) (hs : shortR rs) (hl : ∀ r ∈ rs, r.xs.length ≤ 10) : shortR ts1 ∧ shortR ts2 ∧ ts1.length ≤ 128 ∧ ts2.length ≤ rs.length := by
  obtain ⟨kn, bs, hP, o1, i1, e1, o2, i2, e2, hb⟩ := h
  have hrl : ts2.length ≤ rs.length := by
    have := congrArg List.length e2
    unfold restL at this
    rw [List.length_map, List.length_map] at this
    have := List.length_filter_le (restB k kn) rs
    omega
  by_cases hz : sizeOfK k = 0
  · obtain ⟨p1, p2, p3⟩ := peelP_none (rs := rs) hz
    obtain ⟨rfl, rfl⟩ := hP.uniq p1
    rw [p2] at e1
    rw [p3] at e2
    rw [List.map_eq_nil_iff] at e1 e2
    subst e1 e2
    exact ⟨short_nil, short_nil, by simp, hrl⟩
  · obtain ⟨j, hK⟩ := hP.kn hg (by omega)
    have hroom := size_room hK.size
    refine ⟨told_short hK i1 e1, short_core i2 e2 fun x hx => ?_, by have := told_len e1; omega, hrl⟩
    unfold restL at hx
    rw [List.mem_map] at hx
    obtain ⟨r, hr, rfl⟩ := hx
    have hm := (List.mem_filter.1 hr).1
    exact ⟨by rw [dropL_length]; exact hl r hm, txtL_size hK.short (hg r hm).2⟩
theorem len_of {w : World} {a : Option Addr} {n : Nat} {rs : List RV} (h : RowsAt w a n rs) (hs : shortR rs) : ∀ r ∈ rs, r.xs.length ≤ 10 := fun r hr => by
  obtain ⟨i, hi, rfl⟩ := List.mem_iff_getElem.1 hr
  have h1 := h.2.1 i (by rw [← h.1]; exact hi)
  have h2 := hs i
  rw [List.getD_eq_getElem?_getD, List.getElem?_eq_getElem hi] at h1 h2
  simp only [Option.getD_some] at h1 h2
  rw [h1.1]; exact h2.1

set_option maxHeartbeats 2000000 in
theorem peels_walk (k : Int) (a : Option Addr) (n c : Nat) (rs : List RV) (w : World) (ht : Tab w) (h : RowsAt w a n rs) (hn : n ≤ 9223372036854775807) (hcap : CapR rs) (hbig : ∀ i, (rs.getD i .dflt).n ≤ 9223372036854775807 ∧ (rs.getD i .dflt).s.size ≤ 9223372036854775807) :
    Calls Tryd.prog 3 #[.int .i64 k, .slice a n c] w fun e w' => e = .returned (.bool true) ∧ Below w.heap.size w w' := by
  have Hh := hide h
  have HC := hide hcap
  have HT := hide ht
  have HF := hide (fewR_any a n c rs w h hn hbig)
  have HNL := hide h.1
  clear h hcap ht hbig
  go_enter Tryd.func3, Tryd.ntmps3
  go_wp2_with fail
  refine (unhide HF).mono ?_
  rintro e w0 ⟨hf, hw⟩
  obtain rfl := hw.symm
  clear hw HF
  rcases hf with ⟨rfl, hf⟩ | ⟨rfl, hf⟩
  rotate_left
  · clear hf
    go_wp2_with fail
    refine (awake_any _ (unhide HT)).mono ?_
    rintro e w1 ⟨rfl, hb1⟩
    go_wp2
    go_ret
    exact ⟨rfl, hb1⟩
  by_cases h1 : 100 < n
  · have hd : decide ((100 : Int) < (n : Int)) = true := by rw [decide_eq_true_iff]; omega
    clear hf
    go_wp2_with fail
    refine (awake_any _ (unhide HT)).mono ?_
    rintro e w1 ⟨rfl, hb1⟩
    go_wp2
    go_ret
    exact ⟨rfl, hb1⟩
  have hd : decide ((100 : Int) < (n : Int)) = false := by rw [decide_eq_false_iff_not]; omega
  have hs := hf.2
  have HG := hide (good_of (unhide Hh) hs)
  have HLN := hide (len_of (unhide Hh) hs)
  have Hs := hide hs
  clear hf hs
  go_wp2_with fail
  refine (peel_any k a n c rs w (unhide HT) (unhide Hh) (unhide Hs) (by omega)).mono ?_
  rintro e w1 ⟨a1, m1, c1, ts1, a2, m2, c2, ts2, rfl, hP⟩
  have HS := hide (hP.short (unhide HG) (unhide Hs) (unhide HLN))
  have HP := hide hP
  have hbw : Below w.heap.size w w1 := by obtain ⟨_, _, _, _, _, _, _, _, _, hb⟩ := hP; exact hb
  have HB1 := hide hbw
  clear hP hbw
  go_wp2_with fail
  refine (rpeel_any k a n c rs w1 ((unhide Hh).below (unhide HB1)) (unhide Hs) (unhide HC) (by omega)).mono ?_
  rintro e w2 ⟨a3, m3, c3, ts3, a4, m4, c4, ts4, rfl, hQ⟩
  obtain ⟨kn, bs, p1, o1, i1, e1, o2, i2, e2, hb⟩ := unhide HP
  obtain ⟨kn', bs', p3, o3, i3, e3, o4, i4, e4, hb2⟩ := hQ
  obtain ⟨rfl, rfl⟩ := p1.uniq p3
  obtain ⟨s1, s2, l1, l2⟩ := unhide HS
  obtain ⟨R1, q1, -, -⟩ := (o1.below hb2).at' (i1.below hb2)
  obtain ⟨R2, q2, -, -⟩ := (o2.below hb2).at' (i2.below hb2)
  obtain ⟨R3, q3, -, -⟩ := o3.at' i3
  obtain ⟨R4, q4, -, -⟩ := o4.at' i4
  have HA1 := hide (rall_any a1 m1 c1 ts1 a3 m3 c3 ts3 w2 R1 R3 (e1.trans e3.symm) s1 (by omega))
  have HA2 := hide (fun (w3 : World) (hb : Below w2.heap.size w2 w3) => rall_any a2 m2 c2 ts2 a4 m4 c4 ts4 w3 (R2.below hb) (R4.below hb) (e2.trans e4.symm) s2 (by have := unhide HNL; omega))
  have HB2 := hide (below0 (unhide HB1) hb2)
  clear p1 p3 o1 o2 o3 o4 i1 i2 i3 i4 e1 e2 e3 e4 hb hb2 s1 s2 l1 l2 R1 R2 R3 R4 q1 q2 q3 q4 HP HS HB1
  go_wp2_with fail
  refine (unhide HA1).mono ?_
  rintro e w3 ⟨rfl, hb3⟩
  have HA3 := hide (unhide HA2 w3 hb3)
  have HB3 := hide (below0 (unhide HB2) hb3)
  clear hb3 HA1 HA2 HB2
  go_wp2_with fail
  refine (unhide HA3).mono ?_
  rintro e w4 ⟨rfl, hb4⟩
  have HB4 := hide (below0 (unhide HB3) hb4)
  clear hb4 HA3 HB3
  go_wp2_with fail
  refine (awake_any _ ((unhide HT).below (unhide HB4))).mono ?_
  rintro e w5 ⟨rfl, hb5⟩
  have HB5 := hide (below0 (unhide HB4) hb5)
  clear hb5 HB4
  go_wp2
  go_ret
  exact ⟨rfl, unhide HB5⟩

set_option maxHeartbeats 2000000 in
theorem ripples_walk (a : Option Addr) (n c : Nat) (ks : List RV) (a' : Option Addr) (m c' : Nat) (rs : List RV) (w : World) (ht : Tab w) (h : RowsAt w a n ks) (hn : n ≤ 9223372036854775807) (hbig : ∀ i, (ks.getD i .dflt).n ≤ 9223372036854775807 ∧ (ks.getD i .dflt).s.size ≤ 9223372036854775807)
    (h' : RowsAt w a' m rs) (hm : m ≤ 9223372036854775807) (hbig' : ∀ i, (rs.getD i .dflt).n ≤ 9223372036854775807 ∧ (rs.getD i .dflt).s.size ≤ 9223372036854775807) :
    Calls Tryd.prog 4 #[.slice a n c, .slice a' m c'] w fun e w' => e = .returned (.bool true) ∧ Below w.heap.size w w' := by
  have Hk := hide h
  have Hh := hide h'
  have HT := hide ht
  have HFK := hide (fewR_any a n c ks w h hn hbig)
  have HFR := hide (fewR_any a' m c' rs w h' hm hbig')
  clear h h' ht hbig hbig'
  go_enter Tryd.func4, Tryd.ntmps4
  go_wp2_with fail
  refine (unhide HFK).mono ?_
  rintro e w0 ⟨hf, hw⟩
  obtain rfl := hw.symm
  clear hw HFK
  rcases hf with ⟨rfl, hf⟩ | ⟨rfl, hf⟩
  rotate_left
  · clear hf HFR
    go_wp2_with fail
    refine (awake_any _ (unhide HT)).mono ?_
    rintro e w1 ⟨rfl, hb1⟩
    go_wp2
    go_ret
    exact ⟨rfl, hb1⟩
  have Hks := hide hf.2
  have hn3 : n ≤ 300 := by rw [← (unhide Hk).1]; exact hf.1
  clear hf
  go_wp2_with fail
  refine (unhide HFR).mono ?_
  rintro e w0 ⟨hf, hw⟩
  obtain rfl := hw.symm
  clear hw HFR
  rcases hf with ⟨rfl, hf⟩ | ⟨rfl, hf⟩
  rotate_left
  · clear hf
    go_wp2_with fail
    refine (awake_any _ (unhide HT)).mono ?_
    rintro e w1 ⟨rfl, hb1⟩
    go_wp2
    go_ret
    exact ⟨rfl, hb1⟩
  have Hs := hide hf.2
  have hm3 : m ≤ 300 := by rw [← (unhide Hh).1]; exact hf.1
  clear hf
  by_cases h1 : 100 < m
  · have hd : decide ((100 : Int) < (m : Int)) = true := by rw [decide_eq_true_iff]; omega
    go_wp2_with fail
    refine (awake_any _ (unhide HT)).mono ?_
    rintro e w1 ⟨rfl, hb1⟩
    go_wp2
    go_ret
    exact ⟨rfl, hb1⟩
  have hd : decide ((100 : Int) < (m : Int)) = false := by rw [decide_eq_false_iff_not]; omega
  by_cases h2 : 100 < n
  · have hd2 : decide ((100 : Int) < (n : Int)) = true := by rw [decide_eq_true_iff]; omega
    go_wp2_with fail
    refine (awake_any _ (unhide HT)).mono ?_
    rintro e w1 ⟨rfl, hb1⟩
    go_wp2
    go_ret
    exact ⟨rfl, hb1⟩
  have hd2 : decide ((100 : Int) < (n : Int)) = false := by rw [decide_eq_false_iff_not]; omega
  go_wp2_with fail
  refine (ripple_any a n c ks a' m c' rs w (unhide HT) (unhide Hk) (unhide Hks) (by omega) (unhide Hh) (unhide Hs) (by omega)).mono ?_
  rintro e w1 ⟨v1, u, rfl, o1, hu, hb1⟩
  obtain ⟨xs1, hx1⟩ : ∃ xs1, xs1 = ripTo u rs m := ⟨_, rfl⟩
  have hxl : xs1.length ≤ 1048576 := by rw [hx1]; have := ripTo_len u rs m; omega
  rw [← hx1] at o1
  obtain ⟨a1, c1, rfl, z1⟩ := o1.ints
  have HRR := hide (rripple_any a n c ks a' m c' rs u w1 ((unhide Hk).below hb1) (unhide Hks) (by omega) ((unhide Hh).below hb1) (unhide Hs) (by omega) hu)
  rw [← hx1] at HRR
  have HZ1 := hide z1
  have HB1 := hide hb1
  clear o1 z1 hb1 hu hx1
  go_wp2_with fail
  refine (unhide HRR).mono ?_
  rintro e w2 ⟨v2, rfl, o2, hb2⟩
  obtain ⟨a2, c2, rfl, z2⟩ := o2.ints
  have HI := hide (intz_any a1 _ c1 xs1 a2 _ c2 xs1 w2 ((unhide HZ1).below hb2) z2 rfl hxl)
  have HB2 := hide (below0 (unhide HB1) hb2)
  clear o2 z2 hb2 HRR HZ1 HB1
  go_wp2_with fail
  refine (unhide HI).mono ?_
  rintro e w3 ⟨rfl, hb3⟩
  have HB3 := hide (below0 (unhide HB2) hb3)
  clear hb3 HB2 HI
  go_wp2_with fail
  refine (awake_any _ ((unhide HT).below (unhide HB3))).mono ?_
  rintro e w4 ⟨rfl, hb4⟩
  have HB4 := hide (below0 (unhide HB3) hb4)
  clear hb4 HB3
  go_wp2
  go_ret
  exact ⟨rfl, unhide HB4⟩
end Go.Proofs.YtcokmaofgfhapaaDoor
