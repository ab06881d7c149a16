/-
  Contracts of peel.units, peel.Ripple and bucketlineref13.Ripple.
-/
import Derived.Test.YtcokmaofgfhapaaDoorM5
import Derived.Test.YtcokmaofgfhapaaDoorZI
namespace Go.Proofs.YtcokmaofgfhapaaDoor
open Go.RowKit Go.Sort
set_option linter.unusedVariables false
set_option maxRecDepth 4000

/-- The bits of those rows that have just one. -/
def kbit (ks : List RV) (i : Nat) : Bool := ks.any fun r => decide (cnt r.xs = 1) && getB r.xs i
theorem kbit_snoc (ks : List RV) (k : Nat) (hk : k < ks.length) (i : Nat) : kbit (ks.take (k + 1)) i = (kbit (ks.take k) i || (decide (cnt (ks.getD k .dflt).xs = 1) && getB (ks.getD k .dflt).xs i)) := by
  unfold kbit
  rw [List.take_succ_eq_append_getElem hk, List.any_append]
  simp [List.getD_eq_getElem?_getD, List.getElem?_eq_getElem hk]
theorem getB_zeros (xs : List Nat) (m i : Nat) : getB (xs ++ List.replicate m 0) i = getB xs i := by
  unfold getB
  congr 1
  rw [List.getD_eq_getElem?_getD, List.getD_eq_getElem?_getD]
  by_cases h : i / 64 < xs.length
  · rw [List.getElem?_append_left h]
  · rw [List.getElem?_append_right (by omega), List.getElem?_eq_none (l := xs) (by omega), List.getElem?_replicate]
    split <;> rfl
/-- What a round of units leaves. -/
def UnS (w wr : World) (ks : List RV) (k : Nat) (a : Option Addr) (c : Nat) (u : List Nat) : Prop :=
  Own wr w.heap.size (.slice a u.length c) u ∧ (∀ i, getB u i = kbit (ks.take k) i) ∧ u.length ≤ 10 ∧ Below w.heap.size w wr
theorem UnS.skip {w wr w1 : World} {ks : List RV} {k : Nat} {a : Option Addr} {c : Nat} {u : List Nat} (h : UnS w wr ks k a c u) (hk : k < ks.length) (h1 : ¬ cnt (ks.getD k .dflt).xs = 1) (hb : Below wr.heap.size wr w1) : UnS w w1 ks (k + 1) a c u :=
  ⟨h.1.below hb, fun i => by rw [kbit_snoc ks k hk, h.2.1 i, decide_eq_false h1]; simp, h.2.2.1, below0 h.2.2.2 hb⟩
theorem one_bit {xs : List Nat} (hs : smalls xs) (h : cnt xs = 1) : ∃ b : Nat, firstI xs = (b : Int) ∧ b / 64 < xs.length ∧ ∀ i, getB xs i = decide (i = b) := by
  obtain ⟨b, hb⟩ := cnt_one.1 h
  refine ⟨b, firstI_one hs hb, ?_, hb⟩
  rcases Nat.lt_or_ge (b / 64) xs.length with h0 | h0
  · exact h0
  · have := hb b
    rw [getB_out xs b (by omega)] at this
    simp at this

theorem UnS.more {w w3 : World} {ks : List RV} {k : Nat} {u u2 : List Nat} {r : RV} {bt : Nat} {a2 : Option Addr} {n2 c2 : Nat} (hu : ∀ i, getB u i = kbit (ks.take k) i) (hsn : ∀ i, kbit (ks.take (k + 1)) i = (kbit (ks.take k) i || (decide (cnt r.xs = 1) && getB r.xs i)))
    (h1 : cnt r.xs = 1) (hbb : ∀ i, getB r.xs i = decide (i = bt)) (h2 : ∀ i, getB u2 i = getB u i) (hl : u2.length ≤ 10) (hb : bt / 64 < u2.length) (hn : n2 = u2.length) (ho : Own w3 w.heap.size (.slice a2 n2 c2) (setB u2 bt true)) (hB : Below w.heap.size w w3) :
    n2 = (setB u2 bt true).length ∧ UnS w w3 ks (k + 1) a2 c2 (setB u2 bt true) := by
  refine ⟨by rw [setB_length, hn], by rw [setB_length, ← hn]; exact ho, fun i => ?_, by rw [setB_length]; exact hl, hB⟩
  rw [bit_setB _ _ _ _ (by omega), hsn, h2, hu, h1, hbb]
  by_cases e : i = bt
  · simp [e]
  · simp [e]

set_option maxHeartbeats 2000000 in
theorem units_any (a : Option Addr) (n c : Nat) (ks : List RV) (w : World) (ht : Tab w) (h : RowsAt w a n ks) (hs : shortR ks) (hn : n ≤ 1048576) :
    Calls Tryd.prog 31 #[.slice a n c] w fun e w' => ∃ v u, e = .returned v ∧ Own w' w.heap.size v u ∧ (∀ i, getB u i = kbit ks i) ∧ u.length ≤ 10 ∧ Below w.heap.size w w' := by
  obtain rfl := h.1
  have Hh := hide h
  have Hs := hide hs
  have HT := hide ht
  clear h hs ht
  go_enter Tryd.func31, Tryd.ntmps31
  go_wp2
  go_loopw [3, 8] (fun v i wr => ∃ k : Nat, ∃ a1 : Option Addr, ∃ m1 c1 : Nat, ∃ u : List Nat, k ≤ ks.length ∧ i = .int .i64 k ∧ v = .slice a1 m1 c1 ∧ Hid (m1 = u.length) ∧ Hid (UnS w wr ks k a1 c1 u)) (fun _ i _ => ks.length - (intOf i).toNat)
  case atStart => exact ⟨0, none, 0, 0, [], Nat.zero_le _, rfl, rfl, hide rfl, hide ⟨Own.nil _ _, fun i => by rw [getB_nil]; rfl, by simp, Below.refl _ _⟩⟩
  case round =>
    obtain ⟨k, a1, m1, c1, u, hk, rfl, rfl, HM, HU⟩ := hrel
    by_cases hlt : k < ks.length
    · have hU := unhide HU
      have hR := (unhide Hh).below hU.2.2.2
      obtain ⟨b, off, rfl, hcl⟩ := hR.at hlt
      obtain ⟨hc0, hc1⟩ := hcl k hlt
      have hrow := hR.2.1 k hlt
      have hrow0 := (unhide Hh).2.1 k hlt
      have hlt' : (k : Int) < (ks.length : Int) := by omega
      have hsh := (unhide Hs) k
      have HSK := hide (fun w1 h1 hb => hU.skip (w1 := w1) hlt h1 hb)
      have HSN := hide (kbit_snoc ks k hlt)
      generalize ks.getD k .dflt = r at *
      have hb1 : Below wr.heap.size wr (wr.alloc (.cells #[.slice r.a r.n r.c, .string r.s] 36)) := (Below.refl _ _).alloc (Nat.le_refl _) _
      have HC := hide (count_any r.a r.n r.c r.xs _ (hrow.below hb1) (by omega))
      clear hcl hR
      by_cases h1 : cnt r.xs = 1
      · rw [h1] at HC
        obtain ⟨bt, hf, hbl, hbb⟩ := one_bit hrow.2.1 h1
        rw [hrow.1] at hbl
        have hbx := box_new wr (.slice r.a r.n r.c) (.string r.s)
        have hTb := (unhide HT).below (below0 hU.2.2.2 hb1)
        have hrn := hrow.1
        by_cases h2 : m1 < r.n
        · obtain ⟨m, hm⟩ : ∃ m, r.n = m1 + m := ⟨r.n - m1, by omega⟩
          have hsub : (r.n : Int) - (m1 : Int) = (m : Int) := by omega
          have hmu := unhide HM
          obtain ⟨a2, c2, w2, hrun, ho2, hg2⟩ := append_zeros w.heap.size a1 c1 u m _ (hU.1.below hb1) (Nat.le_trans hU.2.2.2.size hb1.size) (by omega) (by omega)
          rw [← hmu, ← hm] at hrun ho2
          obtain ⟨g, cap, he, hBg, hgs, _, _⟩ := ho2.at (by simp; omega)
          simp only [Value.slice.injEq] at he
          obtain ⟨rfl, -, rfl⟩ := he
          have hlt2 : (m1 : Int) < (r.n : Int) := by omega
          have hne : some wr.heap.size ≠ (Value.slice a1 m1 c1).ownBlock := fun e => by
            have := (hU.1.lt (by rw [← hmu]; exact e.symm)).2
            omega
          have hx0 := hg2.cell hbx.1 (by rw [← hmu]; exact hne)
          have hB2 : Below w.heap.size (wr.alloc (.cells #[.slice r.a r.n r.c, .string r.s] 36)) w2 := gb_below hg2 (Nat.le_trans hU.2.2.2.size hb1.size) fun j hj => (Own.lt (hU.1.below hb1) hj).1
          have hB3 : Below w.heap.size w w2 := (below0 hU.2.2.2 hb1).trans hB2
          have HF := hide (first_any r.a r.n r.c r.xs w2 ((unhide HT).below hB3) (hrow0.below hB3) (by omega))
          rw [hf] at HF
          have hul : (u ++ List.replicate m 0).length = r.n := by simp; omega
          have HP := pset_any w.heap.size g c2 (u ++ List.replicate m 0) bt w2 (by rw [hul]; exact ho2) (by rw [hul]; exact hbl) (by rw [hul]; omega)
          rw [hul] at HP
          have HPS := hide HP
          have HMO := hide (fun w3 ho3 hB => UnS.more (w := w) (w3 := w3) (a2 := some ⟨g, 0, none⟩) (c2 := c2) (n2 := r.n) hU.2.1 (unhide HSN) h1 hbb (fun i => getB_zeros u m i) (by rw [hul]; omega) (by rw [hul]; exact hbl) hul.symm ho3 hB)
          have HB3 := hide hB3
          have HBG := hide hBg
          clear hU hrow hrow0 hb1 hB2 hB3 hg2 ho2 hTb hbb HP hul hrn hbx h1 HM HU hmu hm hne hBg hbl HSK HSN
          go_wp2_with (first | (go_at_call 34; refine (unhide HC).mono ?_; rintro e w' ⟨rfl, rfl⟩) | (at_builtin; refine Lib.wpList_append_run _ rfl (.tmp 22) (.tmp 28) 34 3 rfl (.slice a1 m1 c1) (.int .i64 (m : Int)) rfl rfl (.slice (some ⟨g, 0, none⟩) r.n c2) w2 (hrun _) ?_) | (go_at_call 44; refine (unhide HF).mono ?_; rintro e w' ⟨rfl, rfl⟩) | (go_at_call 45; refine (unhide HPS).mono ?_; rintro e w3 ⟨rfl, ho3, hg3⟩; have HO3 := hide ho3; have HG3 := hide hg3; clear ho3 hg3))
          go_roundw
          case rel =>
            have hB4 : Below w.heap.size w w3 := (unhide HB3).trans (gb_below (unhide HG3) (unhide HB3).size (fun j hj => by cases hj; exact unhide HBG))
            obtain ⟨q1, q2⟩ := unhide HMO w3 (unhide HO3) hB4
            exact ⟨k + 1, _, _, _, _, by omega, by go_num, rfl, hide q1, hide q2⟩
          case measure => simp [intOf]; omega
        · have hge : ¬ ((m1 : Int) < (r.n : Int)) := by omega
          have hmu := unhide HM
          have ho2 := hU.1.below hb1
          rw [← hmu] at ho2
          obtain ⟨g, cap, he, hBg, hgs, _, _⟩ := ho2.at (by omega)
          simp only [Value.slice.injEq] at he
          obtain ⟨rfl, -, rfl⟩ := he
          have hB3 := below0 hU.2.2.2 hb1
          have HF := hide (first_any r.a r.n r.c r.xs _ ((unhide HT).below hB3) (hrow0.below hB3) (by omega))
          rw [hf] at HF
          have HP := pset_any w.heap.size g c1 u bt _ (by rw [← hmu]; exact ho2) (by omega) (by have := hU.2.2.1; omega)
          rw [← hmu] at HP
          have HPS := hide HP
          have HMO := hide (fun w3 ho3 hB => UnS.more (w := w) (w3 := w3) (a2 := some ⟨g, 0, none⟩) (c2 := c1) (n2 := m1) hU.2.1 (unhide HSN) h1 hbb (fun i => rfl) hU.2.2.1 (by omega) hmu ho3 hB)
          have HB3 := hide hB3
          have HBG := hide hBg
          clear hU hrow hrow0 hb1 hB3 ho2 hTb hbb HP hrn hbx h1 HM HU hmu hBg hbl HSK HSN
          go_wp2_with (first | (go_at_call 34; refine (unhide HC).mono ?_; rintro e w' ⟨rfl, rfl⟩) | (go_at_call 44; refine (unhide HF).mono ?_; rintro e w' ⟨rfl, rfl⟩) | (go_at_call 45; refine (unhide HPS).mono ?_; rintro e w3 ⟨rfl, ho3, hg3⟩; have HO3 := hide ho3; have HG3 := hide hg3; clear ho3 hg3))
          go_roundw
          case rel =>
            have hB4 : Below w.heap.size w w3 := (unhide HB3).trans (gb_below (unhide HG3) (unhide HB3).size (fun j hj => by cases hj; exact unhide HBG))
            obtain ⟨q1, q2⟩ := unhide HMO w3 (unhide HO3) hB4
            exact ⟨k + 1, _, _, _, _, by omega, by go_num, rfl, hide q1, hide q2⟩
          case measure => simp [intOf]; omega
      · have hne : ((cnt r.xs : Int) != 1) = true := by rw [bne_iff_ne]; omega
        generalize cnt r.xs = cr at *
        have HB := hide hb1
        clear hU hrow hb1
        go_wp2_with (go_at_call 34; refine (unhide HC).mono ?_; rintro e w' ⟨rfl, rfl⟩)
        go_roundw
        case rel => exact ⟨k + 1, a1, m1, c1, u, by omega, by go_num, rfl, HM, hide (unhide HSK _ h1 (unhide HB))⟩
        case measure => simp [intOf]; omega
    · have hke : ks.take k = ks := List.take_of_length_le (by omega)
      have hU := unhide HU
      rw [UnS, hke] at hU
      rw [← unhide HM] at hU
      clear HU
      have HU' := hide hU
      clear hU
      go_wp2
      go_ret
      exact ⟨_, u, rfl, by have := (unhide HU').1; simpa [unhide HM] using this, (unhide HU').2.1, by rw [← unhide HM]; exact (unhide HU').2.2.1, (unhide HU').2.2.2⟩
theorem apart_new {w w2 : World} {B : Nat} {a : Option Addr} {n : Nat} {xs : List Nat} {v : Value} {ys : List Nat} (h : RowAt w a n xs) (ho : Own w2 B v ys) (hB : w.heap.size ≤ B) : n = 0 ∨ ∀ ad, a = some ad → some ad.block ≠ v.ownBlock := by
  rcases h.lt with h0 | h1
  · exact .inl h0
  · refine .inr fun ad e hne => ?_
    have := h1 ad e
    have := (ho.lt hne.symm).1
    omega
theorem Own.at' {w : World} {B : Nat} {a : Option Addr} {n c : Nat} {xs : List Nat} (h : Own w B (.slice a n c) xs) : n = xs.length ∧ RowAt w a xs.length xs := by
  obtain ⟨a1, c1, e, hr⟩ := h.row
  simp only [Value.slice.injEq] at e
  obtain ⟨rfl, rfl, rfl⟩ := e
  exact ⟨rfl, hr⟩
/-- The places of the first k rows that have just one bit that is none of u's. -/
def ripTo (u : List Nat) (rs : List RV) (k : Nat) : List Int := ((List.range k).filter fun i => decide (cnt (dropL (rs.getD i .dflt).xs u) = 1)).map fun (i : Nat) => (i : Int)
theorem ripTo_yes {u : List Nat} {rs : List RV} {k : Nat} (h : cnt (dropL (rs.getD k .dflt).xs u) = 1) : ripTo u rs (k + 1) = ripTo u rs k ++ [(k : Int)] := by
  unfold ripTo
  rw [List.range_succ, List.filter_append, List.map_append]
  simp only [List.filter_cons, List.filter_nil, decide_eq_true h, if_true, List.map_cons, List.map_nil]
theorem ripTo_no {u : List Nat} {rs : List RV} {k : Nat} (h : ¬ cnt (dropL (rs.getD k .dflt).xs u) = 1) : ripTo u rs (k + 1) = ripTo u rs k := by
  unfold ripTo
  rw [List.range_succ, List.filter_append, List.map_append]
  simp only [List.filter_cons, List.filter_nil, decide_eq_false h, Bool.false_eq_true, if_false, List.map_nil, List.append_nil]
theorem ripTo_len (u : List Nat) (rs : List RV) (k : Nat) : (ripTo u rs k).length ≤ k := by
  unfold ripTo
  rw [List.length_map]
  have := List.length_filter_le (fun i => decide (cnt (dropL (rs.getD i .dflt).xs u) = 1)) (List.range k)
  simpa using this

set_option maxHeartbeats 2000000 in
theorem ripple_any (a : Option Addr) (n c : Nat) (ks : List RV) (a' : Option Addr) (m c' : Nat) (rs : List RV) (w : World) (ht : Tab w) (h : RowsAt w a n ks) (hs : shortR ks) (hn : n ≤ 1048576) (h' : RowsAt w a' m rs) (hs' : shortR rs) (hm : m ≤ 1048576) :
    Calls Tryd.prog 14 #[.slice a n c, .slice a' m c'] w fun e w' => ∃ v u, e = .returned v ∧ OwnZ w' w.heap.size v (ripTo u rs m) ∧ (∀ i, getB u i = kbit ks i) ∧ Below w.heap.size w w' := by
  obtain rfl := h'.1
  have Hh := hide h'
  have Hs := hide hs'
  have HUN := hide (units_any a n c ks w ht h hs hn)
  clear h hs ht h' hs'
  go_enter Tryd.func14, Tryd.ntmps14
  go_wp2_with (go_at_call 31; refine (unhide HUN).mono ?_; rintro e w1 ⟨v, u, rfl, hou, hbu, hlu, hb1⟩; obtain ⟨au, cu, rfl, hru⟩ := hou.row; have HOU := hide hou; have HRU := hide hru; have HBU := hide hbu; have HB1 := hide hb1; clear hou hru hbu hb1)
  go_loopw [6, 14] (fun v i wr => ∃ k : Nat, ∃ a1 : Option Addr, ∃ m1 c1 : Nat, k ≤ rs.length ∧ i = .int .i64 k ∧ v = .slice a1 m1 c1 ∧ Hid (OwnZ wr w1.heap.size (.slice a1 m1 c1) (ripTo u rs k)) ∧ Hid (Below w1.heap.size w1 wr)) (fun _ i _ => rs.length - (intOf i).toNat)
  case atStart => exact ⟨0, none, 0, 0, Nat.zero_le _, rfl, rfl, hide (OwnZ.nil _ _), hide (Below.refl _ _)⟩
  case round =>
    obtain ⟨k, a1, m1, c1, hk, rfl, rfl, HO, HB⟩ := hrel
    by_cases hlt : k < rs.length
    · have hBw := below0 (unhide HB1) (unhide HB)
      have hR := (unhide Hh).below hBw
      obtain ⟨b, off, rfl, hcl⟩ := hR.at hlt
      obtain ⟨hc0, hc1⟩ := hcl k hlt
      have hrow := hR.2.1 k hlt
      have hlt' : (k : Int) < (rs.length : Int) := by omega
      have hsh := (unhide Hs) k
      have HY := hide (fun h => ripTo_yes (u := u) (rs := rs) (k := k) h)
      have HN := hide (fun h => ripTo_no (u := u) (rs := rs) (k := k) h)
      have hrl := ripTo_len u rs k
      generalize rs.getD k .dflt = r at *
      have hb1 : Below wr.heap.size wr (wr.alloc (.cells #[.slice r.a r.n r.c, .string r.s] 36)) := (Below.refl _ _).alloc (Nat.le_refl _) _
      have HC := hide (clone_any r.a r.n r.c r.xs _ (hrow.below hb1) (by omega))
      have hrn := hrow.1
      clear hcl hR hrow
      have HD := hide (show ∀ (a2 : Option Addr) (c2 : Nat) (w2 : World), Own w2 (wr.alloc (.cells #[.slice r.a r.n r.c, .string r.s] 36)).heap.size (.slice a2 r.xs.length c2) r.xs → Below (wr.alloc (.cells #[.slice r.a r.n r.c, .string r.s] 36)).heap.size (wr.alloc (.cells #[.slice r.a r.n r.c, .string r.s] 36)) w2 → _ from
        fun a2 c2 w2 ho2 hb2 => drop_any _ a2 c2 r.xs au u.length cu u w2 ho2 ((unhide HRU).below (below0 (unhide HB) (below0 hb1 hb2))) (apart_new (unhide HRU) ho2 (Nat.le_trans (unhide HB).size hb1.size)) (by omega) (by omega))
      have HCN := hide (fun (a2 : Option Addr) (c2 : Nat) (w3 : World) (ho3 : Own w3 (wr.alloc (.cells #[.slice r.a r.n r.c, .string r.s] 36)).heap.size (.slice a2 r.xs.length c2) (dropL r.xs u)) =>
        count_any a2 r.xs.length c2 (dropL r.xs u) w3 (by have := ho3.at'; rw [this.1]; exact this.2) (by omega))
      have HBB := hide (fun (a2 : Option Addr) (c2 : Nat) (w2 w3 : World) (ho2 : Own w2 (wr.alloc (.cells #[.slice r.a r.n r.c, .string r.s] 36)).heap.size (.slice a2 r.xs.length c2) r.xs) (hb2 : Below (wr.alloc (.cells #[.slice r.a r.n r.c, .string r.s] 36)).heap.size (wr.alloc (.cells #[.slice r.a r.n r.c, .string r.s] 36)) w2) (hg3 : w2.grownBy w3 (Value.slice a2 r.xs.length c2).ownBlock) =>
        (below0 hb1 hb2).trans (gb_below hg3 (Nat.le_trans hb1.size hb2.size) fun j hj => Nat.le_trans hb1.size (ho2.lt hj).1))
      clear hb1 hrn
      by_cases h1 : cnt (dropL r.xs u) = 1
      · rw [h1] at HCN
        have HE := hide (unhide HY h1)
        clear HY HN h1
        go_wp2_with (first | (go_at_call 32; refine (unhide HC).mono ?_; rintro e w2 ⟨v2, rfl, ho2, hb2⟩; obtain ⟨a2, c2, rfl, hr2⟩ := ho2.row; have HO2 := hide ho2; have HB2 := hide hb2; clear ho2 hb2 hr2) | (go_at_call 33; refine (unhide HD a2 c2 w2 (unhide HO2) (unhide HB2)).mono ?_; rintro e w3 ⟨rfl, ho3, hg3⟩; have HC3 := hide (unhide HCN a2 c2 w3 ho3); have HB3 := hide (unhide HBB a2 c2 w2 w3 (unhide HO2) (unhide HB2) hg3); clear ho3 hg3 HO2 HB2) | (go_at_call 34; refine (unhide HC3).mono ?_; rintro e w' ⟨rfl, rfl⟩) | (at_builtin; refine wpList_pushZ rfl (.tmp 28) (.tmp 30) rfl w1.heap.size (.slice a1 m1 c1) (ripTo u rs k) (k : Int) rfl rfl ((unhide HO).below (unhide HB3)) (Nat.le_trans (unhide HB).size (unhide HB3).size) (by omega) ?_; intro v4 w4 ho4 hb4; obtain ⟨a4, c4, rfl, _⟩ := ho4.ints; have HO4 := hide ho4; have HB4 := hide hb4; clear ho4 hb4))
        go_roundw
        case rel => exact ⟨k + 1, a4, _, c4, by omega, by go_num, rfl, hide (by have := unhide HO4; rw [List.length_append] at this; rw [unhide HE]; exact this), hide ((unhide HB).trans ((unhide HB3).mono (unhide HB).size |>.trans (unhide HB4)))⟩
        case measure => simp [intOf]; omega
      · have hne : ((cnt (dropL r.xs u) : Int) == 1) = false := by rw [beq_eq_false_iff_ne]; omega
        have HE := hide (unhide HN h1)
        clear HY HN h1
        generalize cnt (dropL r.xs u) = cr at *
        go_wp2_with (first | (go_at_call 32; refine (unhide HC).mono ?_; rintro e w2 ⟨v2, rfl, ho2, hb2⟩; obtain ⟨a2, c2, rfl, hr2⟩ := ho2.row; have HO2 := hide ho2; have HB2 := hide hb2; clear ho2 hb2 hr2) | (go_at_call 33; refine (unhide HD a2 c2 w2 (unhide HO2) (unhide HB2)).mono ?_; rintro e w3 ⟨rfl, ho3, hg3⟩; have HC3 := hide (unhide HCN a2 c2 w3 ho3); have HB3 := hide (unhide HBB a2 c2 w2 w3 (unhide HO2) (unhide HB2) hg3); clear ho3 hg3 HO2 HB2) | (go_at_call 34; refine (unhide HC3).mono ?_; rintro e w' ⟨rfl, rfl⟩))
        go_roundw
        case rel => exact ⟨k + 1, a1, m1, c1, by omega, by go_num, rfl, hide (by rw [unhide HE]; exact (unhide HO).below (unhide HB3)), hide (below0 (unhide HB) (unhide HB3))⟩
        case measure => simp [intOf]; omega
    · have hke : k = rs.length := by omega
      subst hke
      go_wp2
      go_ret
      exact ⟨_, u, rfl, (unhide HO).mono (unhide HB1).size, unhide HBU, below0 (unhide HB1) (unhide HB)⟩
end Go.Proofs.YtcokmaofgfhapaaDoor
