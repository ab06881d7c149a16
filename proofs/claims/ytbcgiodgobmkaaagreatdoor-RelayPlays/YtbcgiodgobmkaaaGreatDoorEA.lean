/-
  Slices of rows of words in memory: what can be read ('VecsAt'), and what is the call's own, each row in a block of its own ('OwnV'). Contracts of echelon.add, own, by and its closure, Reduce: for rows of at most 2^20 words, in every world that holds the table of math/bits.
-/
import Derived.Test.YtbcgiodgobmkaaaGreatDoorU10
import Derived.Test.YtbcgiodgobmkaaaGreatDoorU2
import Derived.Test.YtbcgiodgobmkaaaGreatDoorU3
namespace Go.Proofs.YtbcgiodgobmkaaaGreatDoor
open Go.RowKit
set_option linter.unusedVariables false
set_option linter.unusedSimpArgs false
set_option maxRecDepth 4000

/-- A value came of another one: nothing old has turned but that one's block, and it lies there or in new memory. -/
def Turned (w w' : World) (u v : Value) : Prop := w.grownBy w' u.ownBlock ∧ (v.ownBlock = u.ownBlock ∨ ∀ k, v.ownBlock = some k → w.heap.size ≤ k)
/-- They lie in different blocks. -/
def Dis (u v : Value) : Prop := u.ownBlock = none ∨ u.ownBlock ≠ v.ownBlock
theorem Dis.symm {u v : Value} (h : Dis u v) : Dis v u := by
  rcases h with h | h
  · by_cases e : v.ownBlock = none
    · exact .inl e
    · exact .inr (by rw [h]; exact e)
  · exact .inr fun e => h e.symm

set_option maxHeartbeats 1000000 in
theorem eadd_any (B : Nat) (a : Option Addr) (c : Nat) (xs : List Nat) (a' : Option Addr) (m c' : Nat) (ys : List Nat) (w : World) (ho : Own w B (.slice a xs.length c) xs) (hB : B ≤ w.heap.size) (h' : RowAt w a' m ys)
    (hap : m = 0 ∨ ∀ ad, a' = some ad → some ad.block ≠ (Value.slice a xs.length c).ownBlock) (hn : xs.length ≤ 1048576) (hm : m ≤ 1048576) :
    Calls Tryz.prog 154 #[.slice a xs.length c, .slice a' m c'] w fun e w' => ∃ v, e = .returned v ∧ Own w' B v (xorL xs ys) ∧ Turned w w' (.slice a xs.length c) v := by
  obtain rfl : m = ys.length := h'.1.symm
  have hr : RowAt w a xs.length xs := by
    obtain ⟨a1, c1, e, hr⟩ := ho.row
    simp only [Value.slice.injEq] at e
    rw [e.1]; exact hr
  by_cases hsw : xs.length < ys.length
  · have hge : ((xs.length : Int) < (ys.length : Int)) := by omega
    have HX := hide (xor_any a xs.length c xs a' ys.length c' ys w hr h' hn hm)
    clear hr h' hap
    go_enter Tryz.func154, Tryz.ntmps154
    go_wp2_with (go_at_call 65; refine (unhide HX).mono ?_; rintro e w1 ⟨v, rfl, ho1, hb⟩)
    go_ret
    exact ⟨_, rfl, ho1.mono hB, gb_of_below hb _, .inr fun k hk => (ho1.lt hk).1⟩
  · have hge : ¬ ((xs.length : Int) < (ys.length : Int)) := by omega
    go_enter Tryz.func154, Tryz.ntmps154
    go_wp2
    go_loopw [17] (fun i wr => ∃ k : Nat, k ≤ ys.length ∧ i = .int .i64 k ∧ Hid (Own wr B (.slice a xs.length c) (xorTo xs ys k)) ∧ Hid (w.grownBy wr (Value.slice a xs.length c).ownBlock)) (fun i _ => ys.length - (intOf i).toNat)
    case atStart => exact ⟨0, Nat.zero_le _, rfl, hide (by rw [xorTo_zero]; exact ho), hide (gb_refl _ _)⟩
    case round =>
      obtain ⟨k, hk, rfl, HO, HB⟩ := hrel
      by_cases hlt : k < ys.length
      · obtain ⟨b', off', rfl, hc'⟩ := (h'.kept (unhide HB) hap).at hlt
        have hkn : k < xs.length := by omega
        obtain ⟨g, cap, he, hBg, hgs, hcg, hfg⟩ := (unhide HO).at (by rw [xorTo_length]; omega)
        rw [xorTo_length] at he
        simp only [Value.slice.injEq, true_and] at he
        obtain ⟨rfl, rfl⟩ := he
        have hcell' := hc' k hlt
        have hcell := hcg k (by rw [xorTo_length]; omega)
        have hfz := hfg k
        rw [xorTo_getD xs ys k k (by omega), if_neg (by omega)] at hcell
        have hxo := u64_xor_nat (xs.getD k 0) (ys.getD k 0) (ho.1.get k) (h'.2.1.get k)
        have R := hide (xor_round ho.1 h'.2.1 hkn hBg (unhide HO) (Below.refl B _)).1
        have RG := hide (fun u => gb_trans (unhide HB) (gb_setCell _ g k u) (.inl rfl))
        generalize xs.getD k 0 = x at *
        generalize ys.getD k 0 = y at *
        clear hc' hcg hfg h' HO hr ho hap
        go_wp2
        go_roundw
        case rel => exact ⟨k + 1, by omega, by go_num, R, hide (unhide RG _)⟩
        case measure => simp [intOf]; omega
      · have hke : k = ys.length := by omega
        subst hke
        rw [xorTo_all xs ys (by omega)] at HO
        clear hr h' hap ho
        go_wp2
        go_ret
        exact ⟨_, rfl, unhide HO, unhide HB, .inl rfl⟩

theorem row_nil (w : World) : RowAt w none 0 [] := ⟨rfl, (fun _ h => by cases h), .inl rfl⟩
theorem xorL_none (a : List Nat) : xorL a [] = a := by
  apply ext_getD
  · rw [xorL_length]; simp
  · intro i _; rw [xorL_getD]; simp
set_option maxHeartbeats 400000 in
theorem own_any (a : Option Addr) (n c : Nat) (xs : List Nat) (w : World) (h : RowAt w a n xs) (hn : n ≤ 1048576) :
    Calls Tryz.prog 150 #[.slice a n c] w fun e w' => ∃ v, e = .returned v ∧ Own w' w.heap.size v xs ∧ Below w.heap.size w w' := by
  have hx := xor_any a n c xs none 0 0 [] w h (row_nil w) hn (by omega)
  rw [xorL_none] at hx
  have HX := hide hx
  clear hx h
  go_enter Tryz.func150, Tryz.ntmps150
  go_wp2_with (go_at_call 65; refine (unhide HX).mono ?_; rintro e w1 ⟨v, rfl, ho1, hb⟩)
  go_ret
  exact ⟨_, rfl, ho1, hb⟩

/-- The step that 'by' gives: where it keeps the row. -/
def ByAt (w : World) (lo p : Nat) (a : Option Addr) (n c : Nat) : Prop := lo ≤ p ∧ w.cell? ⟨p, 0, none⟩ = some (.slice a n c)
theorem ByAt.below {w w' : World} {lo p : Nat} {a : Option Addr} {n c : Nat} (h : ByAt w lo p a n c) (hb : Below w.heap.size w w') : ByAt w' lo p a n c :=
  ⟨h.1, (hb.cell (World.block_lt_of_cell? w _ h.2)).trans h.2⟩
theorem ByAt.kept {w w' : World} {lo p : Nat} {a : Option Addr} {n c : Nat} {row : Option Nat} (h : ByAt w lo p a n c) (hg : w.grownBy w' row) (hp : some p ≠ row) : ByAt w' lo p a n c :=
  ⟨h.1, hg.cell h.2 hp⟩
set_option maxHeartbeats 400000 in
theorem by_any (a : Option Addr) (n c : Nat) (w : World) :
    Calls Tryz.prog 151 #[.slice a n c] w fun e w' => e = .returned (.func (.func 152) #[] #[.pointer (some ⟨w.heap.size, 0, none⟩)]) ∧
      ByAt w' w.heap.size w.heap.size a n c ∧ Below w.heap.size w w' := by
  have hmf : ∀ (fn : Fn) (first cap : Array Value) (w : World), (Instr.makeFunc fn first cap).run Tryz.prog w = .ok (.func fn first cap) w := fun _ _ _ _ => rfl
  go_enter Tryz.func151, Tryz.ntmps151
  go_wp2
  go_ret
  refine ⟨rfl, ⟨Nat.le_refl _, ?_⟩, (Below.refl _ _).alloc (Nat.le_refl _) _⟩
  rw [World.cell?_alloc_at _ _ _ _ rfl]; rfl

theorem Turned.after {w w1 w2 : World} {u v : Value} (hb : Below w.heap.size w w1) (h : Turned w1 w2 u v) : Turned w w2 u v :=
  ⟨gb_trans (gb_of_below hb _) h.1 (.inl rfl), h.2.imp id fun k j hj => Nat.le_trans hb.size (k j hj)⟩
theorem Turned.same (w : World) (u : Value) : Turned w w u u := ⟨gb_refl _ _, .inl rfl⟩
/-- .. and below the first block of one's own nothing has turned. -/
theorem Turned.below {w w' : World} {B : Nat} {u v : Value} {xs : List Nat} (h : Turned w w' u v) (ho : Own w B u xs) (hB : B ≤ w.heap.size) : Below B w w' := gb_below h.1 hB fun k hk => (ho.lt hk).1

theorem getB_take (xs : List Nat) (k j : Nat) : getB (xs.take k) j = (decide (j < 64 * k) && getB xs j) := by
  unfold getB
  rw [List.getD_eq_getElem?_getD, List.getD_eq_getElem?_getD, List.getElem?_take]
  by_cases h : j / 64 < k
  · rw [if_pos h, show decide (j < 64 * k) = true by simp; omega]; simp
  · rw [if_neg h, show decide (j < 64 * k) = false by simp; omega]; simp
/-- The lowest bit looked for only as far as the other row goes. -/
theorem first_cut {xs ys : List Nat} (hx : smalls xs) (hy : smalls ys) {k : Nat} (hk : k = xs.length ∨ ys.length ≤ k) : getI xs (firstI (ys.take k)) = getI xs (firstI ys) := by
  rcases hk with rfl | hk
  · have hz : smalls (ys.take xs.length) := fun x h => hy x (List.mem_of_mem_take h)
    have hb : ∀ j, (val (ys.take xs.length)).testBit j = (decide (j < 64 * xs.length) && (val ys).testBit j) := fun j => by rw [val_bit hz, val_bit hy, getB_take]
    have hxo : ∀ j, 64 * xs.length ≤ j → (val xs).testBit j = false := fun j hj => by rw [val_bit hx, getB_out xs j hj]
    rw [getI_val hx hz, getI_val hx hy]
    by_cases h0 : val (ys.take xs.length) = 0
    · rw [h0]
      by_cases h1 : val ys = 0
      · rw [h1]
      · have h2 : 64 * xs.length ≤ Ech.low (val ys) := by
          rcases Nat.lt_or_ge (Ech.low (val ys)) (64 * xs.length) with h3 | h3
          · have h4 := hb (Ech.low (val ys))
            rw [h0, Ech.low_bit h1, decide_eq_true h3] at h4
            simp at h4
          · exact h3
        rw [hxo _ h2]; simp
    · have h1 := Ech.low_bit h0
      rw [hb] at h1
      have h2 : Ech.low (val (ys.take xs.length)) < 64 * xs.length := by
        rcases Nat.lt_or_ge (Ech.low (val (ys.take xs.length))) (64 * xs.length) with h3 | h3
        · exact h3
        · rw [decide_eq_false (by omega)] at h1; simp at h1
      rw [decide_eq_true h2, Bool.true_and] at h1
      have h3 : Ech.low (val ys) = Ech.low (val (ys.take xs.length)) := Ech.low_unique h1 fun j hj => by
        have h4 := Ech.low_none h0 hj
        rw [hb, decide_eq_true (by omega), Bool.true_and] at h4
        exact h4
      rw [h3, decide_eq_true (Ech.ne_of_bit h1), decide_eq_true h0]
  · rw [List.take_of_length_le hk]
set_option maxHeartbeats 1000000 in
theorem estep_any (B lo p : Nat) (a : Option Addr) (c : Nat) (xs : List Nat) (a' : Option Addr) (m c' : Nat) (ys : List Nat) (w : World) (ht : Tab w) (ho : Own w B (.slice a xs.length c) xs) (hB : B ≤ w.heap.size) (h' : RowAt w a' m ys)
    (hby : ByAt w lo p a' m c') (hmc : m ≤ c') (hap : m = 0 ∨ ∀ ad, a' = some ad → some ad.block ≠ (Value.slice a xs.length c).ownBlock) (hn : xs.length ≤ 1048576) (hm : m ≤ 1048576) :
    Calls Tryz.prog 152 #[.slice a xs.length c, .pointer (some ⟨p, 0, none⟩)] w fun e w' => ∃ v, e = .returned v ∧ Own w' B v (stepL xs ys) ∧ Turned w w' (.slice a xs.length c) v := by
  have hr : RowAt w a xs.length xs := by
    obtain ⟨a1, c1, e, hr⟩ := ho.row
    simp only [Value.slice.injEq] at e
    rw [e.1]; exact hr
  have hml := h'.1
  obtain ⟨k, hkm, hkx, hmin⟩ : ∃ k : Nat, k ≤ m ∧ (k = xs.length ∨ ys.length ≤ k) ∧ (if (xs.length : Int) < (m : Int) then (xs.length : Int) else (m : Int)) = (k : Int) := by
    by_cases hlt : xs.length < m
    · exact ⟨xs.length, by omega, .inl rfl, by rw [if_pos (by omega)]⟩
    · exact ⟨m, Nat.le_refl _, .inr (by omega), by rw [if_neg (by omega)]⟩
  have hmin2 : ∀ (ts : Array TypeId) (t : TypeId) (w : World), (Builtin.min_ ts t #[.int .i64 (m : Int), .int .i64 (xs.length : Int)]).run Tryz.prog w = .ok (.int .i64 (k : Int)) w := fun ts t w => by rw [run_min_int2, hmin]
  clear hmin
  have hsl := uslice_hi a' m c' k (by omega)
  have hcut := first_cut hr.2.1 h'.2.1 hkx
  have hrk := h'.take hkm
  have hfl := firstI_le hrk.2.1
  rw [hrk.1] at hfl
  have HF := hide (first_any a' k c' (ys.take k) w ht hrk (by omega))
  have HG := hide (get_any a xs.length c xs (firstI (ys.take k)) w hr hn (by omega))
  have hq := hby.2
  have hE : stepL xs ys = if getI xs (firstI ys) = true then xorL xs ys else xs := rfl
  rw [← hcut] at hE
  clear hcut hrk hkx
  cases hget : getI xs (firstI (ys.take k)) with
  | false =>
    rw [hget] at HG hE
    rw [if_neg (by decide)] at hE
    rw [hE]
    have HO := hide ho
    clear ho h' hr hby hE hget hap
    generalize firstI (ys.take k) = f at *
    go_enter Tryz.func152, Tryz.ntmps152
    go_wp2_with fail
    refine (unhide HF).mono ?_
    rintro e w1 ⟨rfl, hw⟩
    obtain rfl := hw.symm
    go_wp2_with (go_at_call 153; refine (unhide HG).mono ?_; rintro e w1 ⟨rfl, d, rfl⟩)
    go_ret
    have hb : Below w.heap.size w (w.drewN d) := below_drewN (Below.refl _ _) d
    exact ⟨_, rfl, (unhide HO).below hb, (Turned.same _ _).after hb⟩
  | true =>
    rw [hget] at HG hE
    rw [if_pos rfl] at hE
    rw [hE]
    clear hE hget hr
    have HX := hide (fun w1 (hb : Below w.heap.size w w1) => eadd_any B a c xs a' m c' ys w1 (ho.below hb) (Nat.le_trans hB hb.size) (h'.below hb) hap hn hm)
    have HP := hide (fun w1 (hb : Below w.heap.size w w1) => (hby.below hb).2)
    clear ho h' hby hap
    generalize firstI (ys.take k) = f at *
    go_enter Tryz.func152, Tryz.ntmps152
    go_wp2_with fail
    refine (unhide HF).mono ?_
    rintro e w1 ⟨rfl, hw⟩
    obtain rfl := hw.symm
    go_wp2_with fail
    refine (unhide HG).mono ?_
    rintro e w1 ⟨rfl, d, hw⟩
    have hb : Below w.heap.size w w1 := by rw [hw]; exact below_drewN (Below.refl _ _) d
    have hp := unhide HP w1 hb
    have HX1 := hide (unhide HX w1 hb)
    have HB := hide hb
    clear hw hb HX HP HG HF hq ht
    go_wp2_with (go_at_call 154; refine (unhide HX1).mono ?_; rintro e w2 ⟨v, rfl, ho2, ht2⟩)
    go_ret
    exact ⟨_, rfl, ho2, ht2.after (unhide HB)⟩

/-- Rows in memory have as much room as words, or more. -/
def Caps (w : World) (a : Option Addr) (n : Nat) : Prop := ∀ b off i ai k ci, a = some ⟨b, off, none⟩ → i < n → w.cell? ⟨b, off + i, none⟩ = some (.slice ai k ci) → k ≤ ci
/-- A slice of rows of words that can be read: they are rs. -/
def VecsAt (w : World) (a : Option Addr) (n : Nat) (rs : List (List Nat)) : Prop :=
  rs.length = n ∧ (n = 0 ∨ ∃ b off, a = some ⟨b, off, none⟩ ∧ ∀ i, i < n → ∃ ai ci, w.cell? ⟨b, off + i, none⟩ = some (.slice ai (rs.getD i []).length ci) ∧ RowAt w ai (rs.getD i []).length (rs.getD i [])) ∧ Caps w a n
theorem VecsAt.cap {w : World} {b off n i k ci : Nat} {ai : Option Addr} {rs : List (List Nat)} (h : VecsAt w (some ⟨b, off, none⟩) n rs) (hi : i < n) (hc : w.cell? ⟨b, off + i, none⟩ = some (.slice ai k ci)) : k ≤ ci := h.2.2 b off i ai k ci rfl hi hc
theorem VecsAt.at {w : World} {a : Option Addr} {n : Nat} {rs : List (List Nat)} (h : VecsAt w a n rs) {i : Nat} (hi : i < n) :
    ∃ b off, a = some ⟨b, off, none⟩ ∧ ∀ i, i < n → ∃ ai ci, w.cell? ⟨b, off + i, none⟩ = some (.slice ai (rs.getD i []).length ci) ∧ RowAt w ai (rs.getD i []).length (rs.getD i []) := by
  rcases h.2.1 with h0 | h0
  · omega
  · exact h0
theorem VecsAt.below {w w' : World} {a : Option Addr} {n : Nat} {rs : List (List Nat)} (h : VecsAt w a n rs) (hb : Below w.heap.size w w') : VecsAt w' a n rs := by
  refine ⟨h.1, ?_, fun b off i ai k ci e hi hc => ?_⟩
  · rcases h.2.1 with h0 | ⟨b, off, rfl, hc⟩
    · exact .inl h0
    · refine .inr ⟨b, off, rfl, fun i hi => ?_⟩
      obtain ⟨ai, ci, h1, h2⟩ := hc i hi
      exact ⟨ai, ci, (hb.cell (World.block_lt_of_cell? w _ h1)).trans h1, h2.below hb⟩
  · obtain ⟨b2, off2, e2, hc2⟩ := h.at hi
    rw [e] at e2
    simp only [Option.some.injEq, Addr.mk.injEq, and_true] at e2
    obtain ⟨rfl, rfl⟩ := e2
    obtain ⟨a2, c2, h1, h2⟩ := hc2 i hi
    have h3 := (hb.cell (World.block_lt_of_cell? w _ h1)).trans h1
    exact h.2.2 b off i ai k ci e hi (by rw [h1, ← h3, hc])
theorem VecsAt.small {w : World} {a : Option Addr} {n : Nat} {rs : List (List Nat)} (h : VecsAt w a n rs) (i : Nat) : smalls (rs.getD i []) := by
  by_cases hi : i < n
  · obtain ⟨b, off, _, hc⟩ := h.at hi
    obtain ⟨ai, ci, _, h2⟩ := hc i hi
    exact h2.2.1
  · rw [List.getD_eq_getElem?_getD, List.getElem?_eq_none (by rw [h.1]; omega)]
    exact smalls.nil
theorem VecsAt.fit {w : World} {a : Option Addr} {n : Nat} {rs : List (List Nat)} (h : VecsAt w a n rs) {M : Nat} (hM : ∀ i, i < n → (rs.getD i []).length ≤ M) : Fit M rs := by
  intro b hb
  obtain ⟨i, hi, rfl⟩ := List.getElem_of_mem hb
  have h1 := h.small i
  have h2 := hM i (by rw [← h.1]; exact hi)
  simp only [List.getD_eq_getElem?_getD, List.getElem?_eq_getElem hi, Option.getD_some] at h1 h2
  exact ⟨h1, h2⟩

set_option maxHeartbeats 1000000 in
theorem reduce_any (a : Option Addr) (n c : Nat) (rs : List (List Nat)) (a' : Option Addr) (m c' : Nat) (xs : List Nat) (w : World) (ht : Tab w) (h : VecsAt w a n rs) (hf : Fit 1048576 rs) (h' : RowAt w a' m xs) (hn : n ≤ 1048576) (hm : m ≤ 1048576) :
    Calls Tryz.prog 147 #[.slice a n c, .slice a' m c'] w fun e w' => ∃ v, e = .returned v ∧ Own w' w.heap.size v (reduceL rs xs) ∧ Below w.heap.size w w' := by
  have hmf : ∀ (fn : Fn) (first cap : Array Value) (w : World), (Instr.makeFunc fn first cap).run Tryz.prog w = .ok (.func fn first cap) w := fun _ _ _ _ => rfl
  obtain rfl : m = xs.length := h'.1.symm
  have HOW := hide (own_any a' _ c' xs w h' hm)
  have hxs := h'.2.1
  clear h'
  go_enter Tryz.func147, Tryz.ntmps147
  go_wp2_with fail
  refine (unhide HOW).mono ?_
  rintro e w1 ⟨v, rfl, ho, hb⟩
  obtain ⟨a1, c1, rfl, _⟩ := ho.row
  go_wp2
  go_loopw [5, 12] (fun r i wr => ∃ k : Nat, k ≤ n ∧ i = .int .i64 k ∧ ∃ a1 c1, r = .slice a1 (reduceL (rs.take k) xs).length c1 ∧ Hid (Own wr w.heap.size (.slice a1 (reduceL (rs.take k) xs).length c1) (reduceL (rs.take k) xs)) ∧ Hid (Below w.heap.size w wr)) (fun _ i _ => n - (intOf i).toNat)
  case atStart => exact ⟨0, Nat.zero_le _, rfl, a1, c1, rfl, hide ho, hide hb⟩
  case round =>
    obtain ⟨k, hk, rfl, a2, c2, rfl, HO, HB⟩ := hrel
    clear ho hb HOW
    by_cases hlt : k < n
    · have hB := unhide HB
      obtain ⟨b, off, rfl, hc⟩ := (h.below hB).at hlt
      obtain ⟨ai, ci, hcell, hrow⟩ := hc k hlt
      have hrow0 : RowAt w ai (rs.getD k []).length (rs.getD k []) := by
        obtain ⟨b2, off2, e2, hc2⟩ := h.at hlt
        simp only [Option.some.injEq, Addr.mk.injEq, and_true] at e2
        obtain ⟨rfl, rfl⟩ := e2
        obtain ⟨ai2, ci2, g1, g2⟩ := hc2 k hlt
        have := (hB.cell (World.block_lt_of_cell? w _ g1)).trans g1
        rw [hcell] at this
        simp only [Option.some.injEq, Value.slice.injEq, true_and] at this
        rw [this.1]; exact g2
      have hlk := (hf.getD k).2
      have hrs := reduce_small (hf.take k) hxs hm
      have HE := hide (reduce_take (v := xs) (show k < rs.length by rw [h.1]; exact hlt))
      have hcap := (h.below hB).cap hlt hcell
      have HBY := hide (by_any ai (rs.getD k []).length ci wr)
      have hlo := hrow0.lt
      have HR := hide hrow
      clear hc hrow hrow0 h
      generalize rs.getD k [] = y at *
      generalize reduceL (rs.take k) xs = r at *
      go_wp2_with fail
      refine (unhide HBY).mono ?_
      rintro e w2 ⟨rfl, hby, hb2⟩
      have ho2 := (unhide HO).below hb2
      have hB2 := below0 hB hb2
      have HS := hide (estep_any w.heap.size _ _ a2 c2 r ai y.length ci y w2 (ht.below hB2) ho2 hB2.size ((unhide HR).below hb2) hby hcap (hlo.imp id fun hlo ad e e2 => by have := hlo ad e; have := (ho2.lt e2.symm).1; omega) hrs.2 hlk)
      have HO2 := hide ho2
      have HB2 := hide hB2
      clear hby hb2 ho2 hB2 HO HB HBY HR hB
      go_wp2_with fail
      refine (unhide HS).mono ?_
      rintro e w3 ⟨v, rfl, ho3, ht3⟩
      have hB3 := (unhide HB2).trans (ht3.below (unhide HO2) (unhide HB2).size)
      obtain ⟨a3, c3, rfl, _⟩ := ho3.row
      rw [← unhide HE]
      rw [← unhide HE] at ho3
      have HO3 := hide ho3
      have HB3 := hide hB3
      clear ho3 hB3 ht3 HS HO2 HB2
      go_wp2
      go_roundw
      case rel => exact ⟨k + 1, by omega, by go_num, a3, c3, rfl, HO3, HB3⟩
      case measure => simp [intOf]; omega
    · have hke : reduceL (rs.take k) xs = reduceL rs xs := reduce_all (by rw [h.1]; omega)
      rw [hke] at HO
      rw [hke]
      clear h hke
      go_wp2
      go_ret
      exact ⟨_, rfl, unhide HO, unhide HB⟩
end Go.Proofs.YtbcgiodgobmkaaaGreatDoor
