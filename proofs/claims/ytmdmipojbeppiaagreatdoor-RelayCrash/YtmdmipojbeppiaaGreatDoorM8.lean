/-
  A slice of words cut at its end. No condition.
  Slices of rows of words in memory: what can be read ('VecsAt'), and what is the call's own, each row in a block of its own ('OwnV'). Contracts of echelon.add, own, by and its closure, Reduce: for rows of at most 2^20 words, in every world that holds the table of math/bits.
  Contract of slices.Insert at [][]uint64, one row put into a slice of the call's own: at its end, in place, in new memory. For at most 2^20 rows.
  Slices of rows of the call's own, each row in a block of its own ('OwnV'): what one store, one row more, another call leaves of them. Contracts of echelon.In, of insert's closure and of slices.IndexFunc over it.
  Contracts of slices.IndexFunc over insert's closure, of echelon.insert, Basis, Rank: for rows of at most 2^20 words, fewer than 2^20 rows, in every world that holds the table of math/bits.
  Contracts of echelon.Add and of bucketlineref03.Reduce, Same, bucketlinelaw03.Few: for rows of at most 2^20 words.
  Contracts of bucketlineref03.Same, Add, Basis, Rank and of bucketlinelaw03.Few: for rows of at most 2^20 words.
  Contract of bucketlineref03.Add where it brings something: walked in six ways, laid by gen_ee.py.
  Contracts of bucketlineref03.Add, Basis, Rank and of bucketlinelaw03.awake: for rows of at most 2^20 words, in every world that holds the table of math/bits.
-/
import Derived.Test.YtmdmipojbeppiaaGreatDoorM1
import Derived.Test.YtmdmipojbeppiaaGreatDoorM7
import Derived.Test.YtmdmipojbeppiaaGreatDoorM2
import Derived.Lib.Overlaps
import Derived.Lib.AppendZerosOnto
import Derived.Lib.AppendZeros
import Derived.Laws.Externs
import Derived.Laws.IdiomCopy
import Derived.Laws.NewBlocks
import Derived.Deep.RegionLaw
import Derived.Laws.MakeOwn
import Derived.Lib.QuietBelow
namespace Go.Proofs.YtmdmipojbeppiaaGreatDoor
open Go.RowKit
set_option linter.unusedVariables false
set_option maxRecDepth 4000

theorem elem_u64s : Tryz.prog.underlying 25 = some (.slice (Tryz.prog.elem 25)) := by kernel_rfl
theorem elem_u64s' : Tryz.prog.elem 25 = 65 := by kernel_rfl
theorem uslice_hi (a : Option Addr) (n c q : Nat) (hc : q ≤ c) (w : World) :
    (Instr.sliceAt 25 (.slice a n c) none (some (.int .i64 (q : Int))) none).run Tryz.prog w = .ok (.slice a q c) w := by
  have hz : ∀ w : World, (sizeOf 65).run Tryz.prog w = .ok 1 w := fun w => by kernel_rfl
  rw [run_sliceAt_slice _ _ _ _ _ _ elem_u64s, run_slice_h _ _ _ _ _ elem_u64s _ _ (by omega) (by omega), elem_u64s', hz]
  cases a <;> simp [Result.andThen, sliced, Addr.add]
theorem RowAt.take {w : World} {a : Option Addr} {n : Nat} {xs : List Nat} (h : RowAt w a n xs) {k : Nat} (hk : k ≤ n) : RowAt w a k (xs.take k) := by
  refine ⟨by rw [List.length_take, h.1]; omega, fun x hx => h.2.1 x (List.mem_of_mem_take hx), ?_⟩
  rcases h.2.2 with h0 | ⟨b, off, rfl, hc⟩
  · left; omega
  · refine .inr ⟨b, off, rfl, fun i hi => ?_⟩
    rw [hc i (by omega), List.getD_eq_getElem?_getD, List.getD_eq_getElem?_getD, List.getElem?_take_of_lt hi]
end Go.Proofs.YtmdmipojbeppiaaGreatDoor
namespace Go.Proofs.YtmdmipojbeppiaaGreatDoor
open Go.RowKit
set_option linter.unusedVariables false
set_option maxRecDepth 4000

/-- A value came of another one: nothing old has turned but that one's block, and it lies there or in new memory. -/
def Turned (w w' : World) (u v : Value) : Prop := w.grownBy w' u.ownBlock ∧ (v.ownBlock = u.ownBlock ∨ ∀ k, v.ownBlock = some k → w.heap.size ≤ k)
/-- They lie in different blocks. -/
def Dis (u v : Value) : Prop := u.ownBlock = none ∨ u.ownBlock ≠ v.ownBlock
theorem Dis.symm {u v : Value} (h : Dis u v) : Dis v u := by
  rcases h with h | h
  · by_cases e : v.ownBlock = none
    · exact .inl e
    · exact .inr (by rw [h]; exact e)
  · exact .inr fun e => h e.symm

set_option maxHeartbeats 1000000 in
theorem eadd_any (B : Nat) (a : Option Addr) (c : Nat) (xs : List Nat) (a' : Option Addr) (m c' : Nat) (ys : List Nat) (w : World) (ho : Own w B (.slice a xs.length c) xs) (hB : B ≤ w.heap.size) (h' : RowAt w a' m ys)
    (hap : m = 0 ∨ ∀ ad, a' = some ad → some ad.block ≠ (Value.slice a xs.length c).ownBlock) (hn : xs.length ≤ 1048576) (hm : m ≤ 1048576) :
    Calls Tryz.prog 157 #[.slice a xs.length c, .slice a' m c'] w fun e w' => ∃ v, e = .returned v ∧ Own w' B v (xorL xs ys) ∧ Turned w w' (.slice a xs.length c) v := by
  obtain rfl : m = ys.length := h'.1.symm
  have hr : RowAt w a xs.length xs := by
    obtain ⟨a1, c1, e, hr⟩ := ho.row
    simp only [Value.slice.injEq] at e
    rw [e.1]; exact hr
  by_cases hsw : xs.length < ys.length
  · have hge : ((xs.length : Int) < (ys.length : Int)) := by omega
    have HX := hide (xor_any a xs.length c xs a' ys.length c' ys w hr h' hn hm)
    clear hr h' hap
    go_enter Tryz.func157, Tryz.ntmps157
    go_wp2_with (go_at_call 73; refine (unhide HX).mono ?_; rintro e w1 ⟨v, rfl, ho1, hb⟩)
    go_ret
    exact ⟨_, rfl, ho1.mono hB, gb_of_below hb _, .inr fun k hk => (ho1.lt hk).1⟩
  · have hge : ¬ ((xs.length : Int) < (ys.length : Int)) := by omega
    go_enter Tryz.func157, Tryz.ntmps157
    go_wp2
    go_loopw [17] (fun i wr => ∃ k : Nat, k ≤ ys.length ∧ i = .int .i64 k ∧ Hid (Own wr B (.slice a xs.length c) (xorTo xs ys k)) ∧ Hid (w.grownBy wr (Value.slice a xs.length c).ownBlock)) (fun i _ => ys.length - (intOf i).toNat)
    case atStart => exact ⟨0, Nat.zero_le _, rfl, hide (by rw [xorTo_zero]; exact ho), hide (gb_refl _ _)⟩
    case round =>
      obtain ⟨k, hk, rfl, HO, HB⟩ := hrel
      by_cases hlt : k < ys.length
      · obtain ⟨b', off', rfl, hc'⟩ := (h'.kept (unhide HB) hap).at hlt
        have hkn : k < xs.length := by omega
        obtain ⟨g, cap, he, hBg, hgs, hcg, hfg⟩ := (unhide HO).at (by rw [xorTo_length]; omega)
        rw [xorTo_length] at he
        simp only [Value.slice.injEq, true_and] at he
        obtain ⟨rfl, rfl⟩ := he
        have hcell' := hc' k hlt
        have hcell := hcg k (by rw [xorTo_length]; omega)
        have hfz := hfg k
        rw [xorTo_getD xs ys k k (by omega), if_neg (by omega)] at hcell
        have hxo := u64_xor_nat (xs.getD k 0) (ys.getD k 0) (ho.1.get k) (h'.2.1.get k)
        have R := hide (xor_round ho.1 h'.2.1 hkn hBg (unhide HO) (Below.refl B _)).1
        have RG := hide (fun u => gb_trans (unhide HB) (gb_setCell _ g k u) (.inl rfl))
        generalize xs.getD k 0 = x at *
        generalize ys.getD k 0 = y at *
        clear hc' hcg hfg h' HO hr ho hap
        go_wp2
        go_roundw
        case rel => exact ⟨k + 1, by omega, by go_num, R, hide (unhide RG _)⟩
        case measure => simp [intOf]; omega
      · have hke : k = ys.length := by omega
        subst hke
        rw [xorTo_all xs ys (by omega)] at HO
        clear hr h' hap ho
        go_wp2
        go_ret
        exact ⟨_, rfl, unhide HO, unhide HB, .inl rfl⟩

theorem row_nil (w : World) : RowAt w none 0 [] := ⟨rfl, (fun _ h => by cases h), .inl rfl⟩
theorem xorL_none (a : List Nat) : xorL a [] = a := by
  apply ext_getD
  · rw [xorL_length]; simp
  · intro i _; rw [xorL_getD]; simp
set_option maxHeartbeats 400000 in
theorem own_any (a : Option Addr) (n c : Nat) (xs : List Nat) (w : World) (h : RowAt w a n xs) (hn : n ≤ 1048576) :
    Calls Tryz.prog 153 #[.slice a n c] w fun e w' => ∃ v, e = .returned v ∧ Own w' w.heap.size v xs ∧ Below w.heap.size w w' := by
  have hx := xor_any a n c xs none 0 0 [] w h (row_nil w) hn (by omega)
  rw [xorL_none] at hx
  have HX := hide hx
  clear hx h
  go_enter Tryz.func153, Tryz.ntmps153
  go_wp2_with (go_at_call 73; refine (unhide HX).mono ?_; rintro e w1 ⟨v, rfl, ho1, hb⟩)
  go_ret
  exact ⟨_, rfl, ho1, hb⟩

/-- The step that 'by' gives: where it keeps the row. -/
def ByAt (w : World) (lo p : Nat) (a : Option Addr) (n c : Nat) : Prop := lo ≤ p ∧ w.cell? ⟨p, 0, none⟩ = some (.slice a n c)
theorem ByAt.below {w w' : World} {lo p : Nat} {a : Option Addr} {n c : Nat} (h : ByAt w lo p a n c) (hb : Below w.heap.size w w') : ByAt w' lo p a n c :=
  ⟨h.1, (hb.cell (World.block_lt_of_cell? w _ h.2)).trans h.2⟩
theorem ByAt.kept {w w' : World} {lo p : Nat} {a : Option Addr} {n c : Nat} {row : Option Nat} (h : ByAt w lo p a n c) (hg : w.grownBy w' row) (hp : some p ≠ row) : ByAt w' lo p a n c :=
  ⟨h.1, hg.cell h.2 hp⟩
set_option maxHeartbeats 400000 in
theorem by_any (a : Option Addr) (n c : Nat) (w : World) :
    Calls Tryz.prog 154 #[.slice a n c] w fun e w' => e = .returned (.func (.func 155) #[] #[.pointer (some ⟨w.heap.size, 0, none⟩)]) ∧
      ByAt w' w.heap.size w.heap.size a n c ∧ Below w.heap.size w w' := by
  have hmf : ∀ (fn : Fn) (first cap : Array Value) (w : World), (Instr.makeFunc fn first cap).run Tryz.prog w = .ok (.func fn first cap) w := fun _ _ _ _ => rfl
  go_enter Tryz.func154, Tryz.ntmps154
  go_wp2
  go_ret
  refine ⟨rfl, ⟨Nat.le_refl _, ?_⟩, (Below.refl _ _).alloc (Nat.le_refl _) _⟩
  rw [World.cell?_alloc_at _ _ _ _ rfl]; rfl

theorem Turned.after {w w1 w2 : World} {u v : Value} (hb : Below w.heap.size w w1) (h : Turned w1 w2 u v) : Turned w w2 u v :=
  ⟨gb_trans (gb_of_below hb _) h.1 (.inl rfl), h.2.imp id fun k j hj => Nat.le_trans hb.size (k j hj)⟩
theorem Turned.same (w : World) (u : Value) : Turned w w u u := ⟨gb_refl _ _, .inl rfl⟩
/-- .. and below the first block of one's own nothing has turned. -/
theorem Turned.below {w w' : World} {B : Nat} {u v : Value} {xs : List Nat} (h : Turned w w' u v) (ho : Own w B u xs) (hB : B ≤ w.heap.size) : Below B w w' := gb_below h.1 hB fun k hk => (ho.lt hk).1

theorem getB_take (xs : List Nat) (k j : Nat) : getB (xs.take k) j = (decide (j < 64 * k) && getB xs j) := by
  unfold getB
  rw [List.getD_eq_getElem?_getD, List.getD_eq_getElem?_getD, List.getElem?_take]
  by_cases h : j / 64 < k
  · rw [if_pos h, show decide (j < 64 * k) = true by simp; omega]; simp
  · rw [if_neg h, show decide (j < 64 * k) = false by simp; omega]; simp
/-- The lowest bit looked for only as far as the other row goes. -/
theorem first_cut {xs ys : List Nat} (hx : smalls xs) (hy : smalls ys) {k : Nat} (hk : k = xs.length ∨ ys.length ≤ k) : getI xs (firstI (ys.take k)) = getI xs (firstI ys) := by
  rcases hk with rfl | hk
  · have hz : smalls (ys.take xs.length) := fun x h => hy x (List.mem_of_mem_take h)
    have hb : ∀ j, (val (ys.take xs.length)).testBit j = (decide (j < 64 * xs.length) && (val ys).testBit j) := fun j => by rw [val_bit hz, val_bit hy, getB_take]
    have hxo : ∀ j, 64 * xs.length ≤ j → (val xs).testBit j = false := fun j hj => by rw [val_bit hx, getB_out xs j hj]
    rw [getI_val hx hz, getI_val hx hy]
    by_cases h0 : val (ys.take xs.length) = 0
    · rw [h0]
      by_cases h1 : val ys = 0
      · rw [h1]
      · have h2 : 64 * xs.length ≤ Ech.low (val ys) := by
          rcases Nat.lt_or_ge (Ech.low (val ys)) (64 * xs.length) with h3 | h3
          · have h4 := hb (Ech.low (val ys))
            rw [h0, Ech.low_bit h1, decide_eq_true h3] at h4
            simp at h4
          · exact h3
        rw [hxo _ h2]; simp
    · have h1 := Ech.low_bit h0
      rw [hb] at h1
      have h2 : Ech.low (val (ys.take xs.length)) < 64 * xs.length := by
        rcases Nat.lt_or_ge (Ech.low (val (ys.take xs.length))) (64 * xs.length) with h3 | h3
        · exact h3
        · rw [decide_eq_false (by omega)] at h1; simp at h1
      rw [decide_eq_true h2, Bool.true_and] at h1
      have h3 : Ech.low (val ys) = Ech.low (val (ys.take xs.length)) := Ech.low_unique h1 fun j hj => by
        have h4 := Ech.low_none h0 hj
        rw [hb, decide_eq_true (by omega), Bool.true_and] at h4
        exact h4
      rw [h3, decide_eq_true (Ech.ne_of_bit h1), decide_eq_true h0]
  · rw [List.take_of_length_le hk]
set_option maxHeartbeats 1000000 in
theorem estep_any (B lo p : Nat) (a : Option Addr) (c : Nat) (xs : List Nat) (a' : Option Addr) (m c' : Nat) (ys : List Nat) (w : World) (ht : Tab w) (ho : Own w B (.slice a xs.length c) xs) (hB : B ≤ w.heap.size) (h' : RowAt w a' m ys)
    (hby : ByAt w lo p a' m c') (hmc : m ≤ c') (hap : m = 0 ∨ ∀ ad, a' = some ad → some ad.block ≠ (Value.slice a xs.length c).ownBlock) (hn : xs.length ≤ 1048576) (hm : m ≤ 1048576) :
    Calls Tryz.prog 155 #[.slice a xs.length c, .pointer (some ⟨p, 0, none⟩)] w fun e w' => ∃ v, e = .returned v ∧ Own w' B v (stepL xs ys) ∧ Turned w w' (.slice a xs.length c) v := by
  have hr : RowAt w a xs.length xs := by
    obtain ⟨a1, c1, e, hr⟩ := ho.row
    simp only [Value.slice.injEq] at e
    rw [e.1]; exact hr
  have hml := h'.1
  obtain ⟨k, hkm, hkx, hmin⟩ : ∃ k : Nat, k ≤ m ∧ (k = xs.length ∨ ys.length ≤ k) ∧ (if (xs.length : Int) < (m : Int) then (xs.length : Int) else (m : Int)) = (k : Int) := by
    by_cases hlt : xs.length < m
    · exact ⟨xs.length, by omega, .inl rfl, by rw [if_pos (by omega)]⟩
    · exact ⟨m, Nat.le_refl _, .inr (by omega), by rw [if_neg (by omega)]⟩
  have hmin2 : ∀ (ts : Array TypeId) (t : TypeId) (w : World), (Builtin.min_ ts t #[.int .i64 (m : Int), .int .i64 (xs.length : Int)]).run Tryz.prog w = .ok (.int .i64 (k : Int)) w := fun ts t w => by rw [run_min_int2, hmin]
  clear hmin
  have hsl := uslice_hi a' m c' k (by omega)
  have hcut := first_cut hr.2.1 h'.2.1 hkx
  have hrk := h'.take hkm
  have hfl := firstI_le hrk.2.1
  rw [hrk.1] at hfl
  have HF := hide (first_any a' k c' (ys.take k) w ht hrk (by omega))
  have HG := hide (get_any a xs.length c xs (firstI (ys.take k)) w hr hn (by omega))
  have hq := hby.2
  have hE : stepL xs ys = if getI xs (firstI ys) = true then xorL xs ys else xs := rfl
  rw [← hcut] at hE
  clear hcut hrk hkx
  cases hget : getI xs (firstI (ys.take k)) with
  | false =>
    rw [hget] at HG hE
    rw [if_neg (by decide)] at hE
    rw [hE]
    have HO := hide ho
    clear ho h' hr hby hE hget hap
    generalize firstI (ys.take k) = f at *
    go_enter Tryz.func155, Tryz.ntmps155
    go_wp2_with fail
    refine (unhide HF).mono ?_
    rintro e w1 ⟨rfl, hw⟩
    obtain rfl := hw.symm
    go_wp2_with (go_at_call 156; refine (unhide HG).mono ?_; rintro e w1 ⟨rfl, d, rfl⟩)
    go_ret
    have hb : Below w.heap.size w (w.drewN d) := below_drewN (Below.refl _ _) d
    exact ⟨_, rfl, (unhide HO).below hb, (Turned.same _ _).after hb⟩
  | true =>
    rw [hget] at HG hE
    rw [if_pos rfl] at hE
    rw [hE]
    clear hE hget hr
    have HX := hide (fun w1 (hb : Below w.heap.size w w1) => eadd_any B a c xs a' m c' ys w1 (ho.below hb) (Nat.le_trans hB hb.size) (h'.below hb) hap hn hm)
    have HP := hide (fun w1 (hb : Below w.heap.size w w1) => (hby.below hb).2)
    clear ho h' hby hap
    generalize firstI (ys.take k) = f at *
    go_enter Tryz.func155, Tryz.ntmps155
    go_wp2_with fail
    refine (unhide HF).mono ?_
    rintro e w1 ⟨rfl, hw⟩
    obtain rfl := hw.symm
    go_wp2_with fail
    refine (unhide HG).mono ?_
    rintro e w1 ⟨rfl, d, hw⟩
    have hb : Below w.heap.size w w1 := by rw [hw]; exact below_drewN (Below.refl _ _) d
    have hp := unhide HP w1 hb
    have HX1 := hide (unhide HX w1 hb)
    have HB := hide hb
    clear hw hb HX HP HG HF hq ht
    go_wp2_with (go_at_call 157; refine (unhide HX1).mono ?_; rintro e w2 ⟨v, rfl, ho2, ht2⟩)
    go_ret
    exact ⟨_, rfl, ho2, ht2.after (unhide HB)⟩

/-- Rows in memory have as much room as words, or more. -/
def Caps (w : World) (a : Option Addr) (n : Nat) : Prop := ∀ b off i ai k ci, a = some ⟨b, off, none⟩ → i < n → w.cell? ⟨b, off + i, none⟩ = some (.slice ai k ci) → k ≤ ci
/-- A slice of rows of words that can be read: they are rs. -/
def VecsAt (w : World) (a : Option Addr) (n : Nat) (rs : List (List Nat)) : Prop :=
  rs.length = n ∧ (n = 0 ∨ ∃ b off, a = some ⟨b, off, none⟩ ∧ ∀ i, i < n → ∃ ai ci, w.cell? ⟨b, off + i, none⟩ = some (.slice ai (rs.getD i []).length ci) ∧ RowAt w ai (rs.getD i []).length (rs.getD i [])) ∧ Caps w a n
theorem VecsAt.cap {w : World} {b off n i k ci : Nat} {ai : Option Addr} {rs : List (List Nat)} (h : VecsAt w (some ⟨b, off, none⟩) n rs) (hi : i < n) (hc : w.cell? ⟨b, off + i, none⟩ = some (.slice ai k ci)) : k ≤ ci := h.2.2 b off i ai k ci rfl hi hc
theorem VecsAt.at {w : World} {a : Option Addr} {n : Nat} {rs : List (List Nat)} (h : VecsAt w a n rs) {i : Nat} (hi : i < n) :
    ∃ b off, a = some ⟨b, off, none⟩ ∧ ∀ i, i < n → ∃ ai ci, w.cell? ⟨b, off + i, none⟩ = some (.slice ai (rs.getD i []).length ci) ∧ RowAt w ai (rs.getD i []).length (rs.getD i []) := by
  rcases h.2.1 with h0 | h0
  · omega
  · exact h0
theorem VecsAt.below {w w' : World} {a : Option Addr} {n : Nat} {rs : List (List Nat)} (h : VecsAt w a n rs) (hb : Below w.heap.size w w') : VecsAt w' a n rs := by
  refine ⟨h.1, ?_, fun b off i ai k ci e hi hc => ?_⟩
  · rcases h.2.1 with h0 | ⟨b, off, rfl, hc⟩
    · exact .inl h0
    · refine .inr ⟨b, off, rfl, fun i hi => ?_⟩
      obtain ⟨ai, ci, h1, h2⟩ := hc i hi
      exact ⟨ai, ci, (hb.cell (World.block_lt_of_cell? w _ h1)).trans h1, h2.below hb⟩
  · obtain ⟨b2, off2, e2, hc2⟩ := h.at hi
    rw [e] at e2
    simp only [Option.some.injEq, Addr.mk.injEq, and_true] at e2
    obtain ⟨rfl, rfl⟩ := e2
    obtain ⟨a2, c2, h1, h2⟩ := hc2 i hi
    have h3 := (hb.cell (World.block_lt_of_cell? w _ h1)).trans h1
    exact h.2.2 b off i ai k ci e hi (by rw [h1, ← h3, hc])
theorem VecsAt.small {w : World} {a : Option Addr} {n : Nat} {rs : List (List Nat)} (h : VecsAt w a n rs) (i : Nat) : smalls (rs.getD i []) := by
  by_cases hi : i < n
  · obtain ⟨b, off, _, hc⟩ := h.at hi
    obtain ⟨ai, ci, _, h2⟩ := hc i hi
    exact h2.2.1
  · rw [List.getD_eq_getElem?_getD, List.getElem?_eq_none (by rw [h.1]; omega)]
    exact smalls.nil
theorem VecsAt.fit {w : World} {a : Option Addr} {n : Nat} {rs : List (List Nat)} (h : VecsAt w a n rs) {M : Nat} (hM : ∀ i, i < n → (rs.getD i []).length ≤ M) : Fit M rs := by
  intro b hb
  obtain ⟨i, hi, rfl⟩ := List.getElem_of_mem hb
  have h1 := h.small i
  have h2 := hM i (by rw [← h.1]; exact hi)
  simp only [List.getD_eq_getElem?_getD, List.getElem?_eq_getElem hi, Option.getD_some] at h1 h2
  exact ⟨h1, h2⟩

set_option maxHeartbeats 1000000 in
theorem reduce_any (a : Option Addr) (n c : Nat) (rs : List (List Nat)) (a' : Option Addr) (m c' : Nat) (xs : List Nat) (w : World) (ht : Tab w) (h : VecsAt w a n rs) (hf : Fit 1048576 rs) (h' : RowAt w a' m xs) (hn : n ≤ 1048576) (hm : m ≤ 1048576) :
    Calls Tryz.prog 150 #[.slice a n c, .slice a' m c'] w fun e w' => ∃ v, e = .returned v ∧ Own w' w.heap.size v (reduceL rs xs) ∧ Below w.heap.size w w' := by
  have hmf : ∀ (fn : Fn) (first cap : Array Value) (w : World), (Instr.makeFunc fn first cap).run Tryz.prog w = .ok (.func fn first cap) w := fun _ _ _ _ => rfl
  obtain rfl : m = xs.length := h'.1.symm
  have HOW := hide (own_any a' _ c' xs w h' hm)
  have hxs := h'.2.1
  clear h'
  go_enter Tryz.func150, Tryz.ntmps150
  go_wp2_with fail
  refine (unhide HOW).mono ?_
  rintro e w1 ⟨v, rfl, ho, hb⟩
  obtain ⟨a1, c1, rfl, _⟩ := ho.row
  go_wp2
  go_loopw [5, 12] (fun r i wr => ∃ k : Nat, k ≤ n ∧ i = .int .i64 k ∧ ∃ a1 c1, r = .slice a1 (reduceL (rs.take k) xs).length c1 ∧ Hid (Own wr w.heap.size (.slice a1 (reduceL (rs.take k) xs).length c1) (reduceL (rs.take k) xs)) ∧ Hid (Below w.heap.size w wr)) (fun _ i _ => n - (intOf i).toNat)
  case atStart => exact ⟨0, Nat.zero_le _, rfl, a1, c1, rfl, hide ho, hide hb⟩
  case round =>
    obtain ⟨k, hk, rfl, a2, c2, rfl, HO, HB⟩ := hrel
    clear ho hb HOW
    by_cases hlt : k < n
    · have hB := unhide HB
      obtain ⟨b, off, rfl, hc⟩ := (h.below hB).at hlt
      obtain ⟨ai, ci, hcell, hrow⟩ := hc k hlt
      have hrow0 : RowAt w ai (rs.getD k []).length (rs.getD k []) := by
        obtain ⟨b2, off2, e2, hc2⟩ := h.at hlt
        simp only [Option.some.injEq, Addr.mk.injEq, and_true] at e2
        obtain ⟨rfl, rfl⟩ := e2
        obtain ⟨ai2, ci2, g1, g2⟩ := hc2 k hlt
        have := (hB.cell (World.block_lt_of_cell? w _ g1)).trans g1
        rw [hcell] at this
        simp only [Option.some.injEq, Value.slice.injEq, true_and] at this
        rw [this.1]; exact g2
      have hlk := (hf.getD k).2
      have hrs := reduce_small (hf.take k) hxs hm
      have HE := hide (reduce_take (v := xs) (show k < rs.length by rw [h.1]; exact hlt))
      have hcap := (h.below hB).cap hlt hcell
      have HBY := hide (by_any ai (rs.getD k []).length ci wr)
      have hlo := hrow0.lt
      have HR := hide hrow
      clear hc hrow hrow0 h
      generalize rs.getD k [] = y at *
      generalize reduceL (rs.take k) xs = r at *
      go_wp2_with fail
      refine (unhide HBY).mono ?_
      rintro e w2 ⟨rfl, hby, hb2⟩
      have ho2 := (unhide HO).below hb2
      have hB2 := below0 hB hb2
      have HS := hide (estep_any w.heap.size _ _ a2 c2 r ai y.length ci y w2 (ht.below hB2) ho2 hB2.size ((unhide HR).below hb2) hby hcap (hlo.imp id fun hlo ad e e2 => by have := hlo ad e; have := (ho2.lt e2.symm).1; omega) hrs.2 hlk)
      have HO2 := hide ho2
      have HB2 := hide hB2
      clear hby hb2 ho2 hB2 HO HB HBY HR hB
      go_wp2_with fail
      refine (unhide HS).mono ?_
      rintro e w3 ⟨v, rfl, ho3, ht3⟩
      have hB3 := (unhide HB2).trans (ht3.below (unhide HO2) (unhide HB2).size)
      obtain ⟨a3, c3, rfl, _⟩ := ho3.row
      rw [← unhide HE]
      rw [← unhide HE] at ho3
      have HO3 := hide ho3
      have HB3 := hide hB3
      clear ho3 hB3 ht3 HS HO2 HB2
      go_wp2
      go_roundw
      case rel => exact ⟨k + 1, by omega, by go_num, a3, c3, rfl, HO3, HB3⟩
      case measure => simp [intOf]; omega
    · have hke : reduceL (rs.take k) xs = reduceL rs xs := reduce_all (by rw [h.1]; omega)
      rw [hke] at HO
      rw [hke]
      clear h hke
      go_wp2
      go_ret
      exact ⟨_, rfl, unhide HO, unhide HB⟩
end Go.Proofs.YtmdmipojbeppiaaGreatDoor
namespace Go.Proofs.YtmdmipojbeppiaaGreatDoor
open Go.RowKit
set_option linter.unusedVariables false
set_option maxRecDepth 4000

theorem info_u64s : (Tryz.prog.info? 25).map (fun i => (i.zero, i.size, i.bytes)) = some (some (.slice none 0 0), 1, 24) := by kernel_rfl
theorem info_u64s_one : (Tryz.prog.info? 25).map (·.size) = some 1 := by kernel_rfl
theorem size_u64s (w : World) : (sizeOf 25).run Tryz.prog w = .ok 1 w := by
  obtain ⟨i0, hi, _, hz, _⟩ := info_parts info_u64s
  simp [sizeOf, typeInfo, hi, hz]


/-- What the two copies leave, be it in place or in new memory. -/
theorem insert_cells {cur0 cur1 cur2 : Array Value} {cs : List Value} {rv : Value} {n i : Nat} (hl : cs.length = n) (hi : i < n) (hs : n + 1 ≤ cur0.size)
    (h0 : ∀ j, j < i → cur0[j]? = cs[j]?) (h2 : ∀ j, j < cur0.size → cur2[j]? = if i ≤ j ∧ j < i + 1 then some rv else if i + 1 ≤ j ∧ j < n + 1 then cs[j - 1]? else cur0[j]?) (hz : cur2.size = cur0.size) :
    cur2.toList.take (n + 1) = cs.take i ++ rv :: cs.drop i := by
  apply List.ext_getElem?
  intro j
  by_cases hj : j < n + 1
  · rw [List.getElem?_take_of_lt hj, Array.getElem?_toList, h2 j (by omega)]
    by_cases h1 : j < i
    · rw [if_neg (by omega), if_neg (by omega), h0 j h1, List.getElem?_append_left (by rw [List.length_take]; omega), List.getElem?_take_of_lt h1]
    · rw [List.getElem?_append_right (by rw [List.length_take]; omega), List.length_take, Nat.min_eq_left (by omega)]
      by_cases h3 : j = i
      · subst h3
        rw [if_pos (by omega), Nat.sub_self]; rfl
      · rw [if_neg (by omega), if_pos (by omega), show j - i = (j - i - 1) + 1 by omega, List.getElem?_cons_succ, List.getElem?_drop]
        congr 1; omega
  · rw [List.getElem?_eq_none (by simp; omega), List.getElem?_eq_none (by simp; omega)]

end Go.Proofs.YtmdmipojbeppiaaGreatDoor
namespace Go.Proofs.YtmdmipojbeppiaaGreatDoor
open Go.RowKit
set_option linter.unusedVariables false
set_option maxRecDepth 4000

structure OwnV (w : World) (B : Nat) (v : Value) (vs : List Value) (rs : List (List Nat)) : Prop where
  top : w.ownsRow B 25 1 v rs.length vs
  rows : ∀ i u, vs[i]? = some u → Own w B u (rs.getD i [])
  apart : vs.Pairwise Dis
theorem OwnV.len {w : World} {B : Nat} {v : Value} {vs : List Value} {rs : List (List Nat)} (h : OwnV w B v vs rs) : vs.length = rs.length := by simpa using h.top.1
theorem OwnV.nil (w : World) (B : Nat) : OwnV w B (.slice none 0 0) [] [] := ⟨World.ownsRow_nil _ _ _ _, (fun i u h => by simp at h), .nil⟩
/-- A row of words and a row of rows lie in different blocks. -/
theorem dis_types {w : World} {B B' : Nat} {v u : Value} {n : Nat} {cs : List Value} {xs : List Nat} (h : w.ownsRow B 25 1 v n cs) (k : Own w B' u xs) : Dis u v := by
  rcases h.2 with ⟨rfl, _⟩ | ⟨g, cap, cur, rfl, hb, hg, _⟩
  · by_cases e : u.ownBlock = none
    · exact .inl e
    · exact .inr e
  · rcases k.2.2 with ⟨rfl, _⟩ | ⟨g', cap', cur', rfl, hb', hg', _⟩
    · exact .inl rfl
    · right
      intro e
      simp only [Value.ownBlock, Option.some.injEq] at e
      rw [e] at hg'
      rw [hg] at hg'
      simp at hg'
theorem OwnV.dis {w : World} {B : Nat} {v : Value} {vs : List Value} {rs : List (List Nat)} (h : OwnV w B v vs rs) {i : Nat} {u : Value} (hu : vs[i]? = some u) : Dis u v := dis_types h.top (h.rows i u hu)
theorem ownsRow_below {w w' : World} {B : Nat} {e : TypeId} {v : Value} {n : Nat} {cs : List Value} (h : w.ownsRow B e 1 v n cs) (hb : Below w.heap.size w w') : w'.ownsRow B e 1 v n cs :=
  h.kept (gb_of_below hb none) (by cases hv : v.ownBlock <;> simp)
theorem OwnV.below {w w' : World} {B : Nat} {v : Value} {vs : List Value} {rs : List (List Nat)} (h : OwnV w B v vs rs) (hb : Below w.heap.size w w') : OwnV w' B v vs rs :=
  ⟨ownsRow_below h.top hb, fun i u hu => (h.rows i u hu).below hb, h.apart⟩
theorem OwnV.mono {w : World} {B B' : Nat} {v : Value} {vs : List Value} {rs : List (List Nat)} (h : OwnV w B v vs rs) (hB : B' ≤ B) : OwnV w B' v vs rs := by
  refine ⟨⟨h.top.1, ?_⟩, fun i u hu => (h.rows i u hu).mono hB, h.apart⟩
  rcases h.top.2 with h0 | ⟨g, cap, cur, h1, hb, r⟩
  · exact .inl h0
  · exact .inr ⟨g, cap, cur, h1, Nat.le_trans hB hb, r⟩
/-- It can be read. -/
theorem OwnV.vecs {w : World} {B : Nat} {v : Value} {vs : List Value} {rs : List (List Nat)} (h : OwnV w B v vs rs) : ∃ a c, v = .slice a rs.length c ∧ VecsAt w a rs.length rs := by
  have hl := h.len
  rcases h.top.2 with ⟨rfl, h0⟩ | ⟨g, cap, cur, rfl, hb, hg, hnc, hcm, hcs, ht⟩
  · exact ⟨none, 0, by rw [h0], rfl, .inl h0, fun _ _ _ _ _ _ e => by cases e⟩
  · have hcell : ∀ i (hi : i < vs.length), w.cell? ⟨g, i, none⟩ = some vs[i] := fun i hi => by
      rw [cell_of_row w g i _ _ _ hg, ← Array.getElem?_toList, ← List.getElem?_eq_getElem hi, ← ht, List.getElem?_take_of_lt (by omega)]
    refine ⟨_, cap, rfl, rfl, .inr ⟨g, 0, rfl, fun i hi => ?_⟩, fun b off i ai k ci e hi hc => ?_⟩
    · have hiv : i < vs.length := by omega
      obtain ⟨a, c, e, hr⟩ := (h.rows i vs[i] (List.getElem?_eq_getElem hiv)).row
      refine ⟨a, c, ?_, hr⟩
      rw [Nat.zero_add, hcell i hiv, e]
    · simp only [Option.some.injEq, Addr.mk.injEq, and_true] at e
      obtain ⟨rfl, rfl⟩ := e
      have hiv : i < vs.length := by omega
      have ho := h.rows i vs[i] (List.getElem?_eq_getElem hiv)
      rw [Nat.zero_add, hcell i hiv] at hc
      rw [Option.some.inj hc] at ho
      exact ho.cap
/-- No one of these lies in block b. -/
def Off (l : List Value) (b : Nat) : Prop := ∀ u ∈ l, u.ownBlock ≠ some b
/-- The world went on, and what lay in none of the blocks of l0 is as it was, and lies in none of the blocks of l. -/
structure Keeps (w w' : World) (l0 l : List Value) : Prop where
  os : w'.os = w.os
  tape : w'.tape = w.tape
  output : w'.output = w.output
  size : w.heap.size ≤ w'.heap.size
  block : ∀ b, b < w.heap.size → Off l0 b → w'.heap[b]? = w.heap[b]? ∧ Off l b
theorem Keeps.refl (w : World) (l : List Value) : Keeps w w l l := ⟨rfl, rfl, rfl, Nat.le_refl _, fun _ _ h => ⟨rfl, h⟩⟩
theorem Keeps.trans {w w1 w2 : World} {l0 l1 l2 : List Value} (h : Keeps w w1 l0 l1) (k : Keeps w1 w2 l1 l2) : Keeps w w2 l0 l2 :=
  ⟨k.os.trans h.os, k.tape.trans h.tape, k.output.trans h.output, Nat.le_trans h.size k.size, fun b hb ho => by
    obtain ⟨h1, h2⟩ := h.block b hb ho
    obtain ⟨h3, h4⟩ := k.block b (Nat.lt_of_lt_of_le hb h.size) h2
    exact ⟨h3.trans h1, h4⟩⟩
theorem Keeps.of_below {w w' : World} (h : Below w.heap.size w w') (l : List Value) : Keeps w w' l l := ⟨h.os, h.tape, h.output, h.size, fun b hb ho => ⟨h.block b hb, ho⟩⟩
theorem OwnV.off {w : World} {B : Nat} {v : Value} {vs : List Value} {rs : List (List Nat)} (h : OwnV w B v vs rs) {b : Nat} (hb : b < B ∨ w.heap.size ≤ b) : Off (v :: vs) b := by
  intro u hu e
  rcases List.mem_cons.1 hu with rfl | hu
  · have := h.top.lt b e; omega
  · obtain ⟨i, hi, rfl⟩ := List.getElem_of_mem hu
    have := (h.rows i _ (List.getElem?_eq_getElem hi)).lt e; omega
theorem Keeps.below {w w' : World} {l0 l : List Value} (h : Keeps w w' l0 l) {B : Nat} (hB : B ≤ w.heap.size) (ho : ∀ b, b < B → Off l0 b) : Below B w w' :=
  ⟨h.os, h.tape, h.output, h.size, fun b hb => (h.block b (by omega) (ho b hb)).1⟩
theorem Keeps.cell {w w' : World} {l0 l : List Value} (h : Keeps w w' l0 l) {p : Addr} {u : Value} (hc : w.cell? p = some u) (ho : Off l0 p.block) : w'.cell? p = some u :=
  (World.cell?_of_block (h.block p.block (World.block_lt_of_cell? w _ hc) ho).1).trans hc

theorem pairwise_set {l : List Value} (h : l.Pairwise Dis) (k : Nat) (v : Value) (hv : ∀ i u, i ≠ k → l[i]? = some u → Dis u v) : (l.set k v).Pairwise Dis := by
  rw [List.pairwise_iff_getElem] at h ⊢
  intro i j hi hj hij
  have hi' : i < l.length := by simpa using hi
  have hj' : j < l.length := by simpa using hj
  rw [List.getElem_set, List.getElem_set]
  by_cases e1 : k = i
  · subst e1
    rw [if_pos rfl, if_neg (by omega)]
    exact (hv j _ (by omega) (List.getElem?_eq_getElem hj')).symm
  · rw [if_neg e1]
    by_cases e2 : k = j
    · subst e2
      rw [if_pos rfl]
      exact hv i _ (by omega) (List.getElem?_eq_getElem hi')
    · rw [if_neg e2]
      exact h i j hi' hj' hij
theorem OwnV.two {w : World} {B : Nat} {v : Value} {vs : List Value} {rs : List (List Nat)} (h : OwnV w B v vs rs) {i j : Nat} {u u' : Value} (hij : i ≠ j) (hu : vs[i]? = some u) (hu' : vs[j]? = some u') : Dis u u' := by
  obtain ⟨hi, rfl⟩ := List.getElem?_eq_some_iff.1 hu
  obtain ⟨hj, rfl⟩ := List.getElem?_eq_some_iff.1 hu'
  have hp := List.pairwise_iff_getElem.1 h.apart
  rcases Nat.lt_or_gt_of_ne hij with h1 | h1
  · exact hp i j hi hj h1
  · exact (hp j i hj hi h1).symm
/-- One row turned, and stored back. -/
theorem OwnV.turn {w w' : World} {B g n cap k : Nat} {vs : List Value} {rs : List (List Nat)} {u v : Value} {r : List Nat} (h : OwnV w B (.slice (some ⟨g, 0, none⟩) n cap) vs rs) (hu : vs[k]? = some u)
    (ho : Own w' B v r) (ht : Turned w w' u v) : OwnV (w'.setCell ⟨g, k, none⟩ v) B (.slice (some ⟨g, 0, none⟩) n cap) (vs.set k v) (rs.set k r) ∧
      Keeps w (w'.setCell ⟨g, k, none⟩ v) (.slice (some ⟨g, 0, none⟩) n cap :: vs) (.slice (some ⟨g, 0, none⟩) n cap :: vs.set k v) := by
  have hn : n = rs.length := by
    rcases h.top.2 with ⟨h0, _⟩ | ⟨g', cap', cur, h0, _⟩
    · cases h0
    · simp only [Value.slice.injEq] at h0; exact h0.2.1
  subst hn
  have hkv : k < vs.length := (List.getElem?_eq_some_iff.1 hu).1
  have hgl : g < w.heap.size := (h.top.lt g rfl).2
  have hgu : u.ownBlock ≠ some g := by
    have hd := h.dis hu
    rcases hd with hd | hd
    · rw [hd]; simp
    · exact hd
  have htop' : w'.ownsRow B 25 1 (.slice (some ⟨g, 0, none⟩) rs.length cap) rs.length vs := h.top.kept ht.1 (.inr fun e => hgu e.symm)
  have hvg : v.ownBlock ≠ some g := by
    rcases ht.2 with e | e
    · rw [e]; exact hgu
    · intro e2; have := e g e2; omega
  have hdis : ∀ i x, i ≠ k → vs[i]? = some x → Dis x v := fun i x hik hx => by
    rcases ht.2 with e | e
    · have := h.two hik hx hu
      unfold Dis at this ⊢
      rwa [e]
    · by_cases hxn : x.ownBlock = none
      · exact .inl hxn
      · right
        intro e2
        obtain ⟨b, hb⟩ := Option.ne_none_iff_exists'.1 hxn
        have h1 := e b (by rw [← e2, hb])
        have h2 := ((h.rows i x hx).lt hb).2
        omega
  refine ⟨⟨?_, fun i x hx => ?_, pairwise_set h.apart k v hdis⟩, ?_⟩
  · rw [List.length_set]
    exact (htop'.stored k v).1
  · by_cases hik : i = k
    · subst hik
      rw [List.getElem?_set_self hkv] at hx
      obtain rfl := Option.some.inj hx
      have : (rs.set i r).getD i [] = r := by
        rw [List.getD_eq_getElem?_getD, List.getElem?_set_self (by have := h.len; omega)]; rfl
      rw [this]
      exact ho.kept (gb_setCell w' g i _) (.inr hvg)
    · rw [List.getElem?_set_ne (Ne.symm hik)] at hx
      have : (rs.set k r).getD i [] = rs.getD i [] := by rw [List.getD_eq_getElem?_getD, List.getElem?_set_ne (Ne.symm hik), ← List.getD_eq_getElem?_getD]
      rw [this]
      refine ((h.rows i x hx).kept ht.1 (h.two hik hx hu)).kept (gb_setCell w' g k _) ?_
      rcases h.dis hx with hd | hd
      · exact .inl hd
      · exact .inr hd
  · have hs := gb_setCell w' g k v
    refine ⟨hs.os.trans ht.1.os, hs.tape.trans ht.1.tape, hs.output.trans ht.1.output, Nat.le_trans ht.1.size hs.size, fun b hb hoff => ?_⟩
    have hbg : some b ≠ some g := fun e => hoff _ List.mem_cons_self (by rw [e]; rfl)
    have hbu : some b ≠ u.ownBlock := fun e => hoff u (List.mem_cons_of_mem _ (List.mem_of_getElem? hu)) e.symm
    refine ⟨(hs.block b (Nat.lt_of_lt_of_le hb ht.1.size) hbg).trans (ht.1.block b hb hbu), fun x hx e => ?_⟩
    rcases List.mem_cons.1 hx with rfl | hx
    · exact hbg e.symm
    · rcases List.mem_or_eq_of_mem_set hx with hx | rfl
      · exact hoff x (List.mem_cons_of_mem _ hx) e
      · rcases ht.2 with e2 | e2
        · exact hbu (by rw [← e2, e])
        · have := e2 b e; omega
theorem getD_insAt (r : List Nat) (p i : Nat) (C : List (List Nat)) (hp : p ≤ C.length) : (insAt r p C).getD i [] = if i < p then C.getD i [] else if i = p then r else C.getD (i - 1) [] := by
  unfold insAt
  have hl : (C.take p).length = p := by rw [List.length_take]; omega
  rw [List.getD_eq_getElem?_getD]
  split
  · rename_i h1
    rw [List.getElem?_append_left (by omega), List.getElem?_take_of_lt h1, List.getD_eq_getElem?_getD]
  · rename_i h1
    rw [List.getElem?_append_right (by omega), hl]
    split
    · rename_i h2; subst h2; simp
    · rename_i h2
      rw [show i - p = (i - p - 1) + 1 by omega, List.getElem?_cons_succ, List.getElem?_drop, List.getD_eq_getElem?_getD, show p + (i - p - 1) = i - 1 by omega]
/-- One row more. -/
theorem OwnV.insert {w w' : World} {B p : Nat} {v s rv : Value} {vs : List Value} {rs : List (List Nat)} {r : List Nat} (h : OwnV w B v vs rs) (hr : Own w B rv r) (hd : ∀ u ∈ vs, Dis u rv) (hp : p ≤ rs.length)
    (htop : w'.ownsRow B 25 1 s (rs.length + 1) (vs.take p ++ rv :: vs.drop p)) (hg : w.grownBy w' v.ownBlock) : OwnV w' B s (vs.take p ++ rv :: vs.drop p) (insAt r p rs) := by
  have hl := h.len
  have hlt : (vs.take p).length = p := by rw [List.length_take]; omega
  refine ⟨by rw [insAt_length r p rs hp]; exact htop, fun i u hu => ?_, ?_⟩
  · rw [getD_insAt r p i rs hp]
    by_cases h1 : i < p
    · rw [if_pos h1]
      rw [List.getElem?_append_left (by omega), List.getElem?_take_of_lt h1] at hu
      exact (h.rows i u hu).kept hg (h.dis hu)
    · rw [if_neg h1]
      rw [List.getElem?_append_right (by omega), hlt] at hu
      by_cases h2 : i = p
      · subst h2
        rw [if_pos rfl]
        simp at hu
        subst hu
        exact hr.kept hg (dis_types h.top hr)
      · rw [if_neg h2]
        rw [show i - p = (i - p - 1) + 1 by omega, List.getElem?_cons_succ, List.getElem?_drop, show p + (i - p - 1) = i - 1 by omega] at hu
        exact (h.rows (i - 1) u hu).kept hg (h.dis hu)
  · refine (List.Perm.pairwise_iff (fun h => Dis.symm h) (List.perm_middle (a := rv) (l₁ := vs.take p) (l₂ := vs.drop p))).2 ?_
    rw [List.take_append_drop]
    exact List.pairwise_cons.2 ⟨fun u hu => (hd u hu).symm, h.apart⟩

set_option maxHeartbeats 400000 in
theorem in_any (a : Option Addr) (n c : Nat) (rs : List (List Nat)) (a' : Option Addr) (m c' : Nat) (xs : List Nat) (w : World) (ht : Tab w) (h : VecsAt w a n rs) (hf : Fit 1048576 rs) (h' : RowAt w a' m xs) (hn : n ≤ 1048576) (hm : m ≤ 1048576) :
    Calls Tryz.prog 146 #[.slice a n c, .slice a' m c'] w fun e w' => e = .returned (.bool (decide (firstI (reduceL rs xs) < 0))) ∧ Below w.heap.size w w' := by
  have HR := hide (reduce_any a n c rs a' m c' xs w ht h hf h' hn hm)
  have hl := (reduce_small hf h'.2.1 (by rw [h'.1]; exact hm)).2
  clear h h' hf
  generalize reduceL rs xs = r at *
  go_enter Tryz.func146, Tryz.ntmps146
  go_wp2_with fail
  refine (unhide HR).mono ?_
  rintro e w1 ⟨v, rfl, ho, hb⟩
  obtain ⟨a1, c1, rfl, hr⟩ := ho.row
  have HF := hide (first_any a1 r.length c1 r w1 (ht.below hb) hr hl)
  clear ho hr HR
  go_wp2_with (go_at_call 101; refine (unhide HF).mono ?_; rintro e w2 ⟨rfl, rfl⟩)
  go_ret
  exact ⟨rfl, hb⟩

end Go.Proofs.YtmdmipojbeppiaaGreatDoor
namespace Go.Proofs.YtmdmipojbeppiaaGreatDoor
open Go.RowKit
set_option linter.unusedVariables false
set_option maxRecDepth 4000

theorem Tab.belowB {w w' : World} {B : Nat} (h : Tab w) (hb : Below B w w') (hB : 0 < B) : Tab w' := fun i hi => (hb.cell (p := ⟨0, i, none⟩) hB).trans (h i hi)
theorem idx_step (f : Int) (rs : List (List Nat)) (k : Nat) (h : ∀ j, j < k → firstI (rs.getD j []) ≤ f) (h0 : firstI (rs.getD k []) ≤ f) : ∀ j, j < k + 1 → firstI (rs.getD j []) ≤ f := by
  intro j hj
  by_cases e : j = k
  · rw [e]; exact h0
  · exact h j (by omega)
/-- What IndexFunc tells. -/
def idxI (f : Int) (rs : List (List Nat)) : Int := if idxL f rs < rs.length then (idxL f rs : Int) else -1
theorem idxI_at {f : Int} {rs : List (List Nat)} {k : Nat} (hk : k < rs.length) (h : ∀ j, j < k → firstI (rs.getD j []) ≤ f) (h2 : f < firstI (rs.getD k [])) : (k : Int) = idxI f rs := by
  unfold idxI
  rw [idxL_of f rs k (by omega) (fun j hj => by have := h j hj; omega) (fun _ => h2), if_pos hk]
theorem idxI_none {f : Int} {rs : List (List Nat)} {k : Nat} (hk : rs.length ≤ k) (h : ∀ j, j < k → firstI (rs.getD j []) ≤ f) : (-1 : Int) = idxI f rs := by
  unfold idxI
  rw [if_neg]
  intro h1
  have := idxL_at f rs h1
  have := h _ (Nat.lt_of_lt_of_le h1 hk)
  omega
theorem OwnV.cell {w : World} {B g n cap : Nat} {vs : List Value} {rs : List (List Nat)} (h : OwnV w B (.slice (some ⟨g, 0, none⟩) n cap) vs rs) {k : Nat} {u : Value} (hu : vs[k]? = some u) :
    w.cell? ⟨g, k, none⟩ = some u ∧ w.frozen? ⟨g, k, none⟩ = false := by
  rcases h.top.2 with ⟨h0, _⟩ | ⟨g', cap', cur, h0, hb, hg, hnc, hcm, hcs, ht⟩
  · cases h0
  · simp only [Value.slice.injEq, Option.some.injEq, Addr.mk.injEq, and_true] at h0
    obtain ⟨rfl, _, rfl⟩ := h0
    have hk : k < vs.length := (List.getElem?_eq_some_iff.1 hu).1
    have hl := h.len
    refine ⟨?_, by simp [World.frozen?, hg]⟩
    rw [cell_of_row w g k _ _ _ hg, ← Array.getElem?_toList, ← hu, ← ht, List.getElem?_take_of_lt (by omega)]
theorem OwnV.some {w : World} {B n c : Nat} {a : Option Addr} {vs : List Value} {rs : List (List Nat)} (h : OwnV w B (.slice a n c) vs rs) (h0 : 0 < rs.length) : ∃ g, a = Option.some ⟨g, 0, none⟩ := by
  rcases h.top.2 with ⟨_, h1⟩ | ⟨g', cap', cur, h1, _⟩
  · omega
  · simp only [Value.slice.injEq] at h1
    exact ⟨g', h1.1⟩
theorem OwnV.one {w : World} {B : Nat} {v : Value} {vs : List Value} {rs : List (List Nat)} (h : OwnV w B v vs rs) : ∀ u ∈ vs, u.oneCell' = true := by
  intro u hu
  obtain ⟨i, hi, rfl⟩ := List.getElem_of_mem hu
  obtain ⟨a, c, e, _⟩ := (h.rows i _ (List.getElem?_eq_getElem hi)).row
  rw [e]; rfl
theorem Own.keeps {w w' : World} {B : Nat} {v : Value} {xs : List Nat} {l0 l : List Value} (h : Own w B v xs) (k : Keeps w w' l0 l) (ho : ∀ b, v.ownBlock = some b → Off l0 b) : Own w' B v xs := by
  refine ⟨h.1, h.2.1, ?_⟩
  rcases h.2.2 with h0 | ⟨g, cap, cur, h1, hg, hgg, r⟩
  · exact .inl h0
  · exact .inr ⟨g, cap, cur, h1, hg, (k.block g (Array.getElem?_eq_some_iff.1 hgg).1 (ho g (by rw [h1]; rfl))).1.trans hgg, r⟩
theorem ByAt.keeps {w w' : World} {lo p : Nat} {a : Option Addr} {n c : Nat} {l0 l : List Value} (h : ByAt w lo p a n c) (k : Keeps w w' l0 l) (hp : Off l0 p) : ByAt w' lo p a n c :=
  ⟨h.1, k.cell h.2 hp⟩

theorem OwnV.cell_turned {w w' : World} {B g n cap : Nat} {vs : List Value} {rs : List (List Nat)} (h : OwnV w B (.slice (Option.some ⟨g, 0, none⟩) n cap) vs rs) {k : Nat} {u v : Value} (hu : vs[k]? = Option.some u) (ht : Turned w w' u v) :
    w'.cell? ⟨g, k, none⟩ = Option.some u ∧ w'.frozen? ⟨g, k, none⟩ = false := by
  obtain ⟨h1, h2⟩ := h.cell hu
  have hg : Option.some g ≠ u.ownBlock := by
    intro e
    rcases h.dis hu with hd | hd
    · rw [hd] at e; cases e
    · exact hd e.symm
  exact ⟨ht.1.cell h1 hg, (World.frozen?_of_block (ht.1.block g (World.block_lt_of_cell? w _ h1) hg)).trans h2⟩

/-- The rows so far. -/
def stepped (r : List Nat) (rs : List (List Nat)) (k : Nat) : List (List Nat) := (rs.map fun b => stepL b r).take k ++ rs.drop k
theorem stepped_zero (r : List Nat) (rs : List (List Nat)) : stepped r rs 0 = rs := by simp [stepped]
theorem stepped_all (r : List Nat) (rs : List (List Nat)) : stepped r rs rs.length = rs.map fun b => stepL b r := by
  unfold stepped
  rw [List.drop_length, List.append_nil, List.take_of_length_le (by simp)]
theorem stepped_length (r : List Nat) (rs : List (List Nat)) (k : Nat) (hk : k ≤ rs.length) : (stepped r rs k).length = rs.length := by simp [stepped]; omega
theorem stepped_at (r : List Nat) (rs : List (List Nat)) (k : Nat) (hk : k < rs.length) : (stepped r rs k).getD k [] = rs.getD k [] := by
  unfold stepped
  rw [List.getD_eq_getElem?_getD, List.getElem?_append_right (by simp; omega), List.length_take, List.length_map, Nat.min_eq_left (by omega), Nat.sub_self, List.getElem?_drop, Nat.add_zero, ← List.getD_eq_getElem?_getD]
theorem stepped_succ (r : List Nat) (rs : List (List Nat)) (k : Nat) (hk : k < rs.length) : (stepped r rs k).set k (stepL (rs.getD k []) r) = stepped r rs (k + 1) := by
  unfold stepped
  have hl : ((rs.map fun b => stepL b r).take k).length = k := by simp; omega
  rw [List.set_append_right _ _ (by omega), hl, Nat.sub_self, List.drop_eq_getElem_cons hk, List.set_cons_zero, List.take_succ_eq_append_getElem (by simpa using hk), List.append_assoc]
  simp [List.getD_eq_getElem?_getD, List.getElem?_eq_getElem hk]

end Go.Proofs.YtmdmipojbeppiaaGreatDoor
namespace Go.Proofs.YtmdmipojbeppiaaGreatDoor
open Go.RowKit
set_option linter.unusedVariables false
set_option maxRecDepth 4000

/-- The rows that were copied so far. -/
def filled (rs : List (List Nat)) (k : Nat) : List (List Nat) := rs.take k ++ List.replicate (rs.length - k) []
theorem filled_zero (rs : List (List Nat)) : filled rs 0 = List.replicate rs.length [] := by simp [filled]
theorem filled_all (rs : List (List Nat)) : filled rs rs.length = rs := by simp [filled]
theorem filled_length (rs : List (List Nat)) (k : Nat) (hk : k ≤ rs.length) : (filled rs k).length = rs.length := by simp [filled]; omega
theorem filled_succ (rs : List (List Nat)) (k : Nat) (hk : k < rs.length) : (filled rs k).set k (rs.getD k []) = filled rs (k + 1) := by
  unfold filled
  have hl : (rs.take k).length = k := by simp; omega
  rw [List.set_append_right _ _ (by omega), hl, Nat.sub_self, List.take_succ_eq_append_getElem hk, List.append_assoc, show rs.length - k = (rs.length - (k + 1)) + 1 by omega, List.replicate_succ, List.set_cons_zero]
  simp [List.getD_eq_getElem?_getD, List.getElem?_eq_getElem hk]
theorem made_own (w : World) (n : Nat) (hn : n ≤ 1048576) (rs : List (List Nat)) (hrs : rs = List.replicate n []) :
    OwnV (w.alloc (.cells (madeCells #[.slice none 0 0] n) 25)) w.heap.size (.slice (some ⟨w.heap.size, 0, none⟩) n n) (List.replicate n (.slice none 0 0)) rs := by
  subst hrs
  refine ⟨⟨by simp, .inr ⟨w.heap.size, n, madeCells #[.slice none 0 0] n, by simp, Nat.le_refl _, heap_alloc_new w _, by simp, by unfold maxLen; omega, by simp [size_madeCells], ?_⟩⟩, fun i u hu => ?_, ?_⟩
  · rw [toList_madeCells_one, List.take_of_length_le (by simp)]
  · rw [List.getElem?_replicate] at hu
    split at hu
    · rename_i hi
      obtain rfl := Option.some.inj hu
      rw [List.getD_eq_getElem?_getD, List.getElem?_replicate, if_pos hi]
      exact Own.nil _ _
    · cases hu
  · refine List.pairwise_replicate.2 (.inr (.inl rfl))
set_option maxHeartbeats 2000000 in
theorem rreduce_any (a : Option Addr) (n c : Nat) (rs : List (List Nat)) (a' : Option Addr) (m c' : Nat) (xs : List Nat) (w : World) (h : VecsAt w a n rs) (hf : Fit 1048576 rs) (h' : RowAt w a' m xs) (hn : n ≤ 1048576) (hm : m ≤ 1048576) :
    Calls Tryz.prog 44 #[.slice a n c, .slice a' m c'] w fun e w' => ∃ v, e = .returned v ∧ Own w' w.heap.size v (reduceL rs xs) ∧ Below w.heap.size w w' := by
  obtain rfl : m = xs.length := h'.1.symm
  have hxs := h'.2.1
  go_enter Tryz.func44, Tryz.ntmps44
  go_wp2_with (first | (at_builtin; refine wpList_append_nil rfl _ _ rfl a' xs.length c' xs rfl rfl h' hm ?_; intro v w1 ho hb; obtain ⟨a1, c1, rfl, _⟩ := ho.row))
  go_loopw [5, 6] (fun r i wr => ∃ k : Nat, k ≤ n ∧ i = .int .i64 k ∧ ∃ a1 c1, r = .slice a1 (reduceL (rs.take k) xs).length c1 ∧ Hid (Own wr w.heap.size (.slice a1 (reduceL (rs.take k) xs).length c1) (reduceL (rs.take k) xs)) ∧ Hid (Below w.heap.size w wr)) (fun _ i _ => n - (intOf i).toNat)
  case atStart => exact ⟨0, Nat.zero_le _, rfl, a1, c1, rfl, hide ho, hide hb⟩
  case round =>
    obtain ⟨k, hk, rfl, a2, c2, rfl, HO, HB⟩ := hrel
    clear ho hb
    by_cases hlt : k < n
    · have hB := unhide HB
      obtain ⟨b, off, rfl, hc⟩ := (h.below hB).at hlt
      obtain ⟨ai, ci, hcell, hrow⟩ := hc k hlt
      have hlk := (hf.getD k).2
      have hrs := reduce_small (hf.take k) hxs hm
      have HE := hide (reduce_take (v := xs) (show k < rs.length by rw [h.1]; exact hlt))
      have hfl := firstI_le hrow.2.1
      have HF := hide (rfirst_any ai (rs.getD k []).length ci (rs.getD k []) wr hrow hlk)
      obtain ⟨_, _, e2, hr2⟩ := (unhide HO).row
      simp only [Value.slice.injEq, true_and] at e2
      obtain ⟨rfl, rfl⟩ := e2
      have hG := rget_any a2 _ c2 (reduceL (rs.take k) xs) (firstI (rs.getD k [])) wr hr2 hrs.2 (by omega)
      have HX := hide (rxor_any a2 _ c2 (reduceL (rs.take k) xs) ai _ ci (rs.getD k []) wr hr2 hrow hrs.2 hlk)
      have HS : Hid (stepL (reduceL (rs.take k) xs) (rs.getD k []) = if getI (reduceL (rs.take k) xs) (firstI (rs.getD k [])) = true then xorL (reduceL (rs.take k) xs) (rs.getD k []) else reduceL (rs.take k) xs) := rfl
      have HNEG := hide (getI_neg (reduceL (rs.take k) xs) (firstI (rs.getD k [])))
      clear hc hrow hr2 h h'
      generalize rs.getD k [] = y at *
      generalize reduceL (rs.take k) xs = r at *
      by_cases hpos : 0 ≤ firstI y
      · have hdp : decide (0 ≤ firstI y) = true := by simpa using hpos
        by_cases hget : getI r (firstI y) = true
        · have hst := unhide HS
          rw [if_pos hget] at hst
          rw [hget] at hG
          have HG := hide hG
          clear hG hget HS HNEG
          generalize firstI y = f at *
          go_wp2_with fail
          refine (unhide HF).mono ?_
          rintro e w' ⟨rfl, hw⟩
          obtain rfl := hw.symm
          go_wp2_with fail
          refine (unhide HG).mono ?_
          rintro e w' ⟨rfl, hw⟩
          obtain rfl := hw.symm
          go_wp2_with fail
          refine (unhide HX).mono ?_
          rintro e w3 ⟨v, rfl, ho3, hb3⟩
          obtain ⟨a3, c3, rfl, _⟩ := ho3.row
          rw [← hst, ← unhide HE]
          rw [← hst, ← unhide HE] at ho3
          have HO3 := hide (ho3.mono hB.size)
          have HB3 := hide (below0 hB hb3)
          clear ho3 hb3 HX HG HF hst HO HB hB
          go_wp2
          go_roundw
          case rel => exact ⟨k + 1, by omega, by go_num, a3, c3, rfl, HO3, HB3⟩
          case measure => simp [intOf]; omega
        · have hst := unhide HS
          rw [if_neg hget] at hst
          rw [show getI r (firstI y) = false by simpa using hget] at hG
          have HG := hide hG
          clear hG hget HS HNEG HX
          generalize firstI y = f at *
          go_wp2_with fail
          refine (unhide HF).mono ?_
          rintro e w' ⟨rfl, hw⟩
          obtain rfl := hw.symm
          go_wp2_with fail
          refine (unhide HG).mono ?_
          rintro e w' ⟨rfl, hw⟩
          obtain rfl := hw.symm
          rw [← hst, ← unhide HE]
          rw [← hst, ← unhide HE] at HO
          clear HG HF hst hB
          go_wp2
          go_roundw
          case rel => exact ⟨k + 1, by omega, by go_num, a2, c2, rfl, HO, HB⟩
          case measure => simp [intOf]; omega
      · have hdp : decide (0 ≤ firstI y) = false := by simpa using hpos
        have hst := unhide HS
        rw [unhide HNEG (by omega), if_neg (by decide)] at hst
        clear hG HS HNEG HX hpos
        generalize firstI y = f at *
        go_wp2_with fail
        refine (unhide HF).mono ?_
        rintro e w' ⟨rfl, hw⟩
        obtain rfl := hw.symm
        rw [← hst, ← unhide HE]
        rw [← hst, ← unhide HE] at HO
        clear HF hst hB
        go_wp2
        go_roundw
        case rel => exact ⟨k + 1, by omega, by go_num, a2, c2, rfl, HO, HB⟩
        case measure => simp [intOf]; omega
    · have hke : reduceL (rs.take k) xs = reduceL rs xs := reduce_all (by rw [h.1]; omega)
      rw [hke] at HO
      rw [hke]
      clear h hke h'
      go_wp2
      go_ret
      exact ⟨_, rfl, unhide HO, unhide HB⟩
end Go.Proofs.YtmdmipojbeppiaaGreatDoor
namespace Go.Proofs.YtmdmipojbeppiaaGreatDoor
open Go.RowKit Go.Sort
set_option linter.unusedVariables false
set_option maxRecDepth 4000



/-- Rows that are not too many and not too wide. -/
def FewP (rs : List (List Nat)) : Prop := rs.length ≤ 150 ∧ ∀ i, i < rs.length → (rs.getD i []).length ≤ 4
theorem few_step (rs : List (List Nat)) (k : Nat) (h : ∀ j, j < k → (rs.getD j []).length ≤ 4) (h0 : (rs.getD k []).length ≤ 4) : ∀ j, j < k + 1 → (rs.getD j []).length ≤ 4 := by
  intro j hj
  by_cases e : j = k
  · rw [e]; exact h0
  · exact h j (by omega)
theorem FewP.fit {w : World} {a : Option Addr} {n : Nat} {rs : List (List Nat)} (h : FewP rs) (hv : VecsAt w a n rs) : Fit 1048576 rs := hv.fit fun i hi => by have := h.2 i (by rw [hv.1]; exact hi); omega

theorem OwnV.push {w w' : World} {B : Nat} {v s rv : Value} {vs : List Value} {rs : List (List Nat)} {r : List Nat} (h : OwnV w B v vs rs) (hr : Own w B rv r) (hd : ∀ u ∈ vs, Dis u rv)
    (htop : w'.ownsRow B 25 1 s (rs.length + 1) (vs ++ [rv])) (hg : w.grownBy w' v.ownBlock) : OwnV w' B s (vs ++ [rv]) (rs ++ [r]) := by
  have hl := h.len
  have e1 : vs.take rs.length ++ rv :: vs.drop rs.length = vs ++ [rv] := by rw [List.take_of_length_le (by omega), List.drop_of_length_le (by omega)]
  have e2 : insAt r rs.length rs = rs ++ [r] := by unfold insAt; simp
  have := h.insert (p := rs.length) hr hd (Nat.le_refl _) (by rw [e1]; exact htop) hg
  rwa [e1, e2] at this
/-- append(out, row), out and the row the call's own. -/
theorem wpList_push {w : World} {ops : Array Oper} {rest : List Oper} {o : Oper} {act : Act} {Q : Exit → Act → World → Prop} (hgd : o.guard = none) (s x : Operand)
    (ho : o.op = .call { callee := .builtin .append, args := #[s, x], argTypes := #[56, 56] }) (B : Nat) (v : Value) (vs : List Value) (rs : List (List Nat)) (bv : Value) (r : List Nat)
    (hs : act.eval s = v) (hx : act.eval x = .slice (some ⟨w.heap.size, 0, none⟩) 1 1) (h : OwnV w B v vs rs) (hB : B ≤ w.heap.size) (hr : Own w B bv r) (hd : ∀ u ∈ vs, Dis u bv) (hn : rs.length ≤ 1048576)
    (hK : ∀ s' w', OwnV w' B s' (vs ++ [bv]) (rs ++ [r]) → w.grownBy w' v.ownBlock → wpList Tryz.prog ops Q rest (act.put o.dst s') w') : wpList Tryz.prog ops Q (o :: rest) act (w.alloc (.cells #[bv] 25)) := by
  obtain ⟨i0, hi, hz0, hz1, hz2⟩ := info_parts info_u64s
  have hb : Below w.heap.size w (w.alloc (.cells #[bv] 25)) := (Below.refl _ _).alloc (Nat.le_refl _) _
  have h1 := h.below hb
  have hone : bv.oneCell' = true := by
    obtain ⟨a, c, e, _⟩ := hr.row
    rw [e]; rfl
  refine wpList_append_own _ hgd s x 56 ho B 25 i0 (.slice none 0 0) 1 24 Tryz.underlying56 hi hz0 hz1 hz2 rfl (by decide) v rs.length vs hs h1.top ⟨w.heap.size, 0, none⟩ 1 1 [bv] hx rfl (fun j u hj => ?_)
    (fun u hu => by rw [List.mem_singleton.1 hu]; exact hone) (by unfold maxLen; omega) (by omega) (Nat.le_trans hB hb.size) ?_
  · match j with
    | 0 =>
      have hc : (w.alloc (.cells #[bv] 25)).cell? ⟨w.heap.size, 0, none⟩ = some bv := by rw [World.cell?_alloc_at _ _ _ _ rfl]; rfl
      simpa [Addr.add, hc] using hj
    | j + 1 => simp at hj
  · intro v' w' hown hgrow _
    exact hK v' w' (h1.push (hr.below hb) hd hown hgrow) (gb_trans (gb_of_below hb _) hgrow (.inl rfl))
/-- What lies in memory of before and what lies in memory of behind. -/
theorem dis_range {w w' : World} {B : Nat} {u v : Value} {xs ys : List Nat} (h : Own w B u xs) (k : Own w' w.heap.size v ys) : Dis u v := by
  by_cases hu : u.ownBlock = none
  · exact .inl hu
  · right
    intro e
    obtain ⟨b, hb⟩ := Option.ne_none_iff_exists'.1 hu
    have h1 := (h.lt hb).2
    have h2 := (k.lt (by rw [← e]; exact hb)).1
    omega
theorem OwnV.dis_new {w w' : World} {B : Nat} {v bv : Value} {vs : List Value} {rs : List (List Nat)} {ys : List Nat} (h : OwnV w B v vs rs) (k : Own w' w.heap.size bv ys) : ∀ u ∈ vs, Dis u bv := by
  intro u hu
  obtain ⟨i, hi, rfl⟩ := List.getElem_of_mem hu
  exact dis_range (h.rows i _ (List.getElem?_eq_getElem hi)) k
theorem take_snoc (rs : List (List Nat)) (k : Nat) (hk : k < rs.length) : rs.take k ++ [rs.getD k []] = rs.take (k + 1) := by
  rw [List.take_succ_eq_append_getElem hk]
  simp [List.getD_eq_getElem?_getD, List.getElem?_eq_getElem hk]
theorem OwnV.shape {w : World} {B : Nat} {v : Value} {vs : List Value} {rs : List (List Nat)} (h : OwnV w B v vs rs) : ∃ a c, v = .slice a rs.length c := by
  obtain ⟨a, c, e, _⟩ := h.vecs
  exact ⟨a, c, e⟩

set_option maxHeartbeats 2000000 in
theorem radd_no (a : Option Addr) (n c : Nat) (rs : List (List Nat)) (a' : Option Addr) (m c' : Nat) (xs : List Nat) (w : World) (h : VecsAt w a n rs) (hf : Fit 1048576 rs) (h' : RowAt w a' m xs) (hn : n ≤ 100000) (hm : m ≤ 1048576) (hneg : firstI (reduceL rs xs) < 0) :
    Calls Tryz.prog 45 #[.slice a n c, .slice a' m c'] w fun e w' => ∃ v vs, e = .returned (.tuple #[v, .bool false]) ∧ OwnV w' w.heap.size v vs rs ∧ Below w.heap.size w w' := by
  have HR := hide (rreduce_any a n c rs a' m c' xs w h hf h' (by omega) hm)
  obtain ⟨hrs, hrl⟩ := reduce_small hf h'.2.1 (by rw [h'.1]; exact hm)
  have hfl := firstI_le hrs
  generalize reduceL rs xs = r at *
  have HF := hide (fun (w1 : World) (ar : Option Addr) (cr : Nat) (hr : RowAt w1 ar r.length r) => rfirst_any ar r.length cr r w1 hr hrl)
  have hdn : decide (0 ≤ firstI r) = false := by simp; omega
  clear h'
  generalize firstI r = f at *
  go_enter Tryz.func45, Tryz.ntmps45
  go_wp2_with fail
  refine (unhide HR).mono ?_
  rintro e w1 ⟨v, rfl, ho, hb⟩
  obtain ⟨ar, cr, rfl, hr⟩ := ho.row
  have HF1 := hide (unhide HF w1 ar cr hr)
  have HB := hide hb
  clear HF hr ho HR hb
  go_wp2_with fail
  refine (unhide HF1).mono ?_
  rintro e w2 ⟨rfl, hw⟩
  obtain rfl := hw.symm
  clear HF1
  go_wp2
  go_loopw [8, 9, 10] (fun o pl i wr => ∃ k : Nat, k ≤ n ∧ i = .int .i64 k ∧ pl = .bool true ∧ ∃ a1 c1 vs, o = .slice a1 k c1 ∧ Hid (OwnV wr w.heap.size (.slice a1 k c1) vs (rs.take k)) ∧ Hid (Below w.heap.size w wr)) (fun _ _ i _ => n - (intOf i).toNat)
  case atStart => exact ⟨0, Nat.zero_le _, rfl, by simp, none, 0, [], rfl, hide (OwnV.nil _ _), HB⟩
  case round =>
    obtain ⟨k, hk, rfl, rfl, a1, c1, vs, rfl, HV, HB2⟩ := hrel
    by_cases hlt : k < n
    · have hB := unhide HB2
      obtain ⟨b, off, rfl, hc⟩ := (h.below hB).at hlt
      obtain ⟨ai, ci, hcell, hrow⟩ := hc k hlt
      have hlk := (hf.getD k).2
      have HE := hide (take_snoc rs k (by rw [h.1]; exact hlt))
      have HL := hide (show (rs.take k).length = k by rw [List.length_take, h.1]; omega)
      have HL1 := hide (show (rs.take (k + 1)).length = k + 1 by rw [List.length_take, h.1]; omega)
      have HROW := hide hrow
      clear hc hrow h HB
      generalize rs.getD k [] = y at *
      go_wp2_with (first
        | (at_builtin; refine wpList_append_nil rfl _ _ rfl ai y.length ci y rfl rfl (unhide HROW) hlk ?_; intro bv w3 hob hb3; have hV3 := (unhide HV).below hb3; have hbv := hob.mono hB.size; have hd3 := (unhide HV).dis_new hob; have hB3 := below0 hB hb3; obtain ⟨ab, cb, rfl, hrb⟩ := hob.row; clear hob hb3)
        | (at_builtin; refine wpList_push rfl _ _ rfl w.heap.size (.slice a1 k c1) vs (rs.take k) (.slice ab y.length cb) y rfl rfl hV3 hB3.size hbv hd3 (by rw [unhide HL]; omega) ?_; intro s4 w4 hV4 hg4; have hB4 := hB3.trans (gb_below hg4 hB3.size (fun k hk => (hV3.top.lt k hk).1)); rw [unhide HE] at hV4; obtain ⟨a4, c4, rfl⟩ := hV4.shape; rw [unhide HL1] at hV4; rw [unhide HL1]; have HV4 := hide hV4; have HB4 := hide hB4; clear hV4 hg4 hB4 hV3 hbv hd3 hB3))
      go_roundw
      case rel => exact ⟨k + 1, by omega, by go_num, rfl, a4, c4, _, rfl, HV4, HB4⟩
      case measure => simp [intOf]; omega
    · have hke : rs.take k = rs := List.take_of_length_le (by rw [h.1]; omega)
      rw [hke] at HV
      clear h hke HB
      go_wp2
      go_ret2
      exact ⟨_, _, rfl, unhide HV, unhide HB2⟩
end Go.Proofs.YtmdmipojbeppiaaGreatDoor
namespace Go.Proofs.YtmdmipojbeppiaaGreatDoor
open Go.RowKit Go.Sort
set_option linter.unusedVariables false
set_option maxRecDepth 4000

/-- What the reference has put out behind k rows. -/
def outL (r : List Nat) (C : List (List Nat)) (p k : Nat) : List (List Nat) := if p < k then insAt r p (C.take k) else C.take k
theorem outL_zero (r : List Nat) (C : List (List Nat)) (p : Nat) : outL r C p 0 = [] := by simp [outL]
theorem outL_len (r : List Nat) (C : List (List Nat)) (p k : Nat) : (outL r C p k).length ≤ k + 1 := by
  have h1 : (C.take k).length ≤ k := List.length_take_le _ _
  unfold outL
  split
  · unfold insAt
    simp only [List.length_append, List.length_cons, List.length_take, List.length_drop]
    omega
  · omega
theorem outL_behind (r : List Nat) (C : List (List Nat)) (p k : Nat) (hk : k < C.length) (hp : p < k) : outL r C p k ++ [C.getD k []] = outL r C p (k + 1) := by
  unfold outL
  rw [if_pos hp, if_pos (by omega), ← take_snoc C k hk]
  unfold insAt
  have hl : (C.take k).length = k := by rw [List.length_take]; omega
  rw [List.take_append_of_le_length (by omega), List.drop_append_of_le_length (by omega)]
  simp
theorem outL_ahead (r : List Nat) (C : List (List Nat)) (p k : Nat) (hk : k < C.length) (hp : k < p) : outL r C p k ++ [C.getD k []] = outL r C p (k + 1) := by
  unfold outL
  rw [if_neg (by omega), if_neg (by omega), take_snoc C k hk]
theorem outL_at (r : List Nat) (C : List (List Nat)) (k : Nat) (hk : k < C.length) : (outL r C k k ++ [r]) ++ [C.getD k []] = outL r C k (k + 1) := by
  unfold outL
  rw [if_neg (by omega), if_pos (by omega), ← take_snoc C k hk]
  unfold insAt
  have hl : (C.take k).length = k := by rw [List.length_take]; omega
  have e1 : (C.take k).take k = C.take k := List.take_of_length_le (by omega)
  have e2 : (C.take k).drop k = [] := List.drop_of_length_le (by omega)
  rw [List.take_append_of_le_length (by omega), List.drop_append_of_le_length (by omega), e1, e2]
  simp
theorem outL_all (r : List Nat) (C : List (List Nat)) (p : Nat) (hp : p < C.length) : outL r C p C.length = insAt r p C := by
  unfold outL
  rw [if_pos hp, List.take_length]
theorem outL_last (r : List Nat) (C : List (List Nat)) : outL r C C.length C.length ++ [r] = insAt r C.length C := by
  unfold outL insAt
  rw [if_neg (by omega), List.take_length]
  simp
def St (w : World) (B1 : Nat) (rv : Value) (r : List Nat) (C : List (List Nat)) (p k : Nat) (bp : Bool) (wr : World) (v : Value) (vs : List Value) (L : List (List Nat)) : Prop :=
  bp = decide (p < k) ∧ L = outL r C p k ∧ OwnV wr (if p < k then w.heap.size else B1) v vs L ∧ Own wr w.heap.size rv r ∧ Below w.heap.size w wr ∧ B1 ≤ wr.heap.size ∧ w.heap.size ≤ B1 ∧ ∀ b, rv.ownBlock = some b → b < B1
theorem dis_low {w : World} {B1 B : Nat} {v rv : Value} {vs : List Value} {rs : List (List Nat)} {r : List Nat} (h : OwnV w B1 v vs rs) (k : Own w B rv r) (hb : ∀ b, rv.ownBlock = some b → b < B1) : ∀ u ∈ vs, Dis u rv := by
  intro u hu
  obtain ⟨i, hi, rfl⟩ := List.getElem_of_mem hu
  by_cases hn : rv.ownBlock = none
  · exact Dis.symm (.inl hn)
  · right
    intro e
    obtain ⟨b, hbb⟩ := Option.ne_none_iff_exists'.1 hn
    have h1 := hb b hbb
    have h2 := ((h.rows i _ (List.getElem?_eq_getElem hi)).lt (by rw [e]; exact hbb)).1
    omega

set_option maxHeartbeats 8000000 in
theorem radd_yes (a : Option Addr) (n c : Nat) (rs : List (List Nat)) (a' : Option Addr) (m c' : Nat) (xs : List Nat) (w : World) (h : VecsAt w a n rs) (hf : Fit 1048576 rs) (h' : RowAt w a' m xs) (hn : n ≤ 100000) (hm : m ≤ 1048576) (hpos : 0 ≤ firstI (reduceL rs xs)) :
    Calls Tryz.prog 45 #[.slice a n c, .slice a' m c'] w fun e w' => ∃ v vs, e = .returned (.tuple #[v, .bool true]) ∧ OwnV w' w.heap.size v vs (raddL rs xs) ∧ Below w.heap.size w w' := by
  obtain rfl : n = rs.length := h.1.symm
  have HR := hide (rreduce_any a _ c rs a' m c' xs w h hf h' (by omega) hm)
  obtain ⟨hrs, hrl⟩ := reduce_small hf h'.2.1 (by rw [h'.1]; exact hm)
  have hfl := firstI_le hrs
  have HI : raddL rs xs = insAt (reduceL rs xs) (idxL (firstI (reduceL rs xs)) rs) (rs.map fun b => stepL b (reduceL rs xs)) := by
    unfold raddL
    rw [if_neg (by omega)]
  rw [HI]
  clear HI h'
  generalize reduceL rs xs = r at *
  have HF := hide (fun (w1 : World) (ar : Option Addr) (cr : Nat) (hr : RowAt w1 ar r.length r) => rfirst_any ar r.length cr r w1 hr hrl)
  have hdn : decide (0 ≤ firstI r) = true := by simp; omega
  have hdn2 : decide (firstI r < 0) = false := by simp; omega
  have HST : Hid (∀ y, stepL y r = if getI y (firstI r) = true then xorL y r else y) := fun _ => rfl
  have hcl : (rs.map fun b => stepL b r).length = rs.length := by simp
  have HCG : Hid (∀ k, k < rs.length → (rs.map fun b => stepL b r).getD k [] = stepL (rs.getD k []) r) := fun k hk => by simp [List.getD_eq_getElem?_getD, List.getElem?_eq_getElem hk]
  have hple := idxL_le (firstI r) rs
  have HLOW := hide (idxL_low (firstI r) rs)
  have HAT := hide (idxL_at (firstI r) rs)
  have hfm : firstI r ≤ 9223372036854775807 := by omega
  generalize idxL (firstI r) rs = p at *
  generalize hCe : (rs.map fun b => stepL b r) = C at *
  have HCL := hide hcl
  clear hCe hcl
  generalize firstI r = f at *
  go_enter Tryz.func45, Tryz.ntmps45
  go_wp2_with fail
  refine (unhide HR).mono ?_
  rintro e w1 ⟨v, rfl, ho, hb⟩
  obtain ⟨ar, cr, rfl, hr⟩ := ho.row
  have HF1 := hide (unhide HF w1 ar cr hr)
  have H0 : Hid (St w w1.heap.size (.slice ar r.length cr) r C p 0 false w1 (.slice none 0 0) [] []) := hide ⟨by simp, (outL_zero r C p).symm, OwnV.nil _ _, ho, hb, Nat.le_refl _, hb.size, fun b hb => (ho.lt hb).2⟩
  generalize w1.heap.size = B1 at *
  clear HF hr ho HR hb
  go_wp2_with fail
  refine (unhide HF1).mono ?_
  rintro e w2 ⟨rfl, hw⟩
  obtain rfl := hw.symm
  clear HF1
  go_wp2
  go_loopw [8, 9, 10] (fun o pl i wr => ∃ k : Nat, k ≤ rs.length ∧ i = .int .i64 k ∧ ∃ bp, pl = .bool bp ∧ ∃ a1 c1 vs L, o = .slice a1 (List.length L) c1 ∧ Hid (St w B1 (.slice ar r.length cr) r C p k bp wr (.slice a1 (List.length L) c1) vs L)) (fun _ _ i _ => rs.length - (intOf i).toNat)
  case atStart => exact ⟨0, Nat.zero_le _, rfl, false, by simp, none, 0, [], [], rfl, H0⟩
  case round =>
    obtain ⟨k, hk, rfl, bp, rfl, a1, c1, vs, L, rfl, HS⟩ := hrel
    obtain ⟨hbp, hL, hV, hR, hB, hB1, hB1', hlow⟩ := unhide HS
    have hLl := outL_len r C p k
    rw [← hL] at hLl
    have HL := hide hL
    clear H0 HS hL
    have hrR : RowAt wr ar r.length r := by
      obtain ⟨_, _, e2, hr2⟩ := hR.row
      simp only [Value.slice.injEq, true_and] at e2
      rw [e2.1]; exact hr2
    by_cases hlt : k < rs.length
    · obtain ⟨b, off, rfl, hc⟩ := (h.below hB).at hlt
      obtain ⟨ai, ci, hcell, hrow⟩ := hc k hlt
      have hlk := (hf.getD k).2
      have HROW := hide hrow
      have HSY := hide (unhide HST (rs.getD k []))
      have HCK := hide (unhide HCG k hlt)
      have HLOWK := hide (unhide HLOW k)
      have HATK : Hid (k = p → f < firstI (rs.getD k [])) := hide (fun e => by subst e; exact unhide HAT hlt)
      clear hc hrow h HST HCG HLOW HAT
      generalize rs.getD k [] = y at *
      have HDV := hide (fun (w' : World) (bv : Value) (ys : List Nat) (ho : Own w' wr.heap.size bv ys) => hV.dis_new ho)
      have HDR := hide (fun (w' : World) (bv : Value) (ys : List Nat) (ho : Own w' wr.heap.size bv ys) => dis_range hR ho)
      by_cases hpk : p < k
      · rw [if_pos hpk] at hV
        obtain rfl : bp = true := by rw [hbp]; simpa using hpk
        have HLN := hide (outL_behind r C p k (by rw [unhide HCL]; exact hlt) hpk)
        rw [unhide HCK, ← unhide HL] at HLN
        clear hbp
        by_cases hget : getI y f = true
        · have hst := unhide HSY
          rw [if_pos hget] at hst
          have HSTE := hide hst
          clear hst
          go_wp2_with (first | (at_builtin; refine wpList_append_nil rfl _ _ rfl ai y.length ci y rfl rfl (unhide HROW) hlk ?_; intro bv w3 hob hb3; obtain ⟨ab, cb, rfl, hrb⟩ := hob.row; have hrR3 := hrR.below hb3; have hV3 := hV.below hb3; have hR3 := hR.below hb3; have hB3 := below0 hB hb3; have hz3 := hb3.size; clear hb3))
          have hG := rget_any ab y.length cb y f w3 hrb hlk hfm
          rw [hget] at hG
          refine hG.mono ?_
          rintro e w' ⟨rfl, hw⟩
          obtain rfl := hw.symm
          clear hG
          go_wp2_with fail
          refine (rxor_any ab y.length cb y ar r.length cr r w3 hrb hrR3 hlk hrl).mono ?_
          rintro e w6 ⟨bv6, rfl, ho6, hb6⟩
          rw [← unhide HSTE] at ho6
          obtain ⟨a6, c6, rfl, _⟩ := ho6.row
          have hV6 := hV3.below hb6
          have hR6 := hR3.below hb6
          have hB6 := below0 hB3 hb6
          have hz6 := hb6.size
          have ho6 := ho6.mono hz3
          clear hb6
          clear hrb hrR3 hV3 hR3 hB3 hob
          have hwz : wr.heap.size ≤ w6.heap.size := Nat.le_trans hz3 hz6
          go_wp2_with (first | (at_builtin; refine wpList_push rfl _ _ rfl w.heap.size (.slice a1 L.length c1) vs L (.slice a6 (stepL y r).length c6) (stepL y r) rfl rfl hV6 hB6.size (ho6.mono hB.size) (unhide HDV _ _ _ ho6) (by omega) ?_; intro s7 w7 hV7 hg7))
          have hB7 := hB6.trans (gb_below hg7 hB6.size (fun k hk => (hV6.top.lt k hk).1))
          have hR7 := hR6.kept hg7 (dis_types hV6.top hR6)
          have hz7 : B1 ≤ w7.heap.size := Nat.le_trans hB1 (Nat.le_trans hwz hg7.size)
          obtain ⟨LN, hLN⟩ : ∃ LN, LN = L ++ [stepL y r] := ⟨_, rfl⟩
          rw [← hLN] at hV7
          obtain ⟨a7, c7, rfl⟩ := hV7.shape
          have hLN2 := hLN.trans (unhide HLN)
          have HN : Hid (St w B1 (.slice ar r.length cr) r C p (k + 1) true w7 (.slice a7 LN.length c7) _ LN) := hide ⟨by simp; omega, hLN2, by rw [if_pos (by omega)]; exact hV7, hR7, hB7, hz7, hB1', hlow⟩
          clear hV7 hR7 hB7 hLN hLN2 hg7 HSTE hget HLN HDV HDR HSY HCK HROW
          go_wp2
          go_roundw
          case rel => exact ⟨k + 1, by omega, by go_num, true, rfl, a7, c7, _, LN, rfl, HN⟩
          case measure => simp [intOf]; omega
        · have hst := unhide HSY
          rw [if_neg hget] at hst
          have hget : getI y f = false := by simpa using hget
          have HSTE := hide hst
          clear hst
          go_wp2_with (first | (at_builtin; refine wpList_append_nil rfl _ _ rfl ai y.length ci y rfl rfl (unhide HROW) hlk ?_; intro bv w3 hob hb3; obtain ⟨ab, cb, rfl, hrb⟩ := hob.row; have hrR3 := hrR.below hb3; have hV3 := hV.below hb3; have hR3 := hR.below hb3; have hB3 := below0 hB hb3; have hz3 := hb3.size; clear hb3))
          have hG := rget_any ab y.length cb y f w3 hrb hlk hfm
          rw [hget] at hG
          refine hG.mono ?_
          rintro e w' ⟨rfl, hw⟩
          obtain rfl := hw.symm
          clear hG
          have hwz : wr.heap.size ≤ w3.heap.size := hz3
          go_wp2_with (first | (at_builtin; refine wpList_push rfl _ _ rfl w.heap.size (.slice a1 L.length c1) vs L (.slice ab y.length cb) y rfl rfl hV3 hB3.size (hob.mono hB.size) (unhide HDV _ _ _ hob) (by omega) ?_; intro s7 w7 hV7 hg7))
          have hB7 := hB3.trans (gb_below hg7 hB3.size (fun k hk => (hV3.top.lt k hk).1))
          have hR7 := hR3.kept hg7 (dis_types hV3.top hR3)
          have hz7 : B1 ≤ w7.heap.size := Nat.le_trans hB1 (Nat.le_trans hwz hg7.size)
          obtain ⟨LN, hLN⟩ : ∃ LN, LN = L ++ [stepL y r] := ⟨_, rfl⟩
          have hLN0 := hLN
          rw [unhide HSTE] at hLN0
          rw [← hLN0] at hV7
          clear hLN0
          obtain ⟨a7, c7, rfl⟩ := hV7.shape
          have hLN2 := hLN.trans (unhide HLN)
          have HN : Hid (St w B1 (.slice ar r.length cr) r C p (k + 1) true w7 (.slice a7 LN.length c7) _ LN) := hide ⟨by simp; omega, hLN2, by rw [if_pos (by omega)]; exact hV7, hR7, hB7, hz7, hB1', hlow⟩
          clear hV7 hR7 hB7 hLN hLN2 hg7 HSTE hget HLN HDV HDR HSY HCK HROW
          go_wp2
          go_roundw
          case rel => exact ⟨k + 1, by omega, by go_num, true, rfl, a7, c7, _, LN, rfl, HN⟩
          case measure => simp [intOf]; omega
      · rw [if_neg hpk] at hV
        obtain rfl : bp = false := by rw [hbp]; simpa using hpk
        by_cases hkp : k = p
        · have hfy := unhide HATK hkp
          have HLN := hide (outL_at r C k (by rw [unhide HCL]; exact hlt))
          rw [unhide HCK] at HLN
          have HL2 := unhide HL
          rw [← hkp] at HL2
          rw [← HL2] at HLN
          have hdr := dis_low hV hR hlow
          have hVB := hV.mono hB1'
          have hdn3 : decide (f < firstI y) = true := by simpa using hfy
          clear hbp HL2 hV
          by_cases hget : getI y f = true
          · have hst := unhide HSY
            rw [if_pos hget] at hst
            have HSTE := hide hst
            clear hst
            have HKP := hide hkp
            clear hkp
            go_wp2_with (first | (at_builtin; refine wpList_append_nil rfl _ _ rfl ai y.length ci y rfl rfl (unhide HROW) hlk ?_; intro bv w3 hob hb3; obtain ⟨ab, cb, rfl, hrb⟩ := hob.row; have hrR3 := hrR.below hb3; have hV3 := hVB.below hb3; have hR3 := hR.below hb3; have hB3 := below0 hB hb3; have hz3 := hb3.size; clear hb3))
            refine (rfirst_any ab y.length cb y w3 hrb hlk).mono ?_
            rintro e w' ⟨rfl, hw⟩
            obtain rfl := hw.symm
            go_wp2_with (first | (at_builtin; refine wpList_push rfl _ _ rfl w.heap.size (.slice a1 L.length c1) vs L (.slice ar r.length cr) r rfl rfl hV3 hB3.size hR3 hdr (by omega) ?_; intro s4 w4 hV4 hg4; have hB4 := hB3.trans (gb_below hg4 hB3.size (fun k hk => (hV3.top.lt k hk).1)); have hob4 := hob.kept hg4 (dis_types hV3.top hob); have hR4 := hR3.kept hg4 (dis_types hV3.top hR3); obtain ⟨_, _, e4, hrb4⟩ := hob4.row; obtain ⟨_, _, e5, hrR4⟩ := hR4.row; simp only [Value.slice.injEq, true_and] at e4 e5; obtain ⟨rfl, rfl⟩ := e4; obtain ⟨rfl, rfl⟩ := e5; obtain ⟨LM, hLM⟩ : ∃ LM, LM = L ++ [r] := ⟨_, rfl⟩; rw [← hLM] at hV4; have HLM := hide hLM; obtain ⟨a4, c4, rfl⟩ := hV4.shape; have hz4 := Nat.le_trans hz3 hg4.size; clear hLM hg4))
            have hG := rget_any ab y.length cb y f w4 hrb4 hlk hfm
            rw [hget] at hG
            refine hG.mono ?_
            rintro e w' ⟨rfl, hw⟩
            obtain rfl := hw.symm
            clear hG
            go_wp2_with fail
            refine (rxor_any ab y.length cb y ar r.length cr r w4 hrb4 hrR4 hlk hrl).mono ?_
            rintro e w6 ⟨bv6, rfl, ho6, hb6⟩
            rw [← unhide HSTE] at ho6
            obtain ⟨a6, c6, rfl, _⟩ := ho6.row
            have hV6 := hV4.below hb6
            have hR6 := hR4.below hb6
            have hB6 := below0 hB4 hb6
            have hz6 := hb6.size
            have ho6 := ho6.mono hz4
            clear hb6
            clear hrb4 hrR4 hV4 hR4 hB4 hob4 hrb hrR3 hV3 hR3 hB3 hob
            have hwz : wr.heap.size ≤ w6.heap.size := Nat.le_trans hz4 hz6
            go_wp2_with (first | (at_builtin; refine wpList_push rfl _ _ rfl w.heap.size (.slice a4 LM.length c4) (vs ++ [.slice ar r.length cr]) LM (.slice a6 (stepL y r).length c6) (stepL y r) rfl rfl hV6 hB6.size (ho6.mono hB.size) ((fun u hu => by rcases List.mem_append.1 hu with hu | hu; exact unhide HDV _ _ _ ho6 u hu; rw [List.mem_singleton.1 hu]; exact unhide HDR _ _ _ ho6)) (by rw [unhide HLM, List.length_append, List.length_singleton]; omega) ?_; intro s7 w7 hV7 hg7))
            have hB7 := hB6.trans (gb_below hg7 hB6.size (fun k hk => (hV6.top.lt k hk).1))
            have hR7 := hR6.kept hg7 (dis_types hV6.top hR6)
            have hz7 : B1 ≤ w7.heap.size := Nat.le_trans hB1 (Nat.le_trans hwz hg7.size)
            obtain ⟨LN, hLN⟩ : ∃ LN, LN = LM ++ [stepL y r] := ⟨_, rfl⟩
            rw [← hLN] at hV7
            obtain ⟨a7, c7, rfl⟩ := hV7.shape
            rw [unhide HLM] at hLN
            have hLN2 := hLN.trans (unhide HLN)
            rw [unhide HKP] at hLN2
            have HN : Hid (St w B1 (.slice ar r.length cr) r C p (k + 1) true w7 (.slice a7 LN.length c7) _ LN) := hide ⟨by have := unhide HKP; simp; omega, by rw [unhide HKP]; exact hLN2, by rw [if_pos (by have := unhide HKP; omega)]; exact hV7, hR7, hB7, hz7, hB1', hlow⟩
            clear hV7 hR7 hB7 hLN hLN2 hg7 HSTE hget HLN HDV HDR HSY HCK HROW
            go_wp2
            go_roundw
            case rel => exact ⟨k + 1, by omega, by go_num, true, rfl, a7, c7, _, LN, rfl, HN⟩
            case measure => simp [intOf]; omega
          · have hst := unhide HSY
            rw [if_neg hget] at hst
            have hget : getI y f = false := by simpa using hget
            have HSTE := hide hst
            clear hst
            have HKP := hide hkp
            clear hkp
            go_wp2_with (first | (at_builtin; refine wpList_append_nil rfl _ _ rfl ai y.length ci y rfl rfl (unhide HROW) hlk ?_; intro bv w3 hob hb3; obtain ⟨ab, cb, rfl, hrb⟩ := hob.row; have hrR3 := hrR.below hb3; have hV3 := hVB.below hb3; have hR3 := hR.below hb3; have hB3 := below0 hB hb3; have hz3 := hb3.size; clear hb3))
            refine (rfirst_any ab y.length cb y w3 hrb hlk).mono ?_
            rintro e w' ⟨rfl, hw⟩
            obtain rfl := hw.symm
            go_wp2_with (first | (at_builtin; refine wpList_push rfl _ _ rfl w.heap.size (.slice a1 L.length c1) vs L (.slice ar r.length cr) r rfl rfl hV3 hB3.size hR3 hdr (by omega) ?_; intro s4 w4 hV4 hg4; have hB4 := hB3.trans (gb_below hg4 hB3.size (fun k hk => (hV3.top.lt k hk).1)); have hob4 := hob.kept hg4 (dis_types hV3.top hob); have hR4 := hR3.kept hg4 (dis_types hV3.top hR3); obtain ⟨_, _, e4, hrb4⟩ := hob4.row; obtain ⟨_, _, e5, hrR4⟩ := hR4.row; simp only [Value.slice.injEq, true_and] at e4 e5; obtain ⟨rfl, rfl⟩ := e4; obtain ⟨rfl, rfl⟩ := e5; obtain ⟨LM, hLM⟩ : ∃ LM, LM = L ++ [r] := ⟨_, rfl⟩; rw [← hLM] at hV4; have HLM := hide hLM; obtain ⟨a4, c4, rfl⟩ := hV4.shape; have hz4 := Nat.le_trans hz3 hg4.size; clear hLM hg4))
            have hG := rget_any ab y.length cb y f w4 hrb4 hlk hfm
            rw [hget] at hG
            refine hG.mono ?_
            rintro e w' ⟨rfl, hw⟩
            obtain rfl := hw.symm
            clear hG
            clear hrb hrR3 hV3 hR3 hB3 hob
            have hwz : wr.heap.size ≤ w4.heap.size := hz4
            go_wp2_with (first | (at_builtin; refine wpList_push rfl _ _ rfl w.heap.size (.slice a4 LM.length c4) (vs ++ [.slice ar r.length cr]) LM (.slice ab y.length cb) y rfl rfl hV4 hB4.size (hob4.mono hB.size) ((fun u hu => by rcases List.mem_append.1 hu with hu | hu; exact unhide HDV _ _ _ hob4 u hu; rw [List.mem_singleton.1 hu]; exact unhide HDR _ _ _ hob4)) (by rw [unhide HLM, List.length_append, List.length_singleton]; omega) ?_; intro s7 w7 hV7 hg7))
            have hB7 := hB4.trans (gb_below hg7 hB4.size (fun k hk => (hV4.top.lt k hk).1))
            have hR7 := hR4.kept hg7 (dis_types hV4.top hR4)
            have hz7 : B1 ≤ w7.heap.size := Nat.le_trans hB1 (Nat.le_trans hwz hg7.size)
            obtain ⟨LN, hLN⟩ : ∃ LN, LN = LM ++ [stepL y r] := ⟨_, rfl⟩
            have hLN0 := hLN
            rw [unhide HSTE] at hLN0
            rw [← hLN0] at hV7
            clear hLN0
            obtain ⟨a7, c7, rfl⟩ := hV7.shape
            rw [unhide HLM] at hLN
            have hLN2 := hLN.trans (unhide HLN)
            rw [unhide HKP] at hLN2
            have HN : Hid (St w B1 (.slice ar r.length cr) r C p (k + 1) true w7 (.slice a7 LN.length c7) _ LN) := hide ⟨by have := unhide HKP; simp; omega, by rw [unhide HKP]; exact hLN2, by rw [if_pos (by have := unhide HKP; omega)]; exact hV7, hR7, hB7, hz7, hB1', hlow⟩
            clear hV7 hR7 hB7 hLN hLN2 hg7 HSTE hget HLN HDV HDR HSY HCK HROW
            go_wp2
            go_roundw
            case rel => exact ⟨k + 1, by omega, by go_num, true, rfl, a7, c7, _, LN, rfl, HN⟩
            case measure => simp [intOf]; omega
        · have hfy := unhide HLOWK (by omega)
          have hdn3 : decide (f < firstI y) = false := by simpa using hfy
          have HLN := hide (outL_ahead r C p k (by rw [unhide HCL]; exact hlt) (by omega))
          rw [unhide HCK, ← unhide HL] at HLN
          clear hbp
          by_cases hget : getI y f = true
          · have hst := unhide HSY
            rw [if_pos hget] at hst
            have HSTE := hide hst
            clear hst
            go_wp2_with (first | (at_builtin; refine wpList_append_nil rfl _ _ rfl ai y.length ci y rfl rfl (unhide HROW) hlk ?_; intro bv w3 hob hb3; obtain ⟨ab, cb, rfl, hrb⟩ := hob.row; have hrR3 := hrR.below hb3; have hV3 := hV.below hb3; have hR3 := hR.below hb3; have hB3 := below0 hB hb3; have hz3 := hb3.size; clear hb3))
            refine (rfirst_any ab y.length cb y w3 hrb hlk).mono ?_
            rintro e w' ⟨rfl, hw⟩
            obtain rfl := hw.symm
            go_wp2_with fail
            have hG := rget_any ab y.length cb y f w3 hrb hlk hfm
            rw [hget] at hG
            refine hG.mono ?_
            rintro e w' ⟨rfl, hw⟩
            obtain rfl := hw.symm
            clear hG
            go_wp2_with fail
            refine (rxor_any ab y.length cb y ar r.length cr r w3 hrb hrR3 hlk hrl).mono ?_
            rintro e w6 ⟨bv6, rfl, ho6, hb6⟩
            rw [← unhide HSTE] at ho6
            obtain ⟨a6, c6, rfl, _⟩ := ho6.row
            have hV6 := hV3.below hb6
            have hR6 := hR3.below hb6
            have hB6 := below0 hB3 hb6
            have hz6 := hb6.size
            have ho6 := ho6.mono hz3
            clear hb6
            clear hrb hrR3 hV3 hR3 hB3 hob
            have hwz : wr.heap.size ≤ w6.heap.size := Nat.le_trans hz3 hz6
            go_wp2_with (first | (at_builtin; refine wpList_push rfl _ _ rfl B1 (.slice a1 L.length c1) vs L (.slice a6 (stepL y r).length c6) (stepL y r) rfl rfl hV6 (Nat.le_trans hB1 hwz) (ho6.mono hB1) (unhide HDV _ _ _ ho6) (by omega) ?_; intro s7 w7 hV7 hg7))
            have hB7 := hB6.trans (gb_below hg7 hB6.size (fun k hk => Nat.le_trans hB1' (hV6.top.lt k hk).1))
            have hR7 := hR6.kept hg7 (dis_types hV6.top hR6)
            have hz7 : B1 ≤ w7.heap.size := Nat.le_trans hB1 (Nat.le_trans hwz hg7.size)
            obtain ⟨LN, hLN⟩ : ∃ LN, LN = L ++ [stepL y r] := ⟨_, rfl⟩
            rw [← hLN] at hV7
            obtain ⟨a7, c7, rfl⟩ := hV7.shape
            have hLN2 := hLN.trans (unhide HLN)
            have HN : Hid (St w B1 (.slice ar r.length cr) r C p (k + 1) false w7 (.slice a7 LN.length c7) _ LN) := hide ⟨by simp; omega, hLN2, by rw [if_neg (by omega)]; exact hV7, hR7, hB7, hz7, hB1', hlow⟩
            clear hV7 hR7 hB7 hLN hLN2 hg7 HSTE hget HLN HDV HDR HSY HCK HROW
            go_wp2
            go_roundw
            case rel => exact ⟨k + 1, by omega, by go_num, false, rfl, a7, c7, _, LN, rfl, HN⟩
            case measure => simp [intOf]; omega
          · have hst := unhide HSY
            rw [if_neg hget] at hst
            have hget : getI y f = false := by simpa using hget
            have HSTE := hide hst
            clear hst
            go_wp2_with (first | (at_builtin; refine wpList_append_nil rfl _ _ rfl ai y.length ci y rfl rfl (unhide HROW) hlk ?_; intro bv w3 hob hb3; obtain ⟨ab, cb, rfl, hrb⟩ := hob.row; have hrR3 := hrR.below hb3; have hV3 := hV.below hb3; have hR3 := hR.below hb3; have hB3 := below0 hB hb3; have hz3 := hb3.size; clear hb3))
            refine (rfirst_any ab y.length cb y w3 hrb hlk).mono ?_
            rintro e w' ⟨rfl, hw⟩
            obtain rfl := hw.symm
            go_wp2_with fail
            have hG := rget_any ab y.length cb y f w3 hrb hlk hfm
            rw [hget] at hG
            refine hG.mono ?_
            rintro e w' ⟨rfl, hw⟩
            obtain rfl := hw.symm
            clear hG
            have hwz : wr.heap.size ≤ w3.heap.size := hz3
            go_wp2_with (first | (at_builtin; refine wpList_push rfl _ _ rfl B1 (.slice a1 L.length c1) vs L (.slice ab y.length cb) y rfl rfl hV3 (Nat.le_trans hB1 hwz) (hob.mono hB1) (unhide HDV _ _ _ hob) (by omega) ?_; intro s7 w7 hV7 hg7))
            have hB7 := hB3.trans (gb_below hg7 hB3.size (fun k hk => Nat.le_trans hB1' (hV3.top.lt k hk).1))
            have hR7 := hR3.kept hg7 (dis_types hV3.top hR3)
            have hz7 : B1 ≤ w7.heap.size := Nat.le_trans hB1 (Nat.le_trans hwz hg7.size)
            obtain ⟨LN, hLN⟩ : ∃ LN, LN = L ++ [stepL y r] := ⟨_, rfl⟩
            have hLN0 := hLN
            rw [unhide HSTE] at hLN0
            rw [← hLN0] at hV7
            clear hLN0
            obtain ⟨a7, c7, rfl⟩ := hV7.shape
            have hLN2 := hLN.trans (unhide HLN)
            have HN : Hid (St w B1 (.slice ar r.length cr) r C p (k + 1) false w7 (.slice a7 LN.length c7) _ LN) := hide ⟨by simp; omega, hLN2, by rw [if_neg (by omega)]; exact hV7, hR7, hB7, hz7, hB1', hlow⟩
            clear hV7 hR7 hB7 hLN hLN2 hg7 HSTE hget HLN HDV HDR HSY HCK HROW
            go_wp2
            go_roundw
            case rel => exact ⟨k + 1, by omega, by go_num, false, rfl, a7, c7, _, LN, rfl, HN⟩
            case measure => simp [intOf]; omega
    · obtain rfl : k = rs.length := by omega
      by_cases hpk : p < rs.length
      · rw [if_pos hpk] at hV
        obtain rfl : bp = true := by rw [hbp]; simpa using hpk
        have hfin := outL_all r C p (by rw [unhide HCL]; exact hpk)
        rw [unhide HCL, ← unhide HL] at hfin
        have HFI := hide hfin
        have HVV := hide hV
        have HBB := hide hB
        clear h hbp hlow hfin hV hB hR hrR
        go_wp2
        go_ret2
        exact ⟨_, _, rfl, by rw [← unhide HFI]; exact unhide HVV, unhide HBB⟩
      · rw [if_neg hpk] at hV
        obtain rfl : bp = false := by rw [hbp]; simpa using hpk
        have hpe : p = rs.length := by omega
        have hfin := outL_last r C
        rw [unhide HCL] at hfin
        have HL2 := unhide HL
        rw [hpe] at HL2
        rw [← HL2] at hfin
        have HFI := hide hfin
        have HPE := hide hpe
        have hdr := dis_low hV hR hlow
        have hVB := hV.mono hB1'
        clear h hbp hlow hfin hV HL2 hpe hrR
        go_wp2_with (first
          | (at_builtin; refine wpList_push rfl _ _ rfl w.heap.size (.slice a1 L.length c1) vs L (.slice ar r.length cr) r rfl rfl hVB hB.size hR hdr (by omega) ?_; intro s4 w4 hV4 hg4; have hB4 := hB.trans (gb_below hg4 hB.size (fun k hk => (hVB.top.lt k hk).1)); obtain ⟨LM, hLM⟩ : ∃ LM, LM = L ++ [r] := ⟨_, rfl⟩; rw [← hLM] at hV4; have HLM := hide hLM; clear hLM; obtain ⟨a4, c4, rfl⟩ := hV4.shape; have HV4 := hide hV4; have HB4 := hide hB4; clear hV4 hg4 hB4 hVB hB hR hdr))
        go_ret2
        exact ⟨_, _, rfl, by rw [unhide HPE, ← unhide HFI, ← unhide HLM]; exact unhide HV4, unhide HB4⟩
end Go.Proofs.YtmdmipojbeppiaaGreatDoor
namespace Go.Proofs.YtmdmipojbeppiaaGreatDoor
open Go.RowKit
set_option linter.unusedVariables false
set_option maxRecDepth 4000

theorem radd_any (a : Option Addr) (n c : Nat) (rs : List (List Nat)) (a' : Option Addr) (m c' : Nat) (xs : List Nat) (w : World) (h : VecsAt w a n rs) (hf : Fit 1048576 rs) (h' : RowAt w a' m xs) (hn : n ≤ 100000) (hm : m ≤ 1048576) :
    Calls Tryz.prog 45 #[.slice a n c, .slice a' m c'] w fun e w' => ∃ v vs, e = .returned (.tuple #[v, .bool (decide (0 ≤ firstI (reduceL rs xs)))]) ∧ OwnV w' w.heap.size v vs (raddL rs xs) ∧ Below w.heap.size w w' := by
  by_cases hneg : firstI (reduceL rs xs) < 0
  · rw [show decide (0 ≤ firstI (reduceL rs xs)) = false by simp; omega, show raddL rs xs = rs by unfold raddL; rw [if_pos hneg]]
    exact radd_no a n c rs a' m c' xs w h hf h' hn hm hneg
  · rw [show decide (0 ≤ firstI (reduceL rs xs)) = true by simp; omega]
    exact radd_yes a n c rs a' m c' xs w h hf h' hn hm (by omega)

set_option maxHeartbeats 1000000 in
theorem rbasis_any (a : Option Addr) (n c : Nat) (rs : List (List Nat)) (w : World) (h : VecsAt w a n rs) (hf : Fit 1048576 rs) (hn : n ≤ 100000) :
    Calls Tryz.prog 25 #[.slice a n c] w fun e w' => ∃ v vs, e = .returned v ∧ OwnV w' w.heap.size v vs (basisL rs) ∧ Below w.heap.size w w' := by
  go_enter Tryz.func25, Tryz.ntmps25
  go_wp2
  go_loopw [3, 4] (fun b i wr => ∃ k : Nat, k ≤ n ∧ i = .int .i64 k ∧ ∃ a1 c1 vs, b = .slice a1 (basisL (rs.take k)).length c1 ∧ Hid (OwnV wr w.heap.size (.slice a1 (basisL (rs.take k)).length c1) vs (basisL (rs.take k))) ∧ Hid (Below w.heap.size w wr)) (fun _ i _ => n - (intOf i).toNat)
  case atStart => exact ⟨0, Nat.zero_le _, rfl, none, 0, [], rfl, hide (OwnV.nil _ _), hide (Below.refl _ _)⟩
  case round =>
    obtain ⟨k, hk, rfl, a1, c1, vs, rfl, HV, HB⟩ := hrel
    by_cases hlt : k < n
    · have hB := unhide HB
      obtain ⟨b, off, rfl, hc⟩ := (h.below hB).at hlt
      obtain ⟨ai, ci, hcell, hrow⟩ := hc k hlt
      have hfk := hf.take k
      have hbl := basis_len hfk
      have htk : (rs.take k).length ≤ k := List.length_take_le _ _
      obtain ⟨_, _, e1, hvec⟩ := (unhide HV).vecs
      simp only [Value.slice.injEq, true_and] at e1
      obtain ⟨rfl, rfl⟩ := e1
      have hX := radd_any a1 _ c1 (basisL (rs.take k)) ai _ ci (rs.getD k []) wr hvec (basis_fit hfk) hrow (by omega) (hf.getD k).2
      rw [radd_eq (basis_fit hfk) (basis_red hfk) hrow.2.1 (hf.getD k).2] at hX
      have HX := hide hX
      have HE := hide (basis_take (show k < rs.length by rw [h.1]; exact hlt))
      clear hc hrow h HV hfk hbl htk hX hvec
      generalize rs.getD k [] = y at *
      generalize basisL (rs.take k) = bk at *
      go_wp2_with fail
      refine (unhide HX).mono ?_
      rintro e w1 ⟨v1, vs1, rfl, hV1, hb1⟩
      rw [← unhide HE] at hV1
      have hV1 := hV1.mono hB.size
      obtain ⟨a2, c2, rfl, _⟩ := hV1.vecs
      have HV1 := hide hV1
      have HB1 := hide (below0 hB hb1)
      clear hV1 hb1 HX hB HB
      go_wp2
      go_roundw
      case rel => exact ⟨k + 1, by omega, by go_num, a2, c2, vs1, rfl, HV1, HB1⟩
      case measure => simp [intOf]; omega
    · have hke : rs.take k = rs := List.take_of_length_le (by rw [h.1]; omega)
      rw [hke] at HV
      rw [hke]
      clear h hke
      go_wp2
      go_ret
      exact ⟨_, _, rfl, unhide HV, unhide HB⟩

/-- Literals of rows of one word. -/
theorem lit1 (w : World) (x : Nat) (hx : x < 18446744073709551616) : RowAt (w.alloc (.cells #[.int .u64 (x : Int)] 65)) (some ⟨w.heap.size, 0, none⟩) 1 [x] := row_new1 w x hx
theorem vecs_lit {w : World} {g : Nat} {cur : Array Value} {rs : List (List Nat)} (hg : w.heap[g]? = some (.cells cur 25 (0, 0)))
    (h : ∀ i, i < rs.length → ∃ b, cur[i]? = some (.slice (some ⟨b, 0, none⟩) (rs.getD i []).length 1) ∧ RowAt w (some ⟨b, 0, none⟩) (rs.getD i []).length (rs.getD i []) ∧ (rs.getD i []).length ≤ 1) : VecsAt w (some ⟨g, 0, none⟩) rs.length rs := by
  refine ⟨rfl, .inr ⟨g, 0, rfl, fun i hi => ?_⟩, fun b off i ai k ci e hi hc => ?_⟩
  · obtain ⟨b, h1, h2, _⟩ := h i hi
    exact ⟨_, 1, by rw [Nat.zero_add, cell_of_row w g i _ _ _ hg]; exact h1, h2⟩
  · simp only [Option.some.injEq, Addr.mk.injEq, and_true] at e
    obtain ⟨rfl, rfl⟩ := e
    obtain ⟨b, h1, _, h3⟩ := h i hi
    rw [Nat.zero_add, cell_of_row w g i _ _ _ hg, h1] at hc
    simp only [Option.some.injEq, Value.slice.injEq] at hc
    omega
theorem alloc_below (w : World) (o : Obj) : Below w.heap.size w (w.alloc o) := (Below.refl _ _).alloc (Nat.le_refl _) _
theorem lit_two (w : World) (x y : Nat) (hx : x < 18446744073709551616) (hy : y < 18446744073709551616) :
    VecsAt (((w.alloc (.cells #[.int .u64 (x : Int)] 65)).alloc (.cells #[.int .u64 (y : Int)] 65)).alloc (.cells #[.slice (some ⟨w.heap.size, 0, none⟩) 1 1, .slice (some ⟨w.heap.size + 1, 0, none⟩) 1 1] 25)) (some ⟨w.heap.size + 1 + 1, 0, none⟩) 2 [[x], [y]] := by
  have h1 := ((lit1 w x hx).below (alloc_below _ (.cells #[.int .u64 (y : Int)] 65))).below (alloc_below _ (.cells #[.slice (some ⟨w.heap.size, 0, none⟩) 1 1, .slice (some ⟨w.heap.size + 1, 0, none⟩) 1 1] 25))
  have h2 := (lit1 (w.alloc (.cells #[.int .u64 (x : Int)] 65)) y hy).below (alloc_below _ (.cells #[.slice (some ⟨w.heap.size, 0, none⟩) 1 1, .slice (some ⟨w.heap.size + 1, 0, none⟩) 1 1] 25))
  rw [alloc_size] at h2
  refine vecs_lit (rs := [[x], [y]]) (cur := #[.slice (some ⟨w.heap.size, 0, none⟩) 1 1, .slice (some ⟨w.heap.size + 1, 0, none⟩) 1 1]) ?_ fun i hi => ?_
  · have := heap_alloc_new ((w.alloc (.cells #[.int .u64 (x : Int)] 65)).alloc (.cells #[.int .u64 (y : Int)] 65)) (.cells #[.slice (some ⟨w.heap.size, 0, none⟩) 1 1, .slice (some ⟨w.heap.size + 1, 0, none⟩) 1 1] 25)
    rw [alloc_size, alloc_size] at this
    exact this
  · match i, hi with
    | 0, _ => exact ⟨_, rfl, h1, Nat.le_refl _⟩
    | 1, _ => exact ⟨_, rfl, h2, Nat.le_refl _⟩
theorem lit_three (w : World) (x y z : Nat) (hx : x < 18446744073709551616) (hy : y < 18446744073709551616) (hz : z < 18446744073709551616) :
    VecsAt ((((w.alloc (.cells #[.int .u64 (x : Int)] 65)).alloc (.cells #[.int .u64 (y : Int)] 65)).alloc (.cells #[.int .u64 (z : Int)] 65)).alloc (.cells #[.slice (some ⟨w.heap.size, 0, none⟩) 1 1, .slice (some ⟨w.heap.size + 1, 0, none⟩) 1 1, .slice (some ⟨w.heap.size + 1 + 1, 0, none⟩) 1 1] 25)) (some ⟨w.heap.size + 1 + 1 + 1, 0, none⟩) 3 [[x], [y], [z]] := by
  have h1 := (((lit1 w x hx).below (alloc_below _ (.cells #[.int .u64 (y : Int)] 65))).below (alloc_below _ (.cells #[.int .u64 (z : Int)] 65))).below (alloc_below _ (.cells #[.slice (some ⟨w.heap.size, 0, none⟩) 1 1, .slice (some ⟨w.heap.size + 1, 0, none⟩) 1 1, .slice (some ⟨w.heap.size + 1 + 1, 0, none⟩) 1 1] 25))
  have h2 := ((lit1 (w.alloc (.cells #[.int .u64 (x : Int)] 65)) y hy).below (alloc_below _ (.cells #[.int .u64 (z : Int)] 65))).below (alloc_below _ (.cells #[.slice (some ⟨w.heap.size, 0, none⟩) 1 1, .slice (some ⟨w.heap.size + 1, 0, none⟩) 1 1, .slice (some ⟨w.heap.size + 1 + 1, 0, none⟩) 1 1] 25))
  have h3 := (lit1 ((w.alloc (.cells #[.int .u64 (x : Int)] 65)).alloc (.cells #[.int .u64 (y : Int)] 65)) z hz).below (alloc_below _ (.cells #[.slice (some ⟨w.heap.size, 0, none⟩) 1 1, .slice (some ⟨w.heap.size + 1, 0, none⟩) 1 1, .slice (some ⟨w.heap.size + 1 + 1, 0, none⟩) 1 1] 25))
  rw [alloc_size] at h2
  rw [alloc_size, alloc_size] at h3
  refine vecs_lit (rs := [[x], [y], [z]]) (cur := #[.slice (some ⟨w.heap.size, 0, none⟩) 1 1, .slice (some ⟨w.heap.size + 1, 0, none⟩) 1 1, .slice (some ⟨w.heap.size + 1 + 1, 0, none⟩) 1 1]) ?_ fun i hi => ?_
  · have := heap_alloc_new (((w.alloc (.cells #[.int .u64 (x : Int)] 65)).alloc (.cells #[.int .u64 (y : Int)] 65)).alloc (.cells #[.int .u64 (z : Int)] 65)) (.cells #[.slice (some ⟨w.heap.size, 0, none⟩) 1 1, .slice (some ⟨w.heap.size + 1, 0, none⟩) 1 1, .slice (some ⟨w.heap.size + 1 + 1, 0, none⟩) 1 1] 25)
    rw [alloc_size, alloc_size, alloc_size] at this
    exact this
  · match i, hi with
    | 0, _ => exact ⟨_, rfl, h1, Nat.le_refl _⟩
    | 1, _ => exact ⟨_, rfl, h2, Nat.le_refl _⟩
    | 2, _ => exact ⟨_, rfl, h3, Nat.le_refl _⟩
theorem fit_one {rs : List (List Nat)} (h : ∀ r ∈ rs, r.length = 1 ∧ ∀ x ∈ r, x < 100) : Fit 1048576 rs := fun b hb => ⟨fun x hx => by have := (h b hb).2 x hx; show x < 18446744073709551616; omega, by rw [(h b hb).1]; decide⟩
theorem aw_basis : basisL [[3], [6], [5]] = [[5], [6]] := by decide
theorem aw_insert : insertL [[5], [6]] [1] = [[1], [2], [4]] := by decide
theorem aw_first : firstI (reduceL [[5], [6]] [1]) = 2 := by decide
theorem aw_three : firstI (reduceL [[5], [6]] [3]) = -1 := by decide
theorem aw_reduce : reduceL [[5], [6]] [1] = [4] := by decide

theorem aw_same : decide (cnt (xorL [4] [4]) = 0) = true := by decide
theorem below_a3 {w wk w' : World} {o o' o'' : Obj} (hB : Below w.heap.size w wk) (hb : Below (((wk.alloc o).alloc o').alloc o'').heap.size (((wk.alloc o).alloc o').alloc o'') w') : Below w.heap.size w w' := below1 (hB.alloc hB.size o |>.alloc (by have := hB.size; simp; omega) o') hb
theorem below_a4 {w wk w' : World} {o o' o'' o3 : Obj} (hB : Below w.heap.size w wk) (hb : Below ((((wk.alloc o).alloc o').alloc o'').alloc o3).heap.size ((((wk.alloc o).alloc o').alloc o'').alloc o3) w') : Below w.heap.size w w' := below_a3 (hB.alloc hB.size o) hb
theorem a2_below (w : World) (o o' : Obj) : Below w.heap.size w ((w.alloc o).alloc o') := below0 (alloc_below w o) (alloc_below _ o')
theorem a3_below (w : World) (o o' o'' : Obj) : Below w.heap.size w (((w.alloc o).alloc o').alloc o'') := below0 (a2_below w o o') (alloc_below _ o'')
theorem a4_below (w : World) (o o' o'' o3 : Obj) : Below w.heap.size w ((((w.alloc o).alloc o').alloc o'').alloc o3) := below0 (a3_below w o o' o'') (alloc_below _ o3)
end Go.Proofs.YtmdmipojbeppiaaGreatDoor
