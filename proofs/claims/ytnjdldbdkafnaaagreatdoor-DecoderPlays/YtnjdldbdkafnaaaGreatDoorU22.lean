/-
  Contracts of bucketlineref03.Add, Basis, Rank and of bucketlinelaw03.awake: for rows of at most 2^20 words, in every world that holds the table of math/bits.
  Slices of the rows' vectors, of one's own.
  The walk of PeelRank: for every input it tells true and writes nothing that was there.
-/
import Derived.Test.YtnjdldbdkafnaaaGreatDoorEF
import Derived.Test.YtnjdldbdkafnaaaGreatDoorU4
import Derived.Test.YtnjdldbdkafnaaaGreatDoorU19
import Derived.Test.YtnjdldbdkafnaaaGreatDoorU8
namespace Go.Proofs.YtnjdldbdkafnaaaGreatDoor
open Go.RowKit
set_option linter.unusedVariables false
set_option linter.unusedSimpArgs false
set_option maxRecDepth 4000

theorem radd_any (a : Option Addr) (n c : Nat) (rs : List (List Nat)) (a' : Option Addr) (m c' : Nat) (xs : List Nat) (w : World) (h : VecsAt w a n rs) (hf : Fit 1048576 rs) (h' : RowAt w a' m xs) (hn : n ≤ 100000) (hm : m ≤ 1048576) :
    Calls Tryz.prog 70 #[.slice a n c, .slice a' m c'] w fun e w' => ∃ v vs, e = .returned (.tuple #[v, .bool (decide (0 ≤ firstI (reduceL rs xs)))]) ∧ OwnV w' w.heap.size v vs (raddL rs xs) ∧ Below w.heap.size w w' := by
  by_cases hneg : firstI (reduceL rs xs) < 0
  · rw [show decide (0 ≤ firstI (reduceL rs xs)) = false by simp; omega, show raddL rs xs = rs by unfold raddL; rw [if_pos hneg]]
    exact radd_no a n c rs a' m c' xs w h hf h' hn hm hneg
  · rw [show decide (0 ≤ firstI (reduceL rs xs)) = true by simp; omega]
    exact radd_yes a n c rs a' m c' xs w h hf h' hn hm (by omega)

set_option maxHeartbeats 1000000 in
theorem rbasis_any (a : Option Addr) (n c : Nat) (rs : List (List Nat)) (w : World) (h : VecsAt w a n rs) (hf : Fit 1048576 rs) (hn : n ≤ 100000) :
    Calls Tryz.prog 53 #[.slice a n c] w fun e w' => ∃ v vs, e = .returned v ∧ OwnV w' w.heap.size v vs (basisL rs) ∧ Below w.heap.size w w' := by
  go_enter Tryz.func53, Tryz.ntmps53
  go_wp2
  go_loopw [3, 4] (fun b i wr => ∃ k : Nat, k ≤ n ∧ i = .int .i64 k ∧ ∃ a1 c1 vs, b = .slice a1 (basisL (rs.take k)).length c1 ∧ Hid (OwnV wr w.heap.size (.slice a1 (basisL (rs.take k)).length c1) vs (basisL (rs.take k))) ∧ Hid (Below w.heap.size w wr)) (fun _ i _ => n - (intOf i).toNat)
  case atStart => exact ⟨0, Nat.zero_le _, rfl, none, 0, [], rfl, hide (OwnV.nil _ _), hide (Below.refl _ _)⟩
  case round =>
    obtain ⟨k, hk, rfl, a1, c1, vs, rfl, HV, HB⟩ := hrel
    by_cases hlt : k < n
    · have hB := unhide HB
      obtain ⟨b, off, rfl, hc⟩ := (h.below hB).at hlt
      obtain ⟨ai, ci, hcell, hrow⟩ := hc k hlt
      have hfk := hf.take k
      have hbl := basis_len hfk
      have htk : (rs.take k).length ≤ k := List.length_take_le _ _
      obtain ⟨_, _, e1, hvec⟩ := (unhide HV).vecs
      simp only [Value.slice.injEq, true_and] at e1
      obtain ⟨rfl, rfl⟩ := e1
      have hX := radd_any a1 _ c1 (basisL (rs.take k)) ai _ ci (rs.getD k []) wr hvec (basis_fit hfk) hrow (by omega) (hf.getD k).2
      rw [radd_eq (basis_fit hfk) (basis_red hfk) hrow.2.1 (hf.getD k).2] at hX
      have HX := hide hX
      have HE := hide (basis_take (show k < rs.length by rw [h.1]; exact hlt))
      clear hc hrow h HV hfk hbl htk hX hvec
      generalize rs.getD k [] = y at *
      generalize basisL (rs.take k) = bk at *
      go_wp2_with fail
      refine (unhide HX).mono ?_
      rintro e w1 ⟨v1, vs1, rfl, hV1, hb1⟩
      rw [← unhide HE] at hV1
      have hV1 := hV1.mono hB.size
      obtain ⟨a2, c2, rfl, _⟩ := hV1.vecs
      have HV1 := hide hV1
      have HB1 := hide (below0 hB hb1)
      clear hV1 hb1 HX hB HB
      go_wp2
      go_roundw
      case rel => exact ⟨k + 1, by omega, by go_num, a2, c2, vs1, rfl, HV1, HB1⟩
      case measure => simp [intOf]; omega
    · have hke : rs.take k = rs := List.take_of_length_le (by rw [h.1]; omega)
      rw [hke] at HV
      rw [hke]
      clear h hke
      go_wp2
      go_ret
      exact ⟨_, _, rfl, unhide HV, unhide HB⟩
set_option maxHeartbeats 400000 in
theorem rrank_any (a : Option Addr) (n c : Nat) (rs : List (List Nat)) (w : World) (h : VecsAt w a n rs) (hf : Fit 1048576 rs) (hn : n ≤ 100000) :
    Calls Tryz.prog 33 #[.slice a n c] w fun e w' => e = .returned (.int .i64 ((basisL rs).length : Int)) ∧ Below w.heap.size w w' := by
  have HX := hide (rbasis_any a n c rs w h hf hn)
  clear h hf
  generalize basisL rs = bs at *
  go_enter Tryz.func33, Tryz.ntmps33
  go_wp2_with fail
  refine (unhide HX).mono ?_
  rintro e w1 ⟨v1, vs1, rfl, hV1, hb1⟩
  obtain ⟨a2, c2, rfl, _⟩ := hV1.vecs
  clear hV1 HX
  go_wp2
  go_ret
  exact ⟨rfl, hb1⟩

end Go.Proofs.YtnjdldbdkafnaaaGreatDoor
namespace Go.Proofs.YtnjdldbdkafnaaaGreatDoor
open Go.RowKit Go.Sort
set_option linter.unusedVariables false
set_option linter.unusedSimpArgs false
set_option maxRecDepth 4000

/-- The rows' vectors. -/
def vecsL (rs : List RV) : List (List Nat) := rs.map fun r => r.xs
/-- A slice of the rows' vectors, of one's own. -/
def OwnW (w : World) (B : Nat) (v : Value) (ts : List RV) : Prop := w.ownsRow B 27 1 v ts.length (ts.map fun r => .slice r.a r.n r.c)
theorem OwnW.nil (w : World) (B : Nat) : OwnW w B (.slice none 0 0) [] := World.ownsRow_nil _ _ _ _
theorem OwnW.vecs {w : World} {B : Nat} {v : Value} {ts : List RV} (h : OwnW w B v ts) (hr : RowsIn w ts) : ∃ a c, v = .slice a ts.length c ∧ VecsAt w a ts.length (vecsL ts) := by
  have h' : w.ownsRow B 27 1 v ts.length (ts.map fun r => .slice r.a r.n r.c) := h
  rcases h.2 with ⟨rfl, h0⟩ | ⟨g, cap, cur, rfl, hb, hg, hn, hm, hsz, ht⟩
  · exact ⟨none, 0, by rw [h0], by simp [vecsL], .inl h0, fun b off i ai k ci e => by cases e⟩
  · have hcell : ∀ i, i < ts.length → w.cell? ⟨g, 0 + i, none⟩ = some (.slice (ts.getD i .dflt).a (ts.getD i .dflt).n (ts.getD i .dflt).c) := fun i hi => by
      rw [Nat.zero_add, h'.cellAt i (by omega), List.getElem?_map, List.getElem?_eq_getElem hi, List.getD_eq_getElem?_getD, List.getElem?_eq_getElem hi]
      rfl
    have hxs : ∀ i, i < ts.length → (vecsL ts).getD i [] = (ts.getD i .dflt).xs := fun i hi => by
      unfold vecsL
      rw [List.getD_eq_getElem?_getD, List.getElem?_map, List.getElem?_eq_getElem hi, List.getD_eq_getElem?_getD, List.getElem?_eq_getElem hi]
      rfl
    refine ⟨_, cap, rfl, by simp [vecsL], .inr ⟨g, 0, rfl, fun i hi => ?_⟩, fun b off i ai k ci e hi hc => ?_⟩
    · have hri := hr.get hi
      rw [hxs i hi]
      refine ⟨(ts.getD i .dflt).a, (ts.getD i .dflt).c, ?_, ?_⟩
      · rw [hri.1.1]; exact hcell i hi
      · rw [hri.1.1]; exact hri.1
    · simp only [Option.some.injEq, Addr.mk.injEq, and_true] at e
      obtain ⟨rfl, rfl⟩ := e
      rw [hcell i hi] at hc
      simp only [Option.some.injEq, Value.slice.injEq] at hc
      have := (hr.get hi).2
      omega
theorem wpList_pushW {w : World} {ops : Array Oper} {rest : List Oper} {o : Oper} {act : Act} {Q : Exit → Act → World → Prop} (hgd : o.guard = none) (s x : Operand)
    (ho : o.op = .call { callee := .builtin .append, args := #[s, x], argTypes := #[70, 70] }) (B : Nat) (v : Value) (ts : List RV) (r : RV)
    (hs : act.eval s = v) (hx : act.eval x = .slice (some ⟨w.heap.size, 0, none⟩) 1 1) (h : OwnW w B v ts) (hB : B ≤ w.heap.size) (hn : ts.length ≤ 1048576)
    (hK : ∀ s' w', OwnW w' B s' (ts ++ [r]) → Below B w w' → wpList Tryz.prog ops Q rest (act.put o.dst s') w') : wpList Tryz.prog ops Q (o :: rest) act (w.alloc (.cells #[.slice r.a r.n r.c] 27)) := by
  obtain ⟨i0, hi, hz0, hz1, hz2⟩ := info_parts info_u64s
  have hb : Below w.heap.size w (w.alloc (.cells #[.slice r.a r.n r.c] 27)) := (Below.refl _ _).alloc (Nat.le_refl _) _
  have h1 := ownsRow_below h hb
  refine wpList_append_own _ hgd s x 70 ho B 27 i0 (.slice none 0 0) 1 24 Tryz.underlying70 hi hz0 hz1 hz2 rfl (by decide) v ts.length _ hs h1 ⟨w.heap.size, 0, none⟩ 1 1 [.slice r.a r.n r.c] hx rfl (fun j u hj => ?_)
    (fun u hu => by rw [List.mem_singleton.1 hu]; rfl) (by unfold maxLen; omega) (by omega) (Nat.le_trans hB hb.size) ?_
  · match j with
    | 0 =>
      have hc : (w.alloc (.cells #[.slice r.a r.n r.c] 27)).cell? ⟨w.heap.size, 0, none⟩ = some (.slice r.a r.n r.c) := by rw [World.cell?_alloc_at _ _ _ _ rfl]; rfl
      simpa [Addr.add, hc] using hj
    | j + 1 => simp at hj
  · intro v' w' hown hgrow _
    refine hK v' w' ?_ ((hb.mono hB).grown hgrow (Nat.le_trans hB hb.size) fun k hk => (h1.lt k hk).1)
    show w'.ownsRow B 27 1 v' (ts ++ [r]).length ((ts ++ [r]).map fun r => .slice r.a r.n r.c)
    rw [List.length_append, List.map_append]
    exact hown
theorem fit_of {w : World} {ts : List RV} (hr : RowsIn w ts) (hs : shortR ts) : Fit 1048576 (vecsL ts) := fun b hb => by
  obtain ⟨r, hm, rfl⟩ := List.mem_map.1 hb
  obtain ⟨i, hi, rfl⟩ := List.mem_iff_getElem.1 hm
  have h1 := hr _ (List.getElem_mem hi)
  have h2 := hs i
  rw [List.getD_eq_getElem?_getD, List.getElem?_eq_getElem hi] at h2
  simp only [Option.getD_some] at h2
  exact ⟨h1.1.2.1, by rw [h1.1.1]; omega⟩
theorem OwnW.below {w w' : World} {B : Nat} {v : Value} {ts : List RV} (h : OwnW w B v ts) (hb : Below w.heap.size w w') : OwnW w' B v ts := ownsRow_below h hb
/-- The rows' vectors, of the first k; the others none yet. -/
def fillW (ts : List RV) (k : Nat) : List Value := (ts.take k).map (fun r => Value.slice r.a r.n r.c) ++ List.replicate (ts.length - k) (.slice none 0 0)
theorem fillW_zero (ts : List RV) : fillW ts 0 = List.replicate ts.length (.slice none 0 0) := by simp [fillW]
theorem fillW_all (ts : List RV) : fillW ts ts.length = ts.map fun r => Value.slice r.a r.n r.c := by simp [fillW]
theorem fillW_succ (ts : List RV) (k : Nat) (hk : k < ts.length) : (fillW ts k).set k (.slice (ts.getD k .dflt).a (ts.getD k .dflt).n (ts.getD k .dflt).c) = fillW ts (k + 1) := by
  unfold fillW
  have hl : ((ts.take k).map fun r => Value.slice r.a r.n r.c).length = k := by simp; omega
  rw [List.set_append_right _ _ (by omega), hl, Nat.sub_self, List.take_succ_eq_append_getElem hk, List.map_append, List.append_assoc, show ts.length - k = (ts.length - (k + 1)) + 1 by omega, List.replicate_succ, List.set_cons_zero]
  simp [List.getD_eq_getElem?_getD, List.getElem?_eq_getElem hk]
theorem make_v (n : Nat) (hn : n ≤ 1048576) (wx : World) : (Instr.makeSlice 70 (.int .i64 (n : Int)) (.int .i64 (n : Int))).run Tryz.prog wx = .ok (.slice (some ⟨wx.heap.size, 0, none⟩) n n) (wx.alloc (.cells (madeCells #[.slice none 0 0] n) 27)) := by
  obtain ⟨i0, hi0, hz0, hzs, hzb⟩ := info_parts info_u64s
  have := run_make (P := Tryz.prog) wx 70 27 i0 (.slice none 0 0) Tryz.underlying70 hi0 hz0 .i64 .i64 (n : Int) (n : Int) (by omega) (Int.le_refl _) (by rw [hzb]; omega) (by omega)
  rw [hzs] at this
  simpa [Value.cells] using this
theorem made_v (w : World) (n : Nat) (hn : n ≤ 1048576) :
    (w.alloc (.cells (madeCells #[.slice none 0 0] n) 27)).ownsRow w.heap.size 27 1 (.slice (some ⟨w.heap.size, 0, none⟩) n n) n (List.replicate n (.slice none 0 0)) := by
  refine ⟨by simp, .inr ⟨w.heap.size, n, madeCells #[.slice none 0 0] n, by simp, Nat.le_refl _, heap_alloc_new w _, by simp, by unfold maxLen; omega, by simp [size_madeCells], ?_⟩⟩
  rw [toList_madeCells_one, List.take_of_length_le (by simp)]
end Go.Proofs.YtnjdldbdkafnaaaGreatDoor
namespace Go.Proofs.YtnjdldbdkafnaaaGreatDoor
open Go.RowKit Go.Sort
set_option linter.unusedVariables false
set_option linter.unusedSimpArgs false
set_option maxRecDepth 4000

/-- A number without the known bits below n. -/
def clr (x : Nat) (kn : List Nat) : Nat → Nat
  | 0 => x
  | n + 1 => if (getB kn n && (clr x kn n).testBit n) = true then clr x kn n ^^^ 2 ^ n else clr x kn n
theorem clr_bit (x : Nat) (kn : List Nat) : ∀ n i, (clr x kn n).testBit i = (x.testBit i && !(getB kn i && decide (i < n)))
  | 0, i => by simp [clr]
  | n + 1, i => by
    have ih := clr_bit x kn n
    unfold clr
    by_cases e : i = n
    · subst e
      split
      · rename_i h
        rw [Bool.and_eq_true] at h
        rw [Nat.testBit_xor, Nat.testBit_two_pow, h.2, h.1]
        simp
      · rename_i h
        rw [ih]
        rw [ih] at h
        cases hg : getB kn i <;> cases hx : x.testBit i <;> simp_all
    · have hlt : (i < n + 1) = (i < n) := propext (by omega)
      split
      · have hni : decide (n = i) = false := decide_eq_false (fun h => e h.symm)
        rw [Nat.testBit_xor, Nat.testBit_two_pow, ih, hni, Bool.xor_false]
        simp only [hlt]
      · rw [ih]
        simp only [hlt]
theorem clr_sp {S : List Nat} {kn : List Nat} (h : ∀ b, getB kn b = true → Ech.Sp S (2 ^ b)) (x : Nat) : ∀ n, Ech.Sp S (clr x kn n) ↔ Ech.Sp S x
  | 0 => Iff.rfl
  | n + 1 => by
    rw [← clr_sp h x n, show clr x kn (n + 1) = (if (getB kn n && (clr x kn n).testBit n) = true then clr x kn n ^^^ 2 ^ n else clr x kn n) from rfl]
    split
    · rename_i hc
      rw [Bool.and_eq_true] at hc
      have hb := h n hc.1
      constructor
      · intro hs
        have := hs.xor hb
        rwa [Nat.xor_assoc, Nat.xor_self, Nat.xor_zero] at this
      · intro hs
        exact hs.xor hb
    · exact Iff.rfl
theorem val_drop {xs kn : List Nat} (hx : smalls xs) : val (dropL xs kn) = clr (val xs) kn (64 * xs.length) := by
  apply Nat.eq_of_testBit_eq
  intro i
  rw [val_bit (dropL_small hx _), dropL_bit, clr_bit, val_bit hx]
  by_cases hi : i < 64 * xs.length
  · simp [hi]
  · rw [getB_out xs i (by omega)]; simp
theorem drop_sp {S : List Nat} {xs kn : List Nat} (hx : smalls xs) (h : ∀ b, getB kn b = true → Ech.Sp S (2 ^ b)) : Ech.Sp S (val (dropL xs kn)) ↔ Ech.Sp S (val xs) := by
  rw [val_drop hx, clr_sp h]
theorem val_one {xs : List Nat} {b : Nat} (hx : smalls xs) (h : ∀ i, getB xs i = decide (i = b)) : val xs = 2 ^ b := by
  apply Nat.eq_of_testBit_eq
  intro i
  rw [val_bit hx, h, Nat.testBit_two_pow]
  by_cases e : i = b
  · simp [e]
  · rw [decide_eq_false e, decide_eq_false (fun h => e h.symm)]
theorem val_none {xs : List Nat} (hx : smalls xs) (h : cnt xs = 0) : val xs = 0 := by
  apply Nat.eq_of_testBit_eq
  intro i
  rw [val_bit hx, cnt_none.1 h, Nat.zero_testBit]
/-- What is known lies in the span of the rows. -/
theorem Run.sp {k : Int} {rs : List RV} (hg : Good rs) {S : List Nat} (hS : ∀ r ∈ rs, validB k r.xs = true → Ech.Sp S (val r.xs)) : ∀ {j : Nat} {kn : List Nat} {bs : List ByteArray}, Run k rs j kn bs → ∀ b, getB kn b = true → Ech.Sp S (2 ^ b)
  | 0, kn, bs, ⟨h1, h2⟩, b, hb => by rw [h1, bit_zeros] at hb; cases hb
  | j + 1, kn, bs, ⟨kn0, bs0, r, h1, h2, h3, h4⟩, b, hb => by
    have ih := Run.sp hg hS h1
    have hm := List.mem_of_find?_eq_some h2
    obtain ⟨hv, hbits, hk0, hx0, hbk, hfi⟩ := tells_bit (hg r hm).1 (List.find?_some h2)
    have hK := Run.known (valid_size hv).1 hg h1
    have hroom := size_room hK.size
    rw [h3, bit_setB _ _ _ _ (by rw [hK.len]; omega)] at hb
    by_cases e : b = blkOf kn0 r
    · have := (drop_sp (hg r hm).1 ih).2 (hS r hm hv)
      rw [val_one (dropL_small (hg r hm).1 _) hbits] at this
      rw [e]; exact this
    · rw [if_neg e] at hb
      exact ih b hb
/-- Peeling changes no span. -/
theorem peel_span {k : Int} {rs : List RV} {kn : List Nat} {bs : List ByteArray} (hP : PeelP k rs kn bs) (hg : Good rs) (x : Nat) :
    Ech.Sp (((toldTo k kn bs k.toNat ++ restL k rs kn bs).map Prod.fst).map val) x ↔ Ech.Sp ((vecsL (rs.filter fun r => validB k r.xs)).map val) x := by
  by_cases hz : sizeOfK k = 0
  · obtain ⟨p1, p2, p3⟩ := peelP_none (rs := rs) hz
    obtain ⟨rfl, rfl⟩ := hP.uniq p1
    have : (rs.filter fun r => validB k r.xs) = [] := List.filter_eq_nil_iff.2 fun r _ hv => by have := (valid_size hv).1; omega
    rw [p2, p3, this]
    exact Iff.rfl
  · obtain ⟨j, hK⟩ := hP.kn hg (by omega)
    have hroom := size_room hK.size
    have hmV : ∀ r ∈ rs, validB k r.xs = true → val r.xs ∈ (vecsL (rs.filter fun r => validB k r.xs)).map val := fun r hr hv =>
      List.mem_map.2 ⟨r.xs, List.mem_map.2 ⟨r, List.mem_filter.2 ⟨hr, hv⟩, rfl⟩, rfl⟩
    have hV : ∀ b, getB kn b = true → Ech.Sp ((vecsL (rs.filter fun r => validB k r.xs)).map val) (2 ^ b) := by
      obtain ⟨⟨j', hj'⟩, _⟩ := hP
      exact Run.sp hg (fun r hr hv => .of_mem (hmV r hr hv)) hj'
    have hA : ∀ b, getB kn b = true → Ech.Sp (((toldTo k kn bs k.toNat ++ restL k rs kn bs).map Prod.fst).map val) (2 ^ b) := fun b hb => by
      have hbk := hK.below b hb
      refine .of_mem (List.mem_map.2 ⟨unitL k (b : Int), List.mem_map.2 ⟨(unitL k (b : Int), bs.getD b ByteArray.empty), List.mem_append.2 (.inl ?_), rfl⟩, val_one (unit_small (by omega)) (unit_bit hK.size (by omega))⟩)
      unfold toldTo
      exact List.mem_map.2 ⟨b, List.mem_filter.2 ⟨List.mem_range.2 hbk, hb⟩, rfl⟩
    constructor
    · refine fun h => h.of fun y hy => ?_
      obtain ⟨v, hv, rfl⟩ := List.mem_map.1 hy
      obtain ⟨c, hc, rfl⟩ := List.mem_map.1 hv
      rcases List.mem_append.1 hc with hc | hc
      · obtain ⟨b, hb, hgb, rfl⟩ := told_mem hK hc
        show Ech.Sp _ (val (unitL k (b : Int)))
        rw [val_one (unit_small (by omega)) (unit_bit hK.size (by omega))]
        exact hV b hgb
      · unfold restL at hc
        obtain ⟨r, hr, rfl⟩ := List.mem_map.1 hc
        have hm := List.mem_filter.1 hr
        have hv : validB k r.xs = true := by
          have := hm.2
          unfold restB at this
          rw [Bool.and_eq_true, Bool.and_eq_true] at this
          exact this.1.1
        exact (drop_sp (hg r hm.1).1 hV).2 (.of_mem (hmV r hm.1 hv))
    · refine fun h => h.of fun y hy => ?_
      obtain ⟨v, hv, rfl⟩ := List.mem_map.1 hy
      obtain ⟨r, hr, rfl⟩ := List.mem_map.1 hv
      have hm := List.mem_filter.1 hr
      refine (drop_sp (hg r hm.1).1 hA).1 ?_
      by_cases h0 : cnt (dropL r.xs kn) = 0
      · rw [val_none (dropL_small (hg r hm.1).1 _) h0]; exact .zero
      · have hno := List.find?_eq_none.1 hP.2 r hm.1
        unfold tellsB at hno
        rw [hm.2, Bool.true_and, decide_eq_true_eq] at hno
        refine .of_mem (List.mem_map.2 ⟨dropL r.xs kn, List.mem_map.2 ⟨(dropL r.xs kn, txtL bs r.xs r.s), List.mem_append.2 (.inr ?_), rfl⟩, rfl⟩)
        unfold restL
        refine List.mem_map.2 ⟨r, List.mem_filter.2 ⟨hm.1, ?_⟩, rfl⟩
        unfold restB
        rw [hm.2, decide_eq_false h0, decide_eq_false hno]; rfl
theorem rank_eq {A V : List (List Nat)} (hA : Fit 1048576 A) (hV : Fit 1048576 V) (h : ∀ x, Ech.Sp (A.map val) x ↔ Ech.Sp (V.map val) x) : (basisL A).length = (basisL V).length := by
  have h1 := basis_val hA
  have h2 := basis_val hV
  have e : Ech.basis (A.map val) = Ech.basis (V.map val) := Ech.uniq (Ech.red_basis _) (Ech.red_basis _) fun x => by rw [Ech.sp_basis, Ech.sp_basis]; exact h x
  have := congrArg List.length (h1.trans (e.trans h2.symm))
  rwa [List.length_map, List.length_map] at this

theorem short_append {ts us : List RV} (h1 : shortR ts) (h2 : shortR us) : shortR (ts ++ us) := fun i => by
  by_cases hi : i < ts.length
  · rw [List.getD_eq_getElem?_getD, List.getElem?_append_left hi, ← List.getD_eq_getElem?_getD]; exact h1 i
  · rw [List.getD_eq_getElem?_getD, List.getElem?_append_right (by omega), ← List.getD_eq_getElem?_getD]; exact h2 _

end Go.Proofs.YtnjdldbdkafnaaaGreatDoor
