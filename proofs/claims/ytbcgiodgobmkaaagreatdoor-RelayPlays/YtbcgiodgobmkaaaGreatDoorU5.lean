/-
  Whether a row is one of k blocks, as a Bool.
  Slices of rows of one's own, and 'append' of one row; 'append(own, make([]uint64, m)...)'.
  Contract of xor.vecs.
-/
import Derived.Test.YtbcgiodgobmkaaaGreatDoorU4
import Derived.Test.YtbcgiodgobmkaaaGreatDoorU3
import Derived.OwnWalk
import Derived.Lib.AppendZeros
import Derived.Lib.AppendZerosOnto
namespace Go.Proofs.YtbcgiodgobmkaaaGreatDoor
open Go.RowKit
set_option linter.unusedVariables false
set_option linter.unusedSimpArgs false
set_option maxRecDepth 4000

/-- Is it a row of k blocks? -/
def validB (k : Int) (xs : List Nat) : Bool := decide (0 < xs.length) && decide (xs.length = sizeOfK k) && (List.range (64 * xs.length)).all fun i => decide (i < k.toNat) || !getB xs i
theorem validB_iff {k : Int} {xs : List Nat} : validB k xs = true ↔ ValidP k xs := by
  unfold validB ValidP
  rw [Bool.and_eq_true, Bool.and_eq_true, decide_eq_true_eq, decide_eq_true_eq, List.all_eq_true, and_assoc]
  refine and_congr_right fun _ => and_congr_right fun _ => ?_
  constructor
  · intro h i hi
    by_cases hl : i < 64 * xs.length
    · have := h i (List.mem_range.2 hl)
      rw [decide_eq_false (by omega)] at this
      simpa using this
    · exact getB_out xs i (by omega)
  · intro h i _
    by_cases hi : i < k.toNat
    · simp [hi]
    · rw [h i (by omega)]; simp
end Go.Proofs.YtbcgiodgobmkaaaGreatDoor
namespace Go.Proofs.YtbcgiodgobmkaaaGreatDoor
open Go.RowKit Go.Sort
set_option linter.unusedVariables false
set_option linter.unusedSimpArgs false
set_option maxRecDepth 4000

theorem info_rowZ : (Tryz.prog.info? 40).map (fun i => (i.zero, i.size, i.bytes)) = some (some (.agg #[.slice none 0 0, .string ⟨#[]⟩]), 2, 40) := by kernel_rfl
/-- The cells of rows. -/
def cellsR : List RV → List Value
  | [] => []
  | r :: rs => .slice r.a r.n r.c :: .string r.s :: cellsR rs
theorem cellsR_length : ∀ rs : List RV, (cellsR rs).length = rs.length * 2
  | [] => rfl
  | r :: rs => by simp [cellsR, cellsR_length rs]; omega
theorem cellsR_append : ∀ (a b : List RV), cellsR (a ++ b) = cellsR a ++ cellsR b
  | [], b => rfl
  | r :: a, b => by simp [cellsR, cellsR_append a b]
theorem cellsR_get : ∀ (rs : List RV) (i : Nat), i < rs.length → (cellsR rs)[i * 2]? = some (.slice (rs.getD i .dflt).a (rs.getD i .dflt).n (rs.getD i .dflt).c) ∧ (cellsR rs)[i * 2 + 1]? = some (.string (rs.getD i .dflt).s)
  | [], i, h => by simp at h
  | r :: rs, 0, _ => by simp [cellsR]
  | r :: rs, i + 1, h => by
    have := cellsR_get rs i (by simpa using h)
    rw [show (i + 1) * 2 = i * 2 + 1 + 1 by omega]
    simpa [cellsR] using this
/-- A slice of rows of the call's own. -/
def OwnS (w : World) (B : Nat) (v : Value) (rs : List RV) : Prop := w.ownsRow B 40 2 v rs.length (cellsR rs)
theorem OwnS.nil (w : World) (B : Nat) : OwnS w B (.slice none 0 0) [] := World.ownsRow_nil _ _ _ _
theorem OwnS.cellAt {w : World} {B : Nat} {g n c : Nat} {rs : List RV} (h : OwnS w B (.slice (some ⟨g, 0, none⟩) n c) rs) {j : Nat} {u : Value} (hu : (cellsR rs)[j]? = some u) : w.cell? ⟨g, j, none⟩ = some u := by
  have := World.ownsRow.cells h (g := g) rfl j u hu
  rwa [show (⟨g, 0, none⟩ : Addr).add j = ⟨g, j, none⟩ by unfold Addr.add; split <;> simp_all] at this
theorem OwnS.rows {w : World} {B : Nat} {v : Value} {rs : List RV} (h : OwnS w B v rs) (hr : RowsIn w rs) : ∃ a c, v = .slice a rs.length c ∧ RowsAt w a rs.length rs ∧ rs.length ≤ c ∧ c ≤ 9223372036854775807 := by
  have h' := h
  rcases h.2 with ⟨rfl, h0⟩ | ⟨g, cap, cur, rfl, hb, hg, hn, hm, hsz, ht⟩
  · exact ⟨none, 0, by rw [h0], ⟨rfl, fun i hi => by omega, .inl h0⟩, by omega, by omega⟩
  · refine ⟨_, cap, rfl, ⟨rfl, fun i hi => (hr.get hi).1, .inr ⟨g, 0, rfl, fun i hi => ?_⟩⟩, hn, by simpa [maxLen] using hm⟩
    rw [Nat.zero_add]
    exact ⟨h'.cellAt (cellsR_get rs i hi).1, h'.cellAt (cellsR_get rs i hi).2⟩
theorem OwnS.mono {w : World} {B B' : Nat} {v : Value} {rs : List RV} (h : OwnS w B v rs) (hB : B' ≤ B) : OwnS w B' v rs := by
  refine ⟨h.1, ?_⟩
  rcases h.2 with h0 | ⟨g, cap, cur, h1, hb, r⟩
  · exact .inl h0
  · exact .inr ⟨g, cap, cur, h1, Nat.le_trans hB hb, r⟩
theorem OwnS.below {w w' : World} {B : Nat} {v : Value} {rs : List RV} (h : OwnS w B v rs) (hb : Below w.heap.size w w') : OwnS w' B v rs := by
  refine ⟨h.1, ?_⟩
  rcases h.2 with h0 | ⟨g, cap, cur, h1, hg, hgg, r⟩
  · exact .inl h0
  · exact .inr ⟨g, cap, cur, h1, hg, (hb.block g (Array.getElem?_eq_some_iff.1 hgg).1).trans hgg, r⟩
/-- What is turned in a row of words is no row of rows. -/
theorem OwnS.kept {w w' : World} {B B' g n c : Nat} {v : Value} {rs : List RV} {xs : List Nat} (h : OwnS w B v rs) (hg : w.grownBy w' (some g)) (ho : Own w B' (.slice (some ⟨g, 0, none⟩) n c) xs) : OwnS w' B v rs := by
  refine World.ownsRow.kept h hg ?_
  rcases h.2 with ⟨rfl, h0⟩ | ⟨g1, cap, cur, rfl, hb, hgg, r⟩
  · exact .inl rfl
  · refine .inr fun e => ?_
    simp only [Value.ownBlock, Option.some.injEq] at e
    subst e
    rcases ho.2.2 with ⟨e, _⟩ | ⟨g2, cap2, cur2, e, hb2, hg2, r2⟩
    · cases e
    · simp only [Value.slice.injEq, Option.some.injEq, Addr.mk.injEq, and_true] at e
      rw [← e.1, hgg] at hg2
      simp only [Option.some.injEq, Obj.cells.injEq] at hg2
      exact absurd hg2.2.1 (by decide)
/-- 'append(l, row)'. -/
theorem wpList_pushS {w : World} {ops : Array Oper} {rest : List Oper} {o : Oper} {act : Act} {Q : Exit → Act → World → Prop} (hgd : o.guard = none) (s x : Operand)
    (ho : o.op = .call { callee := .builtin .append, args := #[s, x], argTypes := #[74, 74] }) (B : Nat) (v : Value) (rs : List RV) (r : RV)
    (hs : act.eval s = v) (hx : act.eval x = .slice (some ⟨w.heap.size, 0, none⟩) 1 1) (h : OwnS w B v rs) (hB : B ≤ w.heap.size) (hn : rs.length ≤ 1048576)
    (hK : ∀ s' w', OwnS w' B s' (rs ++ [r]) → w.grownBy w' v.ownBlock → Below B w w' → wpList Tryz.prog ops Q rest (act.put o.dst s') w') : wpList Tryz.prog ops Q (o :: rest) act (w.alloc (.cells #[.slice r.a r.n r.c, .string r.s] 40)) := by
  obtain ⟨i0, hi, hz0, hz1, hz2⟩ := info_parts info_rowZ
  have hb : Below w.heap.size w (w.alloc (.cells #[.slice r.a r.n r.c, .string r.s] 40)) := (Below.refl _ _).alloc (Nat.le_refl _) _
  have h1 : (w.alloc (.cells #[.slice r.a r.n r.c, .string r.s] 40)).ownsRow B 40 2 v rs.length (cellsR rs) := h.below hb
  refine wpList_append_own _ hgd s x 74 ho B 40 i0 (.agg #[.slice none 0 0, .string ⟨#[]⟩]) 2 40 Tryz.underlying74 hi hz0 hz1 hz2 rfl (by decide) v rs.length (cellsR rs) hs h1 ⟨w.heap.size, 0, none⟩ 1 1 [.slice r.a r.n r.c, .string r.s] hx rfl (fun j u hj => ?_)
    (fun u hu => by rcases List.mem_cons.1 hu with rfl | hu; · rfl
                    · rw [List.mem_singleton.1 hu]; rfl) (by unfold maxLen; omega) (by omega) (Nat.le_trans hB hb.size) ?_
  · have e : (⟨w.heap.size, 0, none⟩ : Addr).add j = ⟨w.heap.size, j, none⟩ := by unfold Addr.add; split <;> simp_all
    rw [e, World.cell?_alloc_at _ _ _ _ rfl]
    match j with
    | 0 => simpa using hj
    | 1 => simpa using hj
    | j + 2 => simp at hj
  · intro v' w' hown hgrow _
    refine hK v' w' ?_ (gb_trans (gb_of_below hb _) hgrow (.inl rfl)) ((hb.mono hB).grown hgrow (Nat.le_trans hB hb.size) fun k hk => (h1.lt k hk).1)
    rw [show cellsR rs ++ [.slice r.a r.n r.c, .string r.s] = cellsR (rs ++ [r]) by rw [cellsR_append]; rfl] at hown
    show w'.ownsRow B 40 2 v' (rs ++ [r]).length (cellsR (rs ++ [r]))
    rw [List.length_append]
    exact hown
end Go.Proofs.YtbcgiodgobmkaaaGreatDoor
namespace Go.Proofs.YtbcgiodgobmkaaaGreatDoor
open Go.RowKit Go.Sort
set_option linter.unusedVariables false
set_option linter.unusedSimpArgs false
set_option maxRecDepth 4000

/-- The xor of all rows' words. -/
def vecL (rs : List RV) : List Nat := rs.foldl (fun a r => xorL a r.xs) []
theorem vecL_from (rs : List RV) : ∀ a, rs.foldl (fun a r => xorL a r.xs) a = xorL a (vecL rs) := by
  induction rs with
  | nil => intro a; exact (xorL_nil a).symm
  | cons r rs ih =>
    intro a
    show rs.foldl _ (xorL a r.xs) = xorL a (rs.foldl _ (xorL [] r.xs))
    rw [ih, ih (xorL [] r.xs), nil_xorL, xorL_assoc]
theorem vecL_cons (r : RV) (rs : List RV) : vecL (r :: rs) = xorL r.xs (vecL rs) := by
  show rs.foldl _ (xorL [] r.xs) = _
  rw [vecL_from, nil_xorL]
theorem vecL_append (ps bs : List RV) : vecL (ps ++ bs) = xorL (vecL ps) (vecL bs) := by
  unfold vecL
  rw [List.foldl_append]
  exact vecL_from bs _
theorem vecL_len (rs : List RV) (h : ∀ r ∈ rs, r.xs.length ≤ 10) : (vecL rs).length ≤ 10 := by
  induction rs with
  | nil => simp [vecL]
  | cons r rs ih =>
    rw [vecL_cons, xorL_length]
    have h1 := h r List.mem_cons_self
    have h2 := ih (fun r hr => h r (List.mem_cons_of_mem _ hr))
    omega
theorem getD_take_rv (rs : List RV) (q i : Nat) (h : i < q) : (rs.take q).getD i .dflt = rs.getD i .dflt := by
  simp [List.getD_eq_getElem?_getD, h]
theorem getD_drop_rv (rs : List RV) (q i : Nat) : (rs.drop q).getD i .dflt = rs.getD (q + i) .dflt := by
  simp [List.getD_eq_getElem?_getD, List.getElem?_drop]
theorem RowsAt.take {w : World} {a : Option Addr} {n : Nat} {rs : List RV} (h : RowsAt w a n rs) (q : Nat) (hq : q ≤ n) : RowsAt w a q (rs.take q) := by
  refine ⟨by rw [List.length_take, h.1]; omega, fun i hi => by rw [getD_take_rv rs q i hi]; exact h.2.1 i (by omega), ?_⟩
  rcases h.2.2 with h0 | ⟨b, off, rfl, hc⟩
  · exact .inl (by omega)
  · exact .inr ⟨b, off, rfl, fun i hi => by rw [getD_take_rv rs q i hi]; exact hc i (by omega)⟩
theorem RowsAt.drop {w : World} {b off : Nat} {n : Nat} {rs : List RV} (h : RowsAt w (some ⟨b, off, none⟩) n rs) (q : Nat) (hq : q ≤ n) : RowsAt w (some ⟨b, off + q * 2, none⟩) (n - q) (rs.drop q) := by
  refine ⟨by rw [List.length_drop, h.1], fun i hi => by rw [getD_drop_rv]; exact h.2.1 _ (by omega), ?_⟩
  rcases h.2.2 with h0 | ⟨b', off', he, hc⟩
  · exact .inl (by omega)
  · simp only [Option.some.injEq, Addr.mk.injEq, and_true] at he
    obtain ⟨rfl, rfl⟩ := he
    refine .inr ⟨b, _, rfl, fun i hi => ?_⟩
    rw [getD_drop_rv, show off + q * 2 + i * 2 = off + (q + i) * 2 from by omega]
    exact hc (q + i) (by omega)

theorem info_row : (Tryz.prog.info? 40).map (fun i => (i.size, i.bytes)) = some (2, 40) := by kernel_rfl
theorem size_row (w : World) : (sizeOf 40).run Tryz.prog w = .ok 2 w := by
  cases h : Tryz.prog.info? 40 with
  | none => have := info_row; rw [h] at this; cases this
  | some i =>
    have := info_row
    rw [h] at this
    simp only [Option.map_some, Option.some.injEq, Prod.mk.injEq] at this
    simp [sizeOf, typeInfo, h, this.1]
theorem elem_rows : Tryz.prog.underlying 74 = some (.slice (Tryz.prog.elem 74)) := by kernel_rfl
theorem elem_rows' : Tryz.prog.elem 74 = 40 := by kernel_rfl
theorem slice_lo (b off n c q : Nat) (hq : q ≤ n) (hc : q < c) (w : World) :
    (Instr.sliceAt 74 (.slice (some ⟨b, off, none⟩) n c) (some (.int .i64 (q : Int))) none none).run Tryz.prog w = .ok (.slice (some ⟨b, off + q * 2, none⟩) (n - q) (c - q)) w := by
  rw [run_sliceAt_slice _ _ _ _ _ _ elem_rows, run_slice_l _ _ _ _ _ elem_rows _ _ (by omega) (by omega), elem_rows', size_row]
  have e : ¬ c = q := by omega
  simp [Result.andThen, sliced, e, Addr.add]
theorem slice_hi (b off n c q : Nat) (hc : q ≤ c) (w : World) :
    (Instr.sliceAt 74 (.slice (some ⟨b, off, none⟩) n c) none (some (.int .i64 (q : Int))) none).run Tryz.prog w = .ok (.slice (some ⟨b, off, none⟩) q c) w := by
  rw [run_sliceAt_slice _ _ _ _ _ _ elem_rows, run_slice_h _ _ _ _ _ elem_rows _ _ (by omega) (by omega), elem_rows', size_row]
  simp [Result.andThen, sliced, Addr.add]
set_option maxHeartbeats 600000 in
theorem vecs_any (N : Nat) : ∀ (a : Option Addr) (n c : Nat) (rs : List RV) (w : World), n ≤ N → RowsAt w a n rs → (∀ r ∈ rs, r.xs.length ≤ 10) → n ≤ 1048576 → n ≤ c → c ≤ 9223372036854775807 →
    Calls Tryz.prog 81 #[.slice a n c] w fun e w' => ∃ v, e = .returned v ∧ Own w' w.heap.size v (vecL rs) ∧ Below w.heap.size w w' := by
  induction N with
  | zero =>
    intro a n c rs w hN h hs hn hc hcc
    obtain rfl : n = 0 := by omega
    obtain rfl : rs = [] := List.eq_nil_of_length_eq_zero h.1
    go_enter Tryz.func81, Tryz.ntmps81
    go_wp2
    go_ret
    exact ⟨_, rfl, Own.nil _ _, Below.refl _ _⟩
  | succ N ih =>
    intro a n c rs w hN h hs hn hc hcc
    by_cases h0 : n = 0
    · subst h0
      obtain rfl : rs = [] := List.eq_nil_of_length_eq_zero h.1
      go_enter Tryz.func81, Tryz.ntmps81
      go_wp2
      go_ret
      exact ⟨_, rfl, Own.nil _ _, Below.refl _ _⟩
    by_cases h1 : n = 1
    · subst h1
      obtain ⟨r, rfl⟩ : ∃ r, rs = [r] := by
        match rs, h.1 with
        | [r], _ => exact ⟨r, rfl⟩
      have hr := h.2.1 0 (by omega)
      obtain ⟨b, off, rfl, hcl⟩ := h.at (i := 0) (by omega)
      obtain ⟨hc0, _⟩ := hcl 0 (by omega)
      have hl := hs r List.mem_cons_self
      have hv := hide (show xorL r.xs [] = vecL [r] from by rw [vecL_cons]; rfl)
      simp only [List.getD_cons_zero, Nat.zero_mul, Nat.add_zero] at hr hc0
      have hrn : r.n ≤ 10 := by rw [← hr.1]; exact hl
      have HR := hide hr
      clear h hcl hs hr ih
      go_enter Tryz.func81, Tryz.ntmps81
      go_wp2_with fail
      refine (xor_any r.a r.n r.c r.xs none 0 0 [] _ (unhide HR) (row_none _) (by omega) (by omega)).mono ?_
      rintro e w1 ⟨v, rfl, ho, hb⟩
      rw [unhide hv] at ho
      have HO := hide ho
      have HB := hide hb
      clear ho hb
      go_wp2
      go_ret
      exact ⟨_, rfl, unhide HO, unhide HB⟩
    have e0 : ((n : Int) == 0) = false := by simp; omega
    have e1 : ((n : Int) == 1) = false := by simp; omega
    obtain ⟨q, hq⟩ : ∃ q, n / 2 = q := ⟨_, rfl⟩
    have hqi : (n : Int) / 2 = (q : Int) := by omega
    have hqt : IntKind.i64.wrap ((n : Int).tdiv 2) = (q : Int) := by rw [Int.tdiv_eq_ediv_of_nonneg (by omega), hqi, IntKind.wrap_i64]; omega
    have hq1 : q ≤ N := by omega
    have hq2 : n - q ≤ N := by omega
    have hqn : q ≤ n := by omega
    have hqc : (q : Int) ≤ (c : Int) := by omega
    obtain ⟨b, off, rfl, hcl⟩ := h.at (i := 0) (by omega)
    have hb0 := (Below.refl w.heap.size w).drew
    have HT := hide ((h.take q hqn).below hb0)
    have HD := hide ((h.drop q hqn).below hb0)
    have HB0 := hide hb0
    have hqcn : q ≤ c := by omega
    have hs1 := slice_hi b off n c q hqcn
    have hs2 := slice_lo b off n c q hqn (by omega)
    have hq3 : q ≤ 1048576 := by omega
    have hq4 : n - q ≤ 1048576 := by omega
    have hq5 : n - q ≤ c - q := by omega
    have hq6 : c - q ≤ 9223372036854775807 := by omega
    have hst : Hid (∀ r ∈ rs.take q, r.xs.length ≤ 10) := hide (fun r hr => hs r (List.mem_of_mem_take hr))
    have hsd : Hid (∀ r ∈ rs.drop q, r.xs.length ≤ 10) := hide (fun r hr => hs r (List.mem_of_mem_drop hr))
    have HV := hide (show xorL (vecL (rs.take q)) (vecL (rs.drop q)) = vecL rs from by rw [← vecL_append, List.take_append_drop])
    have HL1 : Hid ((vecL (rs.take q)).length ≤ 1048576) := hide (by have := vecL_len _ (unhide hst); omega)
    have HL2 : Hid ((vecL (rs.drop q)).length ≤ 1048576) := hide (by have := vecL_len _ (unhide hsd); omega)
    have KA := hide (ih (some ⟨b, off, none⟩) q c (rs.take q) w.drew hq1 (unhide HT) (unhide hst) hq3 hqcn hcc)
    have KB : Hid (∀ w1, Below w.drew.heap.size w.drew w1 → Calls Tryz.prog 81 #[.slice (some ⟨b, off + q * 2, none⟩) (n - q) (c - q)] w1 fun e w' => ∃ v, e = .returned v ∧ Own w' w1.heap.size v (vecL (rs.drop q)) ∧ Below w1.heap.size w1 w') :=
      hide (fun w1 hb => ih (some ⟨b, off + q * 2, none⟩) (n - q) (c - q) (rs.drop q) w1 hq2 ((unhide HD).below hb) (unhide hsd) hq4 hq5 hq6)
    clear h hcl hs ih hq hqc hb0 HT HD hst hsd hq3 hq4 hq5 hq6 hq1 hq2
    go_enter Tryz.func81, Tryz.ntmps81
    go_wp2_with fail
    refine wp_region_any (by kernel_rfl) ?_
    change wpAny _ _ _ _ _ _ _ (World.drew _)
    refine wpAny_take (i := 0) (v := ?_) rfl (by kernel_rfl) (by kernel_rfl) (by kernel_rfl) (fun _ _ _ h => h) (Or.inl ⟨by rfl, ?f0⟩) ?_
    case f0 => (intro w; go_simp; try with_reducible rfl)
    refine wpAny_take (i := 1) (v := ?_) rfl (by kernel_rfl) (by kernel_rfl) (by kernel_rfl) (fun _ _ _ h => h) (Or.inl ⟨by rfl, ?f1⟩) ?_
    case f1 => (intro w; go_simp; try with_reducible rfl)
    refine wpAny_take (i := 2) (v := ?_) rfl (by kernel_rfl) (by kernel_rfl) (by kernel_rfl) (fun _ _ _ h => h) (Or.inl ⟨by rfl, ?f2⟩) ?_
    case f2 => (intro w; go_simp; try with_reducible rfl)
    refine wpAny_take (i := 4) (v := ?_) rfl (by kernel_rfl) (by kernel_rfl) (by kernel_rfl) (fun _ _ _ h => h) (Or.inl ⟨by rfl, ?f4⟩) ?_
    case f4 => (intro w; go_simp; try with_reducible rfl)
    refine wpAny_take (i := 5) (v := ?_) rfl (by kernel_rfl) (by kernel_rfl) (by kernel_rfl) (fun _ _ _ h => h) (Or.inl ⟨by rfl, ?f5⟩) ?_
    case f5 => (intro w; go_simp; try with_reducible rfl)
    refine wpAny_take (i := 6) (v := ?_) rfl (by kernel_rfl) (by kernel_rfl) (by kernel_rfl) (fun _ _ _ h => h) (Or.inl ⟨by rfl, ?f6⟩) ?_
    case f6 => (intro w; go_simp; try with_reducible rfl)
    refine wpAny_ready (rs := [3]) (by kernel_rfl) (by simp) ?_
    refine AllReady.cons rfl (fun K hK => ?_) AllReady.nil
    go_simp
    refine (unhide KA).mono ?_
    rintro e w1 ⟨v1, rfl, ho1, hb1⟩
    obtain ⟨a1, c1, rfl, hr1⟩ := ho1.row
    have HR1 := hide hr1
    have HB1 := hide hb1
    clear ho1 hr1 hb1 KA
    refine hK _ _ ?_
    clear hK K
    refine wpAny_ready (rs := [7]) (by kernel_rfl) (by simp) ?_
    refine AllReady.cons rfl (fun K hK => ?_) AllReady.nil
    go_simp
    refine (unhide KB _ (unhide HB1)).mono ?_
    rintro e w2 ⟨v2, rfl, ho2, hb2⟩
    obtain ⟨a2, c2, rfl, hr2⟩ := ho2.row
    have HR2 := hide hr2
    have HR12 := hide ((unhide HR1).below hb2)
    have HB2 := hide (below0 (below0 (unhide HB0) (unhide HB1)) hb2)
    clear ho2 hr2 hb2 HB1 HR1 KB
    refine hK _ _ ?_
    clear hK K
    refine wpAny_ready (rs := [8]) (by kernel_rfl) (by simp) ?_
    refine AllReady.cons rfl (fun K hK => ?_) AllReady.nil
    go_simp
    refine (xor_any _ _ _ _ _ _ _ _ _ (unhide HR12) (unhide HR2) (unhide HL1) (unhide HL2)).mono ?_
    rintro e w3 ⟨v3, rfl, ho3, hb3⟩
    rw [unhide HV] at ho3
    have HO3 := hide (ho3.mono (unhide HB2).size)
    have HB3 := hide (below0 (unhide HB2) hb3)
    obtain ⟨a3, c3, rfl, hr3⟩ := ho3.row
    clear ho3 hb3 hr3 HR2 HR12 HB2 HV HL1 HL2
    refine hK _ _ ?_
    clear hK K
    refine wpAny_take (i := 9) (v := ?_) rfl (by kernel_rfl) (by kernel_rfl) (by kernel_rfl) (fun _ _ _ h => h) (Or.inl ⟨by rfl, ?f9⟩) ?_
    case f9 => (intro w; go_simp; try with_reducible rfl)
    refine wpAny_done (by kernel_rfl) ?_ _
    go_wp2
    go_ret
    exact ⟨_, rfl, unhide HO3, unhide HB3⟩
end Go.Proofs.YtbcgiodgobmkaaaGreatDoor
