/-
  Contracts of peel.set and peel.drop, which change a row of one's own.
  Slices of rows of one's own, and 'append' of one row; 'append(own, make([]uint64, m)...)'.
  Contract of xor.vecs.
-/
import Derived.Test.YtnjdldbdkafnaaaGreatDoorYM
import Derived.Test.YtnjdldbdkafnaaaGreatDoorU7
import Derived.Test.YtnjdldbdkafnaaaGreatDoorU8
import Derived.OwnWalk
import Derived.Lib.AppendZeros
import Derived.Lib.AppendZerosOnto
namespace Go.Proofs.YtnjdldbdkafnaaaGreatDoor
open Go.RowKit Go.Sort
set_option linter.unusedVariables false
set_option linter.unusedSimpArgs false
set_option maxRecDepth 4000

set_option maxHeartbeats 1000000 in
theorem pset_any (B g cap : Nat) (xs : List Nat) (b : Nat) (w : World) (ho : Own w B (.slice (some ⟨g, 0, none⟩) xs.length cap) xs) (hb : b / 64 < xs.length) (hn : xs.length ≤ 1048576) :
    Calls Tryz.prog 130 #[.slice (some ⟨g, 0, none⟩) xs.length cap, .int .i64 (b : Int)] w fun e w' => e = .returned (.tuple #[]) ∧ Own w' B (.slice (some ⟨g, 0, none⟩) xs.length cap) (setB xs b true) ∧ w.grownBy w' (some g) := by
  obtain ⟨i, hi⟩ : ∃ i : Int, i = (b : Int) := ⟨_, rfl⟩
  rw [← hi]
  have h0 : 0 ≤ i := by omega
  have him : i ≤ 9223372036854775807 := by omega
  obtain ⟨q, hq⟩ := Int.eq_ofNat_of_zero_le (show 0 ≤ i / 64 by omega)
  have hql : q < xs.length := by omega
  have hql' : (q : Int) < (xs.length : Int) := by omega
  have hqw := div_wrap i q h0 him hq
  obtain ⟨g', cap', he, hBg, hgs, hcg, hfg⟩ := ho.at (by omega)
  simp only [Value.slice.injEq, Option.some.injEq, Addr.mk.injEq, true_and, and_true] at he
  obtain ⟨rfl, rfl⟩ := he
  have hcell := hcg q hql
  have hfz := hfg q
  have hx := ho.1.get q
  have hmk := mask_num i
  have hor := or_num (xs.getD q 0) i hx
  have R := hide (set_store (on := true) h0 hq ho.1 hBg ho (Below.refl B w)).1
  have RG := hide (fun u => gb_setCell w g q u)
  have HE : Hid (setI xs i true = setB xs b true) := hide (by unfold setI; rw [if_neg (by omega), hi, Int.toNat_natCast])
  generalize (2 ^ (i % 64).toNat : Nat) = mk at *
  generalize xs.getD q 0 = x at *
  generalize setW x (i % 64).toNat true = y at *
  clear hcg hfg ho hb hi
  go_enter Tryz.func130, Tryz.ntmps130
  go_wp2
  go_end0
  exact ⟨rfl, by rw [← unhide HE]; exact unhide R, unhide RG _⟩

theorem drop_round {wr : World} {B g cap : Nat} {xs ys : List Nat} {k : Nat} (hx : smalls xs) (hk : k < xs.length) (ho : Own wr B (.slice (some ⟨g, 0, none⟩) xs.length cap) (dropTo xs ys k)) :
    Own (wr.setCell ⟨g, k, none⟩ (.int .u64 ((anW (xs.getD k 0) (ys.getD k 0) : Nat) : Int))) B (.slice (some ⟨g, 0, none⟩) xs.length cap) (dropTo xs ys (k + 1)) := by
  have hl := dropTo_length xs ys k
  rw [← hl] at ho
  have := ho.stored k (anW (xs.getD k 0) (ys.getD k 0)) (anW_lt _ _ (hx.get k))
  rw [dropTo_succ xs ys k hk, hl] at this
  exact this

set_option maxHeartbeats 1000000 in
theorem drop_any (B : Nat) (a : Option Addr) (c : Nat) (xs : List Nat) (a' : Option Addr) (m c' : Nat) (ys : List Nat) (w : World) (ho : Own w B (.slice a xs.length c) xs) (h' : RowAt w a' m ys)
    (hap : m = 0 ∨ ∀ ad, a' = some ad → some ad.block ≠ (Value.slice a xs.length c).ownBlock) (hn : xs.length ≤ 1048576) (hm : m ≤ 1048576) :
    Calls Tryz.prog 127 #[.slice a xs.length c, .slice a' m c'] w fun e w' => e = .returned (.tuple #[]) ∧ Own w' B (.slice a xs.length c) (dropL xs ys) ∧ w.grownBy w' (Value.slice a xs.length c).ownBlock := by
  obtain rfl : m = ys.length := h'.1.symm
  have hmin := fun wx ts t => min_run xs.length ys.length ts t wx
  obtain ⟨mn, hmn⟩ : ∃ mn, mn = min xs.length ys.length := ⟨_, rfl⟩
  rw [← hmn] at hmin
  have hml : mn ≤ xs.length ∧ mn ≤ ys.length := by omega
  have HME := hide hmn
  clear hmn
  go_enter Tryz.func127, Tryz.ntmps127
  go_wp2
  go_loopw [10] (fun i wr => ∃ k : Nat, k ≤ mn ∧ i = .int .i64 k ∧ Hid (Own wr B (.slice a xs.length c) (dropTo xs ys k)) ∧ Hid (w.grownBy wr (Value.slice a xs.length c).ownBlock)) (fun i _ => mn - (intOf i).toNat)
  case atStart => exact ⟨0, Nat.zero_le _, rfl, hide (by rw [dropTo_zero]; exact ho), hide (gb_refl _ _)⟩
  case round =>
    obtain ⟨k, hk, rfl, HO, HB⟩ := hrel
    by_cases hlt : k < mn
    · obtain ⟨b', off', rfl, hc'⟩ := (h'.kept (unhide HB) hap).at (i := k) (by omega)
      have hkn : k < xs.length := by omega
      have hky : (k : Int) < (ys.length : Int) := by omega
      have hkx : (k : Int) < (xs.length : Int) := by omega
      obtain ⟨g, cap, he, hBg, hgs, hcg, hfg⟩ := (unhide HO).at (by rw [dropTo_length]; omega)
      rw [dropTo_length] at he
      simp only [Value.slice.injEq, true_and] at he
      obtain ⟨rfl, rfl⟩ := he
      have hcell' := hc' k (by omega)
      have hcell := hcg k (by rw [dropTo_length]; omega)
      have hfz := hfg k
      rw [dropTo_getD xs ys k k (by omega), if_neg (by omega)] at hcell
      have hxo := anW_num (xs.getD k 0) (ys.getD k 0) (ho.1.get k) (h'.2.1.get k)
      have R := hide (drop_round ho.1 hkn (unhide HO))
      have RG := hide (fun u => gb_trans (unhide HB) (gb_setCell _ g k u) (.inl rfl))
      generalize anW (xs.getD k 0) (ys.getD k 0) = z at *
      generalize xs.getD k 0 = x at *
      generalize ys.getD k 0 = y at *
      clear hc' hcg hfg h' HO ho hap
      have hlt' : (k : Int) < (mn : Int) := by omega
      go_wp2
      go_region
      all_goals go_wp2
      all_goals go_roundw
      all_goals first | exact ⟨k + 1, by omega, by go_num, hide (unhide R).drew, hide (gb_drew (unhide RG _))⟩ | (simp [intOf]; omega)
    · have hke : k = mn := by omega
      subst hke
      rw [dropTo_all xs ys _ (by have := unhide HME; omega)] at HO
      clear h' hap ho
      go_wp2
      go_end0
      exact ⟨rfl, unhide HO, unhide HB⟩
end Go.Proofs.YtnjdldbdkafnaaaGreatDoor
namespace Go.Proofs.YtnjdldbdkafnaaaGreatDoor
open Go.RowKit Go.Sort
set_option linter.unusedVariables false
set_option linter.unusedSimpArgs false
set_option maxRecDepth 4000

theorem info_rowZ : (Tryz.prog.info? 29).map (fun i => (i.zero, i.size, i.bytes)) = some (some (.agg #[.slice none 0 0, .string ⟨#[]⟩]), 2, 40) := by kernel_rfl
/-- The cells of rows. -/
def cellsR : List RV → List Value
  | [] => []
  | r :: rs => .slice r.a r.n r.c :: .string r.s :: cellsR rs
theorem cellsR_length : ∀ rs : List RV, (cellsR rs).length = rs.length * 2
  | [] => rfl
  | r :: rs => by simp [cellsR, cellsR_length rs]; omega
theorem cellsR_append : ∀ (a b : List RV), cellsR (a ++ b) = cellsR a ++ cellsR b
  | [], b => rfl
  | r :: a, b => by simp [cellsR, cellsR_append a b]
theorem cellsR_get : ∀ (rs : List RV) (i : Nat), i < rs.length → (cellsR rs)[i * 2]? = some (.slice (rs.getD i .dflt).a (rs.getD i .dflt).n (rs.getD i .dflt).c) ∧ (cellsR rs)[i * 2 + 1]? = some (.string (rs.getD i .dflt).s)
  | [], i, h => by simp at h
  | r :: rs, 0, _ => by simp [cellsR]
  | r :: rs, i + 1, h => by
    have := cellsR_get rs i (by simpa using h)
    rw [show (i + 1) * 2 = i * 2 + 1 + 1 by omega]
    simpa [cellsR] using this
theorem cellsR_one : ∀ (rs : List RV), ∀ u ∈ cellsR rs, u.oneCell' = true
  | [], u, h => by cases h
  | r :: rs, u, h => by
    rcases List.mem_cons.1 h with rfl | h
    · rfl
    · rcases List.mem_cons.1 h with rfl | h
      · rfl
      · exact cellsR_one rs u h
/-- A slice of rows of the call's own. -/
def OwnS (w : World) (B : Nat) (v : Value) (rs : List RV) : Prop := w.ownsRow B 29 2 v rs.length (cellsR rs)
theorem OwnS.nil (w : World) (B : Nat) : OwnS w B (.slice none 0 0) [] := World.ownsRow_nil _ _ _ _
theorem OwnS.cellAt {w : World} {B : Nat} {g n c : Nat} {rs : List RV} (h : OwnS w B (.slice (some ⟨g, 0, none⟩) n c) rs) {j : Nat} {u : Value} (hu : (cellsR rs)[j]? = some u) : w.cell? ⟨g, j, none⟩ = some u := by
  have := World.ownsRow.cells h (g := g) rfl j u hu
  rwa [show (⟨g, 0, none⟩ : Addr).add j = ⟨g, j, none⟩ by unfold Addr.add; split <;> simp_all] at this
theorem OwnS.rows {w : World} {B : Nat} {v : Value} {rs : List RV} (h : OwnS w B v rs) (hr : RowsIn w rs) : ∃ a c, v = .slice a rs.length c ∧ RowsAt w a rs.length rs ∧ rs.length ≤ c ∧ c ≤ 9223372036854775807 := by
  have h' := h
  rcases h.2 with ⟨rfl, h0⟩ | ⟨g, cap, cur, rfl, hb, hg, hn, hm, hsz, ht⟩
  · exact ⟨none, 0, by rw [h0], ⟨rfl, fun i hi => by omega, .inl h0⟩, by omega, by omega⟩
  · refine ⟨_, cap, rfl, ⟨rfl, fun i hi => (hr.get hi).1, .inr ⟨g, 0, rfl, fun i hi => ?_⟩⟩, hn, by simpa [maxLen] using hm⟩
    rw [Nat.zero_add]
    exact ⟨h'.cellAt (cellsR_get rs i hi).1, h'.cellAt (cellsR_get rs i hi).2⟩
theorem OwnS.mono {w : World} {B B' : Nat} {v : Value} {rs : List RV} (h : OwnS w B v rs) (hB : B' ≤ B) : OwnS w B' v rs := by
  refine ⟨h.1, ?_⟩
  rcases h.2 with h0 | ⟨g, cap, cur, h1, hb, r⟩
  · exact .inl h0
  · exact .inr ⟨g, cap, cur, h1, Nat.le_trans hB hb, r⟩
theorem OwnS.below {w w' : World} {B : Nat} {v : Value} {rs : List RV} (h : OwnS w B v rs) (hb : Below w.heap.size w w') : OwnS w' B v rs := by
  refine ⟨h.1, ?_⟩
  rcases h.2 with h0 | ⟨g, cap, cur, h1, hg, hgg, r⟩
  · exact .inl h0
  · exact .inr ⟨g, cap, cur, h1, hg, (hb.block g (Array.getElem?_eq_some_iff.1 hgg).1).trans hgg, r⟩
/-- What is turned in a row of words is no row of rows. -/
theorem OwnS.kept {w w' : World} {B B' g n c : Nat} {v : Value} {rs : List RV} {xs : List Nat} (h : OwnS w B v rs) (hg : w.grownBy w' (some g)) (ho : Own w B' (.slice (some ⟨g, 0, none⟩) n c) xs) : OwnS w' B v rs := by
  refine World.ownsRow.kept h hg ?_
  rcases h.2 with ⟨rfl, h0⟩ | ⟨g1, cap, cur, rfl, hb, hgg, r⟩
  · exact .inl rfl
  · refine .inr fun e => ?_
    simp only [Value.ownBlock, Option.some.injEq] at e
    subst e
    rcases ho.2.2 with ⟨e, _⟩ | ⟨g2, cap2, cur2, e, hb2, hg2, r2⟩
    · cases e
    · simp only [Value.slice.injEq, Option.some.injEq, Addr.mk.injEq, and_true] at e
      rw [← e.1, hgg] at hg2
      simp only [Option.some.injEq, Obj.cells.injEq] at hg2
      exact absurd hg2.2.1 (by decide)
/-- 'append(l, row)'. -/
theorem wpList_pushS {w : World} {ops : Array Oper} {rest : List Oper} {o : Oper} {act : Act} {Q : Exit → Act → World → Prop} (hgd : o.guard = none) (s x : Operand)
    (ho : o.op = .call { callee := .builtin .append, args := #[s, x], argTypes := #[32, 32] }) (B : Nat) (v : Value) (rs : List RV) (r : RV)
    (hs : act.eval s = v) (hx : act.eval x = .slice (some ⟨w.heap.size, 0, none⟩) 1 1) (h : OwnS w B v rs) (hB : B ≤ w.heap.size) (hn : rs.length ≤ 1048576)
    (hK : ∀ s' w', OwnS w' B s' (rs ++ [r]) → w.grownBy w' v.ownBlock → Below B w w' → wpList Tryz.prog ops Q rest (act.put o.dst s') w') : wpList Tryz.prog ops Q (o :: rest) act (w.alloc (.cells #[.slice r.a r.n r.c, .string r.s] 29)) := by
  obtain ⟨i0, hi, hz0, hz1, hz2⟩ := info_parts info_rowZ
  have hb : Below w.heap.size w (w.alloc (.cells #[.slice r.a r.n r.c, .string r.s] 29)) := (Below.refl _ _).alloc (Nat.le_refl _) _
  have h1 : (w.alloc (.cells #[.slice r.a r.n r.c, .string r.s] 29)).ownsRow B 29 2 v rs.length (cellsR rs) := h.below hb
  refine wpList_append_own _ hgd s x 32 ho B 29 i0 (.agg #[.slice none 0 0, .string ⟨#[]⟩]) 2 40 Tryz.underlying32 hi hz0 hz1 hz2 rfl (by decide) v rs.length (cellsR rs) hs h1 ⟨w.heap.size, 0, none⟩ 1 1 [.slice r.a r.n r.c, .string r.s] hx rfl (fun j u hj => ?_)
    (fun u hu => by rcases List.mem_cons.1 hu with rfl | hu; · rfl
                    · rw [List.mem_singleton.1 hu]; rfl) (by unfold maxLen; omega) (by omega) (Nat.le_trans hB hb.size) ?_
  · have e : (⟨w.heap.size, 0, none⟩ : Addr).add j = ⟨w.heap.size, j, none⟩ := by unfold Addr.add; split <;> simp_all
    rw [e, World.cell?_alloc_at _ _ _ _ rfl]
    match j with
    | 0 => simpa using hj
    | 1 => simpa using hj
    | j + 2 => simp at hj
  · intro v' w' hown hgrow _
    refine hK v' w' ?_ (gb_trans (gb_of_below hb _) hgrow (.inl rfl)) ((hb.mono hB).grown hgrow (Nat.le_trans hB hb.size) fun k hk => (h1.lt k hk).1)
    rw [show cellsR rs ++ [.slice r.a r.n r.c, .string r.s] = cellsR (rs ++ [r]) by rw [cellsR_append]; rfl] at hown
    show w'.ownsRow B 29 2 v' (rs ++ [r]).length (cellsR (rs ++ [r]))
    rw [List.length_append]
    exact hown
end Go.Proofs.YtnjdldbdkafnaaaGreatDoor
namespace Go.Proofs.YtnjdldbdkafnaaaGreatDoor
open Go.RowKit Go.Sort
set_option linter.unusedVariables false
set_option linter.unusedSimpArgs false
set_option maxRecDepth 4000

theorem getD_take_rv (rs : List RV) (q i : Nat) (h : i < q) : (rs.take q).getD i .dflt = rs.getD i .dflt := by
  simp [List.getD_eq_getElem?_getD, h]
theorem getD_drop_rv (rs : List RV) (q i : Nat) : (rs.drop q).getD i .dflt = rs.getD (q + i) .dflt := by
  simp [List.getD_eq_getElem?_getD, List.getElem?_drop]
theorem RowsAt.take {w : World} {a : Option Addr} {n : Nat} {rs : List RV} (h : RowsAt w a n rs) (q : Nat) (hq : q ≤ n) : RowsAt w a q (rs.take q) := by
  refine ⟨by rw [List.length_take, h.1]; omega, fun i hi => by rw [getD_take_rv rs q i hi]; exact h.2.1 i (by omega), ?_⟩
  rcases h.2.2 with h0 | ⟨b, off, rfl, hc⟩
  · exact .inl (by omega)
  · exact .inr ⟨b, off, rfl, fun i hi => by rw [getD_take_rv rs q i hi]; exact hc i (by omega)⟩
theorem RowsAt.drop {w : World} {b off : Nat} {n : Nat} {rs : List RV} (h : RowsAt w (some ⟨b, off, none⟩) n rs) (q : Nat) (hq : q ≤ n) : RowsAt w (some ⟨b, off + q * 2, none⟩) (n - q) (rs.drop q) := by
  refine ⟨by rw [List.length_drop, h.1], fun i hi => by rw [getD_drop_rv]; exact h.2.1 _ (by omega), ?_⟩
  rcases h.2.2 with h0 | ⟨b', off', he, hc⟩
  · exact .inl (by omega)
  · simp only [Option.some.injEq, Addr.mk.injEq, and_true] at he
    obtain ⟨rfl, rfl⟩ := he
    refine .inr ⟨b, _, rfl, fun i hi => ?_⟩
    rw [getD_drop_rv, show off + q * 2 + i * 2 = off + (q + i) * 2 from by omega]
    exact hc (q + i) (by omega)

theorem info_row : (Tryz.prog.info? 29).map (fun i => (i.size, i.bytes)) = some (2, 40) := by kernel_rfl
theorem size_row (w : World) : (sizeOf 29).run Tryz.prog w = .ok 2 w := by
  cases h : Tryz.prog.info? 29 with
  | none => have := info_row; rw [h] at this; cases this
  | some i =>
    have := info_row
    rw [h] at this
    simp only [Option.map_some, Option.some.injEq, Prod.mk.injEq] at this
    simp [sizeOf, typeInfo, h, this.1]
theorem elem_rows : Tryz.prog.underlying 32 = some (.slice (Tryz.prog.elem 32)) := by kernel_rfl
theorem elem_rows' : Tryz.prog.elem 32 = 29 := by kernel_rfl
theorem slice_hi (b off n c q : Nat) (hc : q ≤ c) (w : World) :
    (Instr.sliceAt 32 (.slice (some ⟨b, off, none⟩) n c) none (some (.int .i64 (q : Int))) none).run Tryz.prog w = .ok (.slice (some ⟨b, off, none⟩) q c) w := by
  rw [run_sliceAt_slice _ _ _ _ _ _ elem_rows, run_slice_h _ _ _ _ _ elem_rows _ _ (by omega) (by omega), elem_rows', size_row]
  simp [Result.andThen, sliced, Addr.add]
end Go.Proofs.YtnjdldbdkafnaaaGreatDoor
