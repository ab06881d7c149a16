/-
  Contracts of peel.set and peel.drop, which change a row of one's own.
  Slices of rows of one's own, and 'append' of one row; 'append(own, make([]uint64, m)...)'.
  Contract of xor.vecs.
  Rows in memory, on: their cores, slices of rows that are made and filled, or that two slices share; contract of bucketlineref02.All, of equal rows.
-/
import Derived.Test.YtnjdldbdkafnaaaGreatDoorYM
import Derived.Test.YtnjdldbdkafnaaaGreatDoorU4
import Derived.Test.YtnjdldbdkafnaaaGreatDoorU6
import Derived.OwnWalk
import Derived.Lib.AppendZeros
import Derived.Lib.AppendZerosOnto
namespace Go.Proofs.YtnjdldbdkafnaaaGreatDoor
open Go.RowKit Go.Sort
set_option linter.unusedVariables false
set_option linter.unusedSimpArgs false
set_option maxRecDepth 4000

set_option maxHeartbeats 1000000 in
theorem pset_any (B g cap : Nat) (xs : List Nat) (b : Nat) (w : World) (ho : Own w B (.slice (some ⟨g, 0, none⟩) xs.length cap) xs) (hb : b / 64 < xs.length) (hn : xs.length ≤ 1048576) :
    Calls Tryz.prog 130 #[.slice (some ⟨g, 0, none⟩) xs.length cap, .int .i64 (b : Int)] w fun e w' => e = .returned (.tuple #[]) ∧ Own w' B (.slice (some ⟨g, 0, none⟩) xs.length cap) (setB xs b true) ∧ w.grownBy w' (some g) := by
  obtain ⟨i, hi⟩ : ∃ i : Int, i = (b : Int) := ⟨_, rfl⟩
  rw [← hi]
  have h0 : 0 ≤ i := by omega
  have him : i ≤ 9223372036854775807 := by omega
  obtain ⟨q, hq⟩ := Int.eq_ofNat_of_zero_le (show 0 ≤ i / 64 by omega)
  have hql : q < xs.length := by omega
  have hql' : (q : Int) < (xs.length : Int) := by omega
  have hqw := div_wrap i q h0 him hq
  obtain ⟨g', cap', he, hBg, hgs, hcg, hfg⟩ := ho.at (by omega)
  simp only [Value.slice.injEq, Option.some.injEq, Addr.mk.injEq, true_and, and_true] at he
  obtain ⟨rfl, rfl⟩ := he
  have hcell := hcg q hql
  have hfz := hfg q
  have hx := ho.1.get q
  have hmk := mask_num i
  have hor := or_num (xs.getD q 0) i hx
  have R := hide (set_store (on := true) h0 hq ho.1 hBg ho (Below.refl B w)).1
  have RG := hide (fun u => gb_setCell w g q u)
  have HE : Hid (setI xs i true = setB xs b true) := hide (by unfold setI; rw [if_neg (by omega), hi, Int.toNat_natCast])
  generalize (2 ^ (i % 64).toNat : Nat) = mk at *
  generalize xs.getD q 0 = x at *
  generalize setW x (i % 64).toNat true = y at *
  clear hcg hfg ho hb hi
  go_enter Tryz.func130, Tryz.ntmps130
  go_wp2
  go_end0
  exact ⟨rfl, by rw [← unhide HE]; exact unhide R, unhide RG _⟩

theorem drop_round {wr : World} {B g cap : Nat} {xs ys : List Nat} {k : Nat} (hx : smalls xs) (hk : k < xs.length) (ho : Own wr B (.slice (some ⟨g, 0, none⟩) xs.length cap) (dropTo xs ys k)) :
    Own (wr.setCell ⟨g, k, none⟩ (.int .u64 ((anW (xs.getD k 0) (ys.getD k 0) : Nat) : Int))) B (.slice (some ⟨g, 0, none⟩) xs.length cap) (dropTo xs ys (k + 1)) := by
  have hl := dropTo_length xs ys k
  rw [← hl] at ho
  have := ho.stored k (anW (xs.getD k 0) (ys.getD k 0)) (anW_lt _ _ (hx.get k))
  rw [dropTo_succ xs ys k hk, hl] at this
  exact this

set_option maxHeartbeats 1000000 in
theorem drop_any (B : Nat) (a : Option Addr) (c : Nat) (xs : List Nat) (a' : Option Addr) (m c' : Nat) (ys : List Nat) (w : World) (ho : Own w B (.slice a xs.length c) xs) (h' : RowAt w a' m ys)
    (hap : m = 0 ∨ ∀ ad, a' = some ad → some ad.block ≠ (Value.slice a xs.length c).ownBlock) (hn : xs.length ≤ 1048576) (hm : m ≤ 1048576) :
    Calls Tryz.prog 127 #[.slice a xs.length c, .slice a' m c'] w fun e w' => e = .returned (.tuple #[]) ∧ Own w' B (.slice a xs.length c) (dropL xs ys) ∧ w.grownBy w' (Value.slice a xs.length c).ownBlock := by
  obtain rfl : m = ys.length := h'.1.symm
  have hmin := fun wx ts t => min_run xs.length ys.length ts t wx
  obtain ⟨mn, hmn⟩ : ∃ mn, mn = min xs.length ys.length := ⟨_, rfl⟩
  rw [← hmn] at hmin
  have hml : mn ≤ xs.length ∧ mn ≤ ys.length := by omega
  have HME := hide hmn
  clear hmn
  go_enter Tryz.func127, Tryz.ntmps127
  go_wp2
  go_loopw [10] (fun i wr => ∃ k : Nat, k ≤ mn ∧ i = .int .i64 k ∧ Hid (Own wr B (.slice a xs.length c) (dropTo xs ys k)) ∧ Hid (w.grownBy wr (Value.slice a xs.length c).ownBlock)) (fun i _ => mn - (intOf i).toNat)
  case atStart => exact ⟨0, Nat.zero_le _, rfl, hide (by rw [dropTo_zero]; exact ho), hide (gb_refl _ _)⟩
  case round =>
    obtain ⟨k, hk, rfl, HO, HB⟩ := hrel
    by_cases hlt : k < mn
    · obtain ⟨b', off', rfl, hc'⟩ := (h'.kept (unhide HB) hap).at (i := k) (by omega)
      have hkn : k < xs.length := by omega
      have hky : (k : Int) < (ys.length : Int) := by omega
      have hkx : (k : Int) < (xs.length : Int) := by omega
      obtain ⟨g, cap, he, hBg, hgs, hcg, hfg⟩ := (unhide HO).at (by rw [dropTo_length]; omega)
      rw [dropTo_length] at he
      simp only [Value.slice.injEq, true_and] at he
      obtain ⟨rfl, rfl⟩ := he
      have hcell' := hc' k (by omega)
      have hcell := hcg k (by rw [dropTo_length]; omega)
      have hfz := hfg k
      rw [dropTo_getD xs ys k k (by omega), if_neg (by omega)] at hcell
      have hxo := anW_num (xs.getD k 0) (ys.getD k 0) (ho.1.get k) (h'.2.1.get k)
      have R := hide (drop_round ho.1 hkn (unhide HO))
      have RG := hide (fun u => gb_trans (unhide HB) (gb_setCell _ g k u) (.inl rfl))
      generalize anW (xs.getD k 0) (ys.getD k 0) = z at *
      generalize xs.getD k 0 = x at *
      generalize ys.getD k 0 = y at *
      clear hc' hcg hfg h' HO ho hap
      have hlt' : (k : Int) < (mn : Int) := by omega
      go_wp2
      go_region
      all_goals go_wp2
      all_goals go_roundw
      all_goals first | exact ⟨k + 1, by omega, by go_num, hide (unhide R).drew, hide (gb_drew (unhide RG _))⟩ | (simp [intOf]; omega)
    · have hke : k = mn := by omega
      subst hke
      rw [dropTo_all xs ys _ (by have := unhide HME; omega)] at HO
      clear h' hap ho
      go_wp2
      go_end0
      exact ⟨rfl, unhide HO, unhide HB⟩
end Go.Proofs.YtnjdldbdkafnaaaGreatDoor
namespace Go.Proofs.YtnjdldbdkafnaaaGreatDoor
open Go.RowKit Go.Sort
set_option linter.unusedVariables false
set_option linter.unusedSimpArgs false
set_option maxRecDepth 4000

theorem info_rowZ : (Tryz.prog.info? 29).map (fun i => (i.zero, i.size, i.bytes)) = some (some (.agg #[.slice none 0 0, .string ⟨#[]⟩]), 2, 40) := by kernel_rfl
/-- The cells of rows. -/
def cellsR : List RV → List Value
  | [] => []
  | r :: rs => .slice r.a r.n r.c :: .string r.s :: cellsR rs
theorem cellsR_length : ∀ rs : List RV, (cellsR rs).length = rs.length * 2
  | [] => rfl
  | r :: rs => by simp [cellsR, cellsR_length rs]; omega
theorem cellsR_append : ∀ (a b : List RV), cellsR (a ++ b) = cellsR a ++ cellsR b
  | [], b => rfl
  | r :: a, b => by simp [cellsR, cellsR_append a b]
theorem cellsR_get : ∀ (rs : List RV) (i : Nat), i < rs.length → (cellsR rs)[i * 2]? = some (.slice (rs.getD i .dflt).a (rs.getD i .dflt).n (rs.getD i .dflt).c) ∧ (cellsR rs)[i * 2 + 1]? = some (.string (rs.getD i .dflt).s)
  | [], i, h => by simp at h
  | r :: rs, 0, _ => by simp [cellsR]
  | r :: rs, i + 1, h => by
    have := cellsR_get rs i (by simpa using h)
    rw [show (i + 1) * 2 = i * 2 + 1 + 1 by omega]
    simpa [cellsR] using this
theorem cellsR_one : ∀ (rs : List RV), ∀ u ∈ cellsR rs, u.oneCell' = true
  | [], u, h => by cases h
  | r :: rs, u, h => by
    rcases List.mem_cons.1 h with rfl | h
    · rfl
    · rcases List.mem_cons.1 h with rfl | h
      · rfl
      · exact cellsR_one rs u h
/-- A slice of rows of the call's own. -/
def OwnS (w : World) (B : Nat) (v : Value) (rs : List RV) : Prop := w.ownsRow B 29 2 v rs.length (cellsR rs)
theorem OwnS.nil (w : World) (B : Nat) : OwnS w B (.slice none 0 0) [] := World.ownsRow_nil _ _ _ _
theorem OwnS.cellAt {w : World} {B : Nat} {g n c : Nat} {rs : List RV} (h : OwnS w B (.slice (some ⟨g, 0, none⟩) n c) rs) {j : Nat} {u : Value} (hu : (cellsR rs)[j]? = some u) : w.cell? ⟨g, j, none⟩ = some u := by
  have := World.ownsRow.cells h (g := g) rfl j u hu
  rwa [show (⟨g, 0, none⟩ : Addr).add j = ⟨g, j, none⟩ by unfold Addr.add; split <;> simp_all] at this
theorem OwnS.rows {w : World} {B : Nat} {v : Value} {rs : List RV} (h : OwnS w B v rs) (hr : RowsIn w rs) : ∃ a c, v = .slice a rs.length c ∧ RowsAt w a rs.length rs ∧ rs.length ≤ c ∧ c ≤ 9223372036854775807 := by
  have h' := h
  rcases h.2 with ⟨rfl, h0⟩ | ⟨g, cap, cur, rfl, hb, hg, hn, hm, hsz, ht⟩
  · exact ⟨none, 0, by rw [h0], ⟨rfl, fun i hi => by omega, .inl h0⟩, by omega, by omega⟩
  · refine ⟨_, cap, rfl, ⟨rfl, fun i hi => (hr.get hi).1, .inr ⟨g, 0, rfl, fun i hi => ?_⟩⟩, hn, by simpa [maxLen] using hm⟩
    rw [Nat.zero_add]
    exact ⟨h'.cellAt (cellsR_get rs i hi).1, h'.cellAt (cellsR_get rs i hi).2⟩
theorem OwnS.mono {w : World} {B B' : Nat} {v : Value} {rs : List RV} (h : OwnS w B v rs) (hB : B' ≤ B) : OwnS w B' v rs := by
  refine ⟨h.1, ?_⟩
  rcases h.2 with h0 | ⟨g, cap, cur, h1, hb, r⟩
  · exact .inl h0
  · exact .inr ⟨g, cap, cur, h1, Nat.le_trans hB hb, r⟩
theorem OwnS.below {w w' : World} {B : Nat} {v : Value} {rs : List RV} (h : OwnS w B v rs) (hb : Below w.heap.size w w') : OwnS w' B v rs := by
  refine ⟨h.1, ?_⟩
  rcases h.2 with h0 | ⟨g, cap, cur, h1, hg, hgg, r⟩
  · exact .inl h0
  · exact .inr ⟨g, cap, cur, h1, hg, (hb.block g (Array.getElem?_eq_some_iff.1 hgg).1).trans hgg, r⟩
/-- What is turned in a row of words is no row of rows. -/
theorem OwnS.kept {w w' : World} {B B' g n c : Nat} {v : Value} {rs : List RV} {xs : List Nat} (h : OwnS w B v rs) (hg : w.grownBy w' (some g)) (ho : Own w B' (.slice (some ⟨g, 0, none⟩) n c) xs) : OwnS w' B v rs := by
  refine World.ownsRow.kept h hg ?_
  rcases h.2 with ⟨rfl, h0⟩ | ⟨g1, cap, cur, rfl, hb, hgg, r⟩
  · exact .inl rfl
  · refine .inr fun e => ?_
    simp only [Value.ownBlock, Option.some.injEq] at e
    subst e
    rcases ho.2.2 with ⟨e, _⟩ | ⟨g2, cap2, cur2, e, hb2, hg2, r2⟩
    · cases e
    · simp only [Value.slice.injEq, Option.some.injEq, Addr.mk.injEq, and_true] at e
      rw [← e.1, hgg] at hg2
      simp only [Option.some.injEq, Obj.cells.injEq] at hg2
      exact absurd hg2.2.1 (by decide)
/-- 'append(l, row)'. -/
theorem wpList_pushS {w : World} {ops : Array Oper} {rest : List Oper} {o : Oper} {act : Act} {Q : Exit → Act → World → Prop} (hgd : o.guard = none) (s x : Operand)
    (ho : o.op = .call { callee := .builtin .append, args := #[s, x], argTypes := #[32, 32] }) (B : Nat) (v : Value) (rs : List RV) (r : RV)
    (hs : act.eval s = v) (hx : act.eval x = .slice (some ⟨w.heap.size, 0, none⟩) 1 1) (h : OwnS w B v rs) (hB : B ≤ w.heap.size) (hn : rs.length ≤ 1048576)
    (hK : ∀ s' w', OwnS w' B s' (rs ++ [r]) → w.grownBy w' v.ownBlock → Below B w w' → wpList Tryz.prog ops Q rest (act.put o.dst s') w') : wpList Tryz.prog ops Q (o :: rest) act (w.alloc (.cells #[.slice r.a r.n r.c, .string r.s] 29)) := by
  obtain ⟨i0, hi, hz0, hz1, hz2⟩ := info_parts info_rowZ
  have hb : Below w.heap.size w (w.alloc (.cells #[.slice r.a r.n r.c, .string r.s] 29)) := (Below.refl _ _).alloc (Nat.le_refl _) _
  have h1 : (w.alloc (.cells #[.slice r.a r.n r.c, .string r.s] 29)).ownsRow B 29 2 v rs.length (cellsR rs) := h.below hb
  refine wpList_append_own _ hgd s x 32 ho B 29 i0 (.agg #[.slice none 0 0, .string ⟨#[]⟩]) 2 40 Tryz.underlying32 hi hz0 hz1 hz2 rfl (by decide) v rs.length (cellsR rs) hs h1 ⟨w.heap.size, 0, none⟩ 1 1 [.slice r.a r.n r.c, .string r.s] hx rfl (fun j u hj => ?_)
    (fun u hu => by rcases List.mem_cons.1 hu with rfl | hu; · rfl
                    · rw [List.mem_singleton.1 hu]; rfl) (by unfold maxLen; omega) (by omega) (Nat.le_trans hB hb.size) ?_
  · have e : (⟨w.heap.size, 0, none⟩ : Addr).add j = ⟨w.heap.size, j, none⟩ := by unfold Addr.add; split <;> simp_all
    rw [e, World.cell?_alloc_at _ _ _ _ rfl]
    match j with
    | 0 => simpa using hj
    | 1 => simpa using hj
    | j + 2 => simp at hj
  · intro v' w' hown hgrow _
    refine hK v' w' ?_ (gb_trans (gb_of_below hb _) hgrow (.inl rfl)) ((hb.mono hB).grown hgrow (Nat.le_trans hB hb.size) fun k hk => (h1.lt k hk).1)
    rw [show cellsR rs ++ [.slice r.a r.n r.c, .string r.s] = cellsR (rs ++ [r]) by rw [cellsR_append]; rfl] at hown
    show w'.ownsRow B 29 2 v' (rs ++ [r]).length (cellsR (rs ++ [r]))
    rw [List.length_append]
    exact hown
end Go.Proofs.YtnjdldbdkafnaaaGreatDoor
namespace Go.Proofs.YtnjdldbdkafnaaaGreatDoor
open Go.RowKit Go.Sort
set_option linter.unusedVariables false
set_option linter.unusedSimpArgs false
set_option maxRecDepth 4000

/-- The xor of all rows' words. -/
def vecL (rs : List RV) : List Nat := rs.foldl (fun a r => xorL a r.xs) []
theorem vecL_from (rs : List RV) : ∀ a, rs.foldl (fun a r => xorL a r.xs) a = xorL a (vecL rs) := by
  induction rs with
  | nil => intro a; exact (xorL_nil a).symm
  | cons r rs ih =>
    intro a
    show rs.foldl _ (xorL a r.xs) = xorL a (rs.foldl _ (xorL [] r.xs))
    rw [ih, ih (xorL [] r.xs), nil_xorL, xorL_assoc]
theorem vecL_cons (r : RV) (rs : List RV) : vecL (r :: rs) = xorL r.xs (vecL rs) := by
  show rs.foldl _ (xorL [] r.xs) = _
  rw [vecL_from, nil_xorL]
theorem vecL_len (rs : List RV) (h : ∀ r ∈ rs, r.xs.length ≤ 10) : (vecL rs).length ≤ 10 := by
  induction rs with
  | nil => simp [vecL]
  | cons r rs ih =>
    rw [vecL_cons, xorL_length]
    have h1 := h r List.mem_cons_self
    have h2 := ih (fun r hr => h r (List.mem_cons_of_mem _ hr))
    omega
theorem getD_take_rv (rs : List RV) (q i : Nat) (h : i < q) : (rs.take q).getD i .dflt = rs.getD i .dflt := by
  simp [List.getD_eq_getElem?_getD, h]
theorem getD_drop_rv (rs : List RV) (q i : Nat) : (rs.drop q).getD i .dflt = rs.getD (q + i) .dflt := by
  simp [List.getD_eq_getElem?_getD, List.getElem?_drop]
theorem RowsAt.take {w : World} {a : Option Addr} {n : Nat} {rs : List RV} (h : RowsAt w a n rs) (q : Nat) (hq : q ≤ n) : RowsAt w a q (rs.take q) := by
  refine ⟨by rw [List.length_take, h.1]; omega, fun i hi => by rw [getD_take_rv rs q i hi]; exact h.2.1 i (by omega), ?_⟩
  rcases h.2.2 with h0 | ⟨b, off, rfl, hc⟩
  · exact .inl (by omega)
  · exact .inr ⟨b, off, rfl, fun i hi => by rw [getD_take_rv rs q i hi]; exact hc i (by omega)⟩
theorem RowsAt.drop {w : World} {b off : Nat} {n : Nat} {rs : List RV} (h : RowsAt w (some ⟨b, off, none⟩) n rs) (q : Nat) (hq : q ≤ n) : RowsAt w (some ⟨b, off + q * 2, none⟩) (n - q) (rs.drop q) := by
  refine ⟨by rw [List.length_drop, h.1], fun i hi => by rw [getD_drop_rv]; exact h.2.1 _ (by omega), ?_⟩
  rcases h.2.2 with h0 | ⟨b', off', he, hc⟩
  · exact .inl (by omega)
  · simp only [Option.some.injEq, Addr.mk.injEq, and_true] at he
    obtain ⟨rfl, rfl⟩ := he
    refine .inr ⟨b, _, rfl, fun i hi => ?_⟩
    rw [getD_drop_rv, show off + q * 2 + i * 2 = off + (q + i) * 2 from by omega]
    exact hc (q + i) (by omega)

theorem info_row : (Tryz.prog.info? 29).map (fun i => (i.size, i.bytes)) = some (2, 40) := by kernel_rfl
theorem size_row (w : World) : (sizeOf 29).run Tryz.prog w = .ok 2 w := by
  cases h : Tryz.prog.info? 29 with
  | none => have := info_row; rw [h] at this; cases this
  | some i =>
    have := info_row
    rw [h] at this
    simp only [Option.map_some, Option.some.injEq, Prod.mk.injEq] at this
    simp [sizeOf, typeInfo, h, this.1]
theorem elem_rows : Tryz.prog.underlying 32 = some (.slice (Tryz.prog.elem 32)) := by kernel_rfl
theorem elem_rows' : Tryz.prog.elem 32 = 29 := by kernel_rfl
theorem slice_hi (b off n c q : Nat) (hc : q ≤ c) (w : World) :
    (Instr.sliceAt 32 (.slice (some ⟨b, off, none⟩) n c) none (some (.int .i64 (q : Int))) none).run Tryz.prog w = .ok (.slice (some ⟨b, off, none⟩) q c) w := by
  rw [run_sliceAt_slice _ _ _ _ _ _ elem_rows, run_slice_h _ _ _ _ _ elem_rows _ _ (by omega) (by omega), elem_rows', size_row]
  simp [Result.andThen, sliced, Addr.add]
end Go.Proofs.YtnjdldbdkafnaaaGreatDoor
namespace Go.Proofs.YtnjdldbdkafnaaaGreatDoor
open Go.RowKit Go.Sort
set_option linter.unusedVariables false
set_option linter.unusedSimpArgs false
set_option maxRecDepth 4000

/-- A row, as it is compared. -/
def core (r : RV) : List Nat × ByteArray := (r.xs, r.s)
/-- Each of the rows lies below B, or in a block of words. -/
def Tys (w : World) (B : Nat) (ts : List RV) : Prop := ∀ r ∈ ts, r.n = 0 ∨ ∃ b off, r.a = some ⟨b, off, none⟩ ∧ (b < B ∨ ∃ cur m, w.heap[b]? = some (.cells cur 53 m))
theorem Tys.nil (w : World) (B : Nat) : Tys w B [] := fun r hr => by cases hr
theorem Tys.below {w w' : World} {B : Nat} {ts : List RV} (h : Tys w B ts) (hb : Below w.heap.size w w') : Tys w' B ts := fun r hr => by
  rcases h r hr with h0 | ⟨b, off, e, h1 | ⟨cur, m, hc⟩⟩
  · exact .inl h0
  · exact .inr ⟨b, off, e, .inl h1⟩
  · exact .inr ⟨b, off, e, .inr ⟨cur, m, (hb.block b (Array.getElem?_eq_some_iff.1 hc).1).trans hc⟩⟩
theorem Tys.mono {w : World} {B B' : Nat} {ts : List RV} (h : Tys w B ts) (hB : B ≤ B') : Tys w B' ts := fun r hr => by
  rcases h r hr with h0 | ⟨b, off, e, h1 | h1⟩
  · exact .inl h0
  · exact .inr ⟨b, off, e, .inl (by omega)⟩
  · exact .inr ⟨b, off, e, .inr h1⟩
theorem Tys.append {w : World} {B : Nat} {ts us : List RV} (h : Tys w B ts) (k : Tys w B us) : Tys w B (ts ++ us) := fun r hr => (List.mem_append.1 hr).elim (h r) (k r)
theorem OwnS.lt' {w : World} {B : Nat} {v : Value} {rs : List RV} (h : OwnS w B v rs) {k : Nat} (hk : v.ownBlock = some k) : B ≤ k ∧ k < w.heap.size := World.ownsRow.lt h k hk
theorem OwnS.blk {w : World} {B g : Nat} {v : Value} {rs : List RV} (h : OwnS w B v rs) (hk : v.ownBlock = some g) : ∃ cur, w.heap[g]? = some (.cells cur 29 (0, 0)) := by
  rcases h.2 with ⟨rfl, _⟩ | ⟨g', cap, cur, rfl, _, hg, _⟩
  · cases hk
  · simp only [Value.ownBlock, Option.some.injEq] at hk
    exact ⟨cur, by rw [← hk]; exact hg⟩
theorem tys_ne {w : World} {B b : Nat} {v : Value} {rs : List RV} (ho : OwnS w B v rs) (h : b < B ∨ ∃ cur m, w.heap[b]? = some (.cells cur 53 m)) : some b ≠ v.ownBlock := fun e => by
  obtain ⟨cur, hc⟩ := ho.blk e.symm
  rcases h with h | ⟨cur2, m, h⟩
  · have := (ho.lt' e.symm).1; omega
  · rw [hc] at h
    simp only [Option.some.injEq, Obj.cells.injEq] at h
    exact absurd h.2.1 (by decide)
theorem Tys.pushed {w w' : World} {B : Nat} {v : Value} {rs ts : List RV} (h : Tys w B ts) (ho : OwnS w B v rs) (hg : w.grownBy w' v.ownBlock) : Tys w' B ts := fun r hr => by
  rcases h r hr with h0 | ⟨b, off, e, h1⟩
  · exact .inl h0
  · have hne := tys_ne ho h1
    rcases h1 with h1 | ⟨cur, m, hc⟩
    · exact .inr ⟨b, off, e, .inl h1⟩
    · exact .inr ⟨b, off, e, .inr ⟨cur, m, (hg.block b (Array.getElem?_eq_some_iff.1 hc).1 hne).trans hc⟩⟩
theorem RowsIn.pushed {w w' : World} {B : Nat} {v : Value} {rs ts : List RV} (h : RowsIn w ts) (ht : Tys w B ts) (ho : OwnS w B v rs) (hg : w.grownBy w' v.ownBlock) : RowsIn w' ts := fun r hr => ⟨by
  refine (h r hr).1.kept hg ?_
  rcases ht r hr with h0 | ⟨b, off, e, h1⟩
  · exact .inl h0
  · refine .inr fun ad e2 => ?_
    rw [e] at e2
    simp only [Option.some.injEq] at e2
    subst e2
    exact tys_ne ho h1, (h r hr).2⟩
theorem Tys.own {w : World} {B B' : Nat} {a : Option Addr} {n c : Nat} {xs : List Nat} {s : ByteArray} (h : Own w B' (.slice a n c) xs) : Tys w B [⟨a, n, c, xs, s⟩] := fun r hr => by
  rw [List.mem_singleton.1 hr]
  rcases h.2.2 with ⟨e, h0⟩ | ⟨g, cap, cur, e, _, hg, _⟩
  · simp only [Value.slice.injEq] at e
    exact .inl e.2.1
  · simp only [Value.slice.injEq] at e
    exact .inr ⟨g, 0, e.1, .inr ⟨cur, _, hg⟩⟩
/-- What a round that gathers rows leaves. -/
def GaS (w wr : World) (a1 : Option Addr) (m1 c1 : Nat) (L : List (List Nat × ByteArray)) (ts : List RV) : Prop :=
  OwnS wr w.heap.size (.slice a1 m1 c1) ts ∧ RowsIn wr ts ∧ Tys wr w.heap.size ts ∧ ts.map core = L ∧ Below w.heap.size w wr
theorem GaS.nil (w : World) : GaS w w none 0 0 [] [] := ⟨OwnS.nil _ _, RowsIn.nil _, Tys.nil _ _, rfl, Below.refl _ _⟩
theorem GaS.below {w wr w1 : World} {a1 : Option Addr} {m1 c1 : Nat} {L : List (List Nat × ByteArray)} {ts : List RV} (h : GaS w wr a1 m1 c1 L ts) (hb : Below wr.heap.size wr w1) : GaS w w1 a1 m1 c1 L ts := ⟨h.1.below hb, h.2.1.below hb, h.2.2.1.below hb, h.2.2.2.1, below0 h.2.2.2.2 hb⟩
theorem GaS.push {w wr w1 : World} {a1 : Option Addr} {m1 c1 : Nat} {L : List (List Nat × ByteArray)} {ts : List RV} {r : RV} {v2 : Value} (h : GaS w wr a1 m1 c1 L ts) (hr : RowsIn wr [r]) (ht : Tys wr w.heap.size [r]) (ho : OwnS w1 w.heap.size v2 (ts ++ [r])) (hg : wr.grownBy w1 (Value.slice a1 m1 c1).ownBlock) (hb : Below w.heap.size wr w1) :
    ∃ a2 m2 c2, v2 = .slice a2 m2 c2 ∧ GaS w w1 a2 m2 c2 (L ++ [core r]) (ts ++ [r]) := by
  obtain ⟨h1, h2, h3, h4, h5⟩ := h
  have hR := (h2.append hr).pushed (h3.append ht) h1 hg
  obtain ⟨a2, c2, e, _⟩ := ho.rows hR
  exact ⟨a2, _, c2, e, by rw [← e]; exact ho, hR, (h3.append ht).pushed h1 hg, by rw [List.map_append, h4]; rfl, h5.trans hb⟩
/-- Each row has as much room as words. -/
def CapR (rs : List RV) : Prop := ∀ i, i < rs.length → (rs.getD i .dflt).n ≤ (rs.getD i .dflt).c
theorem tys_old {w w' : World} {r : RV} (h : RowAt w r.a r.n r.xs) : Tys w' w.heap.size [r] := fun x hx => by
  rw [List.mem_singleton.1 hx]
  rcases h.2.2 with h0 | ⟨b, off, e, hc⟩
  · exact .inl h0
  · by_cases h0 : r.n = 0
    · exact .inl h0
    · exact .inr ⟨b, off, e, .inl (World.block_lt_of_cell? w _ (hc 0 (by omega)))⟩
theorem take_snocR (ks : List RV) (k : Nat) (hk : k < ks.length) : ks.take k ++ [ks.getD k .dflt] = ks.take (k + 1) := by
  rw [List.take_succ_eq_append_getElem hk]
  simp [List.getD_eq_getElem?_getD, List.getElem?_eq_getElem hk]
theorem OwnS.shape {w : World} {B : Nat} {v : Value} {rs : List RV} (h : OwnS w B v rs) : ∃ a c, v = .slice a rs.length c := by
  rcases h.2 with ⟨rfl, h0⟩ | ⟨g, cap, cur, rfl, _⟩
  · exact ⟨none, 0, by rw [h0]⟩
  · exact ⟨_, cap, rfl⟩
theorem core_at {ts : List RV} {L : List (List Nat × ByteArray)} (h : ts.map core = L) {i : Nat} (hi : i < ts.length) : (L.getD i ([], ByteArray.empty)) = ((ts.getD i .dflt).xs, (ts.getD i .dflt).s) := by
  rw [← h, List.getD_eq_getElem?_getD, List.getElem?_map, List.getElem?_eq_getElem hi, List.getD_eq_getElem?_getD, List.getElem?_eq_getElem hi]
  rfl
theorem OwnS.at' {w : World} {B : Nat} {a : Option Addr} {m c : Nat} {ts : List RV} (h : OwnS w B (.slice a m c) ts) (hr : RowsIn w ts) : RowsAt w a m ts ∧ m = ts.length ∧ m ≤ c ∧ c ≤ 9223372036854775807 := by
  obtain ⟨a', c', e, h1, h2, h3⟩ := h.rows hr
  simp only [Value.slice.injEq] at e
  obtain ⟨rfl, rfl, rfl⟩ := e
  exact ⟨h1, rfl, h2, h3⟩
theorem short_core {w : World} {ts : List RV} {L : List (List Nat × ByteArray)} (hr : RowsIn w ts) (h : ts.map core = L) (hL : ∀ x ∈ L, x.1.length ≤ 10 ∧ x.2.size ≤ 1000) : shortR ts := fun i => by
  by_cases hi : i < ts.length
  · have hm : core (ts.getD i .dflt) ∈ L := by
      rw [← h, List.getD_eq_getElem?_getD, List.getElem?_eq_getElem hi]
      exact List.mem_map.2 ⟨_, List.getElem_mem hi, rfl⟩
    have := hL _ hm
    have hl := (hr.get hi).1.1
    exact ⟨by rw [← hl]; exact this.1, this.2⟩
  · rw [List.getD_eq_getElem?_getD, List.getElem?_eq_none (by omega)]
    exact ⟨Nat.zero_le _, Nat.zero_le _⟩
theorem short_nil : shortR [] := fun i => ⟨Nat.zero_le _, Nat.zero_le _⟩
theorem CapR.of {w : World} {rs : List RV} (h : RowsIn w rs) : CapR rs := fun i hi => (h.get hi).2
theorem RowsIn.of {w : World} {a : Option Addr} {n : Nat} {rs : List RV} (h : RowsAt w a n rs) (hc : CapR rs) : RowsIn w rs := fun r hr => by
  obtain ⟨i, hi, rfl⟩ := List.mem_iff_getElem.1 hr
  have h1 := h.2.1 i (by rw [← h.1]; exact hi)
  have h2 := hc i hi
  rw [List.getD_eq_getElem?_getD, List.getElem?_eq_getElem hi] at h1 h2
  exact ⟨h1, h2⟩
/-- No row. -/
def zR : RV := ⟨none, 0, 0, [], ⟨#[]⟩⟩
def filR (us : List RV) (k : Nat) : List RV := us.take k ++ List.replicate (us.length - k) zR
theorem filR_zero (us : List RV) : filR us 0 = List.replicate us.length zR := by simp [filR]
theorem filR_all (us : List RV) : filR us us.length = us := by simp [filR]
theorem filR_length (us : List RV) (k : Nat) (hk : k ≤ us.length) : (filR us k).length = us.length := by simp [filR]; omega
theorem filR_succ (us : List RV) (k : Nat) (hk : k < us.length) : (filR us k).set k (us.getD k .dflt) = filR us (k + 1) := by
  unfold filR
  have hl : (us.take k).length = k := by simp; omega
  rw [List.set_append_right _ _ (by omega), hl, Nat.sub_self, List.take_succ_eq_append_getElem hk, List.append_assoc, show us.length - k = (us.length - (k + 1)) + 1 by omega, List.replicate_succ, List.set_cons_zero]
  simp [List.getD_eq_getElem?_getD, List.getElem?_eq_getElem hk]
theorem cellsR_set : ∀ (rs : List RV) (k : Nat) (r : RV), ((cellsR rs).set (k * 2) (.slice r.a r.n r.c)).set (k * 2 + 1) (.string r.s) = cellsR (rs.set k r)
  | [], k, r => by simp [cellsR]
  | x :: rs, 0, r => by simp [cellsR]
  | x :: rs, k + 1, r => by
    rw [show (k + 1) * 2 = k * 2 + 1 + 1 by omega]
    simp only [cellsR, List.set_cons_succ]
    rw [cellsR_set rs k r]
theorem cellsR_zeros : ∀ n : Nat, (madeCells #[.slice none 0 0, .string ⟨#[]⟩] (n * 2)).toList = cellsR (List.replicate n zR)
  | 0 => by simp [madeCells, cellsR]
  | n + 1 => by
    rw [List.replicate_succ', cellsR_append, ← cellsR_zeros n]
    unfold madeCells
    rw [show (n + 1) * 2 = n * 2 + 1 + 1 by omega]
    simp only [Array.toList_map, Array.toList_range]
    rw [List.range_succ, List.range_succ]
    simp [cellsR, zR, Nat.mul_mod_left]
theorem make_r (n : Nat) (hn : n ≤ 1048576) (wx : World) : (Instr.makeSlice 32 (.int .i64 (n : Int)) (.int .i64 (n : Int))).run Tryz.prog wx = .ok (.slice (some ⟨wx.heap.size, 0, none⟩) n n) (wx.alloc (.cells (madeCells #[.slice none 0 0, .string ⟨#[]⟩] (n * 2)) 29)) := by
  obtain ⟨i0, hi0, hz0, hzs, hzb⟩ := info_parts info_rowZ
  have := run_make (P := Tryz.prog) wx 32 29 i0 (.agg #[.slice none 0 0, .string ⟨#[]⟩]) Tryz.underlying32 hi0 hz0 .i64 .i64 (n : Int) (n : Int) (by omega) (Int.le_refl _) (by rw [hzb]; omega) (by omega)
  rw [hzs] at this
  simpa [Value.cells] using this
theorem made_r (w : World) (n : Nat) (hn : n ≤ 1048576) (rs : List RV) (hrs : rs = List.replicate n zR) : OwnS (w.alloc (.cells (madeCells #[.slice none 0 0, .string ⟨#[]⟩] (n * 2)) 29)) w.heap.size (.slice (some ⟨w.heap.size, 0, none⟩) n n) rs := by
  subst hrs
  refine ⟨cellsR_length _, .inr ⟨w.heap.size, n, madeCells #[.slice none 0 0, .string ⟨#[]⟩] (n * 2), by simp, Nat.le_refl _, heap_alloc_new w _, by simp, by unfold maxLen; omega, by simp [size_madeCells], ?_⟩⟩
  rw [cellsR_zeros, List.take_of_length_le (by rw [cellsR_length]; exact Nat.le_refl _)]
theorem OwnS.stored {w : World} {B g cap n : Nat} {rs : List RV} (h : OwnS w B (.slice (some ⟨g, 0, none⟩) n cap) rs) (k : Nat) (r : RV) :
    OwnS ((w.setCell ⟨g, k * 2, none⟩ (.slice r.a r.n r.c)).setCell ⟨g, k * 2 + 1, none⟩ (.string r.s)) B (.slice (some ⟨g, 0, none⟩) n cap) (rs.set k r) := by
  obtain rfl : n = rs.length := by
    rcases h.2 with ⟨e, _⟩ | ⟨g1, cap1, cur, e, _⟩
    · cases e
    · simp only [Value.slice.injEq] at e; exact e.2.1
  have ho : w.ownsRow B 29 2 (.slice (some ⟨g, 0, none⟩) rs.length cap) rs.length (cellsR rs) := h
  have := ((ho.stored (k * 2) (.slice r.a r.n r.c)).1.stored (k * 2 + 1) (.string r.s)).1
  rw [cellsR_set] at this
  show World.ownsRow _ B 29 2 _ (rs.set k r).length _
  rw [List.length_set]
  exact this
theorem OwnS.keptB {w w' : World} {B g : Nat} {v : Value} {rs : List RV} (h : OwnS w B v rs) (hg : w.grownBy w' (some g)) (hB : g < B) : OwnS w' B v rs := by
  refine World.ownsRow.kept h hg (.inr fun e => ?_)
  have := (World.ownsRow.lt h g e).1
  omega
/-- 'append(own, rows...)'. -/
theorem wpList_appendS {w : World} {ops : Array Oper} {rest : List Oper} {o : Oper} {act : Act} {Q : Exit → Act → World → Prop} (hgd : o.guard = none) (s x : Operand)
    (ho : o.op = .call { callee := .builtin .append, args := #[s, x], argTypes := #[32, 32] }) (B B' : Nat) (v v2 : Value) (ts us : List RV)
    (hs : act.eval s = v) (hx : act.eval x = v2) (h : OwnS w B v ts) (hB : B ≤ w.heap.size) (h2 : OwnS w B' v2 us) (hn : ts.length + us.length ≤ 1048576)
    (hK : ∀ s' w', OwnS w' B s' (ts ++ us) → Below B w w' → wpList Tryz.prog ops Q rest (act.put o.dst s') w') : wpList Tryz.prog ops Q (o :: rest) act w := by
  obtain ⟨i0, hi, hz0, hz1, hz2⟩ := info_parts info_rowZ
  have h2' := h2
  rcases h2.2 with ⟨rfl, h0⟩ | ⟨g, cap, cur, rfl, hb, hg, hnc, hm, hsz, ht⟩
  · have hus : us = [] := List.eq_nil_of_length_eq_zero h0
    subst hus
    refine wpList_append_own_none hgd s x 32 ho B 29 i0 2 Tryz.underlying32 hi v ts.length (cellsR ts) hs h hx ?_
    exact hK v w (by rw [List.append_nil]; exact h) (Below.refl _ _)
  · refine wpList_append_own _ hgd s x 32 ho B 29 i0 (.agg #[.slice none 0 0, .string ⟨#[]⟩]) 2 40 Tryz.underlying32 hi hz0 hz1 hz2 rfl (by decide) v ts.length (cellsR ts) hs h ⟨g, 0, none⟩ us.length cap (cellsR us) hx (cellsR_length us) (World.ownsRow.cells h2' (g := g) rfl) (cellsR_one us) (by unfold maxLen; omega) (by omega) hB ?_
    intro v' w' hown hgrow _
    refine hK v' w' ?_ ((Below.refl _ _).grown hgrow hB fun k hk => (World.ownsRow.lt h k hk).1)
    show w'.ownsRow B 29 2 v' (ts ++ us).length (cellsR (ts ++ us))
    rw [List.length_append, cellsR_append]
    exact hown
/-- append(own, rows...) as one step of a region that draws its order. -/
theorem append_regionR {ops : Array Oper} {o : Oper} {a : Act} {w : World} {K : Act → World → Prop} {Q : Exit → Act → World → Prop} {E : Prop} (hg : o.guard = none) (s x : Operand)
    (ho : o.op = .call { callee := .builtin .append, args := #[s, x], argTypes := #[32, 32] }) (B : Nat) (v : Value) (ts : List RV) (hs : a.eval s = v) (hown : OwnS w B v ts)
    (ad : Addr) (m c : Nat) (us : List RV) (hx : a.eval x = .slice (some ad) m c) (hl : us.length = m) (hnews : ∀ j u, (cellsR us)[j]? = some u → w.cell? (ad.add j) = some u) (hn : ts.length + m ≤ 1000000) (hB : B ≤ w.heap.size)
    (h : ∀ v' w', OwnS w' B v' (ts ++ us) → w.grownBy w' v.ownBlock → K (a.put o.dst v') w') :
    if Region.wanted o (yielded ops a.tmps) = true then Oper.wp Tryz.prog o a w K Q else E := by
  obtain ⟨i0, hi, hz0, hz1, hz2⟩ := info_parts info_rowZ
  rw [if_pos (by simp [Region.wanted, hg])]
  refine wp_append_own w s x 32 ho B 29 i0 (.agg #[.slice none 0 0, .string ⟨#[]⟩]) 2 40 Tryz.underlying32 hi hz0 hz1 hz2 rfl (by decide) v ts.length (cellsR ts) hs hown ad m c (cellsR us) hx (by rw [cellsR_length, hl]) hnews (cellsR_one us) (by unfold maxLen; omega) (by omega) hB (fun v' w' h2 h3 _ => h v' w' ?_ h3)
  show w'.ownsRow B 29 2 v' (ts ++ us).length (cellsR (ts ++ us))
  rw [List.length_append, cellsR_append, hl]
  exact h2
end Go.Proofs.YtnjdldbdkafnaaaGreatDoor
