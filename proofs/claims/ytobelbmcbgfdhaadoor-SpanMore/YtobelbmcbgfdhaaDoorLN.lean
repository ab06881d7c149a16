/-
  The walks of the laws SpanRank and SpanMore: for every input, in every world that holds the table of math/bits, each tells true and writes nothing that was there.
-/
import Derived.Test.YtobelbmcbgfdhaaDoorLK
namespace Go.Proofs.YtobelbmcbgfdhaaDoor
open Go.RowKit Go.Sort
set_option linter.unusedVariables false

/-- append(own, row), own a slice of rows that lie elsewhere. -/
theorem wpList_pushF {w : World} {ops : Array Oper} {rest : List Oper} {o : Oper} {act : Act} {Q : Exit → Act → World → Prop} (hgd : o.guard = none) (s x : Operand)
    (ho : o.op = .call { callee := .builtin .append, args := #[s, x], argTypes := #[22, 22] }) (B : Nat) (v : Value) (n : Nat) (cs : List Value) (bv : Value)
    (hs : act.eval s = v) (hx : act.eval x = .slice (some ⟨w.heap.size, 0, none⟩) 1 1) (h : w.ownsRow B 23 1 v n cs) (hB : B ≤ w.heap.size) (hone : bv.oneCell' = true) (hn : n ≤ 1048576)
    (hK : ∀ s' w', w'.ownsRow B 23 1 s' (n + 1) (cs ++ [bv]) → w.grownBy w' v.ownBlock → wpList Tryd.prog ops Q rest (act.put o.dst s') w') : wpList Tryd.prog ops Q (o :: rest) act (w.alloc (.cells #[bv] 23)) := by
  obtain ⟨i0, hi, hz0, hz1, hz2⟩ := info_parts info_u64s
  have hb : Below w.heap.size w (w.alloc (.cells #[bv] 23)) := (Below.refl _ _).alloc (Nat.le_refl _) _
  have h1 := ownsRow_below h hb
  refine wpList_append_own _ hgd s x 22 ho B 23 i0 (.slice none 0 0) 1 24 Tryd.underlying22 hi hz0 hz1 hz2 rfl (by decide) v n cs hs h1 ⟨w.heap.size, 0, none⟩ 1 1 [bv] hx rfl (fun j u hj => ?_)
    (fun u hu => by rw [List.mem_singleton.1 hu]; exact hone) (by unfold maxLen; omega) (by omega) (Nat.le_trans hB hb.size) ?_
  · match j with
    | 0 =>
      have hc : (w.alloc (.cells #[bv] 23)).cell? ⟨w.heap.size, 0, none⟩ = some bv := by rw [World.cell?_alloc_at _ _ _ _ rfl]; rfl
      simpa [Addr.add, hc] using hj
    | j + 1 => simp at hj
  · intro v' w' hown hgrow _
    exact hK v' w' hown (gb_trans (gb_of_below hb _) hgrow (.inl rfl))
theorem Fits.nil (w : World) : Fits w [] [] := ⟨rfl, fun i u h => by simp at h⟩
theorem Fits.single {w : World} {ai : Option Addr} {ci : Nat} {y : List Nat} (h : RowAt w ai y.length y) (hc : y.length ≤ ci) : Fits w [.slice ai y.length ci] [y] := by
  refine ⟨rfl, fun i u hu => ?_⟩
  match i with
  | 0 =>
    simp at hu
    subst hu
    exact ⟨ai, ci, rfl, h, hc⟩
  | i + 1 => simp at hu
/-- append(nil, rows...). -/
theorem wpList_append_vecs {w : World} {ops : Array Oper} {rest : List Oper} {o : Oper} {act : Act} {Q : Exit → Act → World → Prop} (hgd : o.guard = none) (s x : Operand)
    (ho : o.op = .call { callee := .builtin .append, args := #[s, x], argTypes := #[22, 22] }) (a : Option Addr) (n c : Nat) (rs : List (List Nat))
    (hs : act.eval s = .slice none 0 0) (hx : act.eval x = .slice a n c) (h : VecsAt w a n rs) (hn : n ≤ 1000000)
    (hK : ∀ v' w' cs, Fits w cs rs → w'.ownsRow w.heap.size 23 1 v' n cs → Below w.heap.size w w' → wpList Tryd.prog ops Q rest (act.put o.dst v') w') : wpList Tryd.prog ops Q (o :: rest) act w := by
  obtain ⟨i0, hi, hz0, hz1, hz2⟩ := info_parts info_u64s
  cases a with
  | none =>
    have h0 : n = 0 := by
      rcases h.2.1 with h0 | ⟨b, off, h1, _⟩
      · exact h0
      · cases h1
    subst h0
    have hrs : rs = [] := List.eq_nil_of_length_eq_zero h.1
    subst hrs
    refine wpList_plain hgd fun K hK' => ?_
    have hrun := run_append_nil_any 22 o.type 23 Tryd.underlying22 i0 hi c w
    unfold Oper.wp
    simp [execOp, ho, resolve, invoke, builtin, hs, hx, hrun, Result.andThen]
    exact hK' _ _ (hK _ _ [] (Fits.nil _) (World.ownsRow_nil _ _ _ _) (Below.refl _ _))
  | some ad =>
    have key : ∃ cs : List Value, Fits w cs rs ∧ ∀ j u, cs[j]? = some u → w.cell? (ad.add j) = some u := by
      rcases h.2.1 with h0 | ⟨b, off, h1, _⟩
      · have hrs : rs = [] := List.eq_nil_of_length_eq_zero (by rw [h.1]; exact h0)
        subst hrs
        exact ⟨[], Fits.nil _, fun j u hu => by simp at hu⟩
      · simp only [Option.some.injEq] at h1
        subst h1
        obtain ⟨cs, h2, h3⟩ := h.cells
        exact ⟨cs, h2, fun j u hu => by rw [add_off]; exact h3 j u hu⟩
    obtain ⟨cs, hcs, hce⟩ := key
    have hcl : cs.length = n := by rw [hcs.1, h.1]
    refine wpList_append_own w hgd s x 22 ho w.heap.size 23 i0 (.slice none 0 0) 1 24 Tryd.underlying22 hi hz0 hz1 hz2 rfl (by decide) (.slice none 0 0) 0 [] hs (World.ownsRow_nil _ _ _ _) ad n c cs hx
      (by rw [hcl, Nat.mul_one]) hce hcs.one (by unfold maxLen; omega) (by omega) (Nat.le_refl _) ?_
    intro v' w' hown hgrow _
    rw [Nat.zero_add, List.nil_append] at hown
    exact hK v' w' cs hcs hown ((Below.refl _ _).grown hgrow (Nat.le_refl _) (fun k hk => by simp [Value.ownBlock] at hk))
/-- append(nil, ints...). -/
theorem wpList_append_ints {w : World} {ops : Array Oper} {rest : List Oper} {o : Oper} {act : Act} {Q : Exit → Act → World → Prop} (hgd : o.guard = none) (s x : Operand)
    (ho : o.op = .call { callee := .builtin .append, args := #[s, x], argTypes := #[27, 27] }) (a : Option Addr) (n c : Nat) (xs : List Nat)
    (hs : act.eval s = .slice none 0 0) (hx : act.eval x = .slice a n c) (h : IntsAt w a n xs) (hn : n ≤ 1048576)
    (hK : ∀ v' w', OwnI w' w.heap.size v' xs → Below w.heap.size w w' → wpList Tryd.prog ops Q rest (act.put o.dst v') w') : wpList Tryd.prog ops Q (o :: rest) act w := by
  obtain ⟨i0, hi, hz0, hz1, hz2⟩ := info_parts info_int
  have hone : ∀ u ∈ cellsI xs, u.oneCell' = true := fun u hu => by
    obtain ⟨_, _, rfl⟩ := List.mem_map.1 hu
    rfl
  cases a with
  | none =>
    have h0 : n = 0 := by
      rcases h.2 with h0 | ⟨b, off, h1, _⟩
      · exact h0
      · cases h1
    subst h0
    have hxs : xs = [] := List.eq_nil_of_length_eq_zero h.1
    subst hxs
    refine wpList_plain hgd fun K hK' => ?_
    have hrun := run_append_nil_any 27 o.type 3 Tryd.underlying27 i0 hi c w
    unfold Oper.wp
    simp [execOp, ho, resolve, invoke, builtin, hs, hx, hrun, Result.andThen]
    exact hK' _ _ (hK _ _ (OwnI.nil _ _) (Below.refl _ _))
  | some ad =>
    have hnews : ∀ j u, (cellsI xs)[j]? = some u → w.cell? (ad.add j) = some u := by
      intro j u hj
      have hlt : j < xs.length := by
        have := (List.getElem?_eq_some_iff.1 hj).1
        rwa [cellsI_length] at this
      obtain ⟨b, off, he, hc⟩ := h.at (i := j) (by rw [← h.1]; exact hlt)
      simp only [Option.some.injEq] at he
      subst he
      rw [cellsI_get xs j hlt] at hj
      rw [add_off]
      exact (hc j (by rw [← h.1]; exact hlt)).trans hj
    refine wpList_append_own w hgd s x 27 ho w.heap.size 3 i0 (.int .i64 0) 1 8 Tryd.underlying27 hi hz0 hz1 hz2 rfl (by decide) (.slice none 0 0) 0 [] hs (World.ownsRow_nil _ _ _ _) ad n c (cellsI xs) hx
      (by rw [cellsI_length, h.1, Nat.mul_one]) hnews hone (by unfold maxLen; omega) (by omega) (Nat.le_refl _) ?_
    intro v' w' hown hgrow _
    refine hK v' w' ?_ ((Below.refl _ _).grown hgrow (Nat.le_refl _) (fun k hk => by simp [Value.ownBlock] at hk))
    rw [Nat.zero_add, List.nil_append, ← h.1] at hown
    exact hown

theorem rows_take (rs : List (List Nat)) (ps : List Nat) (k : Nat) (h : k < ps.length) : rowsAt rs (ps.take k) ++ [rs.getD (ps.getD k 0) []] = rowsAt rs (ps.take (k + 1)) := by
  rw [List.take_succ_eq_append_getElem h]
  unfold rowsAt
  rw [List.map_append, List.getD_eq_getElem?_getD (l := ps), List.getElem?_eq_getElem h]
  rfl
set_option maxHeartbeats 4000000 in
theorem rank_walk (a : Option Addr) (n c : Nat) (rs : List (List Nat)) (w : World) (ht : Tab w) (h : VecsAt w a n rs) :
    Calls Tryd.prog 6 #[.slice a n c] w fun e w' => e = .returned (.bool true) ∧ Below w.heap.size w w' := by
  go_enter Tryd.func6, Tryd.ntmps6
  go_wp2_with fail
  refine (few_any a n c rs _ h).mono ?_
  rintro e w' ⟨he, hw⟩
  obtain rfl := hw.symm
  rcases he with rfl | ⟨hF, rfl⟩
  · clear h
    go_wp2_with (go_at_call 9; refine (awake4_any _ ht).mono ?_; rintro e w5 ⟨rfl, hb⟩)
    go_ret
    exact ⟨rfl, hb⟩
  · have hf := hF.fit h
    have hn : n ≤ 150 := by rw [← h.1]; exact hF.1
    obtain rfl : n = rs.length := h.1.symm
    have hkl := keep_len rs rs.length
    have HLT := hide (keep_lt rs rs.length)
    have HRK := hide (keep_rank hf)
    have HKB := hide (keep_basis hf)
    have hkf : Fit 1048576 (keptL rs) := rowsAt_fit hf _
    have hKE : keptL rs = rowsAt rs (keepL rs rs.length) := rfl
    rw [hKE] at hkf HKB
    have hb1 := basis_len hf
    have hb2 := basis_len hkf
    have hbf1 := basis_fit hf
    have hbf2 := basis_fit hkf
    have hrl : (rowsAt rs (keepL rs rs.length)).length = (keepL rs rs.length).length := by simp [rowsAt]
    have HKF := hide hkf
    have HH := hide h
    have HKA := hide (keep_any a rs.length c rs w ht h hf (by omega))
    clear hF h hKE hkf
    generalize keepL rs rs.length = ps at *
    go_wp2_with fail
    refine (unhide HKA).mono ?_
    rintro e w1 ⟨v1, rfl, hI1, hb1'⟩
    obtain ⟨a1, c1, rfl, hi1⟩ := hI1.ints
    have HB1 := hide hb1'
    have HI1 := hide hi1
    clear hI1 hi1 hb1' HKA
    go_wp2
    go_loopw [4, 5] (fun v i wr => ∃ k : Nat, k ≤ ps.length ∧ i = .int .i64 k ∧ ∃ ao co cs, v = .slice ao k co ∧ Hid (wr.ownsRow w1.heap.size 23 1 (.slice ao k co) k cs) ∧ Hid (Fits w cs (rowsAt rs (ps.take k))) ∧ Hid (Below w1.heap.size w1 wr)) (fun _ i _ => ps.length - (intOf i).toNat)
    case atStart => exact ⟨0, Nat.zero_le _, rfl, none, 0, [], rfl, hide (World.ownsRow_nil _ _ _ _), hide (Fits.nil _), hide (Below.refl _ _)⟩
    case round =>
      obtain ⟨k, hk, rfl, ao, co, cs, rfl, HO, HFI, HB⟩ := hrel
      have hB := unhide HB
      have hBw := below0 (unhide HB1) hB
      by_cases hlt : k < ps.length
      · obtain ⟨bk, ok, rfl, hck⟩ := ((unhide HI1).below hB).at hlt
        have hcell := hck k hlt
        have hplt : ps.getD k 0 < rs.length := by
          refine unhide HLT _ ?_
          rw [List.getD_eq_getElem?_getD, List.getElem?_eq_getElem hlt]
          exact List.getElem_mem _
        have HRT := hide (rows_take rs ps k hlt)
        generalize ps.getD k 0 = pl at *
        obtain ⟨b, off, rfl, hc⟩ := (unhide HH).at hplt
        obtain ⟨ai, ci, hcell0, hrow⟩ := hc pl hplt
        have hcell2 := (hBw.cell (World.block_lt_of_cell? w _ hcell0)).trans hcell0
        have HF2 := hide ((unhide HFI).append (Fits.single hrow ((unhide HH).cap hplt hcell0)))
        rw [unhide HRT] at HF2
        have hd1 : decide ((pl : Int) < 0) = false := by rw [decide_eq_false_iff_not]; omega
        have hd2 : decide ((rs.length : Int) ≤ (pl : Int)) = false := by rw [decide_eq_false_iff_not]; omega
        have hpl2 : (pl : Int) < (rs.length : Int) := by omega
        clear hck hc hcell0 hrow HFI HRT hBw
        generalize (rs.getD pl []).length = yl at *
        go_wp2_with (first | (at_builtin; refine wpList_pushF rfl _ _ rfl w1.heap.size (.slice ao k co) k cs (.slice ai yl ci) rfl rfl (unhide HO) (unhide HB).size rfl (by omega) ?_; intro s4 w4 hO4 hg4; have HB4 := hide (hB.trans (gb_below hg4 hB.size (fun j hj => ((unhide HO).lt j hj).1))); obtain ⟨a4, c4, rfl, _⟩ := Fits.vecs hO4 ((unhide HF2).below (below0 (unhide HB1) (unhide HB4))); have HO4 := hide hO4; clear hg4 hO4 HO hB HB))
        go_roundw
        case rel => exact ⟨k + 1, by omega, by go_num, a4, c4, _, rfl, HO4, HF2, HB4⟩
        case measure => simp [intOf]; omega
      · obtain rfl : k = ps.length := by omega
        rw [List.take_length] at HFI
        obtain ⟨_, _, e1, hvo⟩ := Fits.vecs (unhide HO) ((unhide HFI).below hBw)
        simp only [Value.slice.injEq, true_and] at e1
        obtain ⟨rfl, rfl⟩ := e1
        have HVO := hide hvo
        have HBw := hide hBw
        have hrk := unhide HRK
        have hR := rrank_any a rs.length c rs wr ((unhide HH).below hBw) hf (by omega)
        rw [← hrk] at hR
        have HR := hide hR
        clear hvo hBw hB HO HFI HB hR hrk HRK
        go_wp2_with fail
        refine (unhide HR).mono ?_
        rintro e w2 ⟨rfl, hb2'⟩
        have HB2 := hide (below0 (unhide HBw) hb2')
        have HVO2 := hide ((unhide HVO).below hb2')
        clear hb2' HR HBw HVO
        go_wp2_with fail
        refine (rbasis_any ao _ co (rowsAt rs ps) w2 (unhide HVO2) (unhide HKF) (by omega)).mono ?_
        rintro e w3 ⟨v3, vs3, rfl, hV3, hb3⟩
        obtain ⟨a3, c3, rfl, hv3⟩ := hV3.vecs
        have HB3 := hide (below0 (unhide HB2) hb3)
        have HV3 := hide hv3
        clear hV3 hv3 hb3 HB2 HVO2
        go_wp2_with fail
        refine (rbasis_any a rs.length c rs w3 ((unhide HH).below (unhide HB3)) hf (by omega)).mono ?_
        rintro e w4 ⟨v4, vs4, rfl, hV4, hb4⟩
        obtain ⟨a4, c4, rfl, hv4⟩ := hV4.vecs
        have HB4 := hide (below0 (unhide HB3) hb4)
        have HV34 := hide ((unhide HV3).below hb4)
        have HV4 := hide hv4
        clear hV4 hv4 hb4 HB3 HV3
        go_wp2_with fail
        refine (same3_any a3 _ c3 (basisL (rowsAt rs ps)) a4 _ c4 (basisL rs) w4 (unhide HV34) hbf2 (unhide HV4) hbf1 (unhide HKB) (by omega)).mono ?_
        rintro e w5 ⟨rfl, hb5⟩
        have HB5 := hide (below0 (unhide HB4) hb5)
        clear hb5 HB4 HV34 HV4
        go_wp2_with fail
        refine (awake4_any _ (ht.below (unhide HB5))).mono ?_
        rintro e w6 ⟨rfl, hb6⟩
        have HB6 := hide (below0 (unhide HB5) hb6)
        clear hb6 HB5
        go_wp2
        go_ret
        exact ⟨rfl, unhide HB6⟩

end Go.Proofs.YtobelbmcbgfdhaaDoor
