/-
  The walk of the law EchelonOrder: for every input (as long as it has room), in every world that holds the table of math/bits, it tells true and writes nothing that was there.
-/
import Derived.Test.YtohiiagpfepjnaaDoorLE
namespace Go.Proofs.YtohiiagpfepjnaaDoor
open Go.RowKit Go.Sort
set_option linter.unusedVariables false

/-- Cells that are rows of words that can be read. -/
def Fits (w : World) (cs : List Value) (rs : List (List Nat)) : Prop := cs.length = rs.length ∧ ∀ i u, cs[i]? = some u → ∃ ai ci, u = .slice ai (rs.getD i []).length ci ∧ RowAt w ai (rs.getD i []).length (rs.getD i []) ∧ (rs.getD i []).length ≤ ci
theorem Fits.below {w w' : World} {cs : List Value} {rs : List (List Nat)} (h : Fits w cs rs) (hb : Below w.heap.size w w') : Fits w' cs rs := ⟨h.1, fun i u hu => by
  obtain ⟨ai, ci, e, hr, hk⟩ := h.2 i u hu
  exact ⟨ai, ci, e, hr.below hb, hk⟩⟩
theorem Fits.append {w : World} {cs ds : List Value} {rs ss : List (List Nat)} (h : Fits w cs rs) (k : Fits w ds ss) : Fits w (cs ++ ds) (rs ++ ss) := by
  refine ⟨by simp [h.1, k.1], fun i u hu => ?_⟩
  by_cases hi : i < cs.length
  · rw [List.getElem?_append_left hi] at hu
    have e : (rs ++ ss).getD i [] = rs.getD i [] := by rw [List.getD_eq_getElem?_getD, List.getElem?_append_left (by rw [← h.1]; exact hi), ← List.getD_eq_getElem?_getD]
    rw [e]
    exact h.2 i u hu
  · rw [List.getElem?_append_right (by omega)] at hu
    have e : (rs ++ ss).getD i [] = ss.getD (i - cs.length) [] := by rw [List.getD_eq_getElem?_getD, List.getElem?_append_right (by rw [← h.1]; omega), ← List.getD_eq_getElem?_getD, h.1]
    rw [e]
    exact k.2 _ u hu
theorem Fits.take {w : World} {cs : List Value} {rs : List (List Nat)} (h : Fits w cs rs) (q : Nat) : Fits w (cs.take q) (rs.take q) := by
  refine ⟨by simp [h.1], fun i u hu => ?_⟩
  have hi : i < q := by
    have := (List.getElem?_eq_some_iff.1 hu).1
    rw [List.length_take] at this
    omega
  rw [List.getElem?_take_of_lt hi] at hu
  have e : (rs.take q).getD i [] = rs.getD i [] := by rw [List.getD_eq_getElem?_getD, List.getElem?_take_of_lt hi, ← List.getD_eq_getElem?_getD]
  rw [e]
  exact h.2 i u hu
theorem Fits.drop {w : World} {cs : List Value} {rs : List (List Nat)} (h : Fits w cs rs) (q : Nat) : Fits w (cs.drop q) (rs.drop q) := by
  refine ⟨by simp [h.1], fun i u hu => ?_⟩
  rw [List.getElem?_drop] at hu
  have e : (rs.drop q).getD i [] = rs.getD (q + i) [] := by rw [List.getD_eq_getElem?_getD, List.getElem?_drop, ← List.getD_eq_getElem?_getD]
  rw [e]
  exact h.2 _ u hu
theorem Fits.one {w : World} {cs : List Value} {rs : List (List Nat)} (h : Fits w cs rs) : ∀ u ∈ cs, u.oneCell' = true := by
  intro u hu
  obtain ⟨i, hi, rfl⟩ := List.getElem_of_mem hu
  obtain ⟨a, c, e, _⟩ := h.2 i _ (List.getElem?_eq_getElem hi)
  rw [e]; rfl
theorem VecsAt.cells {w : World} {b off n : Nat} {rs : List (List Nat)} (h : VecsAt w (some ⟨b, off, none⟩) n rs) : ∃ cs, Fits w cs rs ∧ ∀ i u, cs[i]? = some u → w.cell? ⟨b, off + i, none⟩ = some u := by
  have key : ∀ m, m ≤ n → ∃ cs : List Value, cs.length = m ∧ ∀ i u, cs[i]? = some u → w.cell? ⟨b, off + i, none⟩ = some u ∧ ∃ ai ci, u = .slice ai (rs.getD i []).length ci ∧ RowAt w ai (rs.getD i []).length (rs.getD i []) ∧ (rs.getD i []).length ≤ ci := by
    intro m
    induction m with
    | zero => exact fun _ => ⟨[], rfl, fun i u hu => by simp at hu⟩
    | succ m ih =>
      intro hm
      obtain ⟨cs, hl, hcs⟩ := ih (by omega)
      obtain ⟨b2, off2, e, hc⟩ := h.at (show m < n by omega)
      simp only [Option.some.injEq, Addr.mk.injEq, and_true] at e
      obtain ⟨rfl, rfl⟩ := e
      obtain ⟨ai, ci, h1, h2⟩ := hc m (by omega)
      refine ⟨cs ++ [.slice ai (rs.getD m []).length ci], by simp [hl], fun i u hu => ?_⟩
      by_cases hi : i < m
      · rw [List.getElem?_append_left (by omega)] at hu
        exact hcs i u hu
      · rw [List.getElem?_append_right (by omega)] at hu
        have him : i = m := by
          have := (List.getElem?_eq_some_iff.1 hu).1
          simp at this
          omega
        subst him
        rw [hl, Nat.sub_self] at hu
        simp at hu
        subst hu
        exact ⟨h1, ai, ci, rfl, h2, h.cap (by omega) h1⟩
  obtain ⟨cs, hl, hcs⟩ := key n (Nat.le_refl _)
  exact ⟨cs, ⟨by rw [hl, h.1], fun i u hu => (hcs i u hu).2⟩, fun i u hu => (hcs i u hu).1⟩
theorem Fits.vecs {w : World} {B : Nat} {v : Value} {n : Nat} {cs : List Value} {rs : List (List Nat)} (h : w.ownsRow B 31 1 v n cs) (k : Fits w cs rs) : ∃ a c, v = .slice a n c ∧ VecsAt w a n rs := by
  have hl : cs.length = n := by simpa using h.1
  rcases h.2 with ⟨rfl, h0⟩ | ⟨g, cap, cur, rfl, hb, hg, hnc, hcm, hcs, ht⟩
  · exact ⟨none, 0, by rw [h0], by rw [← k.1, hl], .inl h0, fun _ _ _ _ _ _ e => by cases e⟩
  · have hcell : ∀ i (hi : i < cs.length), w.cell? ⟨g, i, none⟩ = some cs[i] := fun i hi => by
      rw [cell_of_row w g i _ _ _ hg, ← Array.getElem?_toList, ← List.getElem?_eq_getElem hi, ← ht, List.getElem?_take_of_lt (by omega)]
    refine ⟨_, cap, rfl, by rw [← k.1, hl], .inr ⟨g, 0, rfl, fun i hi => ?_⟩, fun b off i ai j ci e hi hc => ?_⟩
    · have hiv : i < cs.length := by omega
      obtain ⟨a, c, e, hr, _⟩ := k.2 i cs[i] (List.getElem?_eq_getElem hiv)
      refine ⟨a, c, ?_, hr⟩
      rw [Nat.zero_add, hcell i hiv, e]
    · simp only [Option.some.injEq, Addr.mk.injEq, and_true] at e
      obtain ⟨rfl, rfl⟩ := e
      have hiv : i < cs.length := by omega
      obtain ⟨a, c, e, _, hk⟩ := k.2 i cs[i] (List.getElem?_eq_getElem hiv)
      rw [Nat.zero_add, hcell i hiv, e] at hc
      simp only [Option.some.injEq, Value.slice.injEq] at hc
      omega

theorem elem_vecs : Tryd.prog.underlying 22 = some (.slice (Tryd.prog.elem 22)) := by kernel_rfl
theorem elem_vecs' : Tryd.prog.elem 22 = 31 := by kernel_rfl
theorem vslice_lo (b off n c q : Nat) (hq : q ≤ n) (hc : q < c) (w : World) :
    (Instr.sliceAt 22 (.slice (some ⟨b, off, none⟩) n c) (some (.int .i64 (q : Int))) none none).run Tryd.prog w = .ok (.slice (some ⟨b, off + q, none⟩) (n - q) (c - q)) w := by
  rw [run_sliceAt_slice _ _ _ _ _ _ elem_vecs, run_slice_l _ _ _ _ _ elem_vecs _ _ (by omega) (by omega), elem_vecs', size_u64s]
  have e : ¬ c = q := by omega
  simp [Result.andThen, sliced, e, Addr.add]
theorem vslice_hi (b off n c q : Nat) (hc : q ≤ c) (w : World) :
    (Instr.sliceAt 22 (.slice (some ⟨b, off, none⟩) n c) none (some (.int .i64 (q : Int))) none).run Tryd.prog w = .ok (.slice (some ⟨b, off, none⟩) q c) w := by
  rw [run_sliceAt_slice _ _ _ _ _ _ elem_vecs, run_slice_h _ _ _ _ _ elem_vecs _ _ (by omega) (by omega), elem_vecs', size_u64s]
  simp [Result.andThen, sliced, Addr.add]
/-- append(own, rows...) as one step of a region that draws its order. -/
theorem append_region {ops : Array Oper} {o : Oper} {a : Act} {w : World} {K : Act → World → Prop} {Q : Exit → Act → World → Prop} {E : Prop} (hg : o.guard = none) (s x : Operand)
    (ho : o.op = .call { callee := .builtin .append, args := #[s, x], argTypes := #[22, 22] }) (B : Nat) (v : Value) (n : Nat) (xs : List Value) (hs : a.eval s = v) (hown : w.ownsRow B 31 1 v n xs)
    (ad : Addr) (m c : Nat) (news : List Value) (hx : a.eval x = .slice (some ad) m c) (hl : news.length = m) (hnews : ∀ j u, news[j]? = some u → w.cell? (ad.add j) = some u) (h1 : ∀ u ∈ news, u.oneCell' = true) (hn : n + m ≤ 1000000) (hB : B ≤ w.heap.size)
    (h : ∀ v' w', w'.ownsRow B 31 1 v' (n + m) (xs ++ news) → w.grownBy w' v.ownBlock → K (a.put o.dst v') w') :
    if Region.wanted o (yielded ops a.tmps) = true then Oper.wp Tryd.prog o a w K Q else E := by
  obtain ⟨i0, hi, hz0, hz1, hz2⟩ := info_parts info_u64s
  rw [if_pos (by simp [Region.wanted, hg])]
  exact wp_append_own w s x 22 ho B 31 i0 (.slice none 0 0) 1 24 Tryd.underlying22 hi hz0 hz1 hz2 rfl (by decide) v n xs hs hown ad m c news hx (by omega) hnews h1 (by unfold maxLen; omega) (by omega) hB (fun v' w' h2 h3 _ => h v' w' h2 h3)
/-- An operation behind a guard that lets it by. -/
theorem wpList_wanted {ops : Array Oper} {rest : List Oper} {o : Oper} {a : Act} {w : World} {Q : Exit → Act → World → Prop} (hw : Region.wanted o (yielded ops a.tmps) = true)
    (h : ∀ K : Act → World → Prop, (∀ a w, wpList Tryd.prog ops Q rest a w → K a w) → o.wp Tryd.prog a w K Q) : wpList Tryd.prog ops Q (o :: rest) a w :=
  wpList_step fun K hK => by rw [if_pos hw]; exact h K hK
theorem add_off (b off i : Nat) : (⟨b, off, none⟩ : Addr).add i = ⟨b, off + i, none⟩ := by
  unfold Addr.add
  split
  · rename_i h; simp_all
  · rfl

theorem rem_num (k : Int) (n : Nat) (h0 : 0 < n) (hn : n ≤ 150) : ∃ q : Nat, q < n ∧ wrap64 ((IntKind.u64.wrap k).tmod (n : Int)) = (q : Int) := by
  have h1 : 0 ≤ IntKind.u64.wrap k := by rw [IntKind.wrap_u64]; omega
  have h2 : (IntKind.u64.wrap k).tmod (n : Int) = IntKind.u64.wrap k % (n : Int) := Int.tmod_eq_emod_of_nonneg h1
  have h3 := Int.emod_nonneg (IntKind.u64.wrap k) (show (n : Int) ≠ 0 by omega)
  have h4 := Int.emod_lt_of_pos (IntKind.u64.wrap k) (show (0 : Int) < n by omega)
  refine ⟨(IntKind.u64.wrap k % (n : Int)).toNat, by omega, ?_⟩
  rw [h2]
  generalize IntKind.u64.wrap k % (n : Int) = z at *
  unfold wrap64
  omega

set_option maxHeartbeats 8000000 in
theorem order_walk (a : Option Addr) (n c : Nat) (rs : List (List Nat)) (k : Int) (w : World) (ht : Tab w) (h : VecsAt w a n rs) (hnc : n ≤ c) (hcc : c ≤ 9223372036854775807) :
    Calls Tryd.prog 4 #[.slice a n c, .int .i64 k] w fun e w' => e = .returned (.bool true) ∧ Below w.heap.size w w' := by
  go_enter Tryd.func4, Tryd.ntmps4
  go_wp2_with fail
  refine (few_any a n c rs _ h).mono ?_
  rintro e w' ⟨he, hw⟩
  obtain rfl := hw.symm
  rcases he with rfl | ⟨hF, rfl⟩
  · clear h
    go_wp2_with (go_at_call 13; refine (awake_any _ ht).mono ?_; rintro e w5 ⟨rfl, hb⟩)
    go_ret
    exact ⟨rfl, hb⟩
  · have hf := hF.fit h
    have hn : n ≤ 150 := by rw [← h.1]; exact hF.1
    by_cases h0 : n = 0
    · subst h0
      clear h hF
      go_wp2_with (go_at_call 13; refine (awake_any _ ht).mono ?_; rintro e w5 ⟨rfl, hb⟩)
      go_ret
      exact ⟨rfl, hb⟩
    · have hnz : ((n : Int) == 0) = false := by simp; omega
      obtain ⟨q, hq, hqe⟩ := rem_num k n (by omega) hn
      obtain ⟨b, off, rfl, _⟩ := h.at (i := 0) (by omega)
      obtain ⟨cs, hcs, hcell⟩ := h.cells
      have hcl : cs.length = n := by rw [hcs.1, h.1]
      have hs1 := vslice_lo b off n c q (by omega) (by omega)
      have hs2 := vslice_hi b off n c q (by omega)
      have HCS := hide hcs
      have HCE := hide hcell
      have HCL := hide hcl
      have HH := hide h
      clear hcs hcell hcl h hF
      go_wp2_with fail
      rw [hqe]
      clear hqe
      refine wp_region_any (by kernel_rfl) ?_
      change wpAny _ _ _ _ _ _ _ (World.drew _)
      refine wpAny_take (i := 0) (v := ?_) rfl (by kernel_rfl) (by kernel_rfl) (by kernel_rfl) (fun _ _ _ h => h) (Or.inl ⟨by rfl, ?f0⟩) ?_
      case f0 => (intro w; go_simp; try with_reducible rfl)
      refine wpAny_take (i := 1) (v := ?_) rfl (by kernel_rfl) (by kernel_rfl) (by kernel_rfl) (fun _ _ _ h => h) (Or.inl ⟨by rfl, ?f1⟩) ?_
      case f1 => (intro w; go_simp; try with_reducible rfl)
      refine wpAny_take (i := 2) (v := ?_) rfl (by kernel_rfl) (by kernel_rfl) (by kernel_rfl) (fun _ _ _ h => h) (Or.inl ⟨by rfl, ?f2⟩) ?_
      case f2 => (intro w; go_simp; try with_reducible rfl)
      refine wpAny_take (i := 4) (v := ?_) rfl (by kernel_rfl) (by kernel_rfl) (by kernel_rfl) (fun _ _ _ h => h) (Or.inl ⟨by rfl, ?f4⟩) ?_
      case f4 => (intro w; go_simp; try with_reducible rfl)
      refine wpAny_take (i := 5) (v := ?_) rfl (by kernel_rfl) (by kernel_rfl) (by kernel_rfl) (fun _ _ _ h => h) (Or.inl ⟨by rfl, ?f5⟩) ?_
      case f5 => (intro w; go_simp; try with_reducible rfl)
      refine wpAny_take (i := 6) (v := ?_) rfl (by kernel_rfl) (by kernel_rfl) (by kernel_rfl) (fun _ _ _ h => h) (Or.inl ⟨by rfl, ?f6⟩) ?_
      case f6 => (intro w; go_simp; try with_reducible rfl)
      refine wpAny_ready (rs := [3]) (by kernel_rfl) (by simp) ?_
      refine AllReady.cons rfl (fun K hK => ?_) AllReady.nil
      refine append_region rfl _ _ rfl w.heap.size (.slice none 0 0) 0 [] rfl (World.ownsRow_nil _ _ _ _) ⟨b, off + q, none⟩ (n - q) (c - q) (cs.drop q) (by simp [Act.eval, Act.put]) (by rw [List.length_drop, unhide HCL]) ?n1 ((unhide HCS).drop q).one (by omega) (Nat.le_refl _) ?_
      case n1 =>
        intro j u hj
        rw [List.getElem?_drop] at hj
        rw [add_off, Nat.add_assoc]
        exact unhide HCE _ u hj
      intro v1 w1 hown1 hg1
      rw [Nat.zero_add, List.nil_append] at hown1
      refine hK _ _ ?_
      clear hK K
      have hb1 : Below w.heap.size w w1 := (Below.refl _ _).drew.trans (gb_below hg1 (Nat.le_refl _) (fun k hk => by cases hk))
      obtain ⟨a1, c1, rfl, _⟩ := Fits.vecs hown1 (((unhide HCS).drop q).below hb1)
      refine wpAny_ready (rs := [7]) (by kernel_rfl) (by simp) ?_
      refine AllReady.cons rfl (fun K hK => ?_) AllReady.nil
      refine append_region rfl _ _ rfl w.heap.size (.slice a1 (n - q) c1) (n - q) (cs.drop q) (by simp [Act.eval, Act.put]) hown1 ⟨b, off, none⟩ q c (cs.take q) (by simp [Act.eval, Act.put]) (by rw [List.length_take, unhide HCL]; omega) ?n2 ((unhide HCS).take q).one (by omega) hb1.size ?_
      case n2 =>
        intro j u hj
        have hjq : j < q := by
          have := (List.getElem?_eq_some_iff.1 hj).1
          rw [List.length_take] at this
          omega
        rw [List.getElem?_take_of_lt hjq] at hj
        rw [add_off]
        have := unhide HCE _ u hj
        exact (hb1.cell (World.block_lt_of_cell? w _ this)).trans this
      intro v2 w2 hown2 hg2
      rw [show n - q + q = n by omega] at hown2
      refine hK _ _ ?_
      clear hK K
      have hb2 : Below w.heap.size w w2 := hb1.trans (gb_below hg2 hb1.size (fun k hk => (hown1.lt k hk).1))
      have hfm := ((unhide HCS).drop q).append ((unhide HCS).take q)
      obtain ⟨a2, c2, rfl, hv2⟩ := Fits.vecs hown2 (hfm.below hb2)
      refine wpAny_take (i := 8) (v := ?_) rfl (by kernel_rfl) (by kernel_rfl) (by kernel_rfl) (fun _ _ _ h => h) (Or.inl ⟨by rfl, ?f8⟩) ?_
      case f8 => (intro w; go_simp; try with_reducible rfl)
      refine wpAny_done (by kernel_rfl) ?_ _
      have hmem : ∀ x, x ∈ rs.drop q ++ rs.take q ↔ x ∈ rs := fun x => by
        rw [List.mem_append]
        constructor
        · rintro (hx | hx)
          · exact List.mem_of_mem_drop hx
          · exact List.mem_of_mem_take hx
        · intro hx
          rw [← List.take_append_drop q rs, List.mem_append] at hx
          exact hx.symm
      have hmem2 : ∀ x, x ∈ (rs.drop q ++ rs.take q) ++ rs ↔ x ∈ rs := fun x => by
        rw [List.mem_append, hmem]
        exact ⟨fun hx => hx.elim id id, .inl⟩
      have hfit1 : Fit 1048576 (rs.drop q ++ rs.take q) := fun x hx => hf x ((hmem x).1 hx)
      have hfit2 : Fit 1048576 ((rs.drop q ++ rs.take q) ++ rs) := fun x hx => hf x ((hmem2 x).1 hx)
      have HO1 := hide (basis_order hf hmem)
      have HO2 := hide (basis_order hf hmem2)
      have hBf := basis_fit hf
      have hBf1 := basis_fit hfit1
      have hBf2 := basis_fit hfit2
      have hlm : (rs.drop q ++ rs.take q).length = n := by rw [← hfm.1, List.length_append, List.length_drop, List.length_take, unhide HCL]; omega
      have hBl1 := basis_len hfit1
      have hBl2 := basis_len hfit2
      rw [List.length_append, hlm] at hBl2
      rw [hlm] at hBl1
      have hrl : rs.length = n := (unhide HH).1
      rw [hrl] at hBl2
      have HFM := hide (hfm.append (unhide HCS))
      have HOWN := hide hown2
      have HV2 := hide hv2
      have HB2 := hide hb2
      have HRL := hide hrl
      clear hmem hmem2 hfm hown1 hg1 hb1 hown2 hg2 hv2 hb2 hlm hs1 hs2 hrl
      generalize hme : rs.drop q ++ rs.take q = mm at *
      clear hme
      generalize hms : cs.drop q ++ cs.take q = ms at *
      clear hms
      go_wp2_with fail
      refine (basis_any a2 n c2 mm _ (ht.below (unhide HB2)) (unhide HV2) hfit1 (by omega)).mono ?_
      rintro e w3 ⟨v3, vs3, rfl, hV3, hb3⟩
      obtain ⟨a3, c3, rfl, hv3⟩ := hV3.vecs
      have HV3 := hide hv3
      have HB3 := hide (below0 (unhide HB2) hb3)
      have HOWN3 := hide (ownsRow_below (unhide HOWN) hb3)
      clear hV3 hv3 HOWN HV2
      go_wp2_with fail
      refine (basis_any _ n c rs _ (ht.below (unhide HB3)) ((unhide HH).below (unhide HB3)) hf (by omega)).mono ?_
      rintro e w4 ⟨v4, vs4, rfl, hV4, hb4⟩
      obtain ⟨a4, c4, rfl, hv4⟩ := hV4.vecs
      have HV4 := hide hv4
      have HV34 := hide ((unhide HV3).below hb4)
      have HB4 := hide (below0 (unhide HB3) hb4)
      have HOWN4 := hide (ownsRow_below (unhide HOWN3) hb4)
      clear hV4 hv4 HOWN3 HV3 hb3 hb4 HB3 HB2
      go_wp2_with fail
      refine (same3_any a3 _ c3 (basisL mm) a4 _ c4 (basisL rs) _ (unhide HV34) hBf1 (unhide HV4) hBf (unhide HO1) (by omega)).mono ?_
      rintro e w5 ⟨rfl, hb5⟩
      have hB5 := below0 (unhide HB4) hb5
      have hown5 := ownsRow_below (unhide HOWN4) hb5
      have HB5 := hide hB5
      clear hb5 HB4 HOWN4 HV4 HV34 HO1
      obtain ⟨i0, hi, hz0, hz1, hz2⟩ := info_parts info_u64s
      go_wp2_with (first | (at_builtin; refine wpList_wanted (by rfl) (fun K hK => ?_); refine wp_append_own _ (.tmp 37) (.tmp 38) 22 rfl w.heap.size 31 i0 (.slice none 0 0) 1 24 Tryd.underlying22 hi hz0 hz1 hz2 rfl (by decide) (.slice a2 n c2) n ms rfl hown5 ⟨b, off, none⟩ n c cs rfl (by rw [unhide HCL, Nat.mul_one]) ?c1 (unhide HCS).one (by unfold maxLen; omega) (by omega) hB5.size ?_))
      case c1 =>
        intro j u hj
        rw [add_off]
        have := unhide HCE _ u hj
        exact (hB5.cell (World.block_lt_of_cell? w _ this)).trans this
      intro v6 w6 hown6 hg6 _
      refine hK _ _ ?_
      clear hK K
      have hb6 : Below w.heap.size w w6 := hB5.trans (gb_below hg6 hB5.size (fun k hk => (hown5.lt k hk).1))
      obtain ⟨a6, c6, rfl, hv6⟩ := Fits.vecs hown6 ((unhide HFM).below hb6)
      have HV6 := hide hv6
      have HB6 := hide hb6
      clear hown6 hg6 hb6 hv6 hown5 hB5 HB5 hi hz0 hz1 hz2
      go_wp2_with fail
      refine (basis_any a6 (n + n) c6 (mm ++ rs) _ (ht.below (unhide HB6)) (unhide HV6) hfit2 (by omega)).mono ?_
      rintro e w7 ⟨v7, vs7, rfl, hV7, hb7⟩
      obtain ⟨a7, c7, rfl, hv7⟩ := hV7.vecs
      have HV7 := hide hv7
      have HB7 := hide (below0 (unhide HB6) hb7)
      clear hV7 hv7 HV6 hb7 HB6
      generalize hzz : basisL (mm ++ rs) = zz at *
      clear hzz
      go_wp2_with fail
      refine (basis_any _ n c rs _ (ht.below (unhide HB7)) ((unhide HH).below (unhide HB7)) hf (by omega)).mono ?_
      rintro e w8 ⟨v8, vs8, rfl, hV8, hb8⟩
      obtain ⟨a8, c8, rfl, hv8⟩ := hV8.vecs
      have HV8 := hide hv8
      have HV78 := hide ((unhide HV7).below hb8)
      have HB8 := hide (below0 (unhide HB7) hb8)
      clear hV8 hv8 HV7 hb8 HB7
      go_wp2_with fail
      refine (same3_any a7 _ c7 zz a8 _ c8 (basisL rs) _ (unhide HV78) hBf2 (unhide HV8) hBf (unhide HO2) (by omega)).mono ?_
      rintro e w9 ⟨rfl, hb9⟩
      have HB9 := hide (below0 (unhide HB8) hb9)
      clear hb9 HB8 HV8 HV78 HO2
      go_wp2_with fail
      refine (awake_any _ (ht.below (unhide HB9))).mono ?_
      rintro e w10 ⟨rfl, hb10⟩
      have HB10 := hide (below0 (unhide HB9) hb10)
      clear hb10 HB9 HH
      go_wp2
      go_ret
      exact ⟨rfl, unhide HB10⟩
end Go.Proofs.YtohiiagpfepjnaaDoor
