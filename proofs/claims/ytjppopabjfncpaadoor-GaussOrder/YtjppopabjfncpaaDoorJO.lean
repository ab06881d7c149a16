/-
  The walk of GaussOrder: for every input it tells true and writes nothing that was there.
-/
import Derived.Test.YtjppopabjfncpaaDoorJN
namespace Go.Proofs.YtjppopabjfncpaaDoor
open Go.RowKit Go.Sort
set_option linter.unusedVariables false
set_option maxRecDepth 4000

theorem rem14 (k : Int) (n : Nat) (h0 : 0 < n) (hn : n ≤ 150) : ∃ q : Nat, q < n ∧ wrap64 ((IntKind.u64.wrap k).tmod (n : Int)) = (q : Int) := by
  have h1 : 0 ≤ IntKind.u64.wrap k := by rw [IntKind.wrap_u64]; omega
  have h2 : (IntKind.u64.wrap k).tmod (n : Int) = IntKind.u64.wrap k % (n : Int) := Int.tmod_eq_emod_of_nonneg h1
  have h3 := Int.emod_nonneg (IntKind.u64.wrap k) (show (n : Int) ≠ 0 by omega)
  have h4 := Int.emod_lt_of_pos (IntKind.u64.wrap k) (show (0 : Int) < n by omega)
  refine ⟨(IntKind.u64.wrap k % (n : Int)).toNat, by omega, ?_⟩
  rw [h2]
  generalize IntKind.u64.wrap k % (n : Int) = z at *
  unfold wrap64
  omega
theorem RowsAt.cells {w : World} {b off n : Nat} {rs : List RV} (h : RowsAt w (some ⟨b, off, none⟩) n rs) : ∀ j u, (cellsR rs)[j]? = some u → w.cell? ((⟨b, off, none⟩ : Addr).add j) = some u := by
  intro j u hj
  rw [add_off]
  have hlt := (List.getElem?_eq_some_iff.1 hj).1
  rw [cellsR_length, h.1] at hlt
  obtain ⟨b', off', e, hc⟩ := h.at (i := j / 2) (by omega)
  simp only [Option.some.injEq, Addr.mk.injEq, and_true] at e
  obtain ⟨rfl, rfl⟩ := e
  have hi : j / 2 < rs.length := by rw [h.1]; omega
  obtain ⟨c0, c1⟩ := hc (j / 2) (by omega)
  obtain ⟨g0, g1⟩ := cellsR_get rs (j / 2) hi
  rcases Nat.mod_two_eq_zero_or_one j with e | e
  · have ej : j / 2 * 2 = j := by omega
    rw [ej] at c0 g0
    rw [c0, ← g0, hj]
  · have ej : j / 2 * 2 + 1 = j := by omega
    rw [ej] at g1
    rw [Nat.add_assoc, ej] at c1
    rw [c1, ← g1, hj]
theorem short_drop {rs : List RV} (h : shortR rs) (q : Nat) : shortR (rs.drop q) := fun i => by
  rw [getD_drop_rv]; exact h _
theorem short_take' {rs : List RV} (h : shortR rs) (q : Nat) : shortR (rs.take q) := fun i => by
  by_cases h1 : i < q
  · rw [getD_take_rv rs q i h1]; exact h i
  · rw [List.getD_eq_getElem?_getD, List.getElem?_eq_none (by have := List.length_take_le q rs; omega)]
    exact short_nil 0
theorem RightP.of {ss : List ByteArray} {rs ms : List RV} (h : RightP ss rs) (hs : shortR ms) (hl : ms.length ≤ rs.length) (hm : ∀ r ∈ ms, r ∈ rs) : RightP ss ms := by
  refine ⟨hs, by have := h.few; omega, h.pos, h.most, h.size, fun i hi => ?_⟩
  have hr : ms.getD i .dflt ∈ rs := by
    rw [List.getD_eq_getElem?_getD, List.getElem?_eq_getElem hi]
    exact hm _ (List.getElem_mem hi)
  exact ⟨h.mem.1 _ hr, h.mem.2 _ hr⟩
theorem rankV_mem {k : Int} {rs ms : List RV} (hg : Good rs) (hl : ∀ r ∈ rs, r.xs.length ≤ 10) (hm : ∀ r, r ∈ ms ↔ r ∈ rs) : rankV k ms = rankV k rs := by
  refine rank_eq (fit_filter (fun r hr => hg r ((hm r).1 hr)) (fun r hr => hl r ((hm r).1 hr)) _) (fit_filter hg hl _) fun x => ?_
  constructor
  · refine fun h => h.mono fun y hy => ?_
    obtain ⟨v, hv, rfl⟩ := List.mem_map.1 hy
    obtain ⟨r, hr, rfl⟩ := List.mem_map.1 hv
    obtain ⟨h1, h2⟩ := List.mem_filter.1 hr
    exact List.mem_map.2 ⟨_, List.mem_map.2 ⟨r, List.mem_filter.2 ⟨(hm r).1 h1, h2⟩, rfl⟩, rfl⟩
  · refine fun h => h.mono fun y hy => ?_
    obtain ⟨v, hv, rfl⟩ := List.mem_map.1 hy
    obtain ⟨r, hr, rfl⟩ := List.mem_map.1 hv
    obtain ⟨h1, h2⟩ := List.mem_filter.1 hr
    exact List.mem_map.2 ⟨_, List.mem_map.2 ⟨r, List.mem_filter.2 ⟨(hm r).2 h1, h2⟩, rfl⟩, rfl⟩

set_option maxHeartbeats 8000000 in
theorem gorder_walk (al : Option Addr) (nl cl : Nat) (ss : List ByteArray) (a : Option Addr) (n c : Nat) (rs : List RV) (k : Int) (w : World) (ht : Tab w) (hl : TextsAt w al nl ss) (h : RowsAt w a n rs) (hn : n ≤ 9223372036854775807) (hnc : n ≤ c) (hcap : CapR rs) (hbig : ∀ i, (rs.getD i .dflt).n ≤ 9223372036854775807 ∧ (rs.getD i .dflt).s.size ≤ 9223372036854775807) :
    Calls Tryd.prog 6 #[.slice al nl cl, .slice a n c, .int .i64 k] w fun e w' => e = .returned (.bool true) ∧ Below w.heap.size w w' := by
  have HF := hide (right_any al nl cl ss a n c rs w hl h hn hbig)
  have Hh := hide h
  have HC := hide hcap
  have HT := hide ht
  have HLL := hide hl.1
  have HAW := hide (fun (w1 : World) (hb : Below w.heap.size w w1) => awake_any w1 (ht.below hb))
  clear h hcap ht hbig hl
  go_enter Tryd.func6, Tryd.ntmps6
  go_wp2_with fail
  refine (unhide HF).mono ?_
  rintro e w0 ⟨⟨b, rfl, hb⟩, hb0⟩
  have HB0 := hide hb0
  clear HF hb0
  cases b
  · clear hb
    go_wp2_with (go_at_call 9; refine (unhide HAW _ (unhide HB0)).mono ?_; rintro e w1 ⟨rfl, hb1⟩)
    go_ret
    exact ⟨rfl, below0 (unhide HB0) hb1⟩
  have hP := hb rfl
  clear hb
  by_cases h0 : n = 0
  · have hd : ((n : Int) == 0) = true := by rw [beq_iff_eq]; omega
    go_wp2_with (go_at_call 9; refine (unhide HAW _ (unhide HB0)).mono ?_; rintro e w1 ⟨rfl, hb1⟩)
    go_ret
    exact ⟨rfl, below0 (unhide HB0) hb1⟩
  have hnz : ((n : Int) == 0) = false := by rw [beq_eq_false_iff_ne]; omega
  have hNL := (unhide Hh).1
  have hn80 : n ≤ 80 := by rw [← hNL]; exact hP.few
  obtain ⟨q, hq, hqe⟩ := rem14 k n (by omega) (by omega)
  obtain ⟨b, off, rfl, _⟩ := (unhide Hh).at (i := 0) (by omega)
  have hs1 := slice_lo b off n c q (by omega) (by omega)
  have hs2 := slice_hi b off n c q (by omega)
  have hR0 := (unhide Hh).below (unhide HB0)
  have HD := hide (hR0.drop q (by omega))
  have HK := hide (hR0.take q (by omega))
  have HP := hide hP
  have HN := hide hNL
  clear hP hR0 hNL
  go_wp2_with fail
  rw [hqe]
  clear hqe
  refine wp_region_any (by kernel_rfl) ?_
  change wpAny _ _ _ _ _ _ _ (World.drew _)
  refine wpAny_take (i := 0) (v := ?_) rfl (by kernel_rfl) (by kernel_rfl) (by kernel_rfl) (fun _ _ _ h => h) (Or.inl ⟨by rfl, ?f0⟩) ?_
  case f0 => (intro w; go_simp; try with_reducible rfl)
  refine wpAny_take (i := 1) (v := ?_) rfl (by kernel_rfl) (by kernel_rfl) (by kernel_rfl) (fun _ _ _ h => h) (Or.inl ⟨by rfl, ?f1⟩) ?_
  case f1 => (intro w; go_simp; try with_reducible rfl)
  refine wpAny_take (i := 2) (v := ?_) rfl (by kernel_rfl) (by kernel_rfl) (by kernel_rfl) (fun _ _ _ h => h) (Or.inl ⟨by rfl, ?f2⟩) ?_
  case f2 => (intro w; go_simp; try with_reducible rfl)
  refine wpAny_take (i := 4) (v := ?_) rfl (by kernel_rfl) (by kernel_rfl) (by kernel_rfl) (fun _ _ _ h => h) (Or.inl ⟨by rfl, ?f4⟩) ?_
  case f4 => (intro w; go_simp; try with_reducible rfl)
  refine wpAny_take (i := 5) (v := ?_) rfl (by kernel_rfl) (by kernel_rfl) (by kernel_rfl) (fun _ _ _ h => h) (Or.inl ⟨by rfl, ?f5⟩) ?_
  case f5 => (intro w; go_simp; try with_reducible rfl)
  refine wpAny_take (i := 6) (v := ?_) rfl (by kernel_rfl) (by kernel_rfl) (by kernel_rfl) (fun _ _ _ h => h) (Or.inl ⟨by rfl, ?f6⟩) ?_
  case f6 => (intro w; go_simp; try with_reducible rfl)
  refine wpAny_ready (rs := [3]) (by kernel_rfl) (by simp) ?_
  refine AllReady.cons rfl (fun K hK => ?_) AllReady.nil
  refine append_regionR rfl _ _ rfl w0.heap.size (.slice none 0 0) [] rfl (OwnS.nil _ _) ⟨b, off + q * 2, none⟩ (n - q) (c - q) (rs.drop q) (by simp [Act.eval, Act.put]) (by rw [List.length_drop, unhide HN]) ?n1 (by simp; omega) (Nat.le_refl _) ?_
  case n1 => exact fun j u hj => (unhide HD).cells j u hj
  intro v1 w1 hown1 hg1
  rw [List.nil_append] at hown1
  refine hK _ _ ?_
  clear hK K
  have hb1 : Below w0.heap.size w0 w1 := (Below.refl _ _).drew.trans (gb_below hg1 (Nat.le_refl _) (fun k hk => by cases hk))
  obtain ⟨a1, c1, rfl⟩ := hown1.shape
  have hdl : (rs.drop q).length = n - q := by rw [List.length_drop, unhide HN]
  rw [hdl] at hown1 ⊢
  refine wpAny_ready (rs := [7]) (by kernel_rfl) (by simp) ?_
  refine AllReady.cons rfl (fun K hK => ?_) AllReady.nil
  refine append_regionR rfl _ _ rfl w0.heap.size (.slice a1 (n - q) c1) (rs.drop q) (by simp [Act.eval, Act.put]) hown1 ⟨b, off, none⟩ q c (rs.take q) (by simp [Act.eval, Act.put]) (by rw [List.length_take, unhide HN]; omega) ?n2 (by rw [hdl]; omega) hb1.size ?_
  case n2 => exact fun j u hj => ((unhide HK).below hb1).cells j u hj
  intro v2 w2 hown2 hg2
  refine hK _ _ ?_
  clear hK K
  have hb2 : Below w0.heap.size w0 w2 := hb1.trans (gb_below hg2 hb1.size (fun k hk => (World.ownsRow.lt hown1 k hk).1))
  refine wpAny_take (i := 8) (v := ?_) rfl (by kernel_rfl) (by kernel_rfl) (by kernel_rfl) (fun _ _ _ h => h) (Or.inl ⟨by rfl, ?f8⟩) ?_
  case f8 => (intro w; go_simp; try with_reducible rfl)
  refine wpAny_done (by kernel_rfl) ?_ _
  have hmem : ∀ r, r ∈ rs.drop q ++ rs.take q ↔ r ∈ rs := fun x => by
    rw [List.mem_append]
    constructor
    · rintro (hx | hx)
      · exact List.mem_of_mem_drop hx
      · exact List.mem_of_mem_take hx
    · intro hx
      rw [← List.take_append_drop q rs, List.mem_append] at hx
      exact hx.symm
  have hml : (rs.drop q ++ rs.take q).length = n := by rw [List.length_append, List.length_drop, List.length_take, unhide HN]; omega
  have hP := unhide HP
  have hR0 := unhide Hh
  have hg0 := good_of hR0 hP.short
  have hln := len_of hR0 hP.short
  have hms := short_append (short_drop hP.short q) (short_take' hP.short q)
  have hri : RowsIn w2 (rs.drop q ++ rs.take q) := fun r hr => ((RowsIn.of hR0 (unhide HC)).below (below0 (unhide HB0) hb2)) r ((hmem r).1 hr)
  have hPm := hP.of hms (by rw [hml, unhide HN]; exact Nat.le_refl _) (fun r hr => (hmem r).1 hr)
  have hrk := rankV_mem (k := (ss.length : Int)) hg0 hln hmem
  generalize rs.drop q ++ rs.take q = ms at *
  obtain ⟨a2, c2, rfl, hR2, -, -⟩ := hown2.rows hri
  rw [hml] at hR2 ⊢
  obtain ⟨kn, bs, hPP⟩ := peel_is (k := (ss.length : Int)) hg0
  obtain ⟨kn', bs', hPP'⟩ := peel_is (k := (ss.length : Int)) (good_of hR2 hms)
  have d1 := hP.dec hR0 hPP
  have d2 := hPm.dec hR2 hPP'
  rw [hrk] at d2
  have hB2 := below0 (unhide HB0) hb2
  have HX1 := hide (decode_any (ss.length : Int) (some ⟨b, off, none⟩) n c rs kn bs hPP w2 ((unhide HT).below hB2) (hR0.below hB2) hP.short (by omega))
  have HX2 := hide (fun (w3 : World) (hb : Below w2.heap.size w2 w3) => decode_any (ss.length : Int) a2 n c2 ms kn' bs' hPP' w3 ((unhide HT).below (below0 hB2 hb)) (hR2.below hb) hms (by omega))
  rw [d1.1, d1.2] at HX1
  rw [d2.1, d2.2] at HX2
  have hlen := unhide HLL
  subst hlen
  have hmost := hP.most
  have hfin : (if rankV (ss.length : Int) rs = ss.length then ss else []).length ≤ 1048576 := by
    split
    · omega
    · exact Nat.zero_le _
  have HB2 := hide hB2
  generalize decide (rankV (ss.length : Int) rs = ss.length) = OK at *
  generalize (if rankV (ss.length : Int) rs = ss.length then ss else []) = SS at *
  have hok : (OK == OK) = true := by cases OK <;> rfl
  clear hown1 hown2 hg1 hg2 hb1 hb2 hmem hml hP hR0 hg0 hln hms hri hPm hrk hR2 hPP hPP' d1 d2 hB2 hs1 hs2 hdl HD HK HP HN Hh HC HT HLL HB0
  have HF1 : Hid True := hide trivial
  go_wp2_with (first | (go_at_call 15; clear HF1; refine (unhide HX1).mono ?_; rintro e w3 ⟨a3, m3, c3, rfl, ho3, hb3⟩; have HO3 := hide ho3; have HB3 := hide (below0 (unhide HB2) hb3); have HX3 := hide (unhide HX2 w3 hb3); clear ho3 hb3) | (go_at_call 15; refine (unhide HX3).mono ?_; rintro e w4 ⟨a4, m4, c4, rfl, ho4, hb4⟩; have HB4 := hide (below0 (unhide HB3) hb4); have h3 := ((unhide HO3).below hb4).at'; have h4 := ho4.at'; have hm3 := h3.1; have hm4 := h4.1; subst hm3; subst hm4; have HTX := texts2_any a3 SS.length c3 SS a4 SS.length c4 SS w4 h3.2 h4.2 hfin hfin; rw [decide_eq_true rfl] at HTX; have HT4 := hide HTX; clear ho4 hb4 h3 h4 HTX) | (go_at_call 12; refine (unhide HT4).mono ?_; rintro e w5 ⟨rfl, hb5⟩; have HB5 := hide (below0 (unhide HB4) hb5); have HA5 := hide (unhide HAW w5 (unhide HB5)); clear hb5) | (go_at_call 9; refine (unhide HA5).mono ?_; rintro e w6 ⟨rfl, hb6⟩; have HB6 := hide (below0 (unhide HB5) hb6); clear hb6))
  go_ret
  exact ⟨rfl, unhide HB6⟩
end Go.Proofs.YtjppopabjfncpaaDoor
