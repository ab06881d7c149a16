/-
  Contract of bucketlineref02.Row.
-/
import Derived.Test.YtbcgiodgobmkaaaGreatDoorU30
namespace Go.Proofs.YtbcgiodgobmkaaaGreatDoor
open Go.RowKit Go.Sort
set_option linter.unusedVariables false
set_option linter.unusedSimpArgs false
set_option maxRecDepth 4000

theorem vecL_take (rs : List RV) (k : Nat) (h : k < rs.length) : vecL (rs.take (k + 1)) = xorL (vecL (rs.take k)) (rs.getD k .dflt).xs := by
  unfold vecL
  rw [List.take_succ_eq_append_getElem h, List.foldl_append]
  simp [List.getD_eq_getElem?_getD, List.getElem?_eq_getElem h]
theorem vecL_take_len {rs : List RV} (h : ∀ r ∈ rs, r.xs.length ≤ 10) (k : Nat) : (vecL (rs.take k)).length ≤ 10 := vecL_len _ (fun r hr => h r (List.mem_of_mem_take hr))
theorem getD_map_s (rs : List RV) (k : Nat) (h : k < rs.length) : (rs.map fun r => r.s).getD k ByteArray.empty = (rs.getD k .dflt).s := by
  simp [List.getD_eq_getElem?_getD, List.getElem?_eq_getElem h]

theorem sum_take_short {rs : List RV} (hs : shortR rs) (k : Nat) : (st (sumL ((rs.map fun r => r.s).take k))).size ≤ 1048576 := by
  rw [st_size (sumL_bytes _)]
  refine sumL_len _ (fun t ht => ?_) k
  obtain ⟨r, hr, rfl⟩ := List.mem_map.1 ht
  obtain ⟨i, hi, rfl⟩ := List.mem_iff_getElem.1 hr
  have h1 := (hs i).2
  rw [List.getD_eq_getElem?_getD, List.getElem?_eq_getElem hi] at h1
  simp only [Option.getD_some] at h1
  omega
/-- What a round of bucketlineref02.Row leaves. -/
def RowK (w wr : World) (rs : List RV) (k : Nat) (a1 : Option Addr) (c1 : Nat) (t : ByteArray) : Prop :=
  BoxW wr (w.heap.size + 1) (.slice a1 (vecL (rs.take k)).length c1) (.string t) ∧ Own wr (w.heap.size + 2) (.slice a1 (vecL (rs.take k)).length c1) (vecL (rs.take k)) ∧
  t = st (sumL ((rs.map fun r => r.s).take k)) ∧ BoxW wr w.heap.size (.slice none 0 0) (.string ⟨#[]⟩) ∧ Below w.heap.size w wr ∧ w.heap.size + 2 ≤ wr.heap.size
theorem RowK.round {w wr w1 w2 : World} {rs : List RV} {k : Nat} {a1 a2 : Option Addr} {c1 c2 : Nat} {t : ByteArray} {n2 : Nat} {r : RV} (hrk : rs.getD k .dflt = r) (h : RowK w wr rs k a1 c1 t) (hk : k < rs.length) (hb1 : Below wr.heap.size wr w1)
    (ho : Own w1 wr.heap.size (.slice a2 n2 c2) (xorL (vecL (rs.take k)) r.xs))
    (hb2 : Below (w1.setCell ⟨w.heap.size + 1, 0, none⟩ (.slice a2 n2 c2)).heap.size (w1.setCell ⟨w.heap.size + 1, 0, none⟩ (.slice a2 n2 c2)) w2) :
    BoxW w2 (w.heap.size + 1) (.slice a2 n2 c2) (.string t) ∧ (n2 = (vecL (rs.take (k + 1))).length → RowK w (w2.setCell ⟨w.heap.size + 1, 1, none⟩ (.string (xorS t r.s))) rs (k + 1) a2 c2 (xorS t r.s)) := by
  subst hrk
  obtain ⟨hX, hO, ht, hX0, hB, hS⟩ := h
  have hX1 := ((hX.below hb1).set0 (.slice a2 n2 c2)).below hb2
  refine ⟨hX1, fun hn => ⟨?_, ?_, ?_, ?_, ?_, ?_⟩⟩
  · rw [← hn]; exact hX1.set1 _
  · rw [← hn]
    rw [← vecL_take rs k hk] at ho
    exact (((ho.mono hS).other _ _ (by omega)).below hb2).other _ _ (by omega)
  · rw [ht, xorS_st (sumL_bytes _), sumL_take _ _ (by simpa using hk), getD_map_s rs k hk]
  · exact (((hX0.below hb1).other _ _ (by omega)).below hb2).other _ _ (by omega)
  · have B1 := (below0 hB hb1).setCell (p := ⟨w.heap.size + 1, 0, none⟩) (Nat.le_succ _) (.slice a2 n2 c2)
    exact (below0 B1 hb2).setCell (p := ⟨w.heap.size + 1, 1, none⟩) (Nat.le_succ _) _
  · have := hb1.size
    have := hb2.size
    simp at this ⊢
    omega

set_option maxHeartbeats 4000000 in
theorem rrow_any (a : Option Addr) (n c : Nat) (rs : List RV) (w : World) (h : RowsAt w a n rs) (hs : shortR rs) (hn : n ≤ 1048576) :
    Calls Tryz.prog 72 #[.slice a n c] w fun e w' => ∃ v, e = .returned (.agg #[v, .string (st (sumL (rs.map fun r => r.s)))]) ∧ Own w' w.heap.size v (vecL rs) ∧ Below w.heap.size w w' := by
  obtain rfl := h.1
  have hb := below2 (o := .cells #[.slice none 0 0, .string ⟨#[]⟩] 40) (o' := .cells #[.slice none 0 0, .string ⟨#[]⟩] 40) (Below.refl _ w) (Below.refl _ _)
  have hX0 := (boxW_new w (.slice none 0 0) (.string ⟨#[]⟩)).alloc (.cells #[.slice none 0 0, .string ⟨#[]⟩] 40)
  have hX1 := boxW_new (w.alloc (.cells #[.slice none 0 0, .string ⟨#[]⟩] 40)) (.slice none 0 0) (.string ⟨#[]⟩)
  rw [alloc_size] at hX1
  have HK : Hid (RowK w ((w.alloc (.cells #[.slice none 0 0, .string ⟨#[]⟩] 40)).alloc (.cells #[.slice none 0 0, .string ⟨#[]⟩] 40)) rs 0 none 0 ⟨#[]⟩) := hide ⟨hX1, Own.nil _ _, rfl, hX0, hb, by simp⟩
  have HS : Hid (∀ r ∈ rs, r.xs.length ≤ 10) := hide (fun r hr => by
    obtain ⟨i, hi, rfl⟩ := List.mem_iff_getElem.1 hr
    have h1 := (hs i).1
    have h2 := (h.2.1 i hi).1
    rw [List.getD_eq_getElem?_getD, List.getElem?_eq_getElem hi] at h1 h2
    simp only [Option.getD_some] at h1 h2
    omega)
  have Hh := hide h
  have Hs := hide hs
  clear hb hX0 hX1 h hs
  go_enter Tryz.func72, Tryz.ntmps72
  go_wp2
  go_loopw [4] (fun i wr => ∃ k : Nat, ∃ a1 : Option Addr, ∃ c1 : Nat, ∃ t : ByteArray, k ≤ rs.length ∧ i = .int .i64 k ∧ Hid (RowK w wr rs k a1 c1 t)) (fun i _ => rs.length - (intOf i).toNat)
  case atStart => exact ⟨0, none, 0, _, Nat.zero_le _, rfl, HK⟩
  case round =>
    obtain ⟨k, a1, c1, t, hk, rfl, HK'⟩ := hrel
    clear HK
    by_cases hlt : k < rs.length
    · have hK := unhide HK'
      have hR := (unhide Hh).below hK.2.2.2.2.1
      obtain ⟨b, off, rfl, hcl⟩ := hR.at hlt
      obtain ⟨hc0, hc1⟩ := hcl k hlt
      obtain ⟨hx0, hx1⟩ := hK.1.1
      have hlt' : (k : Int) < (rs.length : Int) := by omega
      have hbd := (Below.refl wr.heap.size wr).drew
      obtain ⟨_, _, hv, hr1⟩ := hK.2.1.row
      simp only [Value.slice.injEq, true_and] at hv
      obtain ⟨rfl, rfl⟩ := hv
      have KX := hide (rxor_any a1 _ c1 _ (rs.getD k .dflt).a (rs.getD k .dflt).n (rs.getD k .dflt).c (rs.getD k .dflt).xs wr.drew (hr1.below hbd) ((hR.2.1 k hlt).below hbd) (by have := vecL_take_len (unhide HS) k; omega) (by have := ((unhide Hs) k).1; omega))
      have hsz1 := hide (show t.size ≤ 1048576 from by rw [hK.2.2.1]; exact sum_take_short (unhide Hs) k)
      have hsz2 := hide (show (rs.getD k .dflt).s.size ≤ 1048576 from by have := ((unhide Hs) k).2; omega)
      have HRK := hide (show ∀ w1, Below wr.drew.heap.size wr.drew w1 → w1.cell? ⟨b, off + k * 2, none⟩ = some (.slice (rs.getD k .dflt).a (rs.getD k .dflt).n (rs.getD k .dflt).c) ∧ w1.cell? ⟨b, off + k * 2 + 1, none⟩ = some (.string (rs.getD k .dflt).s) from
        fun w1 hb1 => ⟨(hb1.cell (World.block_lt_of_cell? wr _ hc0)).trans hc0, (hb1.cell (World.block_lt_of_cell? wr _ hc1)).trans hc1⟩)
      have hne : Hid (w.heap.size + 1 ≠ b ∧ b < w.heap.size) := hide (by
        obtain ⟨b', off', he, hcl'⟩ := (unhide Hh).at hlt
        simp only [Option.some.injEq, Addr.mk.injEq, and_true] at he
        have := World.block_lt_of_cell? w _ (hcl' k hlt).1
        have e := he.1
        simp at this
        omega)
      clear hcl hr1 hbd hR hK
      obtain ⟨r, hrk⟩ : ∃ r, rs.getD k .dflt = r := ⟨_, rfl⟩
      rw [hrk] at KX hsz2 HRK hc0 hc1
      have HRE := hide hrk
      clear hrk
      go_wp2_with fail
      refine wp_region_any (by kernel_rfl) ?_
      change wpAny _ _ _ _ _ _ _ (World.drew _)
      refine wpAny_take (i := 0) (v := ?_) rfl (by kernel_rfl) (by kernel_rfl) (by kernel_rfl) (fun _ _ _ h => h) (Or.inl ⟨by rfl, ?f0⟩) ?_
      case f0 => (intro w; go_simp; try with_reducible rfl)
      refine wpAny_take (i := 2) (v := ?_) rfl (by kernel_rfl) (by kernel_rfl) (by kernel_rfl) (fun _ _ _ h => h) (Or.inl ⟨by rfl, ?f2⟩) ?_
      case f2 => (intro w; go_simp; try with_reducible rfl)
      refine wpAny_take (i := 3) (v := ?_) rfl (by kernel_rfl) (by kernel_rfl) (by kernel_rfl) (fun _ _ _ h => h) (Or.inl ⟨by rfl, ?f3⟩) ?_
      case f3 => (intro w; go_simp; try with_reducible rfl)
      refine wpAny_take (i := 4) (v := ?_) rfl (by kernel_rfl) (by kernel_rfl) (by kernel_rfl) (fun _ _ _ h => h) (Or.inl ⟨by rfl, ?f4⟩) ?_
      case f4 => (intro w; go_simp; try with_reducible rfl)
      refine wpAny_take (i := 5) (v := ?_) rfl (by kernel_rfl) (by kernel_rfl) (by kernel_rfl) (fun _ _ _ h => h) (Or.inl ⟨by rfl, ?f5⟩) ?_
      case f5 => (intro w; go_simp; try with_reducible rfl)
      refine wpAny_ready (rs := [1, 6]) (by kernel_rfl) (by simp) ?_
      refine AllReady.cons rfl (fun K hK => ?_) (AllReady.cons rfl (fun K hK => ?_) AllReady.nil)
      go_simp
      refine hK _ _ ?_
      clear hK K
      refine wpAny_ready (rs := [6]) (by kernel_rfl) (by simp) ?_
      refine AllReady.cons rfl (fun K hK => ?_) AllReady.nil
      go_simp
      refine hK _ _ ?_
      clear hK K
      rotate_left
      go_simp
      refine hK _ _ ?_
      clear hK K
      refine wpAny_ready (rs := [1]) (by kernel_rfl) (by simp) ?_
      refine AllReady.cons rfl (fun K hK => ?_) AllReady.nil
      go_simp
      refine hK _ _ ?_
      clear hK K
      rotate_left
      all_goals
        refine wpAny_ready (rs := [7]) (by kernel_rfl) (by simp) ?_
        refine AllReady.cons rfl (fun K hK => ?_) AllReady.nil
        go_simp
        refine (unhide KX).mono ?_
        rintro e w1 ⟨v1, rfl, ho1, hb1⟩
        obtain ⟨a2, c2, rfl, hr1⟩ := ho1.row
        clear hr1
        have hb1w : Below wr.heap.size wr w1 := below0 ((Below.refl wr.heap.size wr).drew) hb1
        obtain ⟨⟨y0, y1⟩, f0, f1⟩ := (unhide HK').1.below hb1w
        obtain ⟨z0, z1⟩ := unhide HRK w1 hb1
        have HO1 : Hid (Own w1 wr.heap.size _ _) := hide ho1
        have HB1 := hide hb1w
        clear ho1 hb1 hb1w KX HRK hx0 hx1 hc0 hc1
        refine hK _ _ ?_
        clear hK K
        refine wpAny_take (i := 8) (v := ?_) rfl (by kernel_rfl) (by kernel_rfl) (by kernel_rfl) (fun _ _ _ h => h) (Or.inl ⟨by rfl, ?f8⟩) ?_
        case f8 => (intro w; go_simp; try with_reducible rfl)
        refine wpAny_ready (rs := [9]) (by kernel_rfl) (by simp) ?_
        refine AllReady.cons rfl (fun K hK => ?_) AllReady.nil
        go_simp
        refine hK _ _ ?_
        clear hK K
        refine wpAny_done (by kernel_rfl) ?_ _
        have p1 : (w1.setCell ⟨w.heap.size + 1, 0, none⟩ (.slice a2 (xorL (vecL (rs.take k)) r.xs).length c2)).cell? ⟨w.heap.size + 1, 1, none⟩ = some (.string t) := (World.cell?_setCell_other (h := by simp) ..).trans y1
        have p2 : (w1.setCell ⟨w.heap.size + 1, 0, none⟩ (.slice a2 (xorL (vecL (rs.take k)) r.xs).length c2)).cell? ⟨b, off + k * 2 + 1, none⟩ = some (.string r.s) := (World.cell?_setCell_other (h := fun h => (unhide hne).1 (by injection h)) ..).trans z1
        have HRR := hide (fun w2 hb2 => RowK.round (w2 := w2) (unhide HRE) (unhide HK') hlt (unhide HB1) (unhide HO1) hb2)
        have hnl := hide (show (xorL (vecL (rs.take k)) r.xs).length = (vecL (rs.take (k + 1))).length from by rw [vecL_take rs k hlt, unhide HRE])
        clear y0 y1 z0 z1 f0 f1 HO1 HB1 HK' hne
        go_wp2_with fail
        generalize (w1.setCell ⟨w.heap.size + 1, 0, none⟩ (.slice a2 (xorL (vecL (rs.take k)) r.xs).length c2)) = W1 at *
        refine wp_region_any (by kernel_rfl) ?_
        change wpAny _ _ _ _ _ _ _ (World.drew _)
        refine wpAny_take (i := 0) (v := ?_) rfl (by kernel_rfl) (by kernel_rfl) (by kernel_rfl) (fun _ _ _ h => h) (Or.inl ⟨by rfl, ?f0⟩) ?_
        case f0 => (intro w; go_simp; try with_reducible rfl)
        refine wpAny_take (i := 2) (v := ?_) rfl (by kernel_rfl) (by kernel_rfl) (by kernel_rfl) (fun _ _ _ h => h) (Or.inl ⟨by rfl, ?f2⟩) ?_
        case f2 => (intro w; go_simp; try with_reducible rfl)
        refine wpAny_take (i := 3) (v := ?_) rfl (by kernel_rfl) (by kernel_rfl) (by kernel_rfl) (fun _ _ _ h => h) (Or.inl ⟨by rfl, ?f3⟩) ?_
        case f3 => (intro w; go_simp; try with_reducible rfl)
        refine wpAny_take (i := 4) (v := ?_) rfl (by kernel_rfl) (by kernel_rfl) (by kernel_rfl) (fun _ _ _ h => h) (Or.inl ⟨by rfl, ?f4⟩) ?_
        case f4 => (intro w; go_simp; try with_reducible rfl)
        refine wpAny_take (i := 5) (v := ?_) rfl (by kernel_rfl) (by kernel_rfl) (by kernel_rfl) (fun _ _ _ h => h) (Or.inl ⟨by rfl, ?f5⟩) ?_
        case f5 => (intro w; go_simp; try with_reducible rfl)
        refine wpAny_ready (rs := [1, 6]) (by kernel_rfl) (by simp) ?_
        refine AllReady.cons rfl (fun K hK => ?_) (AllReady.cons rfl (fun K hK => ?_) AllReady.nil)
        go_simp
        refine hK _ _ ?_
        clear hK K
        refine wpAny_ready (rs := [6]) (by kernel_rfl) (by simp) ?_
        refine AllReady.cons rfl (fun K hK => ?_) AllReady.nil
        go_simp
        refine hK _ _ ?_
        clear hK K
        rotate_left
        go_simp
        refine hK _ _ ?_
        clear hK K
        refine wpAny_ready (rs := [1]) (by kernel_rfl) (by simp) ?_
        refine AllReady.cons rfl (fun K hK => ?_) AllReady.nil
        go_simp
        refine hK _ _ ?_
        clear hK K
        rotate_left
        all_goals
          refine wpAny_ready (rs := [7]) (by kernel_rfl) (by simp) ?_
          refine AllReady.cons rfl (fun K hK => ?_) AllReady.nil
          go_simp
          refine (rx_any _ _ _ (unhide hsz1) (unhide hsz2)).mono ?_
          rintro e w2 ⟨rfl, hb2⟩
          have hb2w : Below W1.heap.size W1 w2 := below0 ((Below.refl W1.heap.size W1).drew) hb2
          obtain ⟨⟨⟨q0, q1⟩, g0, g1⟩, hrr⟩ := unhide HRR w2 hb2w
          have HR2 := hide (hrr (unhide hnl))
          clear hb2 hb2w hrr HRR p1 p2
          refine hK _ _ ?_
          clear hK K
          refine wpAny_take (i := 8) (v := ?_) rfl (by kernel_rfl) (by kernel_rfl) (by kernel_rfl) (fun _ _ _ h => h) (Or.inl ⟨by rfl, ?f8⟩) ?_
          case f8 => (intro w; go_simp; try with_reducible rfl)
          refine wpAny_ready (rs := [9]) (by kernel_rfl) (by simp) ?_
          refine AllReady.cons rfl (fun K hK => ?_) AllReady.nil
          go_simp
          refine hK _ _ ?_
          clear hK K
          refine wpAny_done (by kernel_rfl) ?_ _
          go_wp2
          go_roundw
          case rel => exact ⟨k + 1, a2, c2, _, by omega, by go_num, HR2⟩
          case measure => simp [intOf]; omega
    · have hke : k = rs.length := by omega
      subst hke
      have hK := unhide HK'
      rw [RowK, List.take_of_length_le (Nat.le_refl _), List.take_of_length_le (by simp)] at hK
      obtain ⟨⟨⟨x0, x1⟩, _, _⟩, hO, rfl, ⟨⟨x2, x3⟩, f2, f3⟩, hB, _⟩ := hK
      have HO := hide hO
      have HB := hide hB
      clear hO hB HK' Hh HS Hs
      go_wp2
      have y1 := World.cell?_setCell_same (wr.setCell ⟨w.heap.size, 0, none⟩ (.slice a1 (vecL rs).length c1)) ⟨w.heap.size, 1, none⟩ (.string (st (sumL (rs.map fun r => r.s)))) ((World.cell?_setCell_other (h := by simp) ..).trans x3)
      have y0 : ((wr.setCell ⟨w.heap.size, 0, none⟩ (.slice a1 (vecL rs).length c1)).setCell ⟨w.heap.size, 1, none⟩ (.string (st (sumL (rs.map fun r => r.s))))).cell? ⟨w.heap.size, 0, none⟩ = some (.slice a1 (vecL rs).length c1) :=
        (World.cell?_setCell_other (h := by simp) ..).trans (World.cell?_setCell_same _ _ _ x2)
      exact bodyPost_ret (v := .agg #[.slice a1 (vecL rs).length c1, .string (st (sumL (rs.map fun r => r.s)))]) (by simp [results, Tryz.results72, go_sem, y0, y1]) rfl
        ⟨_, rfl, (((unhide HO).other _ _ (by omega)).other _ _ (by omega)).mono (by omega), ((unhide HB).setCell (Nat.le_refl _) _).setCell (Nat.le_refl _) _⟩
end Go.Proofs.YtbcgiodgobmkaaaGreatDoor
