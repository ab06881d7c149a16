/-
  Contracts of upTo and Draws.Distinct. Conditions: at most 128 numbers, at most 2^39 draws used.
-/
import Derived.Test.YtakoaadimhpclaaGreatDoorU22
namespace Go.Proofs.YtakoaadimhpclaaGreatDoor
open Go.RowKit
set_option linter.unusedVariables false
set_option linter.unusedSimpArgs false
set_option maxRecDepth 4000

def upZ (n : Nat) : List Int := castZ (List.range n)
theorem upZ_length (n : Nat) : (upZ n).length = n := by simp [upZ, castZ]
theorem upZ_getD (n i : Nat) (h : i < n) : (upZ n).getD i 0 = (i : Int) := by
  rw [upZ, castZ_getD]
  simp [List.getD_eq_getElem?_getD, h]
theorem results_up {tmps : Array Value} {W : World} {g : Nat} {u0 : Value} (h2 : tmps.getD 2 undef = .pointer (some ⟨g, 0, none⟩)) (hq : Bk1 95 W g u0) :
    (results Tryz.f46 tmps).run Tryz.prog W = .ok (.agg #[u0]) W := by
  have k0 := hq.at0
  have h2' : tmps[2]?.getD undef = .pointer (some ⟨g, 0, none⟩) := by simpa using h2
  simp [results, Tryz.results46, go_sem, h2', k0]
set_option maxHeartbeats 1000000 in
theorem upTo_any (n : Nat) (hn : n ≤ 1048576) (w : World) :
    Calls Tryz.prog 46 #[.int .i64 (n : Int)] w fun e w' => ∃ b, e = .returned (.agg #[.slice (some ⟨b, 0, none⟩) n n]) ∧ OwnZ w' w.heap.size (.slice (some ⟨b, 0, none⟩) n n) (upZ n) ∧ Below w.heap.size w w' := by
  have hmk := make_intz n hn (w.alloc (.cells #[.slice none 0 0] 95))
  have hO := made_intz (w.alloc (.cells #[.slice none 0 0] 95)) n hn (List.replicate n 0) rfl
  have HP := hide (bk1_new 95 w (.slice none 0 0))
  have hsz := alloc_size w (.cells #[.slice none 0 0] 95)
  have hb1 : Below w.heap.size w (w.alloc (.cells #[.slice none 0 0] 95)) := (Below.refl _ _).alloc (Nat.le_refl _) _
  rw [hsz] at hO hmk
  have hO0 : OwnZ ((w.alloc (.cells #[.slice none 0 0] 95)).alloc (.cells (madeCells #[.int .i64 0] n) 3)) (w.heap.size + 1) (.slice (some ⟨w.heap.size + 1, 0, none⟩) n n) (filledZ (upZ n) 0) := by
    rw [filledZ_zero, upZ_length]; exact hO
  have HO := hide hO0
  have HB := hide (hb1.alloc hb1.size (.cells (madeCells #[.int .i64 0] n) 3))
  have HQ := hide ((unhide HP).belowB ((Below.refl (w.heap.size + 1) (w.alloc (.cells #[.slice none 0 0] 95))).alloc (by rw [hsz]; exact Nat.le_refl _) (.cells (madeCells #[.int .i64 0] n) 3)) (Nat.lt_succ_self _))
  clear hO hO0 hb1 HP
  go_enter Tryz.func46, Tryz.ntmps46
  go_wp2
  go_loopw [9] (fun i wr => ∃ k : Nat, k ≤ n ∧ i = .int .i64 k ∧ Hid (OwnZ wr (w.heap.size + 1) (.slice (some ⟨w.heap.size + 1, 0, none⟩) n n) (filledZ (upZ n) k) ∧ Bk1 95 wr w.heap.size (.slice none 0 0) ∧ Below w.heap.size w wr)) (fun i _ => n - (intOf i).toNat)
  case atStart => exact ⟨0, Nat.zero_le _, rfl, hide ⟨unhide HO, unhide HQ, unhide HB⟩⟩
  case round =>
    obtain ⟨k, hk, rfl, HR⟩ := hrel
    clear HO HQ HB
    by_cases hlt : k < n
    · obtain ⟨g, cap, e, _, hgs, hc, hf⟩ := (unhide HR).1.at (by rw [filledZ_length _ _ (by rw [upZ_length]; exact hk), upZ_length]; omega)
      have he : g = w.heap.size + 1 := by
        simp only [Value.slice.injEq, Option.some.injEq, Addr.mk.injEq, and_true] at e
        exact e.1.symm
      subst he
      have hcell := hc k (by rw [filledZ_length _ _ (by rw [upZ_length]; exact hk), upZ_length]; omega)
      have hfz := hf k
      have hO2 := (unhide HR).1.stored k (k : Int)
      rw [← upZ_getD n k hlt, filledZ_succ _ _ (by rw [upZ_length]; exact hlt), upZ_getD n k hlt] at hO2
      have HR2 := hide (show _ ∧ _ ∧ _ from ⟨hO2, (unhide HR).2.1.kept (gb_setCell wr (w.heap.size + 1) k (.int .i64 (k : Int))) (fun e => by have := Option.some.inj e; omega), (unhide HR).2.2.setCell (p := ⟨w.heap.size + 1, k, none⟩) (by show w.heap.size ≤ w.heap.size + 1; omega) (.int .i64 (k : Int))⟩)
      clear hc hf hO2 HR e
      go_wp2
      go_roundw
      case rel => exact ⟨k + 1, by omega, by go_num, hide (unhide HR2)⟩
      case measure => simp [intOf]; omega
    · obtain rfl : k = n := by omega
      obtain ⟨h1, h2, h3⟩ := unhide HR
      have h20 := h2.at0
      have h2f := h2.frz 0
      have hfin := filledZ_all (upZ k)
      rw [upZ_length] at hfin
      rw [hfin] at h1
      have HF := hide (show _ ∧ _ ∧ _ from ⟨(show OwnZ _ _ _ _ from h1.kept (gb_setCell _ w.heap.size 0 (.slice (some ⟨w.heap.size + 1, 0, none⟩) k k)) (Nat.lt_succ_self _)), h2.set0 (.slice (some ⟨w.heap.size + 1, 0, none⟩) k k), h3.setCell (p := ⟨w.heap.size, 0, none⟩) (Nat.le_refl _) (.slice (some ⟨w.heap.size + 1, 0, none⟩) k k)⟩)
      clear HR h1 h2 h3 hfin
      go_wp2
      exact bodyPost_ret (results_up rfl (unhide HF).2.1) rfl ⟨_, rfl, (unhide HF).1.mono (Nat.le_succ _), (unhide HF).2.2⟩

theorem min_num (k : Int) (n : Nat) : ∃ m : Int, (∀ (ts : Array TypeId) (t : TypeId) (w : World), (Builtin.min_ ts t #[.int .i64 k, .int .i64 (n : Int)]).run Tryz.prog w = .ok (.int .i64 m) w) ∧ ∀ i : Nat, (i : Int) < m ↔ i < min k.toNat n := by
  refine ⟨if (n : Int) < k then (n : Int) else k, fun ts t w => by rw [run_min_int2], fun i => ?_⟩
  split <;> omega
theorem OwnZ.lt' {w : World} {B : Nat} {v : Value} {xs : List Int} (h : OwnZ w B v xs) {k : Nat} (hk : v.ownBlock = some k) : B ≤ k := (World.ownsRow.lt h k hk).1
theorem upZ_sup {w : World} {b n B : Nat} (h : OwnZ w B (.slice (some ⟨b, 0, none⟩) n n) (upZ n)) (hn : n ≤ 1048576) :
    SupAt (w.alloc (.cells #[.slice (some ⟨b, 0, none⟩) n n] 95)) w.heap.size B (w.heap.size + 1) (upZ n) := by
  have h0 : w.ownsRow B 3 1 (.slice (some ⟨b, 0, none⟩) n n) n (cellsZ (upZ n)) := by
    have h' := h
    unfold OwnZ at h'
    rwa [upZ_length] at h'
  rcases h0.2 with ⟨e, _⟩ | ⟨g, cap, cur, e, hb, hg, hn1, hm, hsz, ht⟩
  · simp at e
  · simp only [Value.slice.injEq, Option.some.injEq, Addr.mk.injEq, and_true] at e
    obtain ⟨rfl, _, _⟩ := e
    have hlt := (Array.getElem?_eq_some_iff.1 hg).1
    have hal : (w.alloc (.cells #[.slice (some ⟨b, 0, none⟩) n n] 95)).heap[b]? = w.heap[b]? := Below.heap_alloc _ _ _ hlt
    refine ⟨b, 0, n, by rw [upZ_length]; exact bk1_new _ _ _, by rw [upZ_length]; exact Nat.le_refl _, hn, ⟨hb, by omega, by omega, by omega, by omega⟩, fun i hi => ?_, fun i => ?_⟩
    · rw [Nat.zero_add, World.cell?_of_block (a := ⟨b, i, none⟩) hal, h0.cellAt i (by rw [upZ_length] at hi; omega), cellsZ_get _ i hi]
    · rw [World.frozen?_of_block (a := ⟨b, i, none⟩) hal]
      exact h0.frozenAt i

set_option maxHeartbeats 2000000 in
theorem distinct_any (g B : Nat) (L : List Nat) (N n : Nat) (k : Int) (w : World) (h : DrAt w g B L N) (hB : B ≤ w.heap.size) (hN : N ≤ 549755813888) (hn : n ≤ 128) :
    Calls Tryz.prog 22 #[.pointer (some ⟨g, 0, none⟩), .int .i64 (n : Int), .int .i64 k] w fun e w' => ∃ v, e = .returned v ∧ OwnZ w' w.heap.size v (castZ (distL L N n (min k.toNat n))) ∧ DrAt w' g B L (N + min k.toNat n) ∧ w.grownBy w' (some g) := by
  obtain ⟨m, hmin, hm⟩ := min_num k n
  have hgB := h.1
  have hrn : min k.toNat n ≤ n := Nat.min_le_right _ _
  generalize min k.toNat n = r at *
  have HU := hide (upTo_any n (by omega) w)
  have h0 : ¬ ((n : Int) < 0) := by omega
  have h1 : ¬ ((128 : Int) < (n : Int)) := by omega
  have HD := hide h
  have HM := hide hm
  clear h hm
  go_enter Tryz.func22, Tryz.ntmps22
  go_wp2_with (go_at_call 46; refine (unhide HU).mono ?_; rintro e w1 ⟨b, rfl, hO1, hb1⟩; have HO1 := hide hO1; have HB1 := hide hb1; clear hO1 hb1)
  go_loopw [8, 25] (fun t i wr => ∃ q : Nat, q ≤ r ∧ i = .int .i64 q ∧ Hid (OwnZ wr (w1.heap.size + 1) t (castZ (picksL L N (List.range n) q)) ∧ SupAt wr w1.heap.size w.heap.size (w1.heap.size + 1) (castZ (leftL L N (List.range n) q)) ∧ DrAt wr g B L (N + q) ∧ w.grownBy wr (some g) ∧ w1.heap.size + 1 ≤ wr.heap.size)) (fun _ i _ => r - (intOf i).toNat)
  case atStart =>
    have hb1 := unhide HB1
    have hA : Below w.heap.size w1 (w1.alloc (.cells #[.slice (some ⟨b, 0, none⟩) n n] 95)) := (Below.refl _ _).alloc hb1.size _
    exact ⟨0, Nat.zero_le _, rfl, hide ⟨OwnZ.nil _ _, upZ_sup (unhide HO1) (by omega), (unhide HD).below ((hb1.trans hA).mono hB), gb_of_below (hb1.trans hA) _, by rw [alloc_size]; exact Nat.le_refl _⟩⟩
  case round =>
    obtain ⟨q, hq, rfl, HR⟩ := hrel
    have hw1 : w.heap.size ≤ w1.heap.size := (unhide HB1).size
    have hqm := unhide HM q
    by_cases hlt : q < r
    · have hqm' : (q : Int) < m := hqm.2 hlt
      obtain ⟨hO, hS, hD, hG, hZ⟩ := unhide HR
      have hll := leftL_length L N (List.range n) q (by rw [List.length_range]; omega)
      rw [List.length_range] at hll
      obtain ⟨b', off, c, k1, k2, k3, k4, k5, k6⟩ := hS
      have HS := hide (show SupAt wr w1.heap.size w.heap.size (w1.heap.size + 1) (castZ (leftL L N (List.range n) q)) from ⟨b', off, c, k1, k2, k3, k4, k5, k6⟩)
      have k0 := k1.at0
      rw [castZ_length, hll] at k0
      have HX := hide (below_any g B L (N + q) (n - q) wr hD (by omega) (by omega) (by omega))
      have hj : drawN L (N + q + 1) % (n - q) < n - q := Nat.mod_lt _ (by omega)
      have HP := hide (show picksL L N (List.range n) (q + 1) = picksL L N (List.range n) q ++ [(leftL L N (List.range n) q).getD (drawN L (N + q + 1) % (n - q)) 0] from by show picksL L N (List.range n) q ++ _ = _; rw [hll])
      have HL := hide (show leftL L N (List.range n) (q + 1) = (leftL L N (List.range n) q).eraseIdx (drawN L (N + q + 1) % (n - q)) from by show (leftL L N (List.range n) q).eraseIdx _ = _; rw [hll])
      have hxv : (castZ (leftL L N (List.range n) q)).getD (drawN L (N + q + 1) % (n - q)) 0 = (((leftL L N (List.range n) q).getD (drawN L (N + q + 1) % (n - q)) 0 : Nat) : Int) := castZ_getD _ _
      have hT : ∀ w2, SupAt w2 w1.heap.size w.heap.size (w1.heap.size + 1) (castZ (leftL L N (List.range n) q)) → w1.heap.size + 1 ≤ w2.heap.size → Calls Tryz.prog 48 #[.pointer (some ⟨w1.heap.size, 0, none⟩), .int .i64 ((drawN L (N + q + 1) % (n - q) : Nat) : Int)] w2 fun e w' =>
          e = .returned (.int .i64 (((leftL L N (List.range n) q).getD (drawN L (N + q + 1) % (n - q)) 0 : Nat) : Int)) ∧ SupAt w' w1.heap.size w.heap.size (w1.heap.size + 1) (castZ (leftL L N (List.range n) (q + 1))) ∧ Mid w.heap.size (w1.heap.size + 1) w2 w' := by
        intro w2 hs2 hz2
        have := takeI_any w1.heap.size w.heap.size (w1.heap.size + 1) (drawN L (N + q + 1) % (n - q)) _ w2 hs2 (by rw [castZ_length, hll]; exact hj) hz2
        rw [hxv, ← castZ_erase, ← unhide HL] at this
        exact this
      have HT := hide hT
      have HO := hide hO
      have HG := hide hG
      have HPL := hide (picksL_length L N (List.range n) q)
      clear k1 k2 k3 k4 k5 k6 hD hO hG hj hll HR hqm HO1 HB1 HU HD hT hxv HL
      generalize (leftL L N (List.range n) q).getD (drawN L (N + q + 1) % (n - q)) 0 = x at *
      generalize drawN L (N + q + 1) % (n - q) = j at *
      go_wp2_with (first | (go_at_call 47; refine (unhide HX).mono ?_; rintro e w2 ⟨rfl, hD2, hG2⟩; have HS2 := hide ((unhide HS).kept hG2 (by omega) hZ); have HO2 := hide ((unhide HO).kept hG2 (by have := hG2.size; omega)); have HG2 := hide (gb_trans (unhide HG) hG2 (.inl rfl)); have HD2 := hide hD2; have HZ2 := hide (Nat.le_trans hZ hG2.size); clear hD2 hG2) | (go_at_call 48; refine (unhide HT _ (unhide HS2) (unhide HZ2)).mono ?_; rintro e w3 ⟨rfl, hS3, hM3⟩; have HS3 := hide hS3; have HM3 := hide hM3; have HO3 := hide ((unhide HO2).mid hM3); have HZ3 := hide (Nat.le_trans (unhide HZ2) hM3.size); clear hS3 hM3) | (at_builtin; refine wpList_pushZ rfl _ _ rfl (w1.heap.size + 1) u8 _ (x : Int) rfl rfl (unhide HO3) (unhide HZ3) (by rw [castZ_length, unhide HPL]; omega) ?_; intro s4 w4 ho4 hb4; have HO4 := hide ho4; have HB4 := hide hb4; clear ho4 hb4))
      go_roundw
      case rel =>
        have hsz2 : w.heap.size ≤ w2.heap.size := (unhide HG2).size
        have hbm : Below w.heap.size w2 w3 := (unhide HM3).below hsz2
        have hb3 : Below w.heap.size w2 w4 := hbm.trans ((unhide HB4).mono (by omega))
        refine ⟨q + 1, by omega, by go_num, hide ⟨?_, (unhide HS3).below (unhide HB4), (unhide HD2).below (hb3.mono hB), gb_then (unhide HG2) hb3, Nat.le_trans (unhide HZ3) (unhide HB4).size⟩⟩
        rw [unhide HP, castZ_append]
        exact unhide HO4
      case measure => simp [intOf]; omega
    · have hqm' : ¬ ((q : Int) < m) := fun h => hlt (hqm.1 h)
      obtain rfl : q = r := by omega
      obtain ⟨hO, hS, hD, hG, hZ⟩ := unhide HR
      have HSo := hide (sort_any (w1.heap.size + 1) u8 _ wr hO (by rw [castZ_length, picksL_length]; omega))
      rw [dist_sort L N n q hrn] at HSo
      have HO := hide hO
      have HG := hide hG
      have HD := hide hD
      have HZ := hide hZ
      clear hO hS hD hG hZ HR hqm HO1 HB1 HU
      go_wp2_with (go_at_call 49; refine (unhide HSo).mono ?_; rintro e w5 ⟨rfl, hO5, hG5⟩)
      go_ret
      have hb5 : Below (w1.heap.size + 1) wr w5 := gb_below hG5 (unhide HZ) (fun k hk => ((unhide HO).lt' hk))
      exact ⟨_, rfl, hO5.mono (by omega), (unhide HD).below (hb5.mono (by omega)), gb_then (unhide HG) (hb5.mono (by omega))⟩
end Go.Proofs.YtakoaadimhpclaaGreatDoor
