/-
  Contracts of slices.Repeat of one int, of one event. Condition: at least once, at most eight times.
-/
import Derived.Test.YtakoaadimhpclaaGreatDoorU28
import Derived.Test.YtakoaadimhpclaaGreatDoorU29
import Derived.Test.YtakoaadimhpclaaGreatDoorU30
namespace Go.Proofs.YtakoaadimhpclaaGreatDoor
open Go.RowKit Go.Sort
set_option linter.unusedVariables false
set_option linter.unusedSimpArgs false
set_option maxRecDepth 4000

theorem islice_lo (b off n c q : Nat) (hq : q ≤ n) (hc : q < c) (w : World) :
    (Instr.sliceAt 58 (.slice (some ⟨b, off, none⟩) n c) (some (.int .i64 (q : Int))) none none).run Tryz.prog w = .ok (.slice (some ⟨b, off + q, none⟩) (n - q) (c - q)) w := by
  have hz : ∀ w : World, (sizeOf 3).run Tryz.prog w = .ok 1 w := fun w => by kernel_rfl
  rw [run_sliceAt_slice _ _ _ _ _ _ elem_intsN, run_slice_l _ _ _ _ _ elem_intsN _ _ (by omega) (by omega), elem_intsN', hz]
  have e : ¬ c = q := by omega
  simp [Result.andThen, sliced, e, Addr.add]
theorem repV_one (x : Int) (n m : Nat) : repV [.int .i64 x] [.int .i64 0] n m = cellsZ (List.replicate m x ++ List.replicate (n - m) 0) := by
  unfold repV cellsZ
  rw [List.map_append, List.map_replicate, List.map_replicate]
  have : ∀ (v : Value) k, (List.replicate k [v]).flatten = List.replicate k v := fun v k => by
    induction k with
    | zero => rfl
    | succ k ih => rw [List.replicate_succ, List.flatten_cons, ih]; rfl
  rw [this, this]
theorem info_int_one : (Tryz.prog.info? 3).map (·.size) = some 1 := by kernel_rfl
set_option maxHeartbeats 2000000 in
theorem repI_any (x : Int) (b off c n : Nat) (hn : 1 ≤ n ∧ n ≤ 8) (w : World) (hx : w.cell? ⟨b, off, none⟩ = some (.int .i64 x)) :
    Calls Tryz.prog 59 #[.slice (some ⟨b, off, none⟩) 1 c, .int .i64 (n : Int)] w fun e w' => ∃ v, e = .returned v ∧ OwnZ w' w.heap.size v (List.replicate n x) ∧ Below w.heap.size w w' := by
  obtain ⟨hn1, hn8⟩ := hn
  have hw1 : IntKind.u64.wrap (n : Int) = (n : Int) := by rw [IntKind.wrap_u64]; omega
  have hw2 : IntKind.i64.wrap (n : Int) = (n : Int) := by rw [IntKind.wrap_i64]; omega
  have d1 : decide ((n : Int) < 0) = false := by simp
  have d2 : decide ((9223372036854775807 : Int) < (n : Int)) = false := by rw [decide_eq_false_iff_not]; omega
  have hmk := make_intz n (by omega)
  have hbl := World.block_lt_of_cell? w _ hx
  -- the new row, and the first copy
  have hO := made_intz w n (by omega) (List.replicate n 0) rfl
  obtain ⟨W0, hW0⟩ : ∃ W0, W0 = w.alloc (.cells (madeCells #[.int .i64 0] n) 3) := ⟨_, rfl⟩
  have hO0 : W0.ownsRow w.heap.size 3 1 (.slice (some ⟨w.heap.size, 0, none⟩) n n) n (repV [.int .i64 x] [.int .i64 0] n 0) := by
    rw [repV_one, hW0]
    have : World.ownsRow _ _ _ _ _ (List.replicate n (0 : Int)).length _ := hO
    rw [List.length_replicate] at this
    simpa using this
  have hcp : ∀ ty, (Builtin.copy_ #[58, 58] ty #[.slice (some ⟨w.heap.size, 0, none⟩) n n, .slice (some ⟨b, off, none⟩) 1 c]).run Tryz.prog W0 = .ok (goInt 1) (W0.setCells w.heap.size 0 [.int .i64 x]) := fun ty =>
    run_copy_many W0 _ _ ty 3 w.heap.size 0 n n 1 1 ⟨b, off, none⟩ 1 c [.int .i64 x] Tryz.underlying58 info_int_one (by simp only [Nat.min_def]; split <;> omega) rfl
      (fun j v hj => by
        match j with
        | 0 =>
          rw [show (⟨b, off, none⟩ : Addr).add 0 = ⟨b, off, none⟩ from by simp [Addr.add], hW0, (alloc_low w _).cell hbl, hx]
          simpa using hj
        | j + 1 => simp at hj)
      (fun j hj => by
        have hj0 : j = 0 := by simpa using hj
        subst hj0
        rw [World.ownsRow.cellAt hO0 (0 + 0) (by omega), List.getElem?_eq_getElem (by rw [repV_len (s := 1) (cs := [.int .i64 x]) (z := [.int .i64 0]) rfl rfl (Nat.zero_le _)]; omega)]
        rfl)
      (fun j hj => World.ownsRow.frozenAt hO0 (0 + j)) (fun v hv => by rw [List.mem_singleton.1 hv]; rfl)
  have hO1 : (W0.setCells w.heap.size 0 [.int .i64 x]).ownsRow w.heap.size 3 1 (.slice (some ⟨w.heap.size, 0, none⟩) n n) n (repV [.int .i64 x] [.int .i64 0] n 1) := by
    have := owns_setCells [.int .i64 x] W0 _ 0 hO0
    have h2 := repV_copy (cs := [.int .i64 x]) (z := [.int .i64 0]) rfl (n := n) (m := 0) (k := 1) (by omega)
    simp only [Nat.zero_mul, Nat.zero_add, List.replicate_one, List.flatten_singleton] at h2
    rwa [h2] at this
  have hB1 : Below w.heap.size w (W0.setCells w.heap.size 0 [.int .i64 x]) := by
    have h1 : Below w.heap.size w W0 := by rw [hW0]; exact alloc_low w _
    exact h1.trans (gb_below (setCells_gb w.heap.size [.int .i64 x] 0 W0) h1.size fun k hk => by rw [← Option.some.inj hk]; exact Nat.le_refl _)
  have HO1 := hide hO1
  have HB1 := hide hB1
  obtain ⟨W1, hW1⟩ : ∃ W1, W1 = W0.setCells w.heap.size 0 [.int .i64 x] := ⟨_, rfl⟩
  rw [← hW1] at HO1 HB1 hcp
  clear hO hO0 hO1 hB1 hW1
  subst hW0
  go_enter Tryz.func59, Tryz.ntmps59
  go_wp2_with (first
    | (go_at_call 72; refine (mul_one_any n hn8 _).mono ?_; rintro e w1 ⟨rfl, hw1⟩; obtain rfl := hw1.symm; clear hw1)
    | (at_builtin; refine copy_list rfl _ _ 58 rfl _ _ rfl rfl (hcp _) ?_)
    | fail)
  go_loopw [8] (fun i wr => ∃ m : Nat, 1 ≤ m ∧ m ≤ n ∧ i = .int .i64 m ∧ Hid (wr.ownsRow w.heap.size 3 1 (.slice (some ⟨w.heap.size, 0, none⟩) n n) n (repV [.int .i64 x] [.int .i64 0] n m)) ∧ Hid (Below w.heap.size w wr)) (fun i _ => n - (intOf i).toNat)
  case atStart => exact ⟨1, Nat.le_refl _, hn1, rfl, HO1, HB1⟩
  case round =>
    obtain ⟨m, hm1, hmn, rfl, HO, HB⟩ := hrel
    rename World => wr
    by_cases hlt : m < n
    · have hlt' : (m : Int) < (n : Int) := by omega
      obtain ⟨k, hk⟩ : ∃ k, k = Nat.min m (n - m) := ⟨_, rfl⟩
      have hk1 : 1 ≤ k ∧ m + k ≤ n := by
        simp only [Nat.min_def] at hk
        split at hk <;> omega
      obtain ⟨r1, r2, r3⟩ := rep_copy (w := wr.drew) (cs := [.int .i64 x]) (z := [.int .i64 0]) (s := 1) Tryz.underlying58 info_int_one rfl rfl (fun v hv => by rw [List.mem_singleton.1 hv]; rfl) hk hmn (unhide HO)
      have hs1 := islice_lo w.heap.size 0 n n m hmn hlt
      have hs2 := islice_hi (some ⟨w.heap.size, 0, none⟩) n n m hmn
      rw [Nat.mul_one, Nat.zero_add] at *
      obtain ⟨W2, hW2⟩ : ∃ W2, W2 = wr.drew.setCells w.heap.size m (List.replicate k [Value.int .i64 x]).flatten := ⟨_, rfl⟩
      rw [← hW2] at r1 r2 r3
      clear hW2
      have HR := hide r1
      have HG2 := hide (show Below w.heap.size w W2 from (unhide HB).drew.trans (gb_below r2 (unhide HB).size fun k hk => by rw [← Option.some.inj hk]; exact Nat.le_refl _))
      clear r1 r2 hk
      have hwk : IntKind.i64.wrap ((m : Int) + (k : Int)) = ((m + k : Nat) : Int) := by rw [IntKind.wrap_i64]; omega
      go_wp2_with fail
      go_region_law (refine copy_region rfl _ _ 58 rfl _ _ (by simp [Act.eval, Act.put]) (by simp [Act.eval, Act.put]) (r3 _ _ _) ?_)
      go_simp
      go_roundw
      case rel => exact ⟨_, _, _, _, _, _, _, _, _, _, _, _, _, _, ⟨m + k, by omega, hk1.2, rfl, HR, HG2⟩, rfl⟩
      case measure => simp [intOf]; omega
    · obtain rfl : m = n := by omega
      have HF := hide (show OwnZ wr w.heap.size (.slice (some ⟨w.heap.size, 0, none⟩) m m) (List.replicate m x) from by
        have := unhide HO
        rw [repV_one, Nat.sub_self, List.replicate_zero, List.append_nil] at this
        show wr.ownsRow _ _ _ _ (List.replicate m x).length _
        rwa [List.length_replicate])
      go_wp2
      go_ret
      exact ⟨_, rfl, unhide HF, unhide HB⟩
/-- The zero event. -/
def zEv : List Value := [.int .i64 0, .int .i64 0, .int .i64 0, .int .i64 0, .int .i64 0, .slice none 0 0]
theorem info_ev : (Tryz.prog.info? 56).map (fun i => (i.zero, i.size, i.bytes)) = some (some (.agg #[.int .i64 0, .int .i64 0, .int .i64 0, .int .i64 0, .int .i64 0, .slice none 0 0]), 6, 64) := by kernel_rfl
theorem info_ev_six : (Tryz.prog.info? 56).map (·.size) = some 6 := by kernel_rfl
theorem elem_evs : Tryz.prog.underlying 46 = some (.slice (Tryz.prog.elem 46)) := by kernel_rfl
theorem elem_evs' : Tryz.prog.elem 46 = 56 := by kernel_rfl
theorem eslice_lo (b off n c q : Nat) (hq : q ≤ n) (hc : q < c) (w : World) :
    (Instr.sliceAt 46 (.slice (some ⟨b, off, none⟩) n c) (some (.int .i64 (q : Int))) none none).run Tryz.prog w = .ok (.slice (some ⟨b, off + q * 6, none⟩) (n - q) (c - q)) w := by
  have hz : ∀ w : World, (sizeOf 56).run Tryz.prog w = .ok 6 w := fun w => by kernel_rfl
  rw [run_sliceAt_slice _ _ _ _ _ _ elem_evs, run_slice_l _ _ _ _ _ elem_evs _ _ (by omega) (by omega), elem_evs', hz]
  have e : ¬ c = q := by omega
  simp [Result.andThen, sliced, e, Addr.add]
theorem eslice_hi (a : Option Addr) (n c q : Nat) (hc : q ≤ c) (w : World) :
    (Instr.sliceAt 46 (.slice a n c) none (some (.int .i64 (q : Int))) none).run Tryz.prog w = .ok (.slice a q c) w := by
  have hz : ∀ w : World, (sizeOf 56).run Tryz.prog w = .ok 6 w := fun w => by kernel_rfl
  rw [run_sliceAt_slice _ _ _ _ _ _ elem_evs, run_slice_h _ _ _ _ _ elem_evs _ _ (by omega) (by omega), elem_evs', hz]
  cases a <;> simp [Result.andThen, sliced, Addr.add]
theorem make_ev (wx : World) : (Instr.makeSlice 46 (.int .i64 8) (.int .i64 8)).run Tryz.prog wx = .ok (.slice (some ⟨wx.heap.size, 0, none⟩) 8 8) (wx.alloc (.cells (madeCells #[.int .i64 0, .int .i64 0, .int .i64 0, .int .i64 0, .int .i64 0, .slice none 0 0] 48) 56)) := by
  obtain ⟨i0, hi0, hz0, hzs, hzb⟩ := info_parts info_ev
  have := run_make (P := Tryz.prog) wx 46 56 i0 _ Tryz.underlying46 hi0 hz0 .i64 .i64 8 8 (by omega) (Int.le_refl _) (by rw [hzb]; omega) (by omega)
  rw [hzs] at this
  simpa [Value.cells] using this
theorem one_ev {f : EVV} : ∀ v ∈ f.cells, v.oneCell' = true := fun u hu => by simp only [EVV.cells, List.mem_cons, List.not_mem_nil, or_false] at hu; rcases hu with h | h | h | h | h | h <;> (rw [h]; rfl)
set_option maxHeartbeats 4000000 in
theorem repE_any (f : EVV) (b c : Nat) (w : World) (hx : ∀ j v, f.cells[j]? = some v → w.cell? ⟨b, j, none⟩ = some v) :
    Calls Tryz.prog 56 #[.slice (some ⟨b, 0, none⟩) 1 c, .int .i64 8] w fun e w' => ∃ g, e = .returned (.slice (some ⟨g, 0, none⟩) 8 8) ∧ w'.ownsRow w.heap.size 56 6 (.slice (some ⟨g, 0, none⟩) 8 8) 8 (repV f.cells zEv 8 8) ∧ Below w.heap.size w w' := by
  have hmk := make_ev
  have hcl : f.cells.length = 6 := rfl
  have hbl := World.block_lt_of_cell? w _ (hx 0 _ rfl)
  obtain ⟨W0, hW0⟩ : ∃ W0, W0 = w.alloc (.cells (madeCells #[.int .i64 0, .int .i64 0, .int .i64 0, .int .i64 0, .int .i64 0, .slice none 0 0] 48) 56) := ⟨_, rfl⟩
  have hO0 : W0.ownsRow w.heap.size 56 6 (.slice (some ⟨w.heap.size, 0, none⟩) 8 8) 8 (repV f.cells zEv 8 0) := by
    rw [hW0]
    exact ⟨rfl, .inr ⟨w.heap.size, 8, _, rfl, Nat.le_refl _, heap_alloc_new w _, Nat.le_refl _, by unfold maxLen; omega, by kernel_rfl, by kernel_rfl⟩⟩
  have hcp : ∀ ty, (Builtin.copy_ #[46, 46] ty #[.slice (some ⟨w.heap.size, 0, none⟩) 8 8, .slice (some ⟨b, 0, none⟩) 1 c]).run Tryz.prog W0 = .ok (goInt 1) (W0.setCells w.heap.size 0 f.cells) := fun ty =>
    run_copy_many W0 _ _ ty 56 w.heap.size 0 8 8 6 1 ⟨b, 0, none⟩ 1 c f.cells Tryz.underlying46 info_ev_six rfl rfl
      (fun j v hj => by
        rw [show (⟨b, 0, none⟩ : Addr).add j = ⟨b, j, none⟩ from by unfold Addr.add; split <;> simp_all, hW0, (alloc_low w _).cell (p := ⟨b, j, none⟩) hbl]
        exact hx j v hj)
      (fun j hj => by
        rw [hcl] at hj
        rw [World.ownsRow.cellAt hO0 (0 + j) (by omega), List.getElem?_eq_getElem (by rw [repV_len (s := 6) (cs := f.cells) (z := zEv) rfl rfl (Nat.zero_le _)]; omega)]
        rfl)
      (fun j hj => World.ownsRow.frozenAt hO0 (0 + j)) one_ev
  have hO1 : (W0.setCells w.heap.size 0 f.cells).ownsRow w.heap.size 56 6 (.slice (some ⟨w.heap.size, 0, none⟩) 8 8) 8 (repV f.cells zEv 8 1) := by
    have := owns_setCells f.cells W0 _ 0 hO0
    have h2 := repV_copy (cs := f.cells) (z := zEv) rfl (n := 8) (m := 0) (k := 1) (by omega)
    simp only [Nat.zero_mul, Nat.zero_add, List.replicate_one, List.flatten_singleton] at h2
    rwa [h2] at this
  have hB1 : Below w.heap.size w (W0.setCells w.heap.size 0 f.cells) := by
    have h1 : Below w.heap.size w W0 := by rw [hW0]; exact alloc_low w _
    exact h1.trans (gb_below (setCells_gb w.heap.size f.cells 0 W0) h1.size fun k hk => by rw [← Option.some.inj hk]; exact Nat.le_refl _)
  have HO1 := hide hO1
  have HB1 := hide hB1
  obtain ⟨W1, hW1⟩ : ∃ W1, W1 = W0.setCells w.heap.size 0 f.cells := ⟨_, rfl⟩
  rw [← hW1] at HO1 HB1 hcp
  clear hO0 hO1 hB1 hW1 hx
  subst hW0
  go_enter Tryz.func56, Tryz.ntmps56
  go_wp2_with (first
    | (go_at_call 72; refine (mul_one_any 8 (by omega) _).mono ?_; rintro e w1 ⟨rfl, hw1⟩; obtain rfl := hw1.symm; clear hw1)
    | (at_builtin; refine copy_list rfl _ _ 46 rfl _ _ rfl rfl (hcp _) ?_)
    | fail)
  go_loopw [8] (fun i wr => ∃ m : Nat, 1 ≤ m ∧ m ≤ 8 ∧ i = .int .i64 m ∧ Hid (wr.ownsRow w.heap.size 56 6 (.slice (some ⟨w.heap.size, 0, none⟩) 8 8) 8 (repV f.cells zEv 8 m)) ∧ Hid (Below w.heap.size w wr)) (fun i _ => 8 - (intOf i).toNat)
  case atStart => exact ⟨1, Nat.le_refl _, by omega, rfl, HO1, HB1⟩
  case round =>
    obtain ⟨m, hm1, hmn, rfl, HO, HB⟩ := hrel
    rename World => wr
    by_cases hlt : m < 8
    · have hlt' : (m : Int) < 8 := by omega
      obtain ⟨k, hk⟩ : ∃ k, k = Nat.min m (8 - m) := ⟨_, rfl⟩
      have hk1 : 1 ≤ k ∧ m + k ≤ 8 := by
        simp only [Nat.min_def] at hk
        split at hk <;> omega
      obtain ⟨r1, r2, r3⟩ := rep_copy (w := wr.drew) (cs := f.cells) (z := zEv) (s := 6) Tryz.underlying46 info_ev_six rfl rfl one_ev hk hmn (unhide HO)
      have hs1 := eslice_lo w.heap.size 0 8 8 m hmn hlt
      have hs2 := eslice_hi (some ⟨w.heap.size, 0, none⟩) 8 8 m hmn
      rw [Nat.zero_add] at hs1
      obtain ⟨W2, hW2⟩ : ∃ W2, W2 = wr.drew.setCells w.heap.size (m * 6) (List.replicate k f.cells).flatten := ⟨_, rfl⟩
      rw [← hW2] at r1 r2 r3
      clear hW2
      have HR := hide r1
      have HG2 := hide (show Below w.heap.size w W2 from (unhide HB).drew.trans (gb_below r2 (unhide HB).size fun k hk => by rw [← Option.some.inj hk]; exact Nat.le_refl _))
      clear r1 r2 hk
      have hwk : IntKind.i64.wrap ((m : Int) + (k : Int)) = ((m + k : Nat) : Int) := by rw [IntKind.wrap_i64]; omega
      go_wp2_with fail
      go_region_law (refine copy_region rfl _ _ 46 rfl _ _ (by simp [Act.eval, Act.put]) (by simp [Act.eval, Act.put]) (r3 _ _ _) ?_)
      go_simp
      go_roundw
      case rel => exact ⟨_, _, _, _, _, _, _, _, _, _, _, _, _, _, ⟨m + k, by omega, hk1.2, rfl, HR, HG2⟩, rfl⟩
      case measure => simp [intOf]; omega
    · obtain rfl : m = 8 := by omega
      go_wp2
      go_ret
      exact ⟨_, rfl, unhide HO, unhide HB⟩
end Go.Proofs.YtakoaadimhpclaaGreatDoor
