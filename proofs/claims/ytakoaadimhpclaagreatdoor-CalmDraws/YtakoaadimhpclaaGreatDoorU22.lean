/-
  Numbers that are taken one by one: supply[int] in memory ('SupAt'). Contracts of supply[int].take, upTo and Draws.Distinct. Conditions: at most 2^20 numbers, at most 2^39 draws used.
-/
import Derived.Test.YtakoaadimhpclaaGreatDoorU19
import Derived.Test.YtakoaadimhpclaaGreatDoorU21
namespace Go.Proofs.YtakoaadimhpclaaGreatDoor
open Go.RowKit
set_option linter.unusedVariables false
set_option linter.unusedSimpArgs false
set_option maxRecDepth 4000

/-- A block of one cell, not frozen. -/
def Bk1 (T : TypeId) (w : World) (g : Nat) (v : Value) : Prop := w.heap[g]? = some (.cells #[v] T (0, 0))
theorem bk1_new (T : TypeId) (w : World) (v : Value) : Bk1 T (w.alloc (.cells #[v] T)) w.heap.size v := by
  show (w.heap.push _)[w.heap.size]? = _
  simp
theorem Bk1.lt {T : TypeId} {w : World} {g : Nat} {v : Value} (h : Bk1 T w g v) : g < w.heap.size := (Array.getElem?_eq_some_iff.1 h).1
theorem Bk1.belowB {T : TypeId} {w w' : World} {g B : Nat} {v : Value} (h : Bk1 T w g v) (hb : Below B w w') (hg : g < B) : Bk1 T w' g v := (hb.block g hg).trans h
theorem Bk1.kept {T : TypeId} {w w' : World} {g : Nat} {v : Value} {row : Option Nat} (h : Bk1 T w g v) (hg : w.grownBy w' row) (hne : some g ≠ row) : Bk1 T w' g v := (hg.block g h.lt hne).trans h
theorem Bk1.at0 {T : TypeId} {w : World} {g : Nat} {v : Value} (h : Bk1 T w g v) : w.cell? ⟨g, 0, none⟩ = some v := by
  unfold Bk1 at h
  rw [cell_of_row w g _ _ _ _ h]; rfl
theorem Bk1.frz {T : TypeId} {w : World} {g : Nat} {v : Value} (h : Bk1 T w g v) (i : Nat) : w.frozen? ⟨g, i, none⟩ = false := by
  unfold Bk1 at h
  simp [World.frozen?, h]
theorem Bk1.set0 {T : TypeId} {w : World} {g : Nat} {v : Value} (h : Bk1 T w g v) (u : Value) : Bk1 T (w.setCell ⟨g, 0, none⟩ u) g u := heap_setCell_same w g 0 _ _ u h
theorem Bk1.drew {T : TypeId} {w : World} {g : Nat} {v : Value} (h : Bk1 T w g v) : Bk1 T w.drew g v := h

/-- Of the old blocks none has turned but those from B to B2. -/
structure Mid (B B2 : Nat) (w w' : World) : Prop where
  os : w'.os = w.os
  tape : w'.tape = w.tape
  output : w'.output = w.output
  size : w.heap.size ≤ w'.heap.size
  block : ∀ k, k < w.heap.size → k < B ∨ B2 ≤ k → w'.heap[k]? = w.heap[k]?
theorem Mid.below {B B2 : Nat} {w w' : World} (h : Mid B B2 w w') (hB : B ≤ w.heap.size) : Below B w w' := ⟨h.os, h.tape, h.output, h.size, fun k hk => h.block k (by omega) (.inl hk)⟩
theorem OwnZ.mid {w w' : World} {B B2 : Nat} {v : Value} {xs : List Int} (h : OwnZ w B2 v xs) (hm : Mid B B2 w w') : OwnZ w' B2 v xs := by
  refine ⟨h.1, ?_⟩
  rcases h.2 with h0 | ⟨g, cap, cur, h1, hg, hgg, r⟩
  · exact .inl h0
  · exact .inr ⟨g, cap, cur, h1, hg, (hm.block g (Array.getElem?_eq_some_iff.1 hgg).1 (.inr hg)).trans hgg, r⟩
theorem OwnZ.kept {w w' : World} {B : Nat} {v : Value} {xs : List Int} {k : Nat} (h : OwnZ w B v xs) (hg : w.grownBy w' (some k)) (hk : k < B) : OwnZ w' B v xs := by
  refine ⟨h.1, ?_⟩
  rcases h.2 with h0 | ⟨g, cap, cur, h1, hg1, hgg, r⟩
  · exact .inl h0
  · exact .inr ⟨g, cap, cur, h1, hg1, (hg.block g (Array.getElem?_eq_some_iff.1 hgg).1 (fun e => by have := Option.some.inj e; omega)).trans hgg, r⟩
theorem gb_then {w w1 w2 : World} {r : Option Nat} (h : w.grownBy w1 r) (hb : Below w.heap.size w1 w2) : w.grownBy w2 r :=
  ⟨hb.os.trans h.os, hb.tape.trans h.tape, hb.output.trans h.output, Nat.le_trans h.size hb.size, fun k hk hne => (hb.block k hk).trans (h.block k hk hne)⟩

/-- The numbers zs, those that are left, behind the block h; all of it lies from B to B2. -/
def SupAt (w : World) (h B B2 : Nat) (zs : List Int) : Prop :=
  ∃ b off c, Bk1 95 w h (.slice (some ⟨b, off, none⟩) zs.length c) ∧ zs.length ≤ c ∧ c ≤ 1048576 ∧ (B ≤ b ∧ b < B2 ∧ B ≤ h ∧ h < B2 ∧ b ≠ h) ∧
    (∀ i, i < zs.length → w.cell? ⟨b, off + i, none⟩ = some (.int .i64 (zs.getD i 0))) ∧ ∀ i, w.frozen? ⟨b, i, none⟩ = false
theorem SupAt.below {w w' : World} {h B B2 : Nat} {zs : List Int} (H : SupAt w h B B2 zs) (hb : Below B2 w w') : SupAt w' h B B2 zs := by
  obtain ⟨b, off, c, h1, h2, h3, h4, h5, h6⟩ := H
  exact ⟨b, off, c, h1.belowB hb h4.2.2.2.1, h2, h3, h4, fun i hi => (hb.cell (p := ⟨b, off + i, none⟩) h4.2.1).trans (h5 i hi), fun i => (hb.frozen (p := ⟨b, i, none⟩) h4.2.1).trans (h6 i)⟩
theorem SupAt.kept {w w' : World} {h B B2 k : Nat} {zs : List Int} (H : SupAt w h B B2 zs) (hg : w.grownBy w' (some k)) (hk : k < B) (hs : B2 ≤ w.heap.size) : SupAt w' h B B2 zs := by
  obtain ⟨b, off, c, h1, h2, h3, h4, h5, h6⟩ := H
  have hbk : w'.heap[b]? = w.heap[b]? := hg.block b (by omega) (fun e => by have := Option.some.inj e; omega)
  exact ⟨b, off, c, h1.kept hg (fun e => by have := Option.some.inj e; omega), h2, h3, h4, fun i hi => (World.cell?_of_block (a := ⟨b, off + i, none⟩) hbk).trans (h5 i hi), fun i => (World.frozen?_of_block (a := ⟨b, i, none⟩) hbk).trans (h6 i)⟩

theorem elem_z : Tryz.prog.underlying 58 = some (.slice (Tryz.prog.elem 58)) := by kernel_rfl
theorem elem_z' : Tryz.prog.elem 58 = 3 := by kernel_rfl
theorem size_z (w : World) : (sizeOf 3).run Tryz.prog w = .ok 1 w := by kernel_rfl
theorem one_z : (Tryz.prog.info? 3).map (·.size) = some 1 := by kernel_rfl
theorem zslice_lo (b off n c : Nat) (hc : n + 1 ≤ c) : ∃ off', (n = 0 ∨ off' = off + 1) ∧ ∀ w : World,
    (Instr.sliceAt 58 (.slice (some ⟨b, off, none⟩) (n + 1) c) (some (.int .i64 1)) none none).run Tryz.prog w = .ok (.slice (some ⟨b, off', none⟩) n (c - 1)) w := by
  refine ⟨if c = 1 then off else off + 1, ?_, fun w => ?_⟩
  · by_cases h : c = 1
    · exact .inl (by omega)
    · exact .inr (by rw [if_neg h])
  · rw [run_sliceAt_slice _ _ _ _ _ _ elem_z, run_slice_l _ _ _ _ _ elem_z _ _ (by omega) (by omega), elem_z', size_z]
    by_cases h : c = 1
    · simp [Result.andThen, sliced, h]
    · simp [Result.andThen, sliced, Addr.add, h]
theorem zslice_hi (b off n c j : Nat) (hj : j ≤ c) (w : World) :
    (Instr.sliceAt 58 (.slice (some ⟨b, off, none⟩) n c) none (some (.int .i64 (j : Int))) none).run Tryz.prog w = .ok (.slice (some ⟨b, off, none⟩) j c) w := by
  rw [run_sliceAt_slice _ _ _ _ _ _ elem_z, run_slice_h _ _ _ _ _ elem_z _ _ (by omega) (by omega), elem_z', size_z]
  simp [Result.andThen, sliced, Addr.add]
theorem cellsZ_one (xs : List Int) : ∀ u ∈ cellsZ xs, u.oneCell' = true := by
  intro u hu
  obtain ⟨_, _, rfl⟩ := List.mem_map.1 hu
  rfl
theorem add_offD (b off i : Nat) : (⟨b, off, none⟩ : Addr).add i = ⟨b, off + i, none⟩ := by
  unfold Addr.add
  split
  · rename_i h; simp_all
  · rfl
/-- 'copy(left[1:], left[:j])': those ahead of the j-th move up. -/
theorem shifted (b off off' n c j : Nat) (zs : List Int) (wx : World) (hl : zs.length = n + 1) (hj : j < n + 1) (ho : n = 0 ∨ off' = off + 1)
    (hc : ∀ i, i < n + 1 → wx.cell? ⟨b, off + i, none⟩ = some (.int .i64 (zs.getD i 0))) (hf : ∀ i, wx.frozen? ⟨b, i, none⟩ = false) (ty : TypeId) :
    ∃ w2, (Builtin.copy_ #[58, 58] ty #[.slice (some ⟨b, off', none⟩) n (c - 1), .slice (some ⟨b, off, none⟩) j c]).run Tryz.prog wx = .ok (goInt j) w2 ∧
      (∀ i, i < n → w2.cell? ⟨b, off' + i, none⟩ = some (.int .i64 ((zs.eraseIdx j).getD i 0))) ∧ (∀ i, w2.frozen? ⟨b, i, none⟩ = false) ∧ wx.grownBy w2 (some b) := by
  have hget : ∀ i, (zs.eraseIdx j).getD i 0 = if i < j then zs.getD i 0 else zs.getD (i + 1) 0 := by
    intro i
    simp only [List.getD_eq_getElem?_getD, List.getElem?_eraseIdx]
    split <;> rfl
  by_cases h0 : j = 0
  · subst h0
    refine ⟨wx, run_copy_none wx 58 58 ty 3 _ _ _ _ _ _ Tryz.underlying58 one_z (Nat.min_eq_left (Nat.zero_le _)), fun i hi => ?_, hf, gb_refl _ _⟩
    rw [hget, if_neg (by omega)]
    rcases ho with ho | rfl
    · omega
    · rw [show off + 1 + i = off + (i + 1) by omega]
      exact hc (i + 1) (by omega)
  · have ho : off' = off + 1 := by omega
    subst ho
    have hln : (cellsZ (zs.take j)).length = j := by rw [cellsZ_length, List.length_take]; omega
    have htk : ∀ i, i < j → (zs.take j).getD i 0 = zs.getD i 0 := fun i hi => by simp [List.getD_eq_getElem?_getD, hi]
    refine ⟨wx.setCells b (off + 1) (cellsZ (zs.take j)), ?_, fun i hi => ?_, fun i => by rw [World.frozen?_setCells]; exact hf i, setCells_gb _ _ _ _⟩
    · have := run_copy_cells (P := Tryz.prog) wx 58 58 ty 3 b (off + 1) n (c - 1) ⟨b, off, none⟩ j c (cellsZ (zs.take j)) Tryz.underlying58 one_z (by rw [hln]; exact (Nat.min_eq_left (by omega)).symm)
        (fun i u hi => by
          have hlt : i < (zs.take j).length := by
            have := (List.getElem?_eq_some_iff.1 hi).1
            rwa [cellsZ_length] at this
          have hlt' : i < j := by rw [List.length_take] at hlt; omega
          rw [cellsZ_get _ _ hlt, htk i hlt'] at hi
          rw [add_offD, hc i (by omega)]
          exact hi)
        (fun i hi => by rw [hln] at hi; rw [show off + 1 + i = off + (i + 1) by omega, hc (i + 1) (by omega)]; rfl) (fun i hi => hf _) (cellsZ_one _)
      rw [hln] at this
      exact this
    · rw [hget]
      by_cases hij : i < j
      · rw [if_pos hij]
        have := World.cell?_setCells_in b (cellsZ (zs.take j)) (off + 1) wx (fun i hi => by rw [hln] at hi; rw [show off + 1 + i = off + (i + 1) by omega, hc (i + 1) (by omega)]; rfl) i (by rw [hln]; exact hij)
        rw [this]
        have h5 := cellsZ_get (zs.take j) i (by rw [List.length_take]; omega)
        rw [List.getElem?_eq_getElem (by rw [hln]; exact hij), htk i hij] at h5
        exact h5
      · rw [if_neg hij, World.cell?_setCells_out b _ _ _ _ (fun _ _ => .inr (by rw [hln]; show off + 1 + j ≤ off + 1 + i; omega)), show off + 1 + i = off + (i + 1) by omega]
        exact hc (i + 1) (by omega)

set_option maxHeartbeats 1000000 in
theorem takeI_any (h B B2 j : Nat) (zs : List Int) (w : World) (H : SupAt w h B B2 zs) (hj : j < zs.length) (hs : B2 ≤ w.heap.size) :
    Calls Tryz.prog 48 #[.pointer (some ⟨h, 0, none⟩), .int .i64 (j : Int)] w fun e w' => e = .returned (.int .i64 (zs.getD j 0)) ∧ SupAt w' h B B2 (zs.eraseIdx j) ∧ Mid B B2 w w' := by
  obtain ⟨b, off, c, h1, h2, h3, h4, h5, h6⟩ := H
  obtain ⟨n, hn⟩ : ∃ n, zs.length = n + 1 := ⟨zs.length - 1, by omega⟩
  rw [hn] at h1 h2 h5 hj
  obtain ⟨off', ho, hs1⟩ := zslice_lo b off n c h2
  have hs2 := zslice_hi b off (n + 1) c j (by omega)
  obtain ⟨w2, hcp, hc2, hf2, hg2⟩ := shifted b off off' n c j zs w.drew hn hj ho h5 h6 3
  have hx := h5 j hj
  have h0 := h1.at0
  have k1 : Bk1 95 w2 h (.slice (some ⟨b, off, none⟩) (n + 1) c) := h1.drew.kept hg2 (fun e => h4.2.2.2.2 (Option.some.inj e).symm)
  have k0 := k1.at0
  have kf := k1.frz 0
  have HK := hide k1
  have HG := hide hg2
  have HC := hide hc2
  have HF := hide hf2
  have H4 := hide h4
  generalize zs.getD j 0 = x at *
  clear h1 h5 h6 hc2 hf2 hg2 k1 h4
  go_enter Tryz.func48, Tryz.ntmps48
  go_wp2_with fail
  go_region_held (fun w' => w'.cell? ⟨h, 0, none⟩ = some (.slice (some ⟨b, off, none⟩) (n + 1) c)) (go_keep) (fail)
  go_wp2
  go_ret
  have h4 := unhide H4
  have hlen : (zs.eraseIdx j).length = n := by rw [List.length_eraseIdx, if_pos (by omega)]; omega
  have hgs := gb_setCell w2 h 0 (.slice (some ⟨b, off', none⟩) n (c - 1))
  have hbk := hgs.block b (by have := (unhide HG).size; simp at this; omega) (fun e => h4.2.2.2.2 (Option.some.inj e))
  refine ⟨rfl, ⟨b, off', c - 1, by rw [hlen]; exact (unhide HK).set0 _, by omega, by omega, h4, fun i hi => ?_, fun i => ?_⟩, ?_⟩
  · rw [hlen] at hi
    exact (World.cell?_of_block (a := ⟨b, off' + i, none⟩) hbk).trans (unhide HC i hi)
  · exact (World.frozen?_of_block (a := ⟨b, i, none⟩) hbk).trans (unhide HF i)
  · have hG := unhide HG
    refine ⟨hgs.os.trans hG.os, hgs.tape.trans hG.tape, hgs.output.trans hG.output, Nat.le_trans hG.size hgs.size, fun k hk hkB => ?_⟩
    exact (hgs.block k (Nat.lt_of_lt_of_le hk hG.size) (fun e => by have := Option.some.inj e; omega)).trans (hG.block k hk (fun e => by have := Option.some.inj e; omega))
end Go.Proofs.YtakoaadimhpclaaGreatDoor
