/-
  Draws in memory: a block of two cells ('Bk2'), draws of which some were used ('DrAt'). Contracts of supply[uint64].take (of the first one), Draws.Next, Below, Used, New. Conditions: lists of at most 2^20 draws, at most 2^40 used.
-/
import Derived.Test.YtakoaadimhpclaaGreatDoorU18
import Derived.Test.YtakoaadimhpclaaGreatDoorU14
import Derived.Below
import Derived.Laws.Rows
import Derived.Laws.MakeOwn
import Derived.OwnWalk
import Derived.Deep.RegionHeld
import Derived.BigQuiet
namespace Go.Proofs.YtakoaadimhpclaaGreatDoor
open Go.RowKit
set_option linter.unusedVariables false
set_option linter.unusedSimpArgs false
set_option maxRecDepth 4000

/-- A block of two cells, none of them frozen. -/
def Bk2 (T : TypeId) (w : World) (g : Nat) (v0 v1 : Value) : Prop := w.heap[g]? = some (.cells #[v0, v1] T (0, 0))
theorem bk2_new (T : TypeId) (w : World) (v0 v1 : Value) : Bk2 T (w.alloc (.cells #[v0, v1] T)) w.heap.size v0 v1 := by
  show (w.heap.push _)[w.heap.size]? = _
  simp
theorem Bk2.lt {T : TypeId} {w : World} {g : Nat} {v0 v1 : Value} (h : Bk2 T w g v0 v1) : g < w.heap.size := (Array.getElem?_eq_some_iff.1 h).1
theorem Bk2.belowB {T : TypeId} {w w' : World} {g B : Nat} {v0 v1 : Value} (h : Bk2 T w g v0 v1) (hb : Below B w w') (hg : g < B) : Bk2 T w' g v0 v1 := (hb.block g hg).trans h
theorem Bk2.below {T : TypeId} {w w' : World} {g : Nat} {v0 v1 : Value} (h : Bk2 T w g v0 v1) (hb : Below w.heap.size w w') : Bk2 T w' g v0 v1 := h.belowB hb h.lt
theorem Bk2.kept {T : TypeId} {w w' : World} {g : Nat} {v0 v1 : Value} {row : Option Nat} (h : Bk2 T w g v0 v1) (hg : w.grownBy w' row) (hne : some g ≠ row) : Bk2 T w' g v0 v1 := (hg.block g h.lt hne).trans h
theorem Bk2.at0 {T : TypeId} {w : World} {g : Nat} {v0 v1 : Value} (h : Bk2 T w g v0 v1) : w.cell? ⟨g, 0, none⟩ = some v0 := by
  unfold Bk2 at h
  rw [cell_of_row w g _ _ _ _ h]; rfl
theorem Bk2.at1 {T : TypeId} {w : World} {g : Nat} {v0 v1 : Value} (h : Bk2 T w g v0 v1) : w.cell? ⟨g, 1, none⟩ = some v1 := by
  unfold Bk2 at h
  rw [cell_of_row w g _ _ _ _ h]; rfl
theorem Bk2.frz {T : TypeId} {w : World} {g : Nat} {v0 v1 : Value} (h : Bk2 T w g v0 v1) (i : Nat) : w.frozen? ⟨g, i, none⟩ = false := by
  unfold Bk2 at h
  simp [World.frozen?, h]
theorem Bk2.set0 {T : TypeId} {w : World} {g : Nat} {v0 v1 : Value} (h : Bk2 T w g v0 v1) (u : Value) : Bk2 T (w.setCell ⟨g, 0, none⟩ u) g u v1 := heap_setCell_same w g 0 _ _ u h
theorem Bk2.set1 {T : TypeId} {w : World} {g : Nat} {v0 v1 : Value} (h : Bk2 T w g v0 v1) (u : Value) : Bk2 T (w.setCell ⟨g, 1, none⟩ u) g v0 u := heap_setCell_same w g 1 _ _ u h
theorem Bk2.drew {T : TypeId} {w : World} {g : Nat} {v0 v1 : Value} (h : Bk2 T w g v0 v1) : Bk2 T w.drew g v0 v1 := h
/-- A row of words lies in no block of a slice and an int. -/
theorem Bk2.apart {T : TypeId} {w : World} {g : Nat} {a : Option Addr} {n c : Nat} {i : Int} (h : Bk2 T w g (.slice a n c) (.int .i64 i)) {a' : Option Addr} {m : Nat} {xs : List Nat} (hr : RowAt w a' m xs) :
    m = 0 ∨ ∀ ad, a' = some ad → some ad.block ≠ some g := by
  by_cases hm : m = 0
  · exact .inl hm
  · refine .inr fun ad ha hg => ?_
    obtain ⟨b', off, hab, hc⟩ := hr.at (i := 0) (by omega)
    rw [ha] at hab
    obtain rfl := Option.some.inj hab
    have h0 := hc 0 (by omega)
    simp only [Option.some.injEq] at hg
    subst hg
    unfold Bk2 at h
    rw [Nat.add_zero, cell_of_row w b' _ _ _ _ h] at h0
    match off, h0 with
    | 0, h0 => simp at h0
    | 1, h0 => simp at h0
    | k + 2, h0 => simp at h0

theorem RowAt.belowB {w w' : World} {B : Nat} {a : Option Addr} {n : Nat} {xs : List Nat} (h : RowAt w a n xs) (hb : Below B w w') (hB : n = 0 ∨ ∀ ad, a = some ad → ad.block < B) : RowAt w' a n xs := by
  refine ⟨h.1, h.2.1, ?_⟩
  rcases h.2.2 with h0 | ⟨b, off, rfl, hc⟩
  · exact .inl h0
  · rcases hB with h0 | hB
    · exact .inl h0
    · exact .inr ⟨b, off, rfl, fun i hi => (hb.cell (p := ⟨b, off + i, none⟩) (hB ⟨b, off, none⟩ rfl)).trans (hc i hi)⟩
theorem RowAt.drew {w : World} {a : Option Addr} {n : Nat} {xs : List Nat} (h : RowAt w a n xs) : RowAt w.drew a n xs := h.below (Below.refl _ _).drew
/-- Draws at block g: L's, of which N were used; all of it lies below B. -/
def DrAt (w : World) (g B : Nat) (L : List Nat) (N : Nat) : Prop :=
  g < B ∧ smalls L ∧ ∃ a n c, Bk2 68 w g (.slice a n c) (.int .i64 (N : Int)) ∧ n ≤ c ∧ c ≤ 1048576 ∧ RowAt w a n (L.drop N) ∧ (n = 0 ∨ ∀ ad, a = some ad → ad.block < B ∧ ∃ cur, w.heap[ad.block]? = some (.cells cur 53 (0, 0)))
theorem DrAt.below {w w' : World} {g B : Nat} {L : List Nat} {N : Nat} (h : DrAt w g B L N) (hb : Below B w w') : DrAt w' g B L N := by
  obtain ⟨h1, h2, a, n, c, h3, h4, h5, h6, h7⟩ := h
  exact ⟨h1, h2, a, n, c, h3.belowB hb h1, h4, h5, h6.belowB hb (h7.imp id fun k ad e => (k ad e).1), h7.imp id fun k ad e => ⟨(k ad e).1, (k ad e).2.imp fun cur hc => (hb.block _ (k ad e).1).trans hc⟩⟩
theorem DrAt.mono {w : World} {g B B' : Nat} {L : List Nat} {N : Nat} (h : DrAt w g B L N) (hB : B ≤ B') : DrAt w g B' L N := by
  obtain ⟨h1, h2, a, n, c, h3, h4, h5, h6, h7⟩ := h
  exact ⟨by omega, h2, a, n, c, h3, h4, h5, h6, h7.imp id fun k ad e => ⟨by have := (k ad e).1; omega, (k ad e).2⟩⟩
theorem DrAt.kept {w w' : World} {g B k : Nat} {L : List Nat} {N : Nat} {T : TypeId} {a' : Option Addr} {n' c' : Nat} {i : Int} (h : DrAt w g B L N) (hg : w.grownBy w' (some k)) (hk : g ≠ k) (hap : Bk2 T w k (.slice a' n' c') (.int .i64 i)) : DrAt w' g B L N := by
  obtain ⟨h1, h2, a, n, c, h3, h4, h5, h6, h7⟩ := h
  refine ⟨h1, h2, a, n, c, h3.kept hg (fun e => hk (Option.some.inj e)), h4, h5, h6.kept hg (hap.apart h6), ?_⟩
  rcases h7 with h0 | h7
  · exact .inl h0
  · rcases hap.apart h6 with h0 | hne
    · exact .inl h0
    · refine .inr fun ad e => ⟨(h7 ad e).1, ?_⟩
      obtain ⟨cur, hc⟩ := (h7 ad e).2
      exact ⟨cur, (hg.block ad.block (Array.getElem?_eq_some_iff.1 hc).1 (hne ad e)).trans hc⟩
theorem DrAt.lt {w : World} {g B : Nat} {L : List Nat} {N : Nat} (h : DrAt w g B L N) : g < w.heap.size := by
  obtain ⟨h1, h2, a, n, c, h3, h4, h5, h6, h7⟩ := h
  exact h3.lt

theorem elem_w : Tryz.prog.underlying 28 = some (.slice (Tryz.prog.elem 28)) := by kernel_rfl
theorem elem_w' : Tryz.prog.elem 28 = 53 := by kernel_rfl
theorem size_w (w : World) : (sizeOf 53).run Tryz.prog w = .ok 1 w := by kernel_rfl
theorem one_w : (Tryz.prog.info? 53).map (·.size) = some 1 := by kernel_rfl
/-- 'left[1:]', 'left[:0]' of a slice of words that is not empty. -/
theorem wslice_lo (b off n c : Nat) (hc : n + 1 ≤ c) : ∃ a', (n = 0 ∨ a' = some ⟨b, off + 1, none⟩) ∧ ∀ w : World,
    (Instr.sliceAt 28 (.slice (some ⟨b, off, none⟩) (n + 1) c) (some (.int .i64 1)) none none).run Tryz.prog w = .ok (.slice a' n (c - 1)) w := by
  refine ⟨if c = 1 then some ⟨b, off, none⟩ else some ⟨b, off + 1, none⟩, ?_, fun w => ?_⟩
  · by_cases h : c = 1
    · exact .inl (by omega)
    · exact .inr (by rw [if_neg h])
  · rw [run_sliceAt_slice _ _ _ _ _ _ elem_w, run_slice_l _ _ _ _ _ elem_w _ _ (by omega) (by omega), elem_w', size_w]
    simp [Result.andThen, sliced, Addr.add]
theorem wslice_hi (b off n c : Nat) (w : World) :
    (Instr.sliceAt 28 (.slice (some ⟨b, off, none⟩) n c) none (some (.int .i64 0)) none).run Tryz.prog w = .ok (.slice (some ⟨b, off, none⟩) 0 c) w := by
  rw [run_sliceAt_slice _ _ _ _ _ _ elem_w, run_slice_h _ _ _ _ _ elem_w _ _ (by omega) (by omega), elem_w', size_w]
  simp [Result.andThen, sliced, Addr.add]

set_option maxHeartbeats 1000000 in
theorem takeU_any (g b off n c : Nat) (u : Value) (x : Nat) (w : World) (h : Bk2 68 w g (.slice (some ⟨b, off, none⟩) (n + 1) c) u) (hc : n + 1 ≤ c) (hx : w.cell? ⟨b, off, none⟩ = some (.int .u64 (x : Int))) :
    Calls Tryz.prog 43 #[.pointer (some ⟨g, 0, none⟩), .int .i64 0] w fun e w' => e = .returned (.int .u64 (x : Int)) ∧ ∃ a', (n = 0 ∨ a' = some ⟨b, off + 1, none⟩) ∧ Bk2 68 w' g (.slice a' n (c - 1)) u ∧ w.grownBy w' (some g) := by
  obtain ⟨a', ha', hs1⟩ := wslice_lo b off n c hc
  have hs2 := wslice_hi b off (n + 1) c
  have hcp : ∀ (ty : TypeId) (wx : World), (Builtin.copy_ #[28, 28] ty #[.slice a' n (c - 1), .slice (some ⟨b, off, none⟩) 0 c]).run Tryz.prog wx = .ok (goInt 0) wx :=
    fun ty wx => run_copy_none wx 28 28 ty 53 _ _ _ _ _ _ Tryz.underlying28 one_w (Nat.min_eq_left (Nat.zero_le _))
  have h0 := h.at0
  have hf := h.frz 0
  have H := hide h
  have hcp := hcp 3
  clear h
  go_enter Tryz.func43, Tryz.ntmps43
  go_wp2_with fail
  go_region_held (fun w' => w'.cell? ⟨g, 0, none⟩ = some (.slice (some ⟨b, off, none⟩) (n + 1) c)) (go_keep) (fail)
  go_wp2
  go_ret
  exact ⟨rfl, a', ha', ((unhide H).set0 _).drew, gb_drew (gb_setCell _ _ _ _)⟩

theorem DrAt.open {w : World} {g B : Nat} {L : List Nat} {N : Nat} (h : DrAt w g B L N) (hN : N < L.length) :
    ∃ b off n c, Bk2 68 w g (.slice (some ⟨b, off, none⟩) (n + 1) c) (.int .i64 (N : Int)) ∧ n + 1 ≤ c ∧ c ≤ 1048576 ∧ n = L.length - (N + 1) ∧ (b < B ∧ ∃ cur, w.heap[b]? = some (.cells cur 53 (0, 0))) ∧ ∀ i, i < n + 1 → w.cell? ⟨b, off + i, none⟩ = some (.int .u64 ((L.getD (N + i) 0 : Nat) : Int)) := by
  obtain ⟨h1, h2, a, n, c, h3, h4, h5, h6, h7⟩ := h
  have hl : n = L.length - N := by rw [← h6.1, List.length_drop]
  obtain ⟨b, off, rfl, hc⟩ := h6.at (i := 0) (by omega)
  obtain ⟨m, rfl⟩ : ∃ m, n = m + 1 := ⟨n - 1, by omega⟩
  refine ⟨b, off, m, c, h3, h4, h5, by omega, ?_, fun i hi => ?_⟩
  · rcases h7 with h7 | h7
    · omega
    · exact h7 _ rfl
  · rw [hc i hi]
    simp [List.getD_eq_getElem?_getD, List.getElem?_drop]
theorem DrAt.close {w : World} {g B : Nat} {L : List Nat} {N : Nat} {a' : Option Addr} {b off n c : Nat} (hg : g < B) (hs : smalls L) (hB : Bk2 68 w g (.slice a' n c) (.int .i64 ((N + 1 : Nat) : Int))) (hc : n ≤ c) (hc2 : c ≤ 1048576) (hn : n = L.length - (N + 1))
    (ha : n = 0 ∨ a' = some ⟨b, off + 1, none⟩) (hb : b < B ∧ ∃ cur, w.heap[b]? = some (.cells cur 53 (0, 0))) (hcell : ∀ i, i < n + 1 → w.cell? ⟨b, off + i, none⟩ = some (.int .u64 ((L.getD (N + i) 0 : Nat) : Int))) : DrAt w g B L (N + 1) := by
  refine ⟨hg, hs, a', n, c, hB, hc, hc2, ⟨by rw [List.length_drop]; omega, fun x hx => hs x (List.mem_of_mem_drop hx), ?_⟩, ?_⟩
  · rcases ha with h0 | rfl
    · exact .inl h0
    · refine .inr ⟨b, off + 1, rfl, fun i hi => ?_⟩
      rw [show off + 1 + i = off + (i + 1) by omega, hcell (i + 1) (by omega)]
      simp [List.getD_eq_getElem?_getD, List.getElem?_drop, show N + (i + 1) = N + 1 + i by omega]
  · rcases ha with h0 | rfl
    · exact .inl h0
    · exact .inr fun ad e => by rw [← Option.some.inj e]; exact hb

set_option maxHeartbeats 1000000 in
theorem dnext_any (g B : Nat) (L : List Nat) (N : Nat) (w : World) (h : DrAt w g B L N) (hN : N ≤ 1099511627776) :
    Calls Tryz.prog 20 #[.pointer (some ⟨g, 0, none⟩)] w fun e w' => e = .returned (.int .u64 ((drawN L (N + 1) : Nat) : Int)) ∧ DrAt w' g B L (N + 1) ∧ w.grownBy w' (some g) := by
  by_cases hlt : N < L.length
  · have hgB := h.1
    have hsm := h.2.1
    obtain ⟨b, off, n, c, hb, hc, hc2, hn, hbB, hcell⟩ := h.open hlt
    have hx := hcell 0 (by omega)
    rw [Nat.add_zero, Nat.add_zero, ← drawN_in hlt] at hx
    have hbg : b ≠ g := by
      intro e
      subst e
      have h0 := hx
      unfold Bk2 at hb
      rw [cell_of_row w b _ _ _ _ hb] at h0
      match off, h0 with
      | 0, h0 => simp at h0
      | 1, h0 => simp at h0
      | k + 2, h0 => simp at h0
    have hT := takeU_any g b off n c (.int .i64 ((N + 1 : Nat) : Int)) (drawN L (N + 1)) (w.setCell ⟨g, 1, none⟩ (.int .i64 ((N + 1 : Nat) : Int))) (hb.set1 _) hc (by rw [World.cell?_setCell_other _ _ _ _ (fun e => hbg (congrArg Addr.block e).symm)]; exact hx)
    have h0 := hb.at0
    have h1 := hb.at1
    have hf := hb.frz 1
    have h2 : (w.setCell ⟨g, 1, none⟩ (.int .i64 ((N + 1 : Nat) : Int))).cell? ⟨g, 0, none⟩ = some (.slice (some ⟨b, off, none⟩) (n + 1) c) := (hb.set1 _).at0
    have HC := hide (fun i hi => (World.cell?_setCell_other w ⟨g, 1, none⟩ ⟨b, off + i, none⟩ (.int .i64 ((N + 1 : Nat) : Int)) (fun e => hbg (congrArg Addr.block e).symm)).trans (hcell i hi))
    have HT := hide hT
    have HB := hide hb
    clear hT hcell hx hb h
    go_enter Tryz.func20, Tryz.ntmps20
    go_wp2_with (go_at_call 43; refine (unhide HT).mono ?_; rintro e w1 ⟨rfl, a', ha', hB1, hg1⟩)
    go_ret
    refine ⟨rfl, DrAt.close hgB hsm hB1 (by omega) (by omega) hn ha' ⟨hbB.1, hbB.2.imp fun cur hc => (hg1.block b (by simpa using (Array.getElem?_eq_some_iff.1 hc).1) (fun e => hbg (Option.some.inj e))).trans ((Below.heap_setCell _ _ _ _ (fun e => hbg e)).trans hc)⟩ (fun i hi => hg1.cell (unhide HC i hi) (fun e => hbg (Option.some.inj e))), gb_trans (gb_setCell _ _ _ _) hg1 (.inl rfl)⟩
  · obtain ⟨hgB, hsm, a, n, c, hb, hc, hc2, hrow, hbl⟩ := h
    have hn0 : n = 0 := by rw [← hrow.1, List.length_drop]; omega
    subst hn0
    have hcl : DrAt (w.setCell ⟨g, 1, none⟩ (.int .i64 ((N + 1 : Nat) : Int))) g B L (N + 1) :=
      ⟨hgB, hsm, a, 0, c, hb.set1 _, hc, hc2, ⟨by rw [List.length_drop]; omega, fun x hx => hsm x (List.mem_of_mem_drop hx), .inl rfl⟩, .inl rfl⟩
    have HE := hide (drawN_out (L := L) (n := N + 1) (by omega))
    have h0 := hb.at0
    have h1 := hb.at1
    have hf := hb.frz 1
    have h2 : (w.setCell ⟨g, 1, none⟩ (.int .i64 ((N + 1 : Nat) : Int))).cell? ⟨g, 0, none⟩ = some (.slice a 0 c) := (hb.set1 _).at0
    have h3 : (w.setCell ⟨g, 1, none⟩ (.int .i64 ((N + 1 : Nat) : Int))).cell? ⟨g, 1, none⟩ = some (.int .i64 ((N + 1 : Nat) : Int)) := (hb.set1 _).at1
    have HD := hide hcl
    clear hcl hrow hbl hb
    go_enter Tryz.func20, Tryz.ntmps20
    go_wp2
    go_ret
    refine ⟨ret_int ?_, unhide HD, gb_setCell _ _ _ _⟩
    rw [unhide HE, IntKind.wrap_u64]
    omega

theorem rem_draw (x n : Nat) (h1 : 1 ≤ n) (h2 : n ≤ 9223372036854775807) : (x : Int).tmod (n : Int) = ((x % n : Nat) : Int) ∧ x % n ≤ 9223372036854775807 := by
  have := Nat.mod_lt x h1
  exact ⟨by rw [Int.tmod_eq_emod_of_nonneg (by omega)]; simp, by omega⟩
set_option maxHeartbeats 400000 in
theorem below_any (g B : Nat) (L : List Nat) (N n : Nat) (w : World) (h : DrAt w g B L N) (hN : N ≤ 1099511627776) (h1 : 1 ≤ n) (h2 : n ≤ 9223372036854775807) :
    Calls Tryz.prog 47 #[.pointer (some ⟨g, 0, none⟩), .int .i64 (n : Int)] w fun e w' => e = .returned (.int .i64 ((drawN L (N + 1) % n : Nat) : Int)) ∧ DrAt w' g B L (N + 1) ∧ w.grownBy w' (some g) := by
  have HX := hide (dnext_any g B L N w h hN)
  have hx := drawN_lt h.2.1 (N + 1)
  clear h
  generalize drawN L (N + 1) = x at *
  obtain ⟨hr, hl⟩ := rem_draw x n h1 h2
  generalize x % n = y at *
  go_enter Tryz.func47, Tryz.ntmps47
  go_wp2_with (go_at_call 20; refine (unhide HX).mono ?_; rintro e w1 ⟨rfl, hD, hG⟩)
  go_ret
  exact ⟨rfl, hD, hG⟩

theorem info_w : (Tryz.prog.info? 53).map (fun i => (i.zero, i.size, i.bytes)) = some (some (.int .u64 0), 1, 8) := by kernel_rfl
theorem make_w (n : Nat) (hn : n ≤ 1048576) (wx : World) : (Instr.makeSlice 28 (.int .i64 (n : Int)) (.int .i64 (n : Int))).run Tryz.prog wx = .ok (.slice (some ⟨wx.heap.size, 0, none⟩) n n) (wx.alloc (.cells (madeCells #[.int .u64 0] n) 53)) := by
  obtain ⟨i0, hi0, hz0, hzs, hzb⟩ := info_parts info_w
  have := run_make (P := Tryz.prog) wx 28 53 i0 (.int .u64 0) Tryz.underlying28 hi0 hz0 .i64 .i64 (n : Int) (n : Int) (by omega) (Int.le_refl _) (by rw [hzb]; omega) (by omega)
  rw [hzs] at this
  simpa [Value.cells] using this
/-- A copy of a row in new memory. -/
theorem copied (a : Option Addr) (n c : Nat) (xs : List Nat) (w : World) (h : RowAt w a n xs) (ty : TypeId) : ∃ w2, (Builtin.copy_ #[28, 28] ty #[.slice (some ⟨w.heap.size, 0, none⟩) n n, .slice a n c]).run Tryz.prog (w.alloc (.cells (madeCells #[.int .u64 0] n) 53)) = .ok (goInt n) w2 ∧
    RowAt w2 (some ⟨w.heap.size, 0, none⟩) n xs ∧ Below w.heap.size w w2 ∧ (n = 0 ∨ ∃ cur, w2.heap[w.heap.size]? = some (.cells cur 53 (0, 0))) := by
  have hb0 : Below w.heap.size w (w.alloc (.cells (madeCells #[.int .u64 0] n) 53)) := (Below.refl _ _).alloc (Nat.le_refl _) _
  by_cases h0 : n = 0
  · subst h0
    refine ⟨_, run_copy_none _ 28 28 ty 53 _ _ _ _ _ _ Tryz.underlying28 one_w (Nat.min_eq_left (Nat.zero_le _)), ⟨h.1, h.2.1, .inl rfl⟩, hb0, .inl rfl⟩
  · obtain ⟨b, off, rfl, hc⟩ := h.at (i := 0) (by omega)
    have hl : (cellsU xs).length = n := by rw [cellsU_length]; exact h.1
    have hcell : ∀ j, j < n → (w.alloc (.cells (madeCells #[.int .u64 0] n) 53)).cell? ⟨w.heap.size, 0 + j, none⟩ = some (.int .u64 0) := by
      intro j hj
      rw [World.cell?_alloc_at _ _ _ _ rfl, ← Array.getElem?_toList, toList_madeCells_one, List.getElem?_replicate, if_pos (by omega)]
    refine ⟨(w.alloc (.cells (madeCells #[.int .u64 0] n) 53)).setCells w.heap.size 0 (cellsU xs), ?_, ?_, ?_, .inr ?_⟩
    · have := run_copy_cells (P := Tryz.prog) (w.alloc (.cells (madeCells #[.int .u64 0] n) 53)) 28 28 ty 53 w.heap.size 0 n n ⟨b, off, none⟩ n c (cellsU xs) Tryz.underlying28 one_w (by rw [hl]; exact (Nat.min_self n).symm) (h.below hb0).news
        (fun j hj => by rw [hl] at hj; rw [hcell j hj]; rfl) (fun j hj => by unfold World.frozen?; rw [heap_alloc_new]; simp) (cellsU_one xs)
      rw [hl] at this
      exact this
    · refine ⟨h.1, h.2.1, .inr ⟨_, 0, rfl, fun i hi => ?_⟩⟩
      have := World.cell?_setCells_in w.heap.size (cellsU xs) 0 (w.alloc (.cells (madeCells #[.int .u64 0] n) 53)) (fun j hj => by rw [hl] at hj; rw [hcell j hj]; rfl) i (by rw [hl]; exact hi)
      rw [this]
      have h5 := cellsU_get xs i (by rw [h.1]; exact hi)
      rw [List.getElem?_eq_getElem (by rw [hl]; exact hi)] at h5
      exact h5
    · exact hb0.trans (gb_below (setCells_gb w.heap.size (cellsU xs) 0 _) hb0.size (fun k hk => by rw [← Option.some.inj hk]; exact Nat.le_refl _))
    · obtain ⟨cur', h1, _⟩ := setCells_block w.heap.size 53 (cellsU xs) 0 _ _ (heap_alloc_new w (.cells (madeCells #[.int .u64 0] n) 53))
      exact ⟨cur', h1⟩

set_option maxHeartbeats 400000 in
theorem new_any (a : Option Addr) (n c : Nat) (xs : List Nat) (w : World) (h : RowAt w a n xs) (hn : n ≤ 1048576) :
    Calls Tryz.prog 8 #[.slice a n c] w fun e w' => ∃ g, e = .returned (.pointer (some ⟨g, 0, none⟩)) ∧ w.heap.size ≤ g ∧ DrAt w' g w'.heap.size xs 0 ∧ Below w.heap.size w w' := by
  obtain ⟨w2, hcp, hr, hb, hty⟩ := copied a n c xs w h 3
  have HTY := hide hty
  have hmk := make_w n hn w
  have HR := hide hr
  have HB := hide hb
  clear h hr hb hty
  go_enter Tryz.func8, Tryz.ntmps8
  go_wp2
  go_ret
  have hB := unhide HB
  refine ⟨w2.heap.size, rfl, hB.size, ⟨by rw [alloc_size]; omega, (unhide HR).2.1, some ⟨w.heap.size, 0, none⟩, n, n, bk2_new _ _ _ _, Nat.le_refl _, hn, ?_, (unhide HTY).imp id fun hty ad e => ⟨?_, ?_⟩⟩, hB.alloc hB.size _⟩
  · exact row_alloc (unhide HR) _
  · rw [← Option.some.inj e, alloc_size]
    have := hB.size
    show w.heap.size < _
    omega
  · obtain ⟨cur, hc⟩ := hty
    rw [← Option.some.inj e]
    refine ⟨cur, ?_⟩
    show (w2.heap.push _)[w.heap.size]? = _
    rw [Array.getElem?_push_lt (Array.getElem?_eq_some_iff.1 hc).1]
    exact (Array.getElem?_eq_getElem _).symm.trans hc
end Go.Proofs.YtakoaadimhpclaaGreatDoor
