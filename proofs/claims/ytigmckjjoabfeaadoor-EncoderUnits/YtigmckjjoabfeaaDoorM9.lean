/-
  Draws in memory: a block of two cells ('Bk2'), draws of which some were used ('DrAt'). Contracts of supply[uint64].take (of the first one), Draws.Next, Below, Used, New. Conditions: lists of at most 2^20 draws, at most 2^40 used.
  slices.Sort at []int in this program: the shelf's contract, laid at this program's own numbers, and what it leaves of a slice of the call's own. Condition: at most 2^20 numbers.
  Numbers that are taken one by one: supply[int] in memory ('SupAt'). Contracts of supply[int].take, upTo and Draws.Distinct. Conditions: at most 2^20 numbers, at most 2^39 draws used.
  Contracts of upTo and Draws.Distinct. Conditions: at most 128 numbers, at most 2^39 draws used.
  The reference's draws in memory ('RfAt'); slices of bools of the call's own ('OwnF'). Contracts of bucketlineref11's Next, Below and Distinct. Conditions: at most 128 numbers, at most 2^39 draws used.
  Contract of bucketlineref11's Distinct. Conditions: at most 128 numbers, at most 2^39 draws used.
-/
import Derived.Test.YtigmckjjoabfeaaDoorM7
import Derived.Below
import Derived.Laws.Rows
import Derived.Laws.MakeOwn
import Derived.OwnWalk
import Derived.Deep.RegionHeld
import Derived.BigQuiet
import Derived.Shelf.Sort.Plain
import Derived.Shelf.Slices.In.SortNone
import Derived.Sort.OwnSortedInts
namespace Go.Proofs.YtigmckjjoabfeaaDoor
open Go.RowKit
set_option linter.unusedVariables false
set_option maxRecDepth 4000

/-- A block of two cells, none of them frozen. -/
def Bk2 (T : TypeId) (w : World) (g : Nat) (v0 v1 : Value) : Prop := w.heap[g]? = some (.cells #[v0, v1] T (0, 0))
theorem bk2_new (T : TypeId) (w : World) (v0 v1 : Value) : Bk2 T (w.alloc (.cells #[v0, v1] T)) w.heap.size v0 v1 := by
  show (w.heap.push _)[w.heap.size]? = _
  simp
theorem Bk2.lt {T : TypeId} {w : World} {g : Nat} {v0 v1 : Value} (h : Bk2 T w g v0 v1) : g < w.heap.size := (Array.getElem?_eq_some_iff.1 h).1
theorem Bk2.belowB {T : TypeId} {w w' : World} {g B : Nat} {v0 v1 : Value} (h : Bk2 T w g v0 v1) (hb : Below B w w') (hg : g < B) : Bk2 T w' g v0 v1 := (hb.block g hg).trans h
theorem Bk2.below {T : TypeId} {w w' : World} {g : Nat} {v0 v1 : Value} (h : Bk2 T w g v0 v1) (hb : Below w.heap.size w w') : Bk2 T w' g v0 v1 := h.belowB hb h.lt
theorem Bk2.kept {T : TypeId} {w w' : World} {g : Nat} {v0 v1 : Value} {row : Option Nat} (h : Bk2 T w g v0 v1) (hg : w.grownBy w' row) (hne : some g ≠ row) : Bk2 T w' g v0 v1 := (hg.block g h.lt hne).trans h
theorem Bk2.at0 {T : TypeId} {w : World} {g : Nat} {v0 v1 : Value} (h : Bk2 T w g v0 v1) : w.cell? ⟨g, 0, none⟩ = some v0 := by
  unfold Bk2 at h
  rw [cell_of_row w g _ _ _ _ h]; rfl
theorem Bk2.at1 {T : TypeId} {w : World} {g : Nat} {v0 v1 : Value} (h : Bk2 T w g v0 v1) : w.cell? ⟨g, 1, none⟩ = some v1 := by
  unfold Bk2 at h
  rw [cell_of_row w g _ _ _ _ h]; rfl
theorem Bk2.frz {T : TypeId} {w : World} {g : Nat} {v0 v1 : Value} (h : Bk2 T w g v0 v1) (i : Nat) : w.frozen? ⟨g, i, none⟩ = false := by
  unfold Bk2 at h
  simp [World.frozen?, h]
theorem Bk2.set0 {T : TypeId} {w : World} {g : Nat} {v0 v1 : Value} (h : Bk2 T w g v0 v1) (u : Value) : Bk2 T (w.setCell ⟨g, 0, none⟩ u) g u v1 := heap_setCell_same w g 0 _ _ u h
theorem Bk2.set1 {T : TypeId} {w : World} {g : Nat} {v0 v1 : Value} (h : Bk2 T w g v0 v1) (u : Value) : Bk2 T (w.setCell ⟨g, 1, none⟩ u) g v0 u := heap_setCell_same w g 1 _ _ u h
theorem Bk2.drew {T : TypeId} {w : World} {g : Nat} {v0 v1 : Value} (h : Bk2 T w g v0 v1) : Bk2 T w.drew g v0 v1 := h
/-- A row of words lies in no block of a slice and an int. -/
theorem Bk2.apart {T : TypeId} {w : World} {g : Nat} {a : Option Addr} {n c : Nat} {i : Int} (h : Bk2 T w g (.slice a n c) (.int .i64 i)) {a' : Option Addr} {m : Nat} {xs : List Nat} (hr : RowAt w a' m xs) :
    m = 0 ∨ ∀ ad, a' = some ad → some ad.block ≠ some g := by
  by_cases hm : m = 0
  · exact .inl hm
  · refine .inr fun ad ha hg => ?_
    obtain ⟨b', off, hab, hc⟩ := hr.at (i := 0) (by omega)
    rw [ha] at hab
    obtain rfl := Option.some.inj hab
    have h0 := hc 0 (by omega)
    simp only [Option.some.injEq] at hg
    subst hg
    unfold Bk2 at h
    rw [Nat.add_zero, cell_of_row w b' _ _ _ _ h] at h0
    match off, h0 with
    | 0, h0 => simp at h0
    | 1, h0 => simp at h0
    | k + 2, h0 => simp at h0

theorem RowAt.belowB {w w' : World} {B : Nat} {a : Option Addr} {n : Nat} {xs : List Nat} (h : RowAt w a n xs) (hb : Below B w w') (hB : n = 0 ∨ ∀ ad, a = some ad → ad.block < B) : RowAt w' a n xs := by
  refine ⟨h.1, h.2.1, ?_⟩
  rcases h.2.2 with h0 | ⟨b, off, rfl, hc⟩
  · exact .inl h0
  · rcases hB with h0 | hB
    · exact .inl h0
    · exact .inr ⟨b, off, rfl, fun i hi => (hb.cell (p := ⟨b, off + i, none⟩) (hB ⟨b, off, none⟩ rfl)).trans (hc i hi)⟩
theorem RowAt.drew {w : World} {a : Option Addr} {n : Nat} {xs : List Nat} (h : RowAt w a n xs) : RowAt w.drew a n xs := h.below (Below.refl _ _).drew
/-- Draws at block g: L's, of which N were used; all of it lies below B. -/
def DrAt (w : World) (g B : Nat) (L : List Nat) (N : Nat) : Prop :=
  g < B ∧ smalls L ∧ ∃ a n c, Bk2 71 w g (.slice a n c) (.int .i64 (N : Int)) ∧ n ≤ c ∧ c ≤ 1048576 ∧ RowAt w a n (L.drop N) ∧ (n = 0 ∨ ∀ ad, a = some ad → ad.block < B)
theorem DrAt.below {w w' : World} {g B : Nat} {L : List Nat} {N : Nat} (h : DrAt w g B L N) (hb : Below B w w') : DrAt w' g B L N := by
  obtain ⟨h1, h2, a, n, c, h3, h4, h5, h6, h7⟩ := h
  exact ⟨h1, h2, a, n, c, h3.belowB hb h1, h4, h5, h6.belowB hb h7, h7⟩
theorem DrAt.mono {w : World} {g B B' : Nat} {L : List Nat} {N : Nat} (h : DrAt w g B L N) (hB : B ≤ B') : DrAt w g B' L N := by
  obtain ⟨h1, h2, a, n, c, h3, h4, h5, h6, h7⟩ := h
  exact ⟨by omega, h2, a, n, c, h3, h4, h5, h6, h7.imp id fun k ad e => by have := k ad e; omega⟩
theorem DrAt.kept {w w' : World} {g B k : Nat} {L : List Nat} {N : Nat} {T : TypeId} {a' : Option Addr} {n' c' : Nat} {i : Int} (h : DrAt w g B L N) (hg : w.grownBy w' (some k)) (hk : g ≠ k) (hap : Bk2 T w k (.slice a' n' c') (.int .i64 i)) : DrAt w' g B L N := by
  obtain ⟨h1, h2, a, n, c, h3, h4, h5, h6, h7⟩ := h
  exact ⟨h1, h2, a, n, c, h3.kept hg (fun e => hk (Option.some.inj e)), h4, h5, h6.kept hg (hap.apart h6), h7⟩
theorem DrAt.lt {w : World} {g B : Nat} {L : List Nat} {N : Nat} (h : DrAt w g B L N) : g < w.heap.size := by
  obtain ⟨h1, h2, a, n, c, h3, h4, h5, h6, h7⟩ := h
  exact h3.lt

theorem elem_w : Tryd.prog.underlying 38 = some (.slice (Tryd.prog.elem 38)) := by kernel_rfl
theorem elem_w' : Tryd.prog.elem 38 = 55 := by kernel_rfl
theorem size_w (w : World) : (sizeOf 55).run Tryd.prog w = .ok 1 w := by kernel_rfl
theorem one_w : (Tryd.prog.info? 55).map (·.size) = some 1 := by kernel_rfl
/-- 'left[1:]', 'left[:0]' of a slice of words that is not empty. -/
theorem wslice_lo (b off n c : Nat) (hc : n + 1 ≤ c) : ∃ a', (n = 0 ∨ a' = some ⟨b, off + 1, none⟩) ∧ ∀ w : World,
    (Instr.sliceAt 38 (.slice (some ⟨b, off, none⟩) (n + 1) c) (some (.int .i64 1)) none none).run Tryd.prog w = .ok (.slice a' n (c - 1)) w := by
  refine ⟨if c = 1 then some ⟨b, off, none⟩ else some ⟨b, off + 1, none⟩, ?_, fun w => ?_⟩
  · by_cases h : c = 1
    · exact .inl (by omega)
    · exact .inr (by rw [if_neg h])
  · rw [run_sliceAt_slice _ _ _ _ _ _ elem_w, run_slice_l _ _ _ _ _ elem_w _ _ (by omega) (by omega), elem_w', size_w]
    simp [Result.andThen, sliced, Addr.add]
theorem wslice_hi (b off n c : Nat) (w : World) :
    (Instr.sliceAt 38 (.slice (some ⟨b, off, none⟩) n c) none (some (.int .i64 0)) none).run Tryd.prog w = .ok (.slice (some ⟨b, off, none⟩) 0 c) w := by
  rw [run_sliceAt_slice _ _ _ _ _ _ elem_w, run_slice_h _ _ _ _ _ elem_w _ _ (by omega) (by omega), elem_w', size_w]
  simp [Result.andThen, sliced, Addr.add]

set_option maxHeartbeats 1000000 in
theorem takeU_any (g b off n c : Nat) (u : Value) (x : Nat) (w : World) (h : Bk2 71 w g (.slice (some ⟨b, off, none⟩) (n + 1) c) u) (hc : n + 1 ≤ c) (hx : w.cell? ⟨b, off, none⟩ = some (.int .u64 (x : Int))) :
    Calls Tryd.prog 53 #[.pointer (some ⟨g, 0, none⟩), .int .i64 0] w fun e w' => e = .returned (.int .u64 (x : Int)) ∧ ∃ a', (n = 0 ∨ a' = some ⟨b, off + 1, none⟩) ∧ Bk2 71 w' g (.slice a' n (c - 1)) u ∧ w.grownBy w' (some g) := by
  obtain ⟨a', ha', hs1⟩ := wslice_lo b off n c hc
  have hs2 := wslice_hi b off (n + 1) c
  have hcp : ∀ (ty : TypeId) (wx : World), (Builtin.copy_ #[38, 38] ty #[.slice a' n (c - 1), .slice (some ⟨b, off, none⟩) 0 c]).run Tryd.prog wx = .ok (goInt 0) wx :=
    fun ty wx => run_copy_none wx 38 38 ty 55 _ _ _ _ _ _ Tryd.underlying38 one_w (Nat.min_eq_left (Nat.zero_le _))
  have h0 := h.at0
  have hf := h.frz 0
  have H := hide h
  have hcp := hcp 3
  clear h
  go_enter Tryd.func53, Tryd.ntmps53
  go_wp2_with fail
  go_region_held (fun w' => w'.cell? ⟨g, 0, none⟩ = some (.slice (some ⟨b, off, none⟩) (n + 1) c)) (go_keep) (fail)
  go_wp2
  go_ret
  exact ⟨rfl, a', ha', ((unhide H).set0 _).drew, gb_drew (gb_setCell _ _ _ _)⟩

theorem DrAt.open {w : World} {g B : Nat} {L : List Nat} {N : Nat} (h : DrAt w g B L N) (hN : N < L.length) :
    ∃ b off n c, Bk2 71 w g (.slice (some ⟨b, off, none⟩) (n + 1) c) (.int .i64 (N : Int)) ∧ n + 1 ≤ c ∧ c ≤ 1048576 ∧ n = L.length - (N + 1) ∧ b < B ∧ ∀ i, i < n + 1 → w.cell? ⟨b, off + i, none⟩ = some (.int .u64 ((L.getD (N + i) 0 : Nat) : Int)) := by
  obtain ⟨h1, h2, a, n, c, h3, h4, h5, h6, h7⟩ := h
  have hl : n = L.length - N := by rw [← h6.1, List.length_drop]
  obtain ⟨b, off, rfl, hc⟩ := h6.at (i := 0) (by omega)
  obtain ⟨m, rfl⟩ : ∃ m, n = m + 1 := ⟨n - 1, by omega⟩
  refine ⟨b, off, m, c, h3, h4, h5, by omega, ?_, fun i hi => ?_⟩
  · rcases h7 with h7 | h7
    · omega
    · exact h7 _ rfl
  · rw [hc i hi]
    simp [List.getD_eq_getElem?_getD, List.getElem?_drop]
theorem DrAt.close {w : World} {g B : Nat} {L : List Nat} {N : Nat} {a' : Option Addr} {b off n c : Nat} (hg : g < B) (hs : smalls L) (hB : Bk2 71 w g (.slice a' n c) (.int .i64 ((N + 1 : Nat) : Int))) (hc : n ≤ c) (hc2 : c ≤ 1048576) (hn : n = L.length - (N + 1))
    (ha : n = 0 ∨ a' = some ⟨b, off + 1, none⟩) (hb : b < B) (hcell : ∀ i, i < n + 1 → w.cell? ⟨b, off + i, none⟩ = some (.int .u64 ((L.getD (N + i) 0 : Nat) : Int))) : DrAt w g B L (N + 1) := by
  refine ⟨hg, hs, a', n, c, hB, hc, hc2, ⟨by rw [List.length_drop]; omega, fun x hx => hs x (List.mem_of_mem_drop hx), ?_⟩, ?_⟩
  · rcases ha with h0 | rfl
    · exact .inl h0
    · refine .inr ⟨b, off + 1, rfl, fun i hi => ?_⟩
      rw [show off + 1 + i = off + (i + 1) by omega, hcell (i + 1) (by omega)]
      simp [List.getD_eq_getElem?_getD, List.getElem?_drop, show N + (i + 1) = N + 1 + i by omega]
  · rcases ha with h0 | rfl
    · exact .inl h0
    · exact .inr fun ad e => by rw [← Option.some.inj e]; exact hb

set_option maxHeartbeats 1000000 in
theorem next_any (g B : Nat) (L : List Nat) (N : Nat) (w : World) (h : DrAt w g B L N) (hN : N ≤ 1099511627776) :
    Calls Tryd.prog 30 #[.pointer (some ⟨g, 0, none⟩)] w fun e w' => e = .returned (.int .u64 ((drawN L (N + 1) : Nat) : Int)) ∧ DrAt w' g B L (N + 1) ∧ w.grownBy w' (some g) := by
  by_cases hlt : N < L.length
  · have hgB := h.1
    have hsm := h.2.1
    obtain ⟨b, off, n, c, hb, hc, hc2, hn, hbB, hcell⟩ := h.open hlt
    have hx := hcell 0 (by omega)
    rw [Nat.add_zero, Nat.add_zero, ← drawN_in hlt] at hx
    have hbg : b ≠ g := by
      intro e
      subst e
      have h0 := hx
      unfold Bk2 at hb
      rw [cell_of_row w b _ _ _ _ hb] at h0
      match off, h0 with
      | 0, h0 => simp at h0
      | 1, h0 => simp at h0
      | k + 2, h0 => simp at h0
    have hT := takeU_any g b off n c (.int .i64 ((N + 1 : Nat) : Int)) (drawN L (N + 1)) (w.setCell ⟨g, 1, none⟩ (.int .i64 ((N + 1 : Nat) : Int))) (hb.set1 _) hc (by rw [World.cell?_setCell_other _ _ _ _ (fun e => hbg (congrArg Addr.block e).symm)]; exact hx)
    have h0 := hb.at0
    have h1 := hb.at1
    have hf := hb.frz 1
    have h2 : (w.setCell ⟨g, 1, none⟩ (.int .i64 ((N + 1 : Nat) : Int))).cell? ⟨g, 0, none⟩ = some (.slice (some ⟨b, off, none⟩) (n + 1) c) := (hb.set1 _).at0
    have HC := hide (fun i hi => (World.cell?_setCell_other w ⟨g, 1, none⟩ ⟨b, off + i, none⟩ (.int .i64 ((N + 1 : Nat) : Int)) (fun e => hbg (congrArg Addr.block e).symm)).trans (hcell i hi))
    have HT := hide hT
    have HB := hide hb
    clear hT hcell hx hb h
    go_enter Tryd.func30, Tryd.ntmps30
    go_wp2_with (go_at_call 53; refine (unhide HT).mono ?_; rintro e w1 ⟨rfl, a', ha', hB1, hg1⟩)
    go_ret
    refine ⟨rfl, DrAt.close hgB hsm hB1 (by omega) (by omega) hn ha' hbB (fun i hi => hg1.cell (unhide HC i hi) (fun e => hbg (Option.some.inj e))), gb_trans (gb_setCell _ _ _ _) hg1 (.inl rfl)⟩
  · obtain ⟨hgB, hsm, a, n, c, hb, hc, hc2, hrow, hbl⟩ := h
    have hn0 : n = 0 := by rw [← hrow.1, List.length_drop]; omega
    subst hn0
    have hcl : DrAt (w.setCell ⟨g, 1, none⟩ (.int .i64 ((N + 1 : Nat) : Int))) g B L (N + 1) :=
      ⟨hgB, hsm, a, 0, c, hb.set1 _, hc, hc2, ⟨by rw [List.length_drop]; omega, fun x hx => hsm x (List.mem_of_mem_drop hx), .inl rfl⟩, .inl rfl⟩
    have HE := hide (drawN_out (L := L) (n := N + 1) (by omega))
    have h0 := hb.at0
    have h1 := hb.at1
    have hf := hb.frz 1
    have h2 : (w.setCell ⟨g, 1, none⟩ (.int .i64 ((N + 1 : Nat) : Int))).cell? ⟨g, 0, none⟩ = some (.slice a 0 c) := (hb.set1 _).at0
    have h3 : (w.setCell ⟨g, 1, none⟩ (.int .i64 ((N + 1 : Nat) : Int))).cell? ⟨g, 1, none⟩ = some (.int .i64 ((N + 1 : Nat) : Int)) := (hb.set1 _).at1
    have HD := hide hcl
    clear hcl hrow hbl hb
    go_enter Tryd.func30, Tryd.ntmps30
    go_wp2
    go_ret
    refine ⟨ret_int ?_, unhide HD, gb_setCell _ _ _ _⟩
    rw [unhide HE, IntKind.wrap_u64]
    omega

theorem next_nil (w : World) : Calls Tryd.prog 30 #[.pointer none] w fun e w' => e = .returned (.int .u64 0) ∧ w' = w := by
  go_enter Tryd.func30, Tryd.ntmps30
  go_wp2
  go_ret
  exact ⟨rfl, rfl⟩

set_option maxHeartbeats 400000 in
theorem used_any (g B : Nat) (L : List Nat) (N : Nat) (w : World) (h : DrAt w g B L N) :
    Calls Tryd.prog 18 #[.pointer (some ⟨g, 0, none⟩)] w fun e w' => e = .returned (.int .i64 (N : Int)) ∧ w' = w := by
  obtain ⟨hgB, hsm, a, n, c, hb, hc, hc2, hrow, hbl⟩ := h
  have h1 := hb.at1
  clear hrow hbl hb
  go_enter Tryd.func18, Tryd.ntmps18
  go_wp2
  go_ret
  exact ⟨rfl, rfl⟩
theorem used_nil (w : World) : Calls Tryd.prog 18 #[.pointer none] w fun e w' => e = .returned (.int .i64 0) ∧ w' = w := by
  go_enter Tryd.func18, Tryd.ntmps18
  go_wp2
  go_ret
  exact ⟨rfl, rfl⟩

theorem rem_draw (x n : Nat) (h1 : 1 ≤ n) (h2 : n ≤ 9223372036854775807) : (x : Int).tmod (n : Int) = ((x % n : Nat) : Int) ∧ x % n ≤ 9223372036854775807 := by
  have := Nat.mod_lt x h1
  exact ⟨by rw [Int.tmod_eq_emod_of_nonneg (by omega)]; simp, by omega⟩
set_option maxHeartbeats 400000 in
theorem below_any (g B : Nat) (L : List Nat) (N n : Nat) (w : World) (h : DrAt w g B L N) (hN : N ≤ 1099511627776) (h1 : 1 ≤ n) (h2 : n ≤ 9223372036854775807) :
    Calls Tryd.prog 57 #[.pointer (some ⟨g, 0, none⟩), .int .i64 (n : Int)] w fun e w' => e = .returned (.int .i64 ((drawN L (N + 1) % n : Nat) : Int)) ∧ DrAt w' g B L (N + 1) ∧ w.grownBy w' (some g) := by
  have HX := hide (next_any g B L N w h hN)
  have hx := drawN_lt h.2.1 (N + 1)
  clear h
  generalize drawN L (N + 1) = x at *
  obtain ⟨hr, hl⟩ := rem_draw x n h1 h2
  generalize x % n = y at *
  go_enter Tryd.func57, Tryd.ntmps57
  go_wp2_with (go_at_call 30; refine (unhide HX).mono ?_; rintro e w1 ⟨rfl, hD, hG⟩)
  go_ret
  exact ⟨rfl, hD, hG⟩
theorem below_no (p : Value) (n : Int) (hn : n < 1) (w : World) :
    Calls Tryd.prog 57 #[p, .int .i64 n] w fun e w' => e = .returned (.int .i64 0) ∧ w' = w := by
  go_enter Tryd.func57, Tryd.ntmps57
  go_wp2
  go_ret
  exact ⟨rfl, rfl⟩
theorem below_nil (n : Int) (hn : n ≤ 9223372036854775807) (w : World) :
    Calls Tryd.prog 57 #[.pointer none, .int .i64 n] w fun e w' => e = .returned (.int .i64 0) ∧ w' = w := by
  by_cases h1 : n < 1
  · exact below_no _ n h1 w
  · have HX := hide (next_nil w)
    have hz : (0 : Int).tmod n = 0 := Int.zero_tmod n
    go_enter Tryd.func57, Tryd.ntmps57
    go_wp2_with (go_at_call 30; refine (unhide HX).mono ?_; rintro e w1 ⟨rfl, hw⟩; obtain rfl := hw.symm)
    go_ret
    exact ⟨rfl, rfl⟩

theorem info_w : (Tryd.prog.info? 55).map (fun i => (i.zero, i.size, i.bytes)) = some (some (.int .u64 0), 1, 8) := by kernel_rfl
theorem make_w (n : Nat) (hn : n ≤ 1048576) (wx : World) : (Instr.makeSlice 38 (.int .i64 (n : Int)) (.int .i64 (n : Int))).run Tryd.prog wx = .ok (.slice (some ⟨wx.heap.size, 0, none⟩) n n) (wx.alloc (.cells (madeCells #[.int .u64 0] n) 55)) := by
  obtain ⟨i0, hi0, hz0, hzs, hzb⟩ := info_parts info_w
  have := run_make (P := Tryd.prog) wx 38 55 i0 (.int .u64 0) Tryd.underlying38 hi0 hz0 .i64 .i64 (n : Int) (n : Int) (by omega) (Int.le_refl _) (by rw [hzb]; omega) (by omega)
  rw [hzs] at this
  simpa [Value.cells] using this
/-- A copy of a row in new memory. -/
theorem copied (a : Option Addr) (n c : Nat) (xs : List Nat) (w : World) (h : RowAt w a n xs) (ty : TypeId) : ∃ w2, (Builtin.copy_ #[38, 38] ty #[.slice (some ⟨w.heap.size, 0, none⟩) n n, .slice a n c]).run Tryd.prog (w.alloc (.cells (madeCells #[.int .u64 0] n) 55)) = .ok (goInt n) w2 ∧
    RowAt w2 (some ⟨w.heap.size, 0, none⟩) n xs ∧ Below w.heap.size w w2 := by
  have hb0 : Below w.heap.size w (w.alloc (.cells (madeCells #[.int .u64 0] n) 55)) := (Below.refl _ _).alloc (Nat.le_refl _) _
  by_cases h0 : n = 0
  · subst h0
    refine ⟨_, run_copy_none _ 38 38 ty 55 _ _ _ _ _ _ Tryd.underlying38 one_w (Nat.min_eq_left (Nat.zero_le _)), ⟨h.1, h.2.1, .inl rfl⟩, hb0⟩
  · obtain ⟨b, off, rfl, hc⟩ := h.at (i := 0) (by omega)
    have hl : (cellsU xs).length = n := by rw [cellsU_length]; exact h.1
    have hcell : ∀ j, j < n → (w.alloc (.cells (madeCells #[.int .u64 0] n) 55)).cell? ⟨w.heap.size, 0 + j, none⟩ = some (.int .u64 0) := by
      intro j hj
      rw [World.cell?_alloc_at _ _ _ _ rfl, ← Array.getElem?_toList, toList_madeCells_one, List.getElem?_replicate, if_pos (by omega)]
    refine ⟨(w.alloc (.cells (madeCells #[.int .u64 0] n) 55)).setCells w.heap.size 0 (cellsU xs), ?_, ?_, ?_⟩
    · have := run_copy_cells (P := Tryd.prog) (w.alloc (.cells (madeCells #[.int .u64 0] n) 55)) 38 38 ty 55 w.heap.size 0 n n ⟨b, off, none⟩ n c (cellsU xs) Tryd.underlying38 one_w (by rw [hl]; exact (Nat.min_self n).symm) (h.below hb0).news
        (fun j hj => by rw [hl] at hj; rw [hcell j hj]; rfl) (fun j hj => by unfold World.frozen?; rw [heap_alloc_new]; simp) (cellsU_one xs)
      rw [hl] at this
      exact this
    · refine ⟨h.1, h.2.1, .inr ⟨_, 0, rfl, fun i hi => ?_⟩⟩
      have := World.cell?_setCells_in w.heap.size (cellsU xs) 0 (w.alloc (.cells (madeCells #[.int .u64 0] n) 55)) (fun j hj => by rw [hl] at hj; rw [hcell j hj]; rfl) i (by rw [hl]; exact hi)
      rw [this]
      have h5 := cellsU_get xs i (by rw [h.1]; exact hi)
      rw [List.getElem?_eq_getElem (by rw [hl]; exact hi)] at h5
      exact h5
    · exact hb0.trans (gb_below (setCells_gb w.heap.size (cellsU xs) 0 _) hb0.size (fun k hk => by rw [← Option.some.inj hk]; exact Nat.le_refl _))

set_option maxHeartbeats 400000 in
theorem new_any (a : Option Addr) (n c : Nat) (xs : List Nat) (w : World) (h : RowAt w a n xs) (hn : n ≤ 1048576) :
    Calls Tryd.prog 14 #[.slice a n c] w fun e w' => ∃ g, e = .returned (.pointer (some ⟨g, 0, none⟩)) ∧ w.heap.size ≤ g ∧ DrAt w' g w'.heap.size xs 0 ∧ Below w.heap.size w w' := by
  obtain ⟨w2, hcp, hr, hb⟩ := copied a n c xs w h 3
  have hmk := make_w n hn w
  have HR := hide hr
  have HB := hide hb
  clear h hr hb
  go_enter Tryd.func14, Tryd.ntmps14
  go_wp2
  go_ret
  have hB := unhide HB
  refine ⟨w2.heap.size, rfl, hB.size, ⟨by rw [alloc_size]; omega, (unhide HR).2.1, some ⟨w.heap.size, 0, none⟩, n, n, bk2_new _ _ _ _, Nat.le_refl _, hn, ?_, .inr fun ad e => ?_⟩, hB.alloc hB.size _⟩
  · exact row_alloc (unhide HR) _
  · rw [← Option.some.inj e, alloc_size]
    have := hB.size
    show w.heap.size < _
    omega
end Go.Proofs.YtigmckjjoabfeaaDoor
namespace Go.Proofs.YtigmckjjoabfeaaDoor
open Go.RowKit Go.Shelf Go.Sort
set_option linter.unusedVariables false
set_option maxRecDepth 4000

def sren : Ren := ⟨fun | 125 => 66 | 128 => 72 | 129 => 73 | 189 => 59 | 215 => 89 | 216 => 80 | 257 => 70 | 294 => 74 | 295 => 75 | 296 => 76 | 297 => 77 | 298 => 78 | 299 => 79 | 300 => 81 | 301 => 82 | 328 => 84 | 329 => 85 | 330 => 86 | 331 => 87 | 332 => 88 | 343 => 96 | n => n, fun | 0 => 0 | 3 => 3 | 4 => 4 | 5 => 5 | 9 => 9 | 28 => 74 | 46 => 102 | 51 => 107 | 53 => 55 | 131 => 123 | 182 => 118 | 183 => 119 | 218 => 125 | 222 => 128 | 228 => 143 | 229 => 89 | n => n, fun | n => n⟩
theorem slays189 : Lays.n189 Tryd.prog sren := {
  mixed := by kernel_rfl
  f125 := Tryd.func66.trans (congrArg some (by kernel_rfl))
  f128 := Tryd.func72.trans (congrArg some (by kernel_rfl))
  f129 := Tryd.func73.trans (congrArg some (by kernel_rfl))
  f189 := Tryd.func59.trans (congrArg some (by kernel_rfl))
  f215 := Tryd.func89.trans (congrArg some (by kernel_rfl))
  f216 := Tryd.func80.trans (congrArg some (by kernel_rfl))
  f257 := Tryd.func70.trans (congrArg some (by kernel_rfl))
  f294 := Tryd.func74.trans (congrArg some (by kernel_rfl))
  f295 := Tryd.func75.trans (congrArg some (by kernel_rfl))
  f296 := Tryd.func76.trans (congrArg some (by kernel_rfl))
  f297 := Tryd.func77.trans (congrArg some (by kernel_rfl))
  f298 := Tryd.func78.trans (congrArg some (by kernel_rfl))
  f299 := Tryd.func79.trans (congrArg some (by kernel_rfl))
  f300 := Tryd.func81.trans (congrArg some (by kernel_rfl))
  f301 := Tryd.func82.trans (congrArg some (by kernel_rfl))
  f328 := Tryd.func84.trans (congrArg some (by kernel_rfl))
  f329 := Tryd.func85.trans (congrArg some (by kernel_rfl))
  f330 := Tryd.func86.trans (congrArg some (by kernel_rfl))
  f331 := Tryd.func87.trans (congrArg some (by kernel_rfl))
  f332 := Tryd.func88.trans (congrArg some (by kernel_rfl))
  f343 := Tryd.func96.trans (congrArg some (by kernel_rfl))
  t0 := Tryd.underlying0
  a0 := Tryd.isAgg0
  z0 := Tryd.sizeOf0
  v0 := Tryd.zeroValue0
  t3 := Tryd.underlying3
  a3 := Tryd.isAgg3
  z3 := Tryd.sizeOf3
  v3 := Tryd.zeroValue3
  t4 := Tryd.underlying4
  a4 := Tryd.isAgg4
  z4 := Tryd.sizeOf4
  v4 := Tryd.zeroValue4
  t5 := Tryd.underlying5
  a5 := Tryd.isAgg5
  z5 := Tryd.sizeOf5
  v5 := Tryd.zeroValue5
  t9 := Tryd.underlying9
  a9 := Tryd.isAgg9
  z9 := Tryd.sizeOf9
  v9 := Tryd.zeroValue9
  t28 := Tryd.underlying74
  a28 := Tryd.isAgg74
  z28 := Tryd.sizeOf74
  v28 := Tryd.zeroValue74
  t46 := Tryd.underlying102
  a46 := Tryd.isAgg102
  z46 := Tryd.sizeOf102
  v46 := Tryd.zeroValue102
  t51 := Tryd.underlying107
  a51 := Tryd.isAgg107
  z51 := Tryd.sizeOf107
  v51 := Tryd.zeroValue107
  t53 := Tryd.underlying55
  a53 := Tryd.isAgg55
  z53 := Tryd.sizeOf55
  v53 := Tryd.zeroValue55
  t131 := Tryd.underlying123
  a131 := Tryd.isAgg123
  z131 := Tryd.sizeOf123
  v131 := Tryd.zeroValue123
  t182 := Tryd.underlying118
  a182 := Tryd.isAgg118
  z182 := Tryd.sizeOf118
  v182 := Tryd.zeroValue118
  t183 := Tryd.underlying119
  a183 := Tryd.isAgg119
  z183 := Tryd.sizeOf119
  v183 := Tryd.zeroValue119
  t218 := Tryd.underlying125
  a218 := Tryd.isAgg125
  z218 := Tryd.sizeOf125
  v218 := Tryd.zeroValue125
  t222 := Tryd.underlying128
  a222 := Tryd.isAgg128
  z222 := Tryd.sizeOf128
  v222 := Tryd.zeroValue128
  t228 := Tryd.underlying143
  a228 := Tryd.isAgg143
  z228 := Tryd.sizeOf143
  v228 := Tryd.zeroValue143
  t229 := Tryd.underlying89
  a229 := Tryd.isAgg89
  z229 := Tryd.sizeOf89
  v229 := Tryd.zeroValue89 }

theorem cellsZ_map (xs : List Int) : cellsZ xs = xs.map (Value.int .i64) := rfl
/-- slices.Sort of a slice of the call's own. -/
theorem sort_any (B : Nat) (v : Value) (xs : List Int) (w : World) (h : OwnZ w B v xs) (hn : xs.length ≤ 1048576) :
    Calls Tryd.prog 59 #[v] w fun e w' => e = .returned (.tuple #[]) ∧ OwnZ w' B v (xs.mergeSort fun x y => decide (x ≤ y)) ∧ w.grownBy w' v.ownBlock := by
  have h0 : w.ownsRow B 3 1 v xs.length (cellsZ xs) := h
  rcases h0.2 with ⟨rfl, hz⟩ | ⟨g, cap, cur, rfl, hb, hg, hn1, hm, hsz, ht⟩
  · obtain rfl : xs = [] := List.eq_nil_of_length_eq_zero hz
    refine (calls_of_every_depth fun D => AnyS.slices_Sort_int_none_in slays189 D none 0 w).mono ?_
    rintro e w' ⟨rfl, hw⟩
    obtain rfl := hw.symm
    exact ⟨rfl, by simpa using h, gb_refl _ _⟩
  · have hH : Holds (Value.int .i64) w g 0 xs.toArray := holds_of_blockI hg (by simpa [cellsZ_map] using ht)
    refine (Any.slices_Sort_int slays189 g 0 cap xs w hH (Array.getElem?_eq_some_iff.1 hg).1 (by omega)).mono ?_
    rintro e w' ⟨rfl, q, os, rfl⟩
    have hl : (xs.mergeSort fun x y => decide (x ≤ y)).length = xs.length := by simp
    refine ⟨rfl, ?_, by simpa [Value.ownBlock] using grownBy_sortedI _⟩
    show World.ownsRow _ B 3 1 _ (xs.mergeSort fun x y => decide (x ≤ y)).length _
    have := ownsRow_sortedI (n := q) (os := os) hl hb hg hn1 hm hsz
    rw [hl, cellsZ_map]
    exact this
end Go.Proofs.YtigmckjjoabfeaaDoor
namespace Go.Proofs.YtigmckjjoabfeaaDoor
open Go.RowKit
set_option linter.unusedVariables false
set_option maxRecDepth 4000

/-- A block of one cell, not frozen. -/
def Bk1 (T : TypeId) (w : World) (g : Nat) (v : Value) : Prop := w.heap[g]? = some (.cells #[v] T (0, 0))
theorem bk1_new (T : TypeId) (w : World) (v : Value) : Bk1 T (w.alloc (.cells #[v] T)) w.heap.size v := by
  show (w.heap.push _)[w.heap.size]? = _
  simp
theorem Bk1.lt {T : TypeId} {w : World} {g : Nat} {v : Value} (h : Bk1 T w g v) : g < w.heap.size := (Array.getElem?_eq_some_iff.1 h).1
theorem Bk1.belowB {T : TypeId} {w w' : World} {g B : Nat} {v : Value} (h : Bk1 T w g v) (hb : Below B w w') (hg : g < B) : Bk1 T w' g v := (hb.block g hg).trans h
theorem Bk1.kept {T : TypeId} {w w' : World} {g : Nat} {v : Value} {row : Option Nat} (h : Bk1 T w g v) (hg : w.grownBy w' row) (hne : some g ≠ row) : Bk1 T w' g v := (hg.block g h.lt hne).trans h
theorem Bk1.at0 {T : TypeId} {w : World} {g : Nat} {v : Value} (h : Bk1 T w g v) : w.cell? ⟨g, 0, none⟩ = some v := by
  unfold Bk1 at h
  rw [cell_of_row w g _ _ _ _ h]; rfl
theorem Bk1.frz {T : TypeId} {w : World} {g : Nat} {v : Value} (h : Bk1 T w g v) (i : Nat) : w.frozen? ⟨g, i, none⟩ = false := by
  unfold Bk1 at h
  simp [World.frozen?, h]
theorem Bk1.set0 {T : TypeId} {w : World} {g : Nat} {v : Value} (h : Bk1 T w g v) (u : Value) : Bk1 T (w.setCell ⟨g, 0, none⟩ u) g u := heap_setCell_same w g 0 _ _ u h
theorem Bk1.drew {T : TypeId} {w : World} {g : Nat} {v : Value} (h : Bk1 T w g v) : Bk1 T w.drew g v := h

/-- Of the old blocks none has turned but those from B to B2. -/
structure Mid (B B2 : Nat) (w w' : World) : Prop where
  os : w'.os = w.os
  tape : w'.tape = w.tape
  output : w'.output = w.output
  size : w.heap.size ≤ w'.heap.size
  block : ∀ k, k < w.heap.size → k < B ∨ B2 ≤ k → w'.heap[k]? = w.heap[k]?
theorem Mid.below {B B2 : Nat} {w w' : World} (h : Mid B B2 w w') (hB : B ≤ w.heap.size) : Below B w w' := ⟨h.os, h.tape, h.output, h.size, fun k hk => h.block k (by omega) (.inl hk)⟩
theorem OwnZ.mid {w w' : World} {B B2 : Nat} {v : Value} {xs : List Int} (h : OwnZ w B2 v xs) (hm : Mid B B2 w w') : OwnZ w' B2 v xs := by
  refine ⟨h.1, ?_⟩
  rcases h.2 with h0 | ⟨g, cap, cur, h1, hg, hgg, r⟩
  · exact .inl h0
  · exact .inr ⟨g, cap, cur, h1, hg, (hm.block g (Array.getElem?_eq_some_iff.1 hgg).1 (.inr hg)).trans hgg, r⟩
theorem OwnZ.kept {w w' : World} {B : Nat} {v : Value} {xs : List Int} {k : Nat} (h : OwnZ w B v xs) (hg : w.grownBy w' (some k)) (hk : k < B) : OwnZ w' B v xs := by
  refine ⟨h.1, ?_⟩
  rcases h.2 with h0 | ⟨g, cap, cur, h1, hg1, hgg, r⟩
  · exact .inl h0
  · exact .inr ⟨g, cap, cur, h1, hg1, (hg.block g (Array.getElem?_eq_some_iff.1 hgg).1 (fun e => by have := Option.some.inj e; omega)).trans hgg, r⟩
theorem gb_then {w w1 w2 : World} {r : Option Nat} (h : w.grownBy w1 r) (hb : Below w.heap.size w1 w2) : w.grownBy w2 r :=
  ⟨hb.os.trans h.os, hb.tape.trans h.tape, hb.output.trans h.output, Nat.le_trans h.size hb.size, fun k hk hne => (hb.block k hk).trans (h.block k hk hne)⟩

/-- The numbers zs, those that are left, behind the block h; all of it lies from B to B2. -/
def SupAt (w : World) (h B B2 : Nat) (zs : List Int) : Prop :=
  ∃ b off c, Bk1 97 w h (.slice (some ⟨b, off, none⟩) zs.length c) ∧ zs.length ≤ c ∧ c ≤ 1048576 ∧ (B ≤ b ∧ b < B2 ∧ B ≤ h ∧ h < B2 ∧ b ≠ h) ∧
    (∀ i, i < zs.length → w.cell? ⟨b, off + i, none⟩ = some (.int .i64 (zs.getD i 0))) ∧ ∀ i, w.frozen? ⟨b, i, none⟩ = false
theorem SupAt.below {w w' : World} {h B B2 : Nat} {zs : List Int} (H : SupAt w h B B2 zs) (hb : Below B2 w w') : SupAt w' h B B2 zs := by
  obtain ⟨b, off, c, h1, h2, h3, h4, h5, h6⟩ := H
  exact ⟨b, off, c, h1.belowB hb h4.2.2.2.1, h2, h3, h4, fun i hi => (hb.cell (p := ⟨b, off + i, none⟩) h4.2.1).trans (h5 i hi), fun i => (hb.frozen (p := ⟨b, i, none⟩) h4.2.1).trans (h6 i)⟩
theorem SupAt.kept {w w' : World} {h B B2 k : Nat} {zs : List Int} (H : SupAt w h B B2 zs) (hg : w.grownBy w' (some k)) (hk : k < B) (hs : B2 ≤ w.heap.size) : SupAt w' h B B2 zs := by
  obtain ⟨b, off, c, h1, h2, h3, h4, h5, h6⟩ := H
  have hbk : w'.heap[b]? = w.heap[b]? := hg.block b (by omega) (fun e => by have := Option.some.inj e; omega)
  exact ⟨b, off, c, h1.kept hg (fun e => by have := Option.some.inj e; omega), h2, h3, h4, fun i hi => (World.cell?_of_block (a := ⟨b, off + i, none⟩) hbk).trans (h5 i hi), fun i => (World.frozen?_of_block (a := ⟨b, i, none⟩) hbk).trans (h6 i)⟩

theorem elem_z : Tryd.prog.underlying 74 = some (.slice (Tryd.prog.elem 74)) := by kernel_rfl
theorem elem_z' : Tryd.prog.elem 74 = 3 := by kernel_rfl
theorem size_z (w : World) : (sizeOf 3).run Tryd.prog w = .ok 1 w := by kernel_rfl
theorem one_z : (Tryd.prog.info? 3).map (·.size) = some 1 := by kernel_rfl
theorem zslice_lo (b off n c : Nat) (hc : n + 1 ≤ c) : ∃ off', (n = 0 ∨ off' = off + 1) ∧ ∀ w : World,
    (Instr.sliceAt 74 (.slice (some ⟨b, off, none⟩) (n + 1) c) (some (.int .i64 1)) none none).run Tryd.prog w = .ok (.slice (some ⟨b, off', none⟩) n (c - 1)) w := by
  refine ⟨if c = 1 then off else off + 1, ?_, fun w => ?_⟩
  · by_cases h : c = 1
    · exact .inl (by omega)
    · exact .inr (by rw [if_neg h])
  · rw [run_sliceAt_slice _ _ _ _ _ _ elem_z, run_slice_l _ _ _ _ _ elem_z _ _ (by omega) (by omega), elem_z', size_z]
    by_cases h : c = 1
    · simp [Result.andThen, sliced, h]
    · simp [Result.andThen, sliced, Addr.add, h]
theorem zslice_hi (b off n c j : Nat) (hj : j ≤ c) (w : World) :
    (Instr.sliceAt 74 (.slice (some ⟨b, off, none⟩) n c) none (some (.int .i64 (j : Int))) none).run Tryd.prog w = .ok (.slice (some ⟨b, off, none⟩) j c) w := by
  rw [run_sliceAt_slice _ _ _ _ _ _ elem_z, run_slice_h _ _ _ _ _ elem_z _ _ (by omega) (by omega), elem_z', size_z]
  simp [Result.andThen, sliced, Addr.add]
theorem cellsZ_one (xs : List Int) : ∀ u ∈ cellsZ xs, u.oneCell' = true := by
  intro u hu
  obtain ⟨_, _, rfl⟩ := List.mem_map.1 hu
  rfl
theorem add_off (b off i : Nat) : (⟨b, off, none⟩ : Addr).add i = ⟨b, off + i, none⟩ := by
  unfold Addr.add
  split
  · rename_i h; simp_all
  · rfl
/-- 'copy(left[1:], left[:j])': those ahead of the j-th move up. -/
theorem shifted (b off off' n c j : Nat) (zs : List Int) (wx : World) (hl : zs.length = n + 1) (hj : j < n + 1) (ho : n = 0 ∨ off' = off + 1)
    (hc : ∀ i, i < n + 1 → wx.cell? ⟨b, off + i, none⟩ = some (.int .i64 (zs.getD i 0))) (hf : ∀ i, wx.frozen? ⟨b, i, none⟩ = false) (ty : TypeId) :
    ∃ w2, (Builtin.copy_ #[74, 74] ty #[.slice (some ⟨b, off', none⟩) n (c - 1), .slice (some ⟨b, off, none⟩) j c]).run Tryd.prog wx = .ok (goInt j) w2 ∧
      (∀ i, i < n → w2.cell? ⟨b, off' + i, none⟩ = some (.int .i64 ((zs.eraseIdx j).getD i 0))) ∧ (∀ i, w2.frozen? ⟨b, i, none⟩ = false) ∧ wx.grownBy w2 (some b) := by
  have hget : ∀ i, (zs.eraseIdx j).getD i 0 = if i < j then zs.getD i 0 else zs.getD (i + 1) 0 := by
    intro i
    simp only [List.getD_eq_getElem?_getD, List.getElem?_eraseIdx]
    split <;> rfl
  by_cases h0 : j = 0
  · subst h0
    refine ⟨wx, run_copy_none wx 74 74 ty 3 _ _ _ _ _ _ Tryd.underlying74 one_z (Nat.min_eq_left (Nat.zero_le _)), fun i hi => ?_, hf, gb_refl _ _⟩
    rw [hget, if_neg (by omega)]
    rcases ho with ho | rfl
    · omega
    · rw [show off + 1 + i = off + (i + 1) by omega]
      exact hc (i + 1) (by omega)
  · have ho : off' = off + 1 := by omega
    subst ho
    have hln : (cellsZ (zs.take j)).length = j := by rw [cellsZ_length, List.length_take]; omega
    have htk : ∀ i, i < j → (zs.take j).getD i 0 = zs.getD i 0 := fun i hi => by simp [List.getD_eq_getElem?_getD, hi]
    refine ⟨wx.setCells b (off + 1) (cellsZ (zs.take j)), ?_, fun i hi => ?_, fun i => by rw [World.frozen?_setCells]; exact hf i, setCells_gb _ _ _ _⟩
    · have := run_copy_cells (P := Tryd.prog) wx 74 74 ty 3 b (off + 1) n (c - 1) ⟨b, off, none⟩ j c (cellsZ (zs.take j)) Tryd.underlying74 one_z (by rw [hln]; exact (Nat.min_eq_left (by omega)).symm)
        (fun i u hi => by
          have hlt : i < (zs.take j).length := by
            have := (List.getElem?_eq_some_iff.1 hi).1
            rwa [cellsZ_length] at this
          have hlt' : i < j := by rw [List.length_take] at hlt; omega
          rw [cellsZ_get _ _ hlt, htk i hlt'] at hi
          rw [add_off, hc i (by omega)]
          exact hi)
        (fun i hi => by rw [hln] at hi; rw [show off + 1 + i = off + (i + 1) by omega, hc (i + 1) (by omega)]; rfl) (fun i hi => hf _) (cellsZ_one _)
      rw [hln] at this
      exact this
    · rw [hget]
      by_cases hij : i < j
      · rw [if_pos hij]
        have := World.cell?_setCells_in b (cellsZ (zs.take j)) (off + 1) wx (fun i hi => by rw [hln] at hi; rw [show off + 1 + i = off + (i + 1) by omega, hc (i + 1) (by omega)]; rfl) i (by rw [hln]; exact hij)
        rw [this]
        have h5 := cellsZ_get (zs.take j) i (by rw [List.length_take]; omega)
        rw [List.getElem?_eq_getElem (by rw [hln]; exact hij), htk i hij] at h5
        exact h5
      · rw [if_neg hij, World.cell?_setCells_out b _ _ _ _ (fun _ _ => .inr (by rw [hln]; show off + 1 + j ≤ off + 1 + i; omega)), show off + 1 + i = off + (i + 1) by omega]
        exact hc (i + 1) (by omega)

set_option maxHeartbeats 1000000 in
theorem takeI_any (h B B2 j : Nat) (zs : List Int) (w : World) (H : SupAt w h B B2 zs) (hj : j < zs.length) (hs : B2 ≤ w.heap.size) :
    Calls Tryd.prog 58 #[.pointer (some ⟨h, 0, none⟩), .int .i64 (j : Int)] w fun e w' => e = .returned (.int .i64 (zs.getD j 0)) ∧ SupAt w' h B B2 (zs.eraseIdx j) ∧ Mid B B2 w w' := by
  obtain ⟨b, off, c, h1, h2, h3, h4, h5, h6⟩ := H
  obtain ⟨n, hn⟩ : ∃ n, zs.length = n + 1 := ⟨zs.length - 1, by omega⟩
  rw [hn] at h1 h2 h5 hj
  obtain ⟨off', ho, hs1⟩ := zslice_lo b off n c h2
  have hs2 := zslice_hi b off (n + 1) c j (by omega)
  obtain ⟨w2, hcp, hc2, hf2, hg2⟩ := shifted b off off' n c j zs w.drew hn hj ho h5 h6 3
  have hx := h5 j hj
  have h0 := h1.at0
  have k1 : Bk1 97 w2 h (.slice (some ⟨b, off, none⟩) (n + 1) c) := h1.drew.kept hg2 (fun e => h4.2.2.2.2 (Option.some.inj e).symm)
  have k0 := k1.at0
  have kf := k1.frz 0
  have HK := hide k1
  have HG := hide hg2
  have HC := hide hc2
  have HF := hide hf2
  have H4 := hide h4
  generalize zs.getD j 0 = x at *
  clear h1 h5 h6 hc2 hf2 hg2 k1 h4
  go_enter Tryd.func58, Tryd.ntmps58
  go_wp2_with fail
  go_region_held (fun w' => w'.cell? ⟨h, 0, none⟩ = some (.slice (some ⟨b, off, none⟩) (n + 1) c)) (go_keep) (fail)
  go_wp2
  go_ret
  have h4 := unhide H4
  have hlen : (zs.eraseIdx j).length = n := by rw [List.length_eraseIdx, if_pos (by omega)]; omega
  have hgs := gb_setCell w2 h 0 (.slice (some ⟨b, off', none⟩) n (c - 1))
  have hbk := hgs.block b (by have := (unhide HG).size; simp at this; omega) (fun e => h4.2.2.2.2 (Option.some.inj e))
  refine ⟨rfl, ⟨b, off', c - 1, by rw [hlen]; exact (unhide HK).set0 _, by omega, by omega, h4, fun i hi => ?_, fun i => ?_⟩, ?_⟩
  · rw [hlen] at hi
    exact (World.cell?_of_block (a := ⟨b, off' + i, none⟩) hbk).trans (unhide HC i hi)
  · exact (World.frozen?_of_block (a := ⟨b, i, none⟩) hbk).trans (unhide HF i)
  · have hG := unhide HG
    refine ⟨hgs.os.trans hG.os, hgs.tape.trans hG.tape, hgs.output.trans hG.output, Nat.le_trans hG.size hgs.size, fun k hk hkB => ?_⟩
    exact (hgs.block k (Nat.lt_of_lt_of_le hk hG.size) (fun e => by have := Option.some.inj e; omega)).trans (hG.block k hk (fun e => by have := Option.some.inj e; omega))
end Go.Proofs.YtigmckjjoabfeaaDoor
namespace Go.Proofs.YtigmckjjoabfeaaDoor
open Go.RowKit
set_option linter.unusedVariables false
set_option maxRecDepth 4000

def upZ (n : Nat) : List Int := castZ (List.range n)
theorem upZ_length (n : Nat) : (upZ n).length = n := by simp [upZ, castZ]
theorem upZ_getD (n i : Nat) (h : i < n) : (upZ n).getD i 0 = (i : Int) := by
  rw [upZ, castZ_getD]
  simp [List.getD_eq_getElem?_getD, h]
theorem results_up {tmps : Array Value} {W : World} {g : Nat} {u0 : Value} (h2 : tmps.getD 2 undef = .pointer (some ⟨g, 0, none⟩)) (hq : Bk1 97 W g u0) :
    (results Tryd.f56 tmps).run Tryd.prog W = .ok (.agg #[u0]) W := by
  have k0 := hq.at0
  have h2' : tmps[2]?.getD undef = .pointer (some ⟨g, 0, none⟩) := by simpa using h2
  simp [results, Tryd.results56, go_sem, h2', k0]
set_option maxHeartbeats 1000000 in
theorem upTo_any (n : Nat) (hn : n ≤ 1048576) (w : World) :
    Calls Tryd.prog 56 #[.int .i64 (n : Int)] w fun e w' => ∃ b, e = .returned (.agg #[.slice (some ⟨b, 0, none⟩) n n]) ∧ OwnZ w' w.heap.size (.slice (some ⟨b, 0, none⟩) n n) (upZ n) ∧ Below w.heap.size w w' := by
  have hmk := make_intz n hn (w.alloc (.cells #[.slice none 0 0] 97))
  have hO := made_intz (w.alloc (.cells #[.slice none 0 0] 97)) n hn (List.replicate n 0) rfl
  have HP := hide (bk1_new 97 w (.slice none 0 0))
  have hsz := alloc_size w (.cells #[.slice none 0 0] 97)
  have hb1 : Below w.heap.size w (w.alloc (.cells #[.slice none 0 0] 97)) := (Below.refl _ _).alloc (Nat.le_refl _) _
  rw [hsz] at hO hmk
  have hO0 : OwnZ ((w.alloc (.cells #[.slice none 0 0] 97)).alloc (.cells (madeCells #[.int .i64 0] n) 3)) (w.heap.size + 1) (.slice (some ⟨w.heap.size + 1, 0, none⟩) n n) (filledZ (upZ n) 0) := by
    rw [filledZ_zero, upZ_length]; exact hO
  have HO := hide hO0
  have HB := hide (hb1.alloc hb1.size (.cells (madeCells #[.int .i64 0] n) 3))
  have HQ := hide ((unhide HP).belowB ((Below.refl (w.heap.size + 1) (w.alloc (.cells #[.slice none 0 0] 97))).alloc (by rw [hsz]; exact Nat.le_refl _) (.cells (madeCells #[.int .i64 0] n) 3)) (Nat.lt_succ_self _))
  clear hO hO0 hb1 HP
  go_enter Tryd.func56, Tryd.ntmps56
  go_wp2
  go_loopw [9] (fun i wr => ∃ k : Nat, k ≤ n ∧ i = .int .i64 k ∧ Hid (OwnZ wr (w.heap.size + 1) (.slice (some ⟨w.heap.size + 1, 0, none⟩) n n) (filledZ (upZ n) k) ∧ Bk1 97 wr w.heap.size (.slice none 0 0) ∧ Below w.heap.size w wr)) (fun i _ => n - (intOf i).toNat)
  case atStart => exact ⟨0, Nat.zero_le _, rfl, hide ⟨unhide HO, unhide HQ, unhide HB⟩⟩
  case round =>
    obtain ⟨k, hk, rfl, HR⟩ := hrel
    clear HO HQ HB
    by_cases hlt : k < n
    · obtain ⟨g, cap, e, _, hgs, hc, hf⟩ := (unhide HR).1.at (by rw [filledZ_length _ _ (by rw [upZ_length]; exact hk), upZ_length]; omega)
      have he : g = w.heap.size + 1 := by
        simp only [Value.slice.injEq, Option.some.injEq, Addr.mk.injEq, and_true] at e
        exact e.1.symm
      subst he
      have hcell := hc k (by rw [filledZ_length _ _ (by rw [upZ_length]; exact hk), upZ_length]; omega)
      have hfz := hf k
      have hO2 := (unhide HR).1.stored k (k : Int)
      rw [← upZ_getD n k hlt, filledZ_succ _ _ (by rw [upZ_length]; exact hlt), upZ_getD n k hlt] at hO2
      have HR2 := hide (show _ ∧ _ ∧ _ from ⟨hO2, (unhide HR).2.1.kept (gb_setCell wr (w.heap.size + 1) k (.int .i64 (k : Int))) (fun e => by have := Option.some.inj e; omega), (unhide HR).2.2.setCell (p := ⟨w.heap.size + 1, k, none⟩) (by show w.heap.size ≤ w.heap.size + 1; omega) (.int .i64 (k : Int))⟩)
      clear hc hf hO2 HR e
      go_wp2
      go_roundw
      case rel => exact ⟨k + 1, by omega, by go_num, hide (unhide HR2)⟩
      case measure => simp [intOf]; omega
    · obtain rfl : k = n := by omega
      obtain ⟨h1, h2, h3⟩ := unhide HR
      have h20 := h2.at0
      have h2f := h2.frz 0
      have hfin := filledZ_all (upZ k)
      rw [upZ_length] at hfin
      rw [hfin] at h1
      have HF := hide (show _ ∧ _ ∧ _ from ⟨(show OwnZ _ _ _ _ from h1.kept (gb_setCell _ w.heap.size 0 (.slice (some ⟨w.heap.size + 1, 0, none⟩) k k)) (Nat.lt_succ_self _)), h2.set0 (.slice (some ⟨w.heap.size + 1, 0, none⟩) k k), h3.setCell (p := ⟨w.heap.size, 0, none⟩) (Nat.le_refl _) (.slice (some ⟨w.heap.size + 1, 0, none⟩) k k)⟩)
      clear HR h1 h2 h3 hfin
      go_wp2
      exact bodyPost_ret (results_up rfl (unhide HF).2.1) rfl ⟨_, rfl, (unhide HF).1.mono (Nat.le_succ _), (unhide HF).2.2⟩

theorem min_num (k : Int) (n : Nat) : ∃ m : Int, (∀ (ts : Array TypeId) (t : TypeId) (w : World), (Builtin.min_ ts t #[.int .i64 k, .int .i64 (n : Int)]).run Tryd.prog w = .ok (.int .i64 m) w) ∧ ∀ i : Nat, (i : Int) < m ↔ i < min k.toNat n := by
  refine ⟨if (n : Int) < k then (n : Int) else k, fun ts t w => by rw [run_min_int2], fun i => ?_⟩
  split <;> omega
theorem distinct_no (p : Value) (hp : p = .pointer none ∨ ∃ g, p = .pointer (some g)) (n k : Int) (hn : n < 0 ∨ 128 < n) (w : World) :
    Calls Tryd.prog 32 #[p, .int .i64 n, .int .i64 k] w fun e w' => e = .returned (.slice none 0 0) ∧ w' = w := by
  rcases hp with rfl | ⟨g, rfl⟩
  · go_enter Tryd.func32, Tryd.ntmps32
    go_wp2
    go_ret
    exact ⟨rfl, rfl⟩
  · rcases hn with hn | hn
    · go_enter Tryd.func32, Tryd.ntmps32
      go_wp2
      go_ret
      exact ⟨rfl, rfl⟩
    · have h0 : ¬ n < 0 := by omega
      go_enter Tryd.func32, Tryd.ntmps32
      go_wp2
      go_ret
      exact ⟨rfl, rfl⟩
theorem distinct_nil (n k : Int) (w : World) :
    Calls Tryd.prog 32 #[.pointer none, .int .i64 n, .int .i64 k] w fun e w' => e = .returned (.slice none 0 0) ∧ w' = w := by
  go_enter Tryd.func32, Tryd.ntmps32
  go_wp2
  go_ret
  exact ⟨rfl, rfl⟩
theorem OwnZ.lt' {w : World} {B : Nat} {v : Value} {xs : List Int} (h : OwnZ w B v xs) {k : Nat} (hk : v.ownBlock = some k) : B ≤ k := (World.ownsRow.lt h k hk).1
theorem upZ_sup {w : World} {b n B : Nat} (h : OwnZ w B (.slice (some ⟨b, 0, none⟩) n n) (upZ n)) (hn : n ≤ 1048576) :
    SupAt (w.alloc (.cells #[.slice (some ⟨b, 0, none⟩) n n] 97)) w.heap.size B (w.heap.size + 1) (upZ n) := by
  have h0 : w.ownsRow B 3 1 (.slice (some ⟨b, 0, none⟩) n n) n (cellsZ (upZ n)) := by
    have h' := h
    unfold OwnZ at h'
    rwa [upZ_length] at h'
  rcases h0.2 with ⟨e, _⟩ | ⟨g, cap, cur, e, hb, hg, hn1, hm, hsz, ht⟩
  · simp at e
  · simp only [Value.slice.injEq, Option.some.injEq, Addr.mk.injEq, and_true] at e
    obtain ⟨rfl, _, _⟩ := e
    have hlt := (Array.getElem?_eq_some_iff.1 hg).1
    have hal : (w.alloc (.cells #[.slice (some ⟨b, 0, none⟩) n n] 97)).heap[b]? = w.heap[b]? := Below.heap_alloc _ _ _ hlt
    refine ⟨b, 0, n, by rw [upZ_length]; exact bk1_new _ _ _, by rw [upZ_length]; exact Nat.le_refl _, hn, ⟨hb, by omega, by omega, by omega, by omega⟩, fun i hi => ?_, fun i => ?_⟩
    · rw [Nat.zero_add, World.cell?_of_block (a := ⟨b, i, none⟩) hal, h0.cellAt i (by rw [upZ_length] at hi; omega), cellsZ_get _ i hi]
    · rw [World.frozen?_of_block (a := ⟨b, i, none⟩) hal]
      exact h0.frozenAt i

set_option maxHeartbeats 2000000 in
theorem distinct_any (g B : Nat) (L : List Nat) (N n : Nat) (k : Int) (w : World) (h : DrAt w g B L N) (hB : B ≤ w.heap.size) (hN : N ≤ 549755813888) (hn : n ≤ 128) :
    Calls Tryd.prog 32 #[.pointer (some ⟨g, 0, none⟩), .int .i64 (n : Int), .int .i64 k] w fun e w' => ∃ v, e = .returned v ∧ OwnZ w' w.heap.size v (castZ (distL L N n (min k.toNat n))) ∧ DrAt w' g B L (N + min k.toNat n) ∧ w.grownBy w' (some g) := by
  obtain ⟨m, hmin, hm⟩ := min_num k n
  have hgB := h.1
  have hrn : min k.toNat n ≤ n := Nat.min_le_right _ _
  generalize min k.toNat n = r at *
  have HU := hide (upTo_any n (by omega) w)
  have h0 : ¬ ((n : Int) < 0) := by omega
  have h1 : ¬ ((128 : Int) < (n : Int)) := by omega
  have HD := hide h
  have HM := hide hm
  clear h hm
  go_enter Tryd.func32, Tryd.ntmps32
  go_wp2_with (go_at_call 56; refine (unhide HU).mono ?_; rintro e w1 ⟨b, rfl, hO1, hb1⟩; have HO1 := hide hO1; have HB1 := hide hb1; clear hO1 hb1)
  go_loopw [8, 25] (fun t i wr => ∃ q : Nat, q ≤ r ∧ i = .int .i64 q ∧ Hid (OwnZ wr (w1.heap.size + 1) t (castZ (picksL L N (List.range n) q)) ∧ SupAt wr w1.heap.size w.heap.size (w1.heap.size + 1) (castZ (leftL L N (List.range n) q)) ∧ DrAt wr g B L (N + q) ∧ w.grownBy wr (some g) ∧ w1.heap.size + 1 ≤ wr.heap.size)) (fun _ i _ => r - (intOf i).toNat)
  case atStart =>
    have hb1 := unhide HB1
    have hA : Below w.heap.size w1 (w1.alloc (.cells #[.slice (some ⟨b, 0, none⟩) n n] 97)) := (Below.refl _ _).alloc hb1.size _
    exact ⟨0, Nat.zero_le _, rfl, hide ⟨OwnZ.nil _ _, upZ_sup (unhide HO1) (by omega), (unhide HD).below ((hb1.trans hA).mono hB), gb_of_below (hb1.trans hA) _, by rw [alloc_size]; exact Nat.le_refl _⟩⟩
  case round =>
    obtain ⟨q, hq, rfl, HR⟩ := hrel
    have hw1 : w.heap.size ≤ w1.heap.size := (unhide HB1).size
    have hqm := unhide HM q
    by_cases hlt : q < r
    · have hqm' : (q : Int) < m := hqm.2 hlt
      obtain ⟨hO, hS, hD, hG, hZ⟩ := unhide HR
      have hll := leftL_length L N (List.range n) q (by rw [List.length_range]; omega)
      rw [List.length_range] at hll
      obtain ⟨b', off, c, k1, k2, k3, k4, k5, k6⟩ := hS
      have HS := hide (show SupAt wr w1.heap.size w.heap.size (w1.heap.size + 1) (castZ (leftL L N (List.range n) q)) from ⟨b', off, c, k1, k2, k3, k4, k5, k6⟩)
      have k0 := k1.at0
      rw [castZ_length, hll] at k0
      have HX := hide (below_any g B L (N + q) (n - q) wr hD (by omega) (by omega) (by omega))
      have hj : drawN L (N + q + 1) % (n - q) < n - q := Nat.mod_lt _ (by omega)
      have HP := hide (show picksL L N (List.range n) (q + 1) = picksL L N (List.range n) q ++ [(leftL L N (List.range n) q).getD (drawN L (N + q + 1) % (n - q)) 0] from by show picksL L N (List.range n) q ++ _ = _; rw [hll])
      have HL := hide (show leftL L N (List.range n) (q + 1) = (leftL L N (List.range n) q).eraseIdx (drawN L (N + q + 1) % (n - q)) from by show (leftL L N (List.range n) q).eraseIdx _ = _; rw [hll])
      have hxv : (castZ (leftL L N (List.range n) q)).getD (drawN L (N + q + 1) % (n - q)) 0 = (((leftL L N (List.range n) q).getD (drawN L (N + q + 1) % (n - q)) 0 : Nat) : Int) := castZ_getD _ _
      have hT : ∀ w2, SupAt w2 w1.heap.size w.heap.size (w1.heap.size + 1) (castZ (leftL L N (List.range n) q)) → w1.heap.size + 1 ≤ w2.heap.size → Calls Tryd.prog 58 #[.pointer (some ⟨w1.heap.size, 0, none⟩), .int .i64 ((drawN L (N + q + 1) % (n - q) : Nat) : Int)] w2 fun e w' =>
          e = .returned (.int .i64 (((leftL L N (List.range n) q).getD (drawN L (N + q + 1) % (n - q)) 0 : Nat) : Int)) ∧ SupAt w' w1.heap.size w.heap.size (w1.heap.size + 1) (castZ (leftL L N (List.range n) (q + 1))) ∧ Mid w.heap.size (w1.heap.size + 1) w2 w' := by
        intro w2 hs2 hz2
        have := takeI_any w1.heap.size w.heap.size (w1.heap.size + 1) (drawN L (N + q + 1) % (n - q)) _ w2 hs2 (by rw [castZ_length, hll]; exact hj) hz2
        rw [hxv, ← castZ_erase, ← unhide HL] at this
        exact this
      have HT := hide hT
      have HO := hide hO
      have HG := hide hG
      have HPL := hide (picksL_length L N (List.range n) q)
      clear k1 k2 k3 k4 k5 k6 hD hO hG hj hll HR hqm HO1 HB1 HU HD hT hxv HL
      generalize (leftL L N (List.range n) q).getD (drawN L (N + q + 1) % (n - q)) 0 = x at *
      generalize drawN L (N + q + 1) % (n - q) = j at *
      go_wp2_with (first | (go_at_call 57; refine (unhide HX).mono ?_; rintro e w2 ⟨rfl, hD2, hG2⟩; have HS2 := hide ((unhide HS).kept hG2 (by omega) hZ); have HO2 := hide ((unhide HO).kept hG2 (by have := hG2.size; omega)); have HG2 := hide (gb_trans (unhide HG) hG2 (.inl rfl)); have HD2 := hide hD2; have HZ2 := hide (Nat.le_trans hZ hG2.size); clear hD2 hG2) | (go_at_call 58; refine (unhide HT _ (unhide HS2) (unhide HZ2)).mono ?_; rintro e w3 ⟨rfl, hS3, hM3⟩; have HS3 := hide hS3; have HM3 := hide hM3; have HO3 := hide ((unhide HO2).mid hM3); have HZ3 := hide (Nat.le_trans (unhide HZ2) hM3.size); clear hS3 hM3) | (at_builtin; refine wpList_pushZ rfl _ _ rfl (w1.heap.size + 1) u8 _ (x : Int) rfl rfl (unhide HO3) (unhide HZ3) (by rw [castZ_length, unhide HPL]; omega) ?_; intro s4 w4 ho4 hb4; have HO4 := hide ho4; have HB4 := hide hb4; clear ho4 hb4))
      go_roundw
      case rel =>
        have hsz2 : w.heap.size ≤ w2.heap.size := (unhide HG2).size
        have hbm : Below w.heap.size w2 w3 := (unhide HM3).below hsz2
        have hb3 : Below w.heap.size w2 w4 := hbm.trans ((unhide HB4).mono (by omega))
        refine ⟨q + 1, by omega, by go_num, hide ⟨?_, (unhide HS3).below (unhide HB4), (unhide HD2).below (hb3.mono hB), gb_then (unhide HG2) hb3, Nat.le_trans (unhide HZ3) (unhide HB4).size⟩⟩
        rw [unhide HP, castZ_append]
        exact unhide HO4
      case measure => simp [intOf]; omega
    · have hqm' : ¬ ((q : Int) < m) := fun h => hlt (hqm.1 h)
      obtain rfl : q = r := by omega
      obtain ⟨hO, hS, hD, hG, hZ⟩ := unhide HR
      have HSo := hide (sort_any (w1.heap.size + 1) u8 _ wr hO (by rw [castZ_length, picksL_length]; omega))
      rw [dist_sort L N n q hrn] at HSo
      have HO := hide hO
      have HG := hide hG
      have HD := hide hD
      have HZ := hide hZ
      clear hO hS hD hG hZ HR hqm HO1 HB1 HU
      go_wp2_with (go_at_call 59; refine (unhide HSo).mono ?_; rintro e w5 ⟨rfl, hO5, hG5⟩)
      go_ret
      have hb5 : Below (w1.heap.size + 1) wr w5 := gb_below hG5 (unhide HZ) (fun k hk => ((unhide HO).lt' hk))
      exact ⟨_, rfl, hO5.mono (by omega), (unhide HD).below (hb5.mono (by omega)), gb_then (unhide HG) (hb5.mono (by omega))⟩
end Go.Proofs.YtigmckjjoabfeaaDoor
namespace Go.Proofs.YtigmckjjoabfeaaDoor
open Go.RowKit
set_option linter.unusedVariables false
set_option maxRecDepth 4000

/-- The reference's draws at block h: L's, of which N were used; all of it lies below B. -/
def RfAt (w : World) (h B : Nat) (L : List Nat) (N : Nat) : Prop :=
  h < B ∧ ∃ a n c, Bk2 43 w h (.slice a n c) (.int .i64 (N : Int)) ∧ n ≤ 1048576 ∧ RowAt w a n L ∧ (n = 0 ∨ ∀ ad, a = some ad → ad.block < B)
theorem RfAt.below {w w' : World} {g B : Nat} {L : List Nat} {N : Nat} (h : RfAt w g B L N) (hb : Below B w w') : RfAt w' g B L N := by
  obtain ⟨h1, a, n, c, h3, h4, h6, h7⟩ := h
  exact ⟨h1, a, n, c, h3.belowB hb h1, h4, h6.belowB hb h7, h7⟩
theorem RfAt.kept {w w' : World} {g B k : Nat} {L : List Nat} {N : Nat} {T : TypeId} {a' : Option Addr} {n' c' : Nat} {i : Int} (h : RfAt w g B L N) (hg : w.grownBy w' (some k)) (hk : g ≠ k) (hap : Bk2 T w k (.slice a' n' c') (.int .i64 i)) : RfAt w' g B L N := by
  obtain ⟨h1, a, n, c, h3, h4, h6, h7⟩ := h
  exact ⟨h1, a, n, c, h3.kept hg (fun e => hk (Option.some.inj e)), h4, h6.kept hg (hap.apart h6), h7⟩
theorem RfAt.drew {w : World} {g B : Nat} {L : List Nat} {N : Nat} (h : RfAt w g B L N) : RfAt w.drew g B L N := h.below (Below.refl _ _).drew
theorem gb_drewN {w w' : World} {r : Option Nat} (h : w.grownBy w' r) (n : Nat) : w.grownBy (w'.drewN n) r := ⟨h.os, h.tape, h.output, h.size, h.block⟩

set_option maxHeartbeats 1000000 in
theorem rnext_any (g B : Nat) (L : List Nat) (N : Nat) (w : World) (h : RfAt w g B L N) (hN : N ≤ 1099511627776) :
    Calls Tryd.prog 36 #[.pointer (some ⟨g, 0, none⟩)] w fun e w' => e = .returned (.int .u64 ((drawN L (N + 1) : Nat) : Int)) ∧ RfAt w' g B L (N + 1) ∧ w.grownBy w' (some g) := by
  obtain ⟨h1, a, n, c, h3, h4, h6, h7⟩ := h
  obtain rfl : n = L.length := h6.1.symm
  have hcast : ((N + 1 : Nat) : Int) = (N : Int) + 1 := by omega
  have hset : RfAt (w.setCell ⟨g, 1, none⟩ (.int .i64 ((N + 1 : Nat) : Int))) g B L (N + 1) := ⟨h1, a, L.length, c, h3.set1 _, h4, h6.kept (gb_setCell _ _ _ _) (h3.apart h6), h7⟩
  have hrow : RowAt (w.setCell ⟨g, 1, none⟩ (.int .i64 ((N + 1 : Nat) : Int))) a L.length L := h6.kept (gb_setCell _ _ _ _) (h3.apart h6)
  have k1 := h3.at1
  have kf := h3.frz 1
  have m0 := (h3.set1 (.int .i64 ((N + 1 : Nat) : Int))).at0
  have m1 := (h3.set1 (.int .i64 ((N + 1 : Nat) : Int))).at1
  rw [hcast] at hset hrow m0 m1
  have HD := hide hset
  clear hcast
  clear hset h6 h7 h3
  by_cases hlt : N < L.length
  · obtain ⟨b, off, rfl, hc⟩ := hrow.at hlt
    have hcell := hc N hlt
    rw [← drawN_in hlt] at hcell
    clear hc hrow
    generalize drawN L (N + 1) = x at *
    go_enter Tryd.func36, Tryd.ntmps36
    go_wp2_with fail
    go_quiet (fail)
    go_wp2_with fail
    go_quiet (fail)
    go_wp2
    go_ret
    exact ⟨rfl, (unhide HD).below (below_drewN (below_drewN (Below.refl _ _) _) _), gb_drewN (gb_drewN (gb_setCell _ _ _ _) _) _⟩
  · have HE := hide (drawN_out (L := L) (n := N + 1) (by omega))
    clear hrow
    go_enter Tryd.func36, Tryd.ntmps36
    go_wp2_with fail
    go_quiet (fail)
    go_wp2
    go_ret
    refine ⟨ret_int ?_, (unhide HD).below (below_drewN (Below.refl _ _) _), gb_drewN (gb_setCell _ _ _ _) _⟩
    rw [unhide HE, IntKind.wrap_u64]
    omega

set_option maxHeartbeats 400000 in
theorem rbelow_any (g B : Nat) (L : List Nat) (N n : Nat) (m : Int) (hm : m = (n : Int)) (w : World) (h : RfAt w g B L N) (hL : smalls L) (hN : N ≤ 1099511627776) (h1 : 1 ≤ n) (h2 : n ≤ 9223372036854775807) :
    Calls Tryd.prog 63 #[.pointer (some ⟨g, 0, none⟩), .int .i64 m] w fun e w' => e = .returned (.int .i64 ((drawN L (N + 1) % n : Nat) : Int)) ∧ RfAt w' g B L (N + 1) ∧ w.grownBy w' (some g) := by
  subst hm
  have HX := hide (rnext_any g B L N w h hN)
  have hx := drawN_lt hL (N + 1)
  clear h
  generalize drawN L (N + 1) = x at *
  obtain ⟨hr, hl⟩ := rem_draw x n h1 h2
  generalize x % n = y at *
  go_enter Tryd.func63, Tryd.ntmps63
  go_wp2_with (go_at_call 36; refine (unhide HX).mono ?_; rintro e w1 ⟨rfl, hD, hG⟩)
  go_ret
  exact ⟨rfl, hD, hG⟩
theorem rbelow_no (p : Value) (n : Int) (hn : n < 1) (w : World) :
    Calls Tryd.prog 63 #[p, .int .i64 n] w fun e w' => e = .returned (.int .i64 0) ∧ w' = w := by
  go_enter Tryd.func63, Tryd.ntmps63
  go_wp2
  go_ret
  exact ⟨rfl, rfl⟩

/-- A slice of bools of the call's own. -/
def cellsF (bs : List Bool) : List Value := bs.map Value.bool
theorem cellsF_length (bs : List Bool) : (cellsF bs).length = bs.length := by simp [cellsF]
theorem cellsF_get (bs : List Bool) (i : Nat) (h : i < bs.length) : (cellsF bs)[i]? = some (.bool (bs.getD i false)) := by
  simp [cellsF, List.getElem?_eq_getElem h, List.getD_eq_getElem?_getD]
def OwnF (w : World) (B : Nat) (v : Value) (bs : List Bool) : Prop := w.ownsRow B 4 1 v bs.length (cellsF bs)
theorem OwnF.below {w w' : World} {B B' : Nat} {v : Value} {bs : List Bool} (h : OwnF w B v bs) (hb : Below B' w w') (hs : ∀ k, v.ownBlock = some k → k < B') : OwnF w' B v bs := by
  refine ⟨h.1, ?_⟩
  rcases h.2 with h0 | ⟨g, cap, cur, h1, hg, hgg, r⟩
  · exact .inl h0
  · exact .inr ⟨g, cap, cur, h1, hg, (hb.block g (hs g (by rw [h1]; rfl))).trans hgg, r⟩
theorem OwnF.kept {w w' : World} {B : Nat} {v : Value} {bs : List Bool} {k : Nat} (h : OwnF w B v bs) (hg : w.grownBy w' (some k)) (hk : k < B) : OwnF w' B v bs := by
  refine ⟨h.1, ?_⟩
  rcases h.2 with h0 | ⟨g, cap, cur, h1, hg1, hgg, r⟩
  · exact .inl h0
  · exact .inr ⟨g, cap, cur, h1, hg1, (hg.block g (Array.getElem?_eq_some_iff.1 hgg).1 (fun e => by have := Option.some.inj e; omega)).trans hgg, r⟩
theorem OwnF.at {w : World} {B g n c : Nat} {bs : List Bool} (h : OwnF w B (.slice (some ⟨g, 0, none⟩) n c) bs) : B ≤ g ∧ g < w.heap.size ∧ (∀ i, i < bs.length → w.cell? ⟨g, i, none⟩ = some (.bool (bs.getD i false))) ∧ ∀ i, w.frozen? ⟨g, i, none⟩ = false := by
  have ho' : w.ownsRow B 4 1 (.slice (some ⟨g, 0, none⟩) n c) bs.length (cellsF bs) := h
  rcases h.2 with ⟨e, h0⟩ | ⟨g', cap, cur, e, hb, hg, hn, hm, hsz, ht⟩
  · simp at e
  · simp only [Value.slice.injEq, Option.some.injEq, Addr.mk.injEq, and_true] at e
    obtain ⟨rfl, rfl, rfl⟩ := e
    refine ⟨hb, (Array.getElem?_eq_some_iff.1 hg).1, fun i hi => ?_, fun i => ho'.frozenAt i⟩
    rw [ho'.cellAt i (by omega), cellsF_get bs i hi]
theorem OwnF.stored {w : World} {B g n c : Nat} {bs : List Bool} (h : OwnF w B (.slice (some ⟨g, 0, none⟩) n c) bs) (i : Nat) (x : Bool) :
    OwnF (w.setCell ⟨g, i, none⟩ (.bool x)) B (.slice (some ⟨g, 0, none⟩) n c) (bs.set i x) := by
  have ho : w.ownsRow B 4 1 (.slice (some ⟨g, 0, none⟩) n c) bs.length (cellsF bs) := h
  obtain rfl : n = bs.length := by
    rcases h.2 with ⟨e, h0⟩ | ⟨g', cap, cur, e, _⟩
    · simp at e
    · simp only [Value.slice.injEq] at e
      exact e.2.1
  have := (ho.stored i (.bool x)).1
  rw [show (cellsF bs).set i (.bool x) = cellsF (bs.set i x) by simp [cellsF, List.map_set]] at this
  show World.ownsRow _ B 4 1 _ (bs.set i x).length _
  rw [List.length_set]
  exact this
theorem info_f : (Tryd.prog.info? 4).map (fun i => (i.zero, i.size, i.bytes)) = some (some (.bool false), 1, 1) := by kernel_rfl
theorem make_f (n : Nat) (hn : n ≤ 1048576) (wx : World) : (Instr.makeSlice 101 (.int .i64 (n : Int)) (.int .i64 (n : Int))).run Tryd.prog wx = .ok (.slice (some ⟨wx.heap.size, 0, none⟩) n n) (wx.alloc (.cells (madeCells #[.bool false] n) 4)) := by
  obtain ⟨i0, hi0, hz0, hzs, hzb⟩ := info_parts info_f
  have := run_make (P := Tryd.prog) wx 101 4 i0 (.bool false) Tryd.underlying101 hi0 hz0 .i64 .i64 (n : Int) (n : Int) (by omega) (Int.le_refl _) (by rw [hzb]; omega) (by omega)
  rw [hzs] at this
  simpa [Value.cells] using this
theorem made_f (w : World) (n : Nat) (hn : n ≤ 1048576) :
    OwnF (w.alloc (.cells (madeCells #[.bool false] n) 4)) w.heap.size (.slice (some ⟨w.heap.size, 0, none⟩) n n) (List.replicate n false) := by
  refine ⟨by simp [cellsF], .inr ⟨w.heap.size, n, madeCells #[.bool false] n, by simp, Nat.le_refl _, heap_alloc_new w _, by simp, by unfold maxLen; omega, by simp [size_madeCells], ?_⟩⟩
  rw [toList_madeCells_one, List.take_of_length_le (by simp)]
  simp [cellsF]
end Go.Proofs.YtigmckjjoabfeaaDoor
namespace Go.Proofs.YtigmckjjoabfeaaDoor
open Go.RowKit
set_option linter.unusedVariables false
set_option maxRecDepth 4000

theorem rdistinct_no (p : Value) (n k : Int) (hn : n < 0 ∨ 128 < n) (w : World) :
    Calls Tryd.prog 37 #[p, .int .i64 n, .int .i64 k] w fun e w' => e = .returned (.slice none 0 0) ∧ w' = w := by
  rcases hn with hn | hn
  · go_enter Tryd.func37, Tryd.ntmps37
    go_wp2
    go_ret
    exact ⟨rfl, rfl⟩
  · have h0 : ¬ n < 0 := by omega
    go_enter Tryd.func37, Tryd.ntmps37
    go_wp2
    go_ret
    exact ⟨rfl, rfl⟩

/-- What holds of the marks ahead of a round. -/
def Marks (w wr : World) (b g B : Nat) (L : List Nat) (N n q : Nat) (bs : List Bool) : Prop :=
  OwnF wr w.heap.size (.slice (some ⟨b, 0, none⟩) n n) bs ∧ bs.length = n ∧ untaken bs n = leftL L N (List.range n) q ∧ RfAt wr g B L (N + q) ∧ w.grownBy wr (some g)

set_option maxHeartbeats 4000000 in
theorem rdistinct_any (g B : Nat) (L : List Nat) (N n : Nat) (k : Int) (w : World) (h : RfAt w g B L N) (hL : smalls L) (hB : B ≤ w.heap.size) (hN : N ≤ 549755813888) (hn : n ≤ 128) :
    Calls Tryd.prog 37 #[.pointer (some ⟨g, 0, none⟩), .int .i64 (n : Int), .int .i64 k] w fun e w' => ∃ v, e = .returned v ∧ OwnZ w' w.heap.size v (castZ (distL L N n (min k.toNat n))) ∧ RfAt w' g B L (N + min k.toNat n) ∧ w.grownBy w' (some g) := by
  have hgB := h.1
  have hm : ∀ i : Nat, i < min k.toNat n ↔ (i : Int) < k ∧ (i : Int) < (n : Int) := fun i => by omega
  have hrn : min k.toNat n ≤ n := Nat.min_le_right _ _
  generalize min k.toNat n = r at *
  have h0 : ¬ ((n : Int) < 0) := by omega
  have h1 : ¬ ((128 : Int) < (n : Int)) := by omega
  have hmk := make_f n (by omega) w
  have hbl : Below w.heap.size w (w.alloc (.cells (madeCells #[.bool false] n) 4)) := (Below.refl _ _).alloc (Nat.le_refl _) _
  have HS := hide (show Marks w (w.alloc (.cells (madeCells #[.bool false] n) 4)) w.heap.size g B L N n 0 (List.replicate n false) from
    ⟨made_f w n (by omega), by simp, untaken_new n, h.below (hbl.mono hB), gb_of_below hbl _⟩)
  have HM := hide hm
  clear h hm hbl
  go_enter Tryd.func37, Tryd.ntmps37
  go_wp2
  go_loopw [8] (fun i wr => ∃ q : Nat, q ≤ r ∧ i = .int .i64 q ∧ Hid (∃ bs, Marks w wr w.heap.size g B L N n q bs)) (fun i _ => r - (intOf i).toNat)
  case atStart => exact ⟨0, Nat.zero_le _, rfl, hide ⟨_, unhide HS⟩⟩
  case round =>
    obtain ⟨q, hq, rfl, HR⟩ := hrel
    clear HS
    obtain ⟨bs, hO, hl, hu, hD, hG⟩ := unhide HR
    clear HR
    by_cases hlt : q < r
    · obtain ⟨hqk, hqn⟩ := (unhide HM q).1 hlt
      have hlen : (untaken bs n).length = n - q := by rw [hu, leftL_length _ _ _ _ (by rw [List.length_range]; omega), List.length_range]
      have HX := hide (rbelow_any g B L (N + q) (n - q) ((n : Int) - (q : Int)) (by omega) wr hD hL (by omega) (by omega) (by omega))
      have hj : drawN L (N + q + 1) % (n - q) < (untaken bs n).length := by rw [hlen]; exact Nat.mod_lt _ (by omega)
      have HL := hide (show leftL L N (List.range n) (q + 1) = (untaken bs n).eraseIdx (drawN L (N + q + 1) % (n - q)) from by
        show (leftL L N (List.range n) q).eraseIdx _ = _
        rw [← hu, hlen])
      have HJ := hide hj
      have HO := hide hO
      have HG := hide hG
      have HLen := hide hl
      clear hO hu hD hG hj hlen hl
      generalize drawN L (N + q + 1) % (n - q) = j at *
      go_wp2_with (go_at_call 63; refine (unhide HX).mono ?_; rintro e w2 ⟨rfl, hD2, hG2⟩; have HO2 := hide ((unhide HO).kept hG2 (by omega)); have HG2 := hide (gb_trans (unhide HG) hG2 (.inl rfl)); have HD2 := hide hD2; clear hD2 hG2)
      go_loop [9, 10] (fun jv at' => ∃ t s : Nat, t ≤ n ∧ at' = .int .i64 t ∧ jv = .int .i64 s ∧ Hid (s + (untaken bs t).length = j) ∧ s ≤ 128) (fun _ at' => n - (intOf at').toNat)
      case atStart => exact ⟨0, j, Nat.zero_le _, rfl, rfl, hide rfl, by have := unhide HJ; have h5 : (untaken bs n).length ≤ n := (by have := List.length_filter_le (fun i => !bs.getD i false) (List.range n); rwa [List.length_range] at this); omega⟩
      case round =>
        obtain ⟨t, s, ht, rfl, rfl, HT, hs⟩ := hrel
        by_cases htn : t < n
        · obtain ⟨_, hgs, hc, hf⟩ := (unhide HO2).at
          have hcell := hc t (by rw [unhide HLen]; exact htn)
          have hfz := hf t
          have htn' : (t : Int) < (n : Int) := by omega
          cases hb : bs.getD t false with
          | true =>
            rw [hb] at hcell
            have HT2 := hide (show s + (untaken bs (t + 1)).length = j by rw [untaken_no hb]; exact unhide HT)
            clear hc hf hb HT
            go_wp2
            go_round
            case rel => exact ⟨t + 1, s, by omega, by go_num, rfl, HT2, hs⟩
            case measure => simp [intOf]; omega
          | false =>
            rw [hb] at hcell
            by_cases hs0 : s = 0
            · subst hs0
              have hMk : Marks w (w2.setCell ⟨w.heap.size, t, none⟩ (.bool true)) w.heap.size g B L N n (q + 1) (bs.set t true) := by
                refine ⟨(unhide HO2).stored t true, by rw [List.length_set]; exact unhide HLen, ?_, (unhide HD2).below ((Below.refl B w2).setCell (p := ⟨w.heap.size, t, none⟩) hB _), ?_⟩
                · have hT := unhide HT
                  rw [Nat.zero_add] at hT
                  rw [untaken_set bs n t (unhide HLen) htn hb, hT, unhide HL]
                · exact gb_then (unhide HG2) ((Below.refl w.heap.size w2).setCell (p := ⟨w.heap.size, t, none⟩) (Nat.le_refl _) _)
              have HMk := hide hMk
              clear hc hf hb HT hMk
              go_wp2
              go_roundw
              case rel => exact ⟨q + 1, by omega, by go_num, hide ⟨_, unhide HMk⟩⟩
              case measure => simp [intOf]; omega
            · have hs1 : ¬ ((s : Int) = 0) := by omega
              have HT2 := hide (show (s - 1) + (untaken bs (t + 1)).length = j by rw [untaken_yes hb, List.length_append]; have := unhide HT; simp only [List.length_cons, List.length_nil]; omega)
              clear hc hf hb HT
              go_wp2
              go_round
              case rel => exact ⟨t + 1, s - 1, by omega, by go_num, by go_num, HT2, by omega⟩
              case measure => simp [intOf]; omega
        · exfalso
          obtain rfl : t = n := by omega
          have h1 := unhide HT
          have h2 := unhide HJ
          omega
    · obtain rfl : q = r := by omega
      have hnq := unhide HM q
      have hcases : ¬ ((q : Int) < k) ∨ ((q : Int) < k ∧ ¬ ((q : Int) < (n : Int))) := by
        by_cases h5 : (q : Int) < k
        · exact .inr ⟨h5, fun h6 => hlt (hnq.2 ⟨h5, h6⟩)⟩
        · exact .inl h5
      obtain ⟨wo, rfl⟩ : ∃ wo, wo = wr := ⟨wr, rfl⟩
      obtain ⟨_, hgs, hc, hf⟩ := hO.at
      have HC := hide (fun (wx : World) (hb : Below wo.heap.size wo wx) (t : Nat) (ht : t < n) => (hb.cell (p := ⟨w.heap.size, t, none⟩) hgs).trans (hc t (by rw [hl]; exact ht)))
      have HE := hide (marked_dist hu)
      have HD := hide hD
      have HG := hide hG
      clear hO hl hu hD hG hc hf hgs HM hnq
      rcases hcases with hqk | ⟨hqk, hqn⟩
      all_goals
        go_wp2
        go_loopw [11, 12] (fun o at' wx => ∃ t : Nat, t ≤ n ∧ at' = .int .i64 t ∧ Hid (OwnZ wx wo.heap.size o (castZ (marked bs t)) ∧ Below wo.heap.size wo wx)) (fun _ at' _ => n - (intOf at').toNat)
        case atStart => exact ⟨0, Nat.zero_le _, rfl, hide ⟨OwnZ.nil _ _, Below.refl _ _⟩⟩
        case round =>
          obtain ⟨t, ht, rfl, HR⟩ := hrel
          obtain ⟨hO, hBl⟩ := unhide HR
          by_cases htn : t < n
          · have hcell := unhide HC _ hBl t htn
            have htn' : (t : Int) < (n : Int) := by omega
            have hml : (castZ (marked bs t)).length ≤ 1048576 := by
              rw [castZ_length]
              have := marked_le bs t
              omega
            have hsz := hBl.size
            have HO := hide hO
            have HB2 := hide hBl
            cases hb : bs.getD t false with
            | true =>
              rw [hb] at hcell
              have HMY := hide (marked_yes hb)
              clear hO hBl hb HR
              go_wp2_with (at_builtin; refine wpList_pushZ rfl _ _ rfl wo.heap.size u11 _ (t : Int) rfl rfl (unhide HO) hsz hml ?_; intro s4 w4 ho4 hb4; have HO4 := hide ho4; have HB4 := hide hb4; clear ho4 hb4)
              go_roundw
              case rel =>
                refine ⟨t + 1, by omega, by go_num, hide ⟨?_, (unhide HB2).trans (unhide HB4)⟩⟩
                rw [unhide HMY, castZ_append]
                exact unhide HO4
              case measure => simp [intOf]; omega
            | false =>
              rw [hb] at hcell
              have HMN := hide (marked_no hb)
              clear hO hBl hb HR
              go_wp2
              go_roundw
              case rel =>
                refine ⟨t + 1, by omega, by go_num, hide ⟨?_, unhide HB2⟩⟩
                rw [unhide HMN]
                exact unhide HO
              case measure => simp [intOf]; omega
          · obtain rfl : t = n := by omega
            rw [unhide HE] at hO
            have HO := hide hO
            have HB2 := hide hBl
            clear hO hBl HR HC
            go_wp2
            go_ret
            have hsz := (unhide HG).size
            exact ⟨_, rfl, (unhide HO).mono hsz, (unhide HD).below ((unhide HB2).mono (by omega)), gb_then (unhide HG) ((unhide HB2).mono hsz)⟩
end Go.Proofs.YtigmckjjoabfeaaDoor
