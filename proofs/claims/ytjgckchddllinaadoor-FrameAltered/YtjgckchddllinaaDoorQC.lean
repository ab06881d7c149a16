/-
  Blocks that hold frames; contracts of frame.number, frame.head, frame.read.
-/
import Derived.Test.YtjgckchddllinaaDoorQB
namespace Go.Proofs.YtjgckchddllinaaDoor
open Go.RowKit Go.Sort
set_option linter.unusedVariables false
set_option maxRecDepth 4000

/-- A block that holds a frame, none of it frozen. -/
def FrB (w : World) (g : Nat) (v0 v1 v2 v3 v4 v5 v6 v7 v8 v9 : Value) : Prop := w.heap[g]? = some (.cells #[v0, v1, v2, v3, v4, v5, v6, v7, v8, v9] 28 (0, 0))
theorem frb_new (w : World) (v0 v1 v2 v3 v4 v5 v6 v7 v8 v9 : Value) : FrB (w.alloc (.cells #[v0, v1, v2, v3, v4, v5, v6, v7, v8, v9] 28)) w.heap.size v0 v1 v2 v3 v4 v5 v6 v7 v8 v9 := by
  show (w.heap.push _)[w.heap.size]? = _
  simp
theorem FrB.lt {w : World} {g : Nat} {v0 v1 v2 v3 v4 v5 v6 v7 v8 v9 : Value} (h : FrB w g v0 v1 v2 v3 v4 v5 v6 v7 v8 v9) : g < w.heap.size := (Array.getElem?_eq_some_iff.1 h).1
theorem FrB.below {w w' : World} {g : Nat} {v0 v1 v2 v3 v4 v5 v6 v7 v8 v9 : Value} (h : FrB w g v0 v1 v2 v3 v4 v5 v6 v7 v8 v9) (hb : Below w.heap.size w w') : FrB w' g v0 v1 v2 v3 v4 v5 v6 v7 v8 v9 := (hb.block g h.lt).trans h
theorem FrB.at {w : World} {g : Nat} {v0 v1 v2 v3 v4 v5 v6 v7 v8 v9 : Value} (h : FrB w g v0 v1 v2 v3 v4 v5 v6 v7 v8 v9) : FrAt w g v0 v1 v2 v3 v4 v5 v6 v7 v8 v9 := by
  unfold FrB at h
  refine ⟨⟨?_, ?_, ?_⟩, ?_, ?_, ?_, ?_, ?_, ?_, ?_⟩ <;> rw [cell_of_row w g _ _ _ _ h] <;> rfl
theorem FrB.frz {w : World} {g : Nat} {v0 v1 v2 v3 v4 v5 v6 v7 v8 v9 : Value} (h : FrB w g v0 v1 v2 v3 v4 v5 v6 v7 v8 v9) (i : Nat) : w.frozen? ⟨g, i, none⟩ = false := by
  unfold FrB at h
  simp [World.frozen?, h]
theorem FrB.other {w : World} {g : Nat} {v0 v1 v2 v3 v4 v5 v6 v7 v8 v9 : Value} (h : FrB w g v0 v1 v2 v3 v4 v5 v6 v7 v8 v9) {a : Addr} (ha : g ≠ a.block) (u : Value) : FrB (w.setCell a u) g v0 v1 v2 v3 v4 v5 v6 v7 v8 v9 :=
  (Below.heap_setCell w a u g ha).trans h
theorem FrB.set0 {w : World} {g : Nat} {v0 v1 v2 v3 v4 v5 v6 v7 v8 v9 : Value} (h : FrB w g v0 v1 v2 v3 v4 v5 v6 v7 v8 v9) (u : Value) : FrB (w.setCell ⟨g, 0, none⟩ u) g u v1 v2 v3 v4 v5 v6 v7 v8 v9 := heap_setCell_same w g 0 _ _ u h
theorem FrB.set1 {w : World} {g : Nat} {v0 v1 v2 v3 v4 v5 v6 v7 v8 v9 : Value} (h : FrB w g v0 v1 v2 v3 v4 v5 v6 v7 v8 v9) (u : Value) : FrB (w.setCell ⟨g, 1, none⟩ u) g v0 u v2 v3 v4 v5 v6 v7 v8 v9 := heap_setCell_same w g 1 _ _ u h
theorem FrB.set2 {w : World} {g : Nat} {v0 v1 v2 v3 v4 v5 v6 v7 v8 v9 : Value} (h : FrB w g v0 v1 v2 v3 v4 v5 v6 v7 v8 v9) (u : Value) : FrB (w.setCell ⟨g, 2, none⟩ u) g v0 v1 u v3 v4 v5 v6 v7 v8 v9 := heap_setCell_same w g 2 _ _ u h
theorem FrB.set3 {w : World} {g : Nat} {v0 v1 v2 v3 v4 v5 v6 v7 v8 v9 : Value} (h : FrB w g v0 v1 v2 v3 v4 v5 v6 v7 v8 v9) (u : Value) : FrB (w.setCell ⟨g, 3, none⟩ u) g v0 v1 v2 u v4 v5 v6 v7 v8 v9 := heap_setCell_same w g 3 _ _ u h
theorem FrB.set4 {w : World} {g : Nat} {v0 v1 v2 v3 v4 v5 v6 v7 v8 v9 : Value} (h : FrB w g v0 v1 v2 v3 v4 v5 v6 v7 v8 v9) (u : Value) : FrB (w.setCell ⟨g, 4, none⟩ u) g v0 v1 v2 v3 u v5 v6 v7 v8 v9 := heap_setCell_same w g 4 _ _ u h
theorem FrB.set5 {w : World} {g : Nat} {v0 v1 v2 v3 v4 v5 v6 v7 v8 v9 : Value} (h : FrB w g v0 v1 v2 v3 v4 v5 v6 v7 v8 v9) (u : Value) : FrB (w.setCell ⟨g, 5, none⟩ u) g v0 v1 v2 v3 v4 u v6 v7 v8 v9 := heap_setCell_same w g 5 _ _ u h
theorem FrB.set6 {w : World} {g : Nat} {v0 v1 v2 v3 v4 v5 v6 v7 v8 v9 : Value} (h : FrB w g v0 v1 v2 v3 v4 v5 v6 v7 v8 v9) (u : Value) : FrB (w.setCell ⟨g, 6, none⟩ u) g v0 v1 v2 v3 v4 v5 u v7 v8 v9 := heap_setCell_same w g 6 _ _ u h
theorem FrB.set7 {w : World} {g : Nat} {v0 v1 v2 v3 v4 v5 v6 v7 v8 v9 : Value} (h : FrB w g v0 v1 v2 v3 v4 v5 v6 v7 v8 v9) (u : Value) : FrB (w.setCell ⟨g, 7, none⟩ u) g v0 v1 v2 v3 v4 v5 v6 u v8 v9 := heap_setCell_same w g 7 _ _ u h
theorem FrB.set8 {w : World} {g : Nat} {v0 v1 v2 v3 v4 v5 v6 v7 v8 v9 : Value} (h : FrB w g v0 v1 v2 v3 v4 v5 v6 v7 v8 v9) (u : Value) : FrB (w.setCell ⟨g, 8, none⟩ u) g v0 v1 v2 v3 v4 v5 v6 v7 u v9 := heap_setCell_same w g 8 _ _ u h
theorem FrB.set9 {w : World} {g : Nat} {v0 v1 v2 v3 v4 v5 v6 v7 v8 v9 : Value} (h : FrB w g v0 v1 v2 v3 v4 v5 v6 v7 v8 v9) (u : Value) : FrB (w.setCell ⟨g, 9, none⟩ u) g v0 v1 v2 v3 v4 v5 v6 v7 v8 u := heap_setCell_same w g 9 _ _ u h
/-- All cells of a frame's block are written; those of its packet. -/
def set10 (w : World) (g : Nat) (u0 u1 u2 u3 u4 u5 u6 u7 u8 u9 : Value) : World := ((((((((((w.setCell ⟨g, 0, none⟩ u0).setCell ⟨g, 1, none⟩ u1).setCell ⟨g, 2, none⟩ u2).setCell ⟨g, 3, none⟩ u3).setCell ⟨g, 4, none⟩ u4).setCell ⟨g, 5, none⟩ u5).setCell ⟨g, 6, none⟩ u6).setCell ⟨g, 7, none⟩ u7).setCell ⟨g, 8, none⟩ u8).setCell ⟨g, 9, none⟩ u9)
def setP (w : World) (g : Nat) (u3 u4 u5 u6 u7 u8 u9 : Value) : World := (((((((w.setCell ⟨g, 3, none⟩ u3).setCell ⟨g, 4, none⟩ u4).setCell ⟨g, 5, none⟩ u5).setCell ⟨g, 6, none⟩ u6).setCell ⟨g, 7, none⟩ u7).setCell ⟨g, 8, none⟩ u8).setCell ⟨g, 9, none⟩ u9)
theorem FrB.sets {w : World} {g : Nat} {v0 v1 v2 v3 v4 v5 v6 v7 v8 v9 : Value} (h : FrB w g v0 v1 v2 v3 v4 v5 v6 v7 v8 v9) (u0 u1 u2 u3 u4 u5 u6 u7 u8 u9 : Value) : FrB (set10 w g u0 u1 u2 u3 u4 u5 u6 u7 u8 u9) g u0 u1 u2 u3 u4 u5 u6 u7 u8 u9 := ((((((((((h.set0 u0).set1 u1).set2 u2).set3 u3).set4 u4).set5 u5).set6 u6).set7 u7).set8 u8).set9 u9)
theorem FrB.setp {w : World} {g : Nat} {v0 v1 v2 v3 v4 v5 v6 v7 v8 v9 : Value} (h : FrB w g v0 v1 v2 v3 v4 v5 v6 v7 v8 v9) (u3 u4 u5 u6 u7 u8 u9 : Value) : FrB (setP w g u3 u4 u5 u6 u7 u8 u9) g v0 v1 v2 u3 u4 u5 u6 u7 u8 u9 := (((((((h.set3 u3).set4 u4).set5 u5).set6 u6).set7 u7).set8 u8).set9 u9)
theorem FrB.otherp {w : World} {g b : Nat} {v0 v1 v2 v3 v4 v5 v6 v7 v8 v9 : Value} (h : FrB w g v0 v1 v2 v3 v4 v5 v6 v7 v8 v9) (hg : g ≠ b) (u3 u4 u5 u6 u7 u8 u9 : Value) : FrB (setP w b u3 u4 u5 u6 u7 u8 u9) g v0 v1 v2 v3 v4 v5 v6 v7 v8 v9 := (((((((h.other (a := ⟨b, 3, none⟩) hg u3).other (a := ⟨b, 4, none⟩) hg u4).other (a := ⟨b, 5, none⟩) hg u5).other (a := ⟨b, 6, none⟩) hg u6).other (a := ⟨b, 7, none⟩) hg u7).other (a := ⟨b, 8, none⟩) hg u8).other (a := ⟨b, 9, none⟩) hg u9)
theorem below10 {B : Nat} {a w : World} (h : Below B a w) {g : Nat} (hg : B ≤ g) (u0 u1 u2 u3 u4 u5 u6 u7 u8 u9 : Value) : Below B a (set10 w g u0 u1 u2 u3 u4 u5 u6 u7 u8 u9) := ((((((((((h.setCell hg u0).setCell hg u1).setCell hg u2).setCell hg u3).setCell hg u4).setCell hg u5).setCell hg u6).setCell hg u7).setCell hg u8).setCell hg u9)
theorem belowP {B : Nat} {a w : World} (h : Below B a w) {g : Nat} (hg : B ≤ g) (u3 u4 u5 u6 u7 u8 u9 : Value) : Below B a (setP w g u3 u4 u5 u6 u7 u8 u9) := (((((((h.setCell hg u3).setCell hg u4).setCell hg u5).setCell hg u6).setCell hg u7).setCell hg u8).setCell hg u9)
theorem RowAt.other10 {w : World} {a : Option Addr} {n : Nat} {xs : List Nat} (h : RowAt w a n xs) {B : Nat} (hB : ∀ ad, a = some ad → n ≠ 0 → ad.block ≠ B) (u0 u1 u2 u3 u4 u5 u6 u7 u8 u9 : Value) : RowAt (set10 w B u0 u1 u2 u3 u4 u5 u6 u7 u8 u9) a n xs := ((((((((((h.other hB 0 u0).other hB 1 u1).other hB 2 u2).other hB 3 u3).other hB 4 u4).other hB 5 u5).other hB 6 u6).other hB 7 u7).other hB 8 u8).other hB 9 u9)
theorem RowAt.otherP {w : World} {a : Option Addr} {n : Nat} {xs : List Nat} (h : RowAt w a n xs) {B : Nat} (hB : ∀ ad, a = some ad → n ≠ 0 → ad.block ≠ B) (u3 u4 u5 u6 u7 u8 u9 : Value) : RowAt (setP w B u3 u4 u5 u6 u7 u8 u9) a n xs := (((((((h.other hB 3 u3).other hB 4 u4).other hB 5 u5).other hB 6 u6).other hB 7 u7).other hB 8 u8).other hB 9 u9)
/-- A row of words lies in no block that holds a frame. -/
theorem FrB.apart {w : World} {g : Nat} {i0 i1 i2 i3 i4 i5 i6 i7 : Int} {b : Option Addr} {m c : Nat} {t : ByteArray} (h : FrB w g (.int .i64 i0) (.int .i64 i1) (.int .i64 i2) (.int .i64 i3) (.int .i64 i4) (.int .i64 i5) (.int .i64 i6) (.int .i64 i7) (.slice b m c) (.string t))
    {a : Option Addr} {n : Nat} {xs : List Nat} (hr : RowAt w a n xs) : ∀ ad, a = some ad → n ≠ 0 → ad.block ≠ g := by
  intro ad ha hn hg
  obtain ⟨b', off, hab, hc⟩ := hr.at (i := 0) (by omega)
  rw [ha] at hab
  obtain rfl := Option.some.inj hab
  have h0 := hc 0 (by omega)
  simp only at hg
  subst hg
  unfold FrB at h
  rw [Nat.add_zero, cell_of_row w b' _ _ _ _ h] at h0
  match off, h0 with
  | 0, h0 => simp at h0
  | 1, h0 => simp at h0
  | 2, h0 => simp at h0
  | 3, h0 => simp at h0
  | 4, h0 => simp at h0
  | 5, h0 => simp at h0
  | 6, h0 => simp at h0
  | 7, h0 => simp at h0
  | 8, h0 => simp at h0
  | 9, h0 => simp at h0
  | k + 10, h0 => simp at h0
/-- A row of words lies in no block that holds a packet. -/
theorem PkB.apart {w : World} {g : Nat} {i3 i4 i5 i6 i7 : Int} {b : Option Addr} {m c : Nat} {t : ByteArray} (h : PkB w g (.int .i64 i3) (.int .i64 i4) (.int .i64 i5) (.int .i64 i6) (.int .i64 i7) (.slice b m c) (.string t))
    {a : Option Addr} {n : Nat} {xs : List Nat} (hr : RowAt w a n xs) : ∀ ad, a = some ad → n ≠ 0 → ad.block ≠ g := by
  intro ad ha hn hg
  obtain ⟨b', off, hab, hc⟩ := hr.at (i := 0) (by omega)
  rw [ha] at hab
  obtain rfl := Option.some.inj hab
  have h0 := hc 0 (by omega)
  simp only at hg
  subst hg
  unfold PkB at h
  rw [Nat.add_zero, cell_of_row w b' _ _ _ _ h] at h0
  match off, h0 with
  | 0, h0 => simp at h0
  | 1, h0 => simp at h0
  | 2, h0 => simp at h0
  | 3, h0 => simp at h0
  | 4, h0 => simp at h0
  | 5, h0 => simp at h0
  | 6, h0 => simp at h0
  | k + 7, h0 => simp at h0

set_option maxHeartbeats 400000 in
theorem fnumber_any (s : ByteArray) (hs : s.size = 1 ∨ s.size = 4) (w : World) :
    Calls Tryd.prog 53 #[.string s] w fun e w' => e = .returned (.int .i64 ((num (tx s) : Nat) : Int)) ∧ w' = w := by
  have hG := fun wx => get_num_any s (s.size : Int) wx
  have hg := g_yes (s := s) (k := (s.size : Int)) (by rcases hs with h | h <;> rw [h] <;> simp [isW]) (Int.le_refl _)
  rw [Int.toNat_natCast, ← tx_length, List.take_length] at hg
  rw [tx_length] at hg
  rw [hg.1, hg.2] at hG
  have HG := hide hG
  generalize num (tx s) = x at *
  clear hG hg hs
  go_enter Tryd.func53, Tryd.ntmps53
  go_wp2_with fail
  refine (unhide HG _).mono ?_
  rintro e w' ⟨rfl, hw⟩
  obtain rfl := hw.symm
  go_wp2
  go_ret
  exact ⟨rfl, rfl⟩

set_option maxHeartbeats 1000000 in
theorem fhead_any (s : ByteArray) (hs : 6 ≤ s.size) (w : World) :
    Calls Tryd.prog 32 #[.string s] w fun e w' => e = .returned (.agg #[.int .i64 ((hdK s : Nat) : Int), .int .i64 ((hdF s : Nat) : Int), .int .i64 ((hdI s : Nat) : Int), .int .i64 0, .int .i64 0, .int .i64 0, .int .i64 0, .int .i64 0, .slice none 0 0, .string ⟨#[]⟩]) ∧ Below w.heap.size w w' := by
  have n0 := fun wx => fnumber_any (s.extract 0 1) (by rw [ByteArray.size_extract]; omega) wx
  have n1 := fun wx => fnumber_any (s.extract 1 2) (by rw [ByteArray.size_extract]; omega) wx
  have n2 := fun wx => fnumber_any (s.extract 2 6) (by rw [ByteArray.size_extract]; omega) wx
  rw [show num (tx (s.extract 0 1)) = hdK s from num_at s 0 (by omega)] at n0
  rw [show num (tx (s.extract 1 2)) = hdF s from num_at s 1 (by omega)] at n1
  rw [show num (tx (s.extract 2 6)) = hdI s from by rw [tx_cut]; rfl] at n2
  have N0 := hide n0
  have N1 := hide n1
  have N2 := hide n2
  generalize hdK s = x0 at *
  generalize hdF s = x1 at *
  generalize hdI s = x2 at *
  have hs1 : (1 : Int) ≤ (s.size : Int) := by omega
  have hs2 : (2 : Int) ≤ (s.size : Int) := by omega
  have hs6 : (6 : Int) ≤ (s.size : Int) := by omega
  clear n0 n1 n2
  go_enter Tryd.func32, Tryd.ntmps32
  go_wp2_with fail
  refine wp_region_any (by kernel_rfl) ?_
  change wpAny _ _ _ _ _ _ _ (World.drew _)
  refine wpAny_take (i := 0) (v := ?_) rfl (by kernel_rfl) (by kernel_rfl) (by kernel_rfl) (fun _ _ _ h => h) (Or.inl ⟨by rfl, ?f0⟩) ?_
  case f0 => (intro w; go_simp; try with_reducible rfl)
  refine wpAny_take (i := 1) (v := ?_) rfl (by kernel_rfl) (by kernel_rfl) (by kernel_rfl) (fun _ _ _ h => h) (Or.inl ⟨by rfl, ?f1⟩) ?_
  case f1 => (intro w; go_simp; try with_reducible rfl)
  refine wpAny_take (i := 3) (v := ?_) rfl (by kernel_rfl) (by kernel_rfl) (by kernel_rfl) (fun _ _ _ h => h) (Or.inl ⟨by rfl, ?f3⟩) ?_
  case f3 => (intro w; go_simp; try with_reducible rfl)
  refine wpAny_take (i := 4) (v := ?_) rfl (by kernel_rfl) (by kernel_rfl) (by kernel_rfl) (fun _ _ _ h => h) (Or.inl ⟨by rfl, ?f4⟩) ?_
  case f4 => (intro w; go_simp; try with_reducible rfl)
  refine wpAny_take (i := 6) (v := ?_) rfl (by kernel_rfl) (by kernel_rfl) (by kernel_rfl) (fun _ _ _ h => h) (Or.inl ⟨by rfl, ?f6⟩) ?_
  case f6 => (intro w; go_simp; try with_reducible rfl)
  refine wpAny_take (i := 7) (v := ?_) rfl (by kernel_rfl) (by kernel_rfl) (by kernel_rfl) (fun _ _ _ h => h) (Or.inl ⟨by rfl, ?f7⟩) ?_
  case f7 => (intro w; go_simp; try with_reducible rfl)
  refine wpAny_ready (rs := [2]) (by kernel_rfl) (by simp) ?_
  refine AllReady.cons rfl (fun K hK => ?_) AllReady.nil
  go_simp
  refine (unhide N0 _).mono ?_
  rintro e w' ⟨rfl, hw⟩
  obtain rfl := hw.symm
  clear hw
  refine hK _ _ ?_
  clear hK K
  refine wpAny_ready (rs := [5]) (by kernel_rfl) (by simp) ?_
  refine AllReady.cons rfl (fun K hK => ?_) AllReady.nil
  go_simp
  refine (unhide N1 _).mono ?_
  rintro e w' ⟨rfl, hw⟩
  obtain rfl := hw.symm
  clear hw
  refine hK _ _ ?_
  clear hK K
  refine wpAny_ready (rs := [8]) (by kernel_rfl) (by simp) ?_
  refine AllReady.cons rfl (fun K hK => ?_) AllReady.nil
  go_simp
  refine (unhide N2 _).mono ?_
  rintro e w' ⟨rfl, hw⟩
  obtain rfl := hw.symm
  clear hw
  refine hK _ _ ?_
  clear hK K
  refine wpAny_take (i := 9) (v := ?_) rfl (by kernel_rfl) (by kernel_rfl) (by kernel_rfl) (fun _ _ _ h => h) (Or.inl ⟨by rfl, ?f9⟩) ?_
  case f9 => (intro w; go_simp; try with_reducible rfl)
  refine wpAny_ready (rs := [10]) (by kernel_rfl) (by simp) ?_
  refine AllReady.cons rfl (fun K hK => ?_) AllReady.nil
  go_simp
  refine hK _ _ ?_
  clear hK K
  refine wpAny_done (by kernel_rfl) ?_ _
  go_wp2
  exact bodyPost_ret (v := .agg #[.int .i64 (x0 : Int), .int .i64 (x1 : Int), .int .i64 (x2 : Int), .int .i64 0, .int .i64 0, .int .i64 0, .int .i64 0, .int .i64 0, .slice none 0 0, .string ⟨#[]⟩]) (by simp [results, Tryd.results32, go_sem]) rfl ⟨rfl, (below_new w _).drew⟩

/-- What read tells. -/
def ReadP (kd : Int) (s : ByteArray) (o l k z h : Int) (xs : List Nat) (t : ByteArray) (en : Nat) : Prop :=
  (kd = 1 → (s.size ≠ 0 → en = 3 ∧ ZeroP o l k z h xs t) ∧ (s.size = 0 → en = 0 ∧ ZeroP o l k z h xs t)) ∧ (kd = 2 → DecP s o l k z h xs t en) ∧ (kd ≠ 1 → kd ≠ 2 → en = 3 ∧ ZeroP o l k z h xs t)
def ReadR (w : World) (kd : Int) (s : ByteArray) (e : Ending) (w' : World) : Prop :=
  ∃ (o l k z h : Int) (a : Option Addr) (n c : Nat) (xs : List Nat) (t : ByteArray) (en : Nat), e = .returned (.tuple #[.agg #[.int .i64 o, .int .i64 l, .int .i64 k, .int .i64 z, .int .i64 h, .slice a n c, .string t], .int .i64 ((en : Nat) : Int)]) ∧
    RowAt w' a n xs ∧ ReadP kd s o l k z h xs t en ∧ Below w.heap.size w w'
theorem read_zero {w w' : World} {kd : Int} {s : ByteArray} {en : Nat} (h : ReadP kd s 0 0 0 0 0 [] ⟨#[]⟩ en) (hb : Below w.heap.size w w') :
    ReadR w kd s (.returned (.tuple #[.agg #[.int .i64 0, .int .i64 0, .int .i64 0, .int .i64 0, .int .i64 0, .slice none 0 0, .string ⟨#[]⟩], .int .i64 ((en : Nat) : Int)])) w' :=
  ⟨0, 0, 0, 0, 0, none, 0, 0, [], ⟨#[]⟩, en, rfl, row_none _, h, hb⟩
theorem zero_zero : ZeroP 0 0 0 0 0 [] ⟨#[]⟩ := ⟨rfl, rfl, rfl, rfl, rfl, rfl, rfl⟩
theorem results_read {tmps : Array Value} {W : World} {g : Nat} {x : Int} {u0 u1 u2 u3 u4 u5 u6 : Value} (h2 : tmps.getD 4 undef = .pointer (some ⟨g, 0, none⟩)) (h3 : tmps.getD 5 undef = .int .i64 x) (hq : PkB W g u0 u1 u2 u3 u4 u5 u6) :
    (results Tryd.f33 tmps).run Tryd.prog W = .ok (.tuple #[.agg #[u0, u1, u2, u3, u4, u5, u6], .int .i64 x]) W := by
  obtain ⟨k0, k1, k2, k3, k4, k5, k6⟩ := hq.at
  have h2' : tmps[4]?.getD undef = .pointer (some ⟨g, 0, none⟩) := by simpa using h2
  have h3' : tmps[5]?.getD undef = .int .i64 x := by simpa using h3
  simp [results, Tryd.results33, go_sem, h2', h3', k0, k1, k2, k3, k4, k5, k6]

theorem toList_some {s : ByteArray} (h0 : ¬ s.size = 0) : s.toList.isEmpty = false := by
  have h := eq_texts s ⟨#[]⟩
  rw [decide_eq_false (fun h => h0 (by rw [h]; rfl))] at h
  simpa using h

set_option maxHeartbeats 1000000 in
theorem read_any (kd : Int) (v0 v1 v2 v3 v4 v5 v6 : Value) (s : ByteArray) (w : World) (hs : s.size ≤ 140737488351232) :
    Calls Tryd.prog 33 #[bodyV kd v0 v1 v2 v3 v4 v5 v6, .string s] w (ReadR w kd s) := by
  by_cases h1 : kd = 1
  · subst h1
    rw [bodyV1]
    have m1 := as_hh
    by_cases h0 : s.size = 0
    · obtain rfl : s = ⟨#[]⟩ := size_eq0 h0
      go_enter Tryd.func33, Tryd.ntmps33
      go_wp2
      exact bodyPost_ret (results_read rfl rfl (pkb_new w (.int .i64 0) (.int .i64 0) (.int .i64 0) (.int .i64 0) (.int .i64 0) (.slice none 0 0) (.string ⟨#[]⟩))) rfl (read_zero (en := 0) ⟨fun _ => ⟨fun h => absurd rfl h, fun _ => ⟨rfl, zero_zero⟩⟩, fun h => absurd h (by decide), fun h => absurd rfl h⟩ (below_new w _))
    · have hq := toList_some h0
      have H0 := hide h0
      clear h0
      go_enter Tryd.func33, Tryd.ntmps33
      go_wp2
      exact bodyPost_ret (results_read rfl rfl (pkb_new w (.int .i64 0) (.int .i64 0) (.int .i64 0) (.int .i64 0) (.int .i64 0) (.slice none 0 0) (.string ⟨#[]⟩))) rfl (read_zero (en := 3) ⟨fun _ => ⟨fun _ => ⟨rfl, zero_zero⟩, fun h => absurd h (unhide H0)⟩, fun h => absurd h (by decide), fun h => absurd rfl h⟩ (below_new w _))
  · by_cases h2 : kd = 2
    · subst h2
      rw [bodyV2]
      have m1 := as_dh
      have m2 := as_dd
      have HD := hide (fun wx => dec_any s wx hs)
      have X4 := hide (pkb_new w (.int .i64 0) (.int .i64 0) (.int .i64 0) (.int .i64 0) (.int .i64 0) (.slice none 0 0) (.string ⟨#[]⟩))
      have B0 := hide (below_new w (.cells #[.int .i64 0, .int .i64 0, .int .i64 0, .int .i64 0, .int .i64 0, .slice none 0 0, .string ⟨#[]⟩] 26))
      clear hs
      go_enter Tryd.func33, Tryd.ntmps33
      go_wp2_with fail
      refine (unhide HD _).mono ?_
      rintro e w1 ⟨o, l, k, z, h, a, n, c, xs, t, en, rfl, hr, hdec, hb1⟩
      have X5 := hide ((unhide X4).below hb1)
      have B1 := hide (below0 (unhide B0) hb1)
      have HR := hide hr
      have HP := hide hdec
      clear hr hdec hb1 X4 B0 HD
      obtain ⟨k0, k1, k2, k3, k4, k5, k6⟩ := (unhide X5).at
      have f := (unhide X5).frz
      go_wp2
      have q := hide ((unhide X5).sets (.int .i64 o) (.int .i64 l) (.int .i64 k) (.int .i64 z) (.int .i64 h) (.slice a n c) (.string t))
      have b := hide (below7 (unhide B1) (Nat.le_refl _) (.int .i64 o) (.int .i64 l) (.int .i64 k) (.int .i64 z) (.int .i64 h) (.slice a n c) (.string t))
      have r := hide ((unhide HR).other7 ((unhide X5).apart (unhide HR)) (.int .i64 o) (.int .i64 l) (.int .i64 k) (.int .i64 z) (.int .i64 h) (.slice a n c) (.string t))
      exact bodyPost_ret (results_read rfl rfl (unhide q)) rfl ⟨o, l, k, z, h, a, n, c, xs, t, en, rfl, unhide r, ⟨fun h => absurd h (by decide), fun _ => unhide HP, fun _ h => absurd rfl h⟩, unhide b⟩
    · rw [bodyV0 h1 h2]
      have m1 := as_nh
      have m2 := as_nd
      go_enter Tryd.func33, Tryd.ntmps33
      go_wp2
      exact bodyPost_ret (results_read rfl rfl (pkb_new w (.int .i64 0) (.int .i64 0) (.int .i64 0) (.int .i64 0) (.int .i64 0) (.slice none 0 0) (.string ⟨#[]⟩))) rfl (read_zero (en := 3) ⟨fun h => absurd h h1, fun h => absurd h h2, fun _ _ => ⟨rfl, zero_zero⟩⟩ (below_new w _))
end Go.Proofs.YtjgckchddllinaaDoor
