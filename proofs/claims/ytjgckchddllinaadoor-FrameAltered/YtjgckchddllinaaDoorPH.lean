/-
  Contracts of packet.number and packet.head; blocks that hold packets.
-/
import Derived.Test.YtjgckchddllinaaDoorPD
import Derived.Test.YtjgckchddllinaaDoorPT
import Derived.Laws.Rows
namespace Go.Proofs.YtjgckchddllinaaDoor
open Go.RowKit Go.Sort
set_option linter.unusedVariables false
set_option maxRecDepth 4000

/-- A block that holds a packet, none of it frozen. -/
def PkB (w : World) (g : Nat) (v0 v1 v2 v3 v4 v5 v6 : Value) : Prop := w.heap[g]? = some (.cells #[v0, v1, v2, v3, v4, v5, v6] 26 (0, 0))
theorem pkb_new (w : World) (v0 v1 v2 v3 v4 v5 v6 : Value) : PkB (w.alloc (.cells #[v0, v1, v2, v3, v4, v5, v6] 26)) w.heap.size v0 v1 v2 v3 v4 v5 v6 := by
  show (w.heap.push _)[w.heap.size]? = _
  simp
theorem PkB.lt {w : World} {g : Nat} {v0 v1 v2 v3 v4 v5 v6 : Value} (h : PkB w g v0 v1 v2 v3 v4 v5 v6) : g < w.heap.size := (Array.getElem?_eq_some_iff.1 h).1
theorem PkB.below {w w' : World} {g : Nat} {v0 v1 v2 v3 v4 v5 v6 : Value} (h : PkB w g v0 v1 v2 v3 v4 v5 v6) (hb : Below w.heap.size w w') : PkB w' g v0 v1 v2 v3 v4 v5 v6 := (hb.block g h.lt).trans h
theorem PkB.at {w : World} {g : Nat} {v0 v1 v2 v3 v4 v5 v6 : Value} (h : PkB w g v0 v1 v2 v3 v4 v5 v6) : PkAt w g v0 v1 v2 v3 v4 v5 v6 := by
  unfold PkB at h
  refine ⟨?_, ?_, ?_, ?_, ?_, ?_, ?_⟩ <;> rw [cell_of_row w g _ _ _ _ h] <;> rfl
theorem PkB.frz {w : World} {g : Nat} {v0 v1 v2 v3 v4 v5 v6 : Value} (h : PkB w g v0 v1 v2 v3 v4 v5 v6) (i : Nat) : w.frozen? ⟨g, i, none⟩ = false := by
  unfold PkB at h
  simp [World.frozen?, h]
theorem PkB.other {w : World} {g : Nat} {v0 v1 v2 v3 v4 v5 v6 : Value} (h : PkB w g v0 v1 v2 v3 v4 v5 v6) {a : Addr} (ha : g ≠ a.block) (u : Value) : PkB (w.setCell a u) g v0 v1 v2 v3 v4 v5 v6 :=
  (Below.heap_setCell w a u g ha).trans h
theorem PkB.set0 {w : World} {g : Nat} {v0 v1 v2 v3 v4 v5 v6 : Value} (h : PkB w g v0 v1 v2 v3 v4 v5 v6) (u : Value) : PkB (w.setCell ⟨g, 0, none⟩ u) g u v1 v2 v3 v4 v5 v6 := heap_setCell_same w g 0 _ _ u h
theorem PkB.set1 {w : World} {g : Nat} {v0 v1 v2 v3 v4 v5 v6 : Value} (h : PkB w g v0 v1 v2 v3 v4 v5 v6) (u : Value) : PkB (w.setCell ⟨g, 1, none⟩ u) g v0 u v2 v3 v4 v5 v6 := heap_setCell_same w g 1 _ _ u h
theorem PkB.set2 {w : World} {g : Nat} {v0 v1 v2 v3 v4 v5 v6 : Value} (h : PkB w g v0 v1 v2 v3 v4 v5 v6) (u : Value) : PkB (w.setCell ⟨g, 2, none⟩ u) g v0 v1 u v3 v4 v5 v6 := heap_setCell_same w g 2 _ _ u h
theorem PkB.set3 {w : World} {g : Nat} {v0 v1 v2 v3 v4 v5 v6 : Value} (h : PkB w g v0 v1 v2 v3 v4 v5 v6) (u : Value) : PkB (w.setCell ⟨g, 3, none⟩ u) g v0 v1 v2 u v4 v5 v6 := heap_setCell_same w g 3 _ _ u h
theorem PkB.set4 {w : World} {g : Nat} {v0 v1 v2 v3 v4 v5 v6 : Value} (h : PkB w g v0 v1 v2 v3 v4 v5 v6) (u : Value) : PkB (w.setCell ⟨g, 4, none⟩ u) g v0 v1 v2 v3 u v5 v6 := heap_setCell_same w g 4 _ _ u h
theorem PkB.set5 {w : World} {g : Nat} {v0 v1 v2 v3 v4 v5 v6 : Value} (h : PkB w g v0 v1 v2 v3 v4 v5 v6) (u : Value) : PkB (w.setCell ⟨g, 5, none⟩ u) g v0 v1 v2 v3 v4 u v6 := heap_setCell_same w g 5 _ _ u h
theorem PkB.set6 {w : World} {g : Nat} {v0 v1 v2 v3 v4 v5 v6 : Value} (h : PkB w g v0 v1 v2 v3 v4 v5 v6) (u : Value) : PkB (w.setCell ⟨g, 6, none⟩ u) g v0 v1 v2 v3 v4 v5 u := heap_setCell_same w g 6 _ _ u h

theorem num_at (s : ByteArray) (i : Nat) (hi : i < s.size) : num (tx (s.extract i (i + 1))) = (tx s).getD i 0 := by
  have : i < (tx s).length := by rw [tx_length]; exact hi
  rw [tx_cut, show i + 1 - i = 1 by omega, List.drop_eq_getElem_cons this, List.take_succ_cons, List.take_zero, List.getD_eq_getElem?_getD, List.getElem?_eq_getElem this]
  simp [num]
set_option maxHeartbeats 400000 in
theorem pnumber_any (s : ByteArray) (hs : s.size = 1 ∨ s.size = 4) (w : World) :
    Calls Tryd.prog 84 #[.string s] w fun e w' => e = .returned (.int .i64 ((num (tx s) : Nat) : Int)) ∧ w' = w := by
  have hG := fun wx => get_num_any s (s.size : Int) wx
  have hg := g_yes (s := s) (k := (s.size : Int)) (by rcases hs with h | h <;> rw [h] <;> simp [isW]) (Int.le_refl _)
  rw [Int.toNat_natCast, ← tx_length, List.take_length] at hg
  rw [tx_length] at hg
  rw [hg.1, hg.2] at hG
  have HG := hide hG
  generalize num (tx s) = x at *
  clear hG hg hs
  go_enter Tryd.func84, Tryd.ntmps84
  go_wp2_with fail
  refine (unhide HG _).mono ?_
  rintro e w' ⟨rfl, hw⟩
  obtain rfl := hw.symm
  go_wp2
  go_ret
  exact ⟨rfl, rfl⟩

set_option maxHeartbeats 1000000 in
theorem head_any (s : ByteArray) (hs : 11 ≤ s.size) (w : World) :
    Calls Tryd.prog 70 #[.string s] w fun e w' => e = .returned (.agg #[.int .i64 ((dO s : Nat) : Int), .int .i64 ((dL s : Nat) : Int), .int .i64 ((dK s : Nat) : Int), .int .i64 ((dZ s : Nat) : Int), .int .i64 ((dH s : Nat) : Int), .slice none 0 0, .string ⟨#[]⟩]) ∧ Below w.heap.size w w' := by
  have n0 := fun wx => pnumber_any (s.extract 0 4) (by rw [ByteArray.size_extract]; omega) wx
  have n1 := fun wx => pnumber_any (s.extract 4 8) (by rw [ByteArray.size_extract]; omega) wx
  have n2 := fun wx => pnumber_any (s.extract 8 9) (by rw [ByteArray.size_extract]; omega) wx
  have n3 := fun wx => pnumber_any (s.extract 9 10) (by rw [ByteArray.size_extract]; omega) wx
  have n4 := fun wx => pnumber_any (s.extract 10 11) (by rw [ByteArray.size_extract]; omega) wx
  rw [show num (tx (s.extract 0 4)) = dO s from by rw [tx_cut]; rfl] at n0
  rw [show num (tx (s.extract 4 8)) = dL s from by rw [tx_cut]; rfl] at n1
  rw [show num (tx (s.extract 8 9)) = dK s from num_at s 8 (by omega)] at n2
  rw [show num (tx (s.extract 9 10)) = dZ s from num_at s 9 (by omega)] at n3
  rw [show num (tx (s.extract 10 11)) = dH s from num_at s 10 (by omega)] at n4
  have N0 := hide n0
  have N1 := hide n1
  have N2 := hide n2
  have N3 := hide n3
  have N4 := hide n4
  generalize dO s = x0 at *
  generalize dL s = x1 at *
  generalize dK s = x2 at *
  generalize dZ s = x3 at *
  generalize dH s = x4 at *
  have hs4 : (4 : Int) ≤ (s.size : Int) := by omega
  have hs8 : (8 : Int) ≤ (s.size : Int) := by omega
  have hs9 : (9 : Int) ≤ (s.size : Int) := by omega
  have hs10 : (10 : Int) ≤ (s.size : Int) := by omega
  have hs11 : (11 : Int) ≤ (s.size : Int) := by omega
  clear n0 n1 n2 n3 n4
  go_enter Tryd.func70, Tryd.ntmps70
  go_wp2_with fail
  refine wp_region_any (by kernel_rfl) ?_
  change wpAny _ _ _ _ _ _ _ (World.drew _)
  refine wpAny_take (i := 0) (v := ?_) rfl (by kernel_rfl) (by kernel_rfl) (by kernel_rfl) (fun _ _ _ h => h) (Or.inl ⟨by rfl, ?f0⟩) ?_
  case f0 => (intro w; go_simp; try with_reducible rfl)
  refine wpAny_take (i := 1) (v := ?_) rfl (by kernel_rfl) (by kernel_rfl) (by kernel_rfl) (fun _ _ _ h => h) (Or.inl ⟨by rfl, ?f1⟩) ?_
  case f1 => (intro w; go_simp; try with_reducible rfl)
  refine wpAny_take (i := 3) (v := ?_) rfl (by kernel_rfl) (by kernel_rfl) (by kernel_rfl) (fun _ _ _ h => h) (Or.inl ⟨by rfl, ?f3⟩) ?_
  case f3 => (intro w; go_simp; try with_reducible rfl)
  refine wpAny_take (i := 4) (v := ?_) rfl (by kernel_rfl) (by kernel_rfl) (by kernel_rfl) (fun _ _ _ h => h) (Or.inl ⟨by rfl, ?f4⟩) ?_
  case f4 => (intro w; go_simp; try with_reducible rfl)
  refine wpAny_take (i := 6) (v := ?_) rfl (by kernel_rfl) (by kernel_rfl) (by kernel_rfl) (fun _ _ _ h => h) (Or.inl ⟨by rfl, ?f6⟩) ?_
  case f6 => (intro w; go_simp; try with_reducible rfl)
  refine wpAny_take (i := 7) (v := ?_) rfl (by kernel_rfl) (by kernel_rfl) (by kernel_rfl) (fun _ _ _ h => h) (Or.inl ⟨by rfl, ?f7⟩) ?_
  case f7 => (intro w; go_simp; try with_reducible rfl)
  refine wpAny_take (i := 9) (v := ?_) rfl (by kernel_rfl) (by kernel_rfl) (by kernel_rfl) (fun _ _ _ h => h) (Or.inl ⟨by rfl, ?f9⟩) ?_
  case f9 => (intro w; go_simp; try with_reducible rfl)
  refine wpAny_take (i := 10) (v := ?_) rfl (by kernel_rfl) (by kernel_rfl) (by kernel_rfl) (fun _ _ _ h => h) (Or.inl ⟨by rfl, ?f10⟩) ?_
  case f10 => (intro w; go_simp; try with_reducible rfl)
  refine wpAny_take (i := 12) (v := ?_) rfl (by kernel_rfl) (by kernel_rfl) (by kernel_rfl) (fun _ _ _ h => h) (Or.inl ⟨by rfl, ?f12⟩) ?_
  case f12 => (intro w; go_simp; try with_reducible rfl)
  refine wpAny_take (i := 13) (v := ?_) rfl (by kernel_rfl) (by kernel_rfl) (by kernel_rfl) (fun _ _ _ h => h) (Or.inl ⟨by rfl, ?f13⟩) ?_
  case f13 => (intro w; go_simp; try with_reducible rfl)
  refine wpAny_ready (rs := [2]) (by kernel_rfl) (by simp) ?_
  refine AllReady.cons rfl (fun K hK => ?_) AllReady.nil
  go_simp
  refine (unhide N0 _).mono ?_
  rintro e w' ⟨rfl, hw⟩
  obtain rfl := hw.symm
  clear hw
  refine hK _ _ ?_
  clear hK K
  refine wpAny_ready (rs := [5]) (by kernel_rfl) (by simp) ?_
  refine AllReady.cons rfl (fun K hK => ?_) AllReady.nil
  go_simp
  refine (unhide N1 _).mono ?_
  rintro e w' ⟨rfl, hw⟩
  obtain rfl := hw.symm
  clear hw
  refine hK _ _ ?_
  clear hK K
  refine wpAny_ready (rs := [8]) (by kernel_rfl) (by simp) ?_
  refine AllReady.cons rfl (fun K hK => ?_) AllReady.nil
  go_simp
  refine (unhide N2 _).mono ?_
  rintro e w' ⟨rfl, hw⟩
  obtain rfl := hw.symm
  clear hw
  refine hK _ _ ?_
  clear hK K
  refine wpAny_ready (rs := [11]) (by kernel_rfl) (by simp) ?_
  refine AllReady.cons rfl (fun K hK => ?_) AllReady.nil
  go_simp
  refine (unhide N3 _).mono ?_
  rintro e w' ⟨rfl, hw⟩
  obtain rfl := hw.symm
  clear hw
  refine hK _ _ ?_
  clear hK K
  refine wpAny_ready (rs := [14]) (by kernel_rfl) (by simp) ?_
  refine AllReady.cons rfl (fun K hK => ?_) AllReady.nil
  go_simp
  refine (unhide N4 _).mono ?_
  rintro e w' ⟨rfl, hw⟩
  obtain rfl := hw.symm
  clear hw
  refine hK _ _ ?_
  clear hK K
  refine wpAny_take (i := 15) (v := ?_) rfl (by kernel_rfl) (by kernel_rfl) (by kernel_rfl) (fun _ _ _ h => h) (Or.inl ⟨by rfl, ?f15⟩) ?_
  case f15 => (intro w; go_simp; try with_reducible rfl)
  refine wpAny_ready (rs := [16]) (by kernel_rfl) (by simp) ?_
  refine AllReady.cons rfl (fun K hK => ?_) AllReady.nil
  go_simp
  refine hK _ _ ?_
  clear hK K
  refine wpAny_done (by kernel_rfl) ?_ _
  go_wp2
  exact bodyPost_ret (v := .agg #[.int .i64 (x0 : Int), .int .i64 (x1 : Int), .int .i64 (x2 : Int), .int .i64 (x3 : Int), .int .i64 (x4 : Int), .slice none 0 0, .string ⟨#[]⟩]) (by simp [results, Tryd.results70, go_sem]) rfl ⟨rfl, (below_new w _).drew⟩
end Go.Proofs.YtjgckchddllinaaDoor
