/-
  Contracts of bucketlineref12.New and Emit: for every int and every text of at most 2^63 - 1 bytes; for every source of 1 to 128 blocks and all draws of which at most 2^38 were used.
  Contract of bucketlinelaw12.awake, in every world that holds the table of soliton.
-/
import Derived.Test.YtigmckjjoabfeaaDoorM11
import Derived.Test.YtigmckjjoabfeaaDoorM8
import Derived.Test.YtigmckjjoabfeaaDoorM4
import Derived.Test.YtigmckjjoabfeaaDoorM9
namespace Go.Proofs.YtigmckjjoabfeaaDoor
open Go.RowKit
set_option linter.unusedVariables false
set_option maxRecDepth 4000

/-- A block that holds the reference's source, none of it frozen. -/
def RsB (w : World) (g : Nat) (v0 v1 v2 v3 v4 : Value) : Prop := w.heap[g]? = some (.cells #[v0, v1, v2, v3, v4] 30 (0, 0))
theorem rsb_new (w : World) (v0 v1 v2 v3 v4 : Value) : RsB (w.alloc (.cells #[v0, v1, v2, v3, v4] 30)) w.heap.size v0 v1 v2 v3 v4 := by
  show (w.heap.push _)[w.heap.size]? = _
  simp
theorem RsB.lt {w : World} {g : Nat} {v0 v1 v2 v3 v4 : Value} (h : RsB w g v0 v1 v2 v3 v4) : g < w.heap.size := (Array.getElem?_eq_some_iff.1 h).1
theorem RsB.below {w w' : World} {g : Nat} {v0 v1 v2 v3 v4 : Value} (h : RsB w g v0 v1 v2 v3 v4) (hb : Below w.heap.size w w') : RsB w' g v0 v1 v2 v3 v4 := (hb.block g h.lt).trans h
theorem RsB.kept {w w' : World} {g : Nat} {v0 v1 v2 v3 v4 : Value} {row : Option Nat} (h : RsB w g v0 v1 v2 v3 v4) (hg : w.grownBy w' row) (hne : some g ≠ row) : RsB w' g v0 v1 v2 v3 v4 := (hg.block g h.lt hne).trans h
theorem RsB.cells {w : World} {g : Nat} {v0 v1 v2 v3 v4 : Value} (h : RsB w g v0 v1 v2 v3 v4) : w.cell? ⟨g, 0, none⟩ = some v0 ∧ w.cell? ⟨g, 1, none⟩ = some v1 ∧ w.cell? ⟨g, 2, none⟩ = some v2 ∧ w.cell? ⟨g, 3, none⟩ = some v3 ∧ w.cell? ⟨g, 4, none⟩ = some v4 := by
  unfold RsB at h
  refine ⟨?_, ?_, ?_, ?_, ?_⟩ <;> rw [cell_of_row w g _ _ _ _ h] <;> rfl
theorem RsB.frz {w : World} {g : Nat} {v0 v1 v2 v3 v4 : Value} (h : RsB w g v0 v1 v2 v3 v4) (i : Nat) : w.frozen? ⟨g, i, none⟩ = false := by
  unfold RsB at h
  simp [World.frozen?, h]
def set5 (w : World) (g : Nat) (u0 u1 u2 u3 u4 : Value) : World := ((((w.setCell ⟨g, 0, none⟩ u0).setCell ⟨g, 1, none⟩ u1).setCell ⟨g, 2, none⟩ u2).setCell ⟨g, 3, none⟩ u3).setCell ⟨g, 4, none⟩ u4
theorem RsB.set0 {w : World} {g : Nat} {v0 v1 v2 v3 v4 : Value} (h : RsB w g v0 v1 v2 v3 v4) (u : Value) : RsB (w.setCell ⟨g, 0, none⟩ u) g u v1 v2 v3 v4 := heap_setCell_same w g 0 _ _ u h
theorem RsB.set1 {w : World} {g : Nat} {v0 v1 v2 v3 v4 : Value} (h : RsB w g v0 v1 v2 v3 v4) (u : Value) : RsB (w.setCell ⟨g, 1, none⟩ u) g v0 u v2 v3 v4 := heap_setCell_same w g 1 _ _ u h
theorem RsB.set2 {w : World} {g : Nat} {v0 v1 v2 v3 v4 : Value} (h : RsB w g v0 v1 v2 v3 v4) (u : Value) : RsB (w.setCell ⟨g, 2, none⟩ u) g v0 v1 u v3 v4 := heap_setCell_same w g 2 _ _ u h
theorem RsB.set3 {w : World} {g : Nat} {v0 v1 v2 v3 v4 : Value} (h : RsB w g v0 v1 v2 v3 v4) (u : Value) : RsB (w.setCell ⟨g, 3, none⟩ u) g v0 v1 v2 u v4 := heap_setCell_same w g 3 _ _ u h
theorem RsB.set4 {w : World} {g : Nat} {v0 v1 v2 v3 v4 : Value} (h : RsB w g v0 v1 v2 v3 v4) (u : Value) : RsB (w.setCell ⟨g, 4, none⟩ u) g v0 v1 v2 v3 u := heap_setCell_same w g 4 _ _ u h
theorem RsB.sets {w : World} {g : Nat} {v0 v1 v2 v3 v4 : Value} (h : RsB w g v0 v1 v2 v3 v4) (u0 u1 u2 u3 u4 : Value) : RsB (set5 w g u0 u1 u2 u3 u4) g u0 u1 u2 u3 u4 := ((((h.set0 u0).set1 u1).set2 u2).set3 u3).set4 u4
theorem below5 {B : Nat} {a w : World} (h : Below B a w) {g : Nat} (hg : B ≤ g) (u0 u1 u2 u3 u4 : Value) : Below B a (set5 w g u0 u1 u2 u3 u4) :=
  ((((h.setCell hg u0).setCell hg u1).setCell hg u2).setCell hg u3).setCell hg u4
theorem gb5 (w : World) (g : Nat) (u0 u1 u2 u3 u4 : Value) : w.grownBy (set5 w g u0 u1 u2 u3 u4) (some g) :=
  gb_trans (gb4 w g u0 u1 u2 u3) (gb_setCell _ _ _ _) (.inl rfl)
theorem results_rnew {tmps : Array Value} {W : World} {g : Nat} {x : Int} {u0 u1 u2 u3 u4 : Value} (h2 : tmps.getD 8 undef = .pointer (some ⟨g, 0, none⟩)) (h3 : tmps.getD 9 undef = .int .i64 x) (hq : RsB W g u0 u1 u2 u3 u4) :
    (results Tryd.f9 tmps).run Tryd.prog W = .ok (.tuple #[.agg #[u0, u1, u2, u3, u4], .int .i64 x]) W := by
  obtain ⟨k0, k1, k2, k3, k4⟩ := hq.cells
  have h2' : tmps[8]?.getD undef = .pointer (some ⟨g, 0, none⟩) := by simpa using h2
  have h3' : tmps[9]?.getD undef = .int .i64 x := by simpa using h3
  simp [results, Tryd.results9, go_sem, h2', h3', k0, k1, k2, k3, k4]

set_option maxHeartbeats 1000000 in
theorem rnew_bad (o : Int) (s : ByteArray) (z p : Int) (w : World) (hs : s.size ≤ 9223372036854775807) (h : newE o s.size z p ≠ 0) :
    Calls Tryd.prog 9 #[.int .i64 o, .string s, .int .i64 z, .int .i64 p] w fun e w' => e = .returned (.tuple #[.agg #[.int .i64 0, .int .i64 0, .int .i64 0, .int .i64 0, .slice none 0 0], .int .i64 (newE o s.size z p)]) ∧ Below w.heap.size w w' := by
  have X0 := hide (rsb_new w (.int .i64 0) (.int .i64 0) (.int .i64 0) (.int .i64 0) (.slice none 0 0))
  have B0 := hide ((Below.refl _ w).alloc (Nat.le_refl _) (.cells #[.int .i64 0, .int .i64 0, .int .i64 0, .int .i64 0, .slice none 0 0] 30))
  by_cases h1 : o < 0
  · rw [newE_arg (.inl h1)]
    clear h
    go_enter Tryd.func9, Tryd.ntmps9
    go_wp2
    exact bodyPost_ret (results_rnew rfl rfl (unhide X0)) rfl ⟨rfl, unhide B0⟩
  by_cases h2 : 4294967295 < o
  · rw [newE_arg (.inr (.inl h2))]
    clear h
    go_enter Tryd.func9, Tryd.ntmps9
    go_wp2
    exact bodyPost_ret (results_rnew rfl rfl (unhide X0)) rfl ⟨rfl, unhide B0⟩
  by_cases h3 : p < 0
  · rw [newE_arg (.inr (.inr h3))]
    clear h
    go_enter Tryd.func9, Tryd.ntmps9
    go_wp2
    exact bodyPost_ret (results_rnew rfl rfl (unhide X0)) rfl ⟨rfl, unhide B0⟩
  rw [newE_plan (by omega)] at h ⊢
  have HS := hide (rsplit_no s z (w.alloc (.cells #[.int .i64 0, .int .i64 0, .int .i64 0, .int .i64 0, .slice none 0 0] 30)) hs h)
  have h' : (planE (s.size : Int) z != 0) = true := bne_iff_ne.2 h
  generalize planE (s.size : Int) z = E0 at *
  clear hs
  go_enter Tryd.func9, Tryd.ntmps9
  go_wp2_with (go_at_call 24; refine (unhide HS).mono ?_; rintro e w1 ⟨rfl, hw⟩; obtain rfl := hw.symm; clear hw)
  exact bodyPost_ret (results_rnew rfl rfl (unhide X0)) rfl ⟨rfl, unhide B0⟩

set_option maxHeartbeats 1000000 in
theorem rnew_yes (O : Nat) (s : ByteArray) (Z Q : Nat) (w : World) (ho : O ≤ 4294967295) (hz1 : 1 ≤ Z) (hz2 : Z ≤ 64) (hk2 : kc s.size Z ≤ 128) :
    Calls Tryd.prog 9 #[.int .i64 (O : Int), .string s, .int .i64 (Z : Int), .int .i64 (Q : Int)] w fun e w' => ∃ a c, e = .returned (.tuple #[.agg #[.int .i64 (O : Int), .int .i64 (s.size : Int), .int .i64 (Z : Int), .int .i64 ((min Q (kc s.size Z) : Nat) : Int), .slice a (kc s.size Z) c], .int .i64 0]) ∧ TextsAt w' a (kc s.size Z) (blocksL (tx s) Z (kc s.size Z)) ∧ Below w.heap.size w w' := by
  have hbl := blocksL_length (tx s) Z (kc s.size Z)
  have X0 := hide (rsb_new w (.int .i64 0) (.int .i64 0) (.int .i64 0) (.int .i64 0) (.slice none 0 0))
  have B0 := hide ((Below.refl _ w).alloc (Nat.le_refl _) (.cells #[.int .i64 0, .int .i64 0, .int .i64 0, .int .i64 0, .slice none 0 0] 30))
  have HS := hide (rsplit_yes s Z (w.alloc (.cells #[.int .i64 0, .int .i64 0, .int .i64 0, .int .i64 0, .slice none 0 0] 30)) hz1 hz2 hk2)
  generalize kc s.size Z = k at *
  have hmin := min_run Q k
  generalize blocksL (tx s) Z k = ss at *
  generalize min Q k = M at *
  go_enter Tryd.func9, Tryd.ntmps9
  go_wp2_with fail
  refine (unhide HS).mono ?_
  rintro e w1 ⟨v, rfl, ho', hb⟩
  obtain ⟨a, c, rfl, ht⟩ := ho'.texts
  rw [hbl] at ho' ht ⊢
  have x1 := (unhide X0).below hb
  have B1 := hide (below0 (unhide B0) hb)
  have HO := hide ho'
  have X1 := hide x1
  obtain ⟨k0, k1, k2, k3, k4⟩ := x1.cells
  have f0 := x1.frz 0
  have f1 := x1.frz 1
  have f2 := x1.frz 2
  have f3 := x1.frz 3
  have f4 := x1.frz 4
  clear ht ho' hb hbl x1
  go_wp2
  exact bodyPost_ret (results_rnew rfl rfl ((unhide X1).sets (.int .i64 (O : Int)) (.int .i64 (s.size : Int)) (.int .i64 (Z : Int)) (.int .i64 ((M : Nat) : Int)) (.slice a k c))) rfl
    ⟨a, c, rfl, ((unhide HO).kept (gb5 w1 w.heap.size _ _ _ _ _) (by rw [alloc_size]; omega)).at', below5 (unhide B1) (Nat.le_refl _) _ _ _ _ _⟩

theorem RfAt.blk {w : World} {g B : Nat} {L : List Nat} {N : Nat} (h : RfAt w g B L N) : ∃ a n c, Bk2 43 w g (.slice a n c) (.int .i64 (N : Int)) := by
  obtain ⟨h1, a, n, c, h3, _⟩ := h
  exact ⟨a, n, c, h3⟩
/-- Texts lie in no block of draws. -/
theorem TextsAt.kept {w w' : World} {k : Nat} {a : Option Addr} {n : Nat} {ss : List ByteArray} {T : TypeId} {a' : Option Addr} {n' c' : Nat} {i : Int} (h : TextsAt w a n ss) (hg : w.grownBy w' (some k)) (hap : Bk2 T w k (.slice a' n' c') (.int .i64 i)) : TextsAt w' a n ss := by
  refine ⟨h.1, ?_⟩
  rcases h.2 with h0 | ⟨b, off, rfl, hc⟩
  · exact .inl h0
  · refine .inr ⟨b, off, rfl, fun j hj => hg.cell (hc j hj) (fun e => ?_)⟩
    have e : b = k := Option.some.inj e
    subst e
    have h0 := hc j hj
    unfold Bk2 at hap
    rw [cell_of_row w b _ _ _ _ hap] at h0
    match off + j, h0 with
    | 0, h0 => simp at h0
    | 1, h0 => simp at h0
    | q + 2, h0 => simp at h0
theorem TextsAt.drawnR {w w' : World} {gd B : Nat} {a : Option Addr} {n : Nat} {ss : List ByteArray} {L : List Nat} {N : Nat} (h : TextsAt w a n ss) (hg : w.grownBy w' (some gd)) (hd : RfAt w gd B L N) : TextsAt w' a n ss := by
  obtain ⟨_, _, _, hb⟩ := hd.blk
  exact h.kept hg hb
theorem SrcAt.drawnR {w w' : World} {g gd B : Nat} {o l z : Int} {s : Nat} {ss : List ByteArray} {L : List Nat} {N : Nat} (h : SrcAt w g o l z s ss) (hg : w.grownBy w' (some gd)) (hd : RfAt w gd B L N) : SrcAt w' g o l z s ss := by
  obtain ⟨_, _, _, hb⟩ := hd.blk
  exact h.kept hg hb
theorem PTab.drawnR {w w' : World} {gd B : Nat} {L : List Nat} {N : Nat} (h : PTab w) (hg : w.grownBy w' (some gd)) (hd : RfAt w gd B L N) : PTab w' := by
  obtain ⟨_, _, _, hb⟩ := hd.blk
  exact h.kept hg hb
theorem results_remit {tmps : Array Value} {W : World} {g : Nat} {u0 u1 u2 u3 u4 u5 u6 : Value} (h2 : tmps.getD 4 undef = .pointer (some ⟨g, 0, none⟩)) (hq : PkB W g u0 u1 u2 u3 u4 u5 u6) :
    (results Tryd.f17 tmps).run Tryd.prog W = .ok (.agg #[u0, u1, u2, u3, u4, u5, u6]) W := by
  obtain ⟨k0, k1, k2, k3, k4, k5, k6⟩ := hq.at
  have h2' : tmps[4]?.getD undef = .pointer (some ⟨g, 0, none⟩) := by simpa using h2
  simp [results, Tryd.results17, go_sem, h2', k0, k1, k2, k3, k4, k5, k6]

set_option maxHeartbeats 4000000 in
theorem remit_any (gd B : Nat) (o l z : Int) (s k : Nat) (at0 : Option Addr) (ct0 : Nat) (ss : List ByteArray) (L : List Nat) (N : Nat) (w : World) (hsrc : TextsAt w at0 k ss) (h1 : 1 ≤ k) (h2 : k ≤ 128) (hs : s ≤ k) (hsh : shorts ss)
    (hd : RfAt w gd B L N) (hL : smalls L) (hB : B ≤ w.heap.size) (hN : N ≤ 274877906944) :
    Calls Tryd.prog 17 #[.agg #[.int .i64 o, .int .i64 l, .int .i64 z, .int .i64 (s : Int), .slice at0 k ct0], .pointer (some ⟨gd, 0, none⟩)] w fun e w' => ∃ a c, e = .returned (.agg #[.int .i64 o, .int .i64 l, .int .i64 (k : Int), .int .i64 z, .int .i64 0, .slice a (sizeOfK (k : Int)) c, .string (st (ofL ss (vecL k s L N) k))]) ∧
      RowAt w' a (sizeOfK (k : Int)) (vecL k s L N) ∧ RfAt w' gd B L (nextN k s L N) ∧ w.grownBy w' (some gd) := by
  have hgd := hd.1
  have B0 := hide (below2' w (.cells #[.int .i64 o, .int .i64 l, .int .i64 z, .int .i64 (s : Int), .slice at0 k ct0] 30) (.cells #[.int .i64 0, .int .i64 0, .int .i64 0, .int .i64 0, .int .i64 0, .slice none 0 0, .string ⟨#[]⟩] 48))
  have x0 := pkb_new (w.alloc (.cells #[.int .i64 o, .int .i64 l, .int .i64 z, .int .i64 (s : Int), .slice at0 k ct0] 30)) (.int .i64 0) (.int .i64 0) (.int .i64 0) (.int .i64 0) (.int .i64 0) (.slice none 0 0) (.string ⟨#[]⟩)
  rw [alloc_size] at x0
  have X0 := hide x0
  have R0 := hide ((rsb_new w (.int .i64 o) (.int .i64 l) (.int .i64 z) (.int .i64 (s : Int)) (.slice at0 k ct0)).below (below_new _ (.cells #[.int .i64 0, .int .i64 0, .int .i64 0, .int .i64 0, .int .i64 0, .slice none 0 0, .string ⟨#[]⟩] 48)))
  have S0 := hide (hsrc.below (unhide B0))
  have D0 := hide (hd.below ((unhide B0).mono hB))
  have HT := hide (fun wx => table10_any k s h1 h2 hs wx)
  have hdin := degL_in k s L N h1 (by omega)
  have HNX : Is (nextN k s L N) (N + 1 + degL k s L N) := rfl
  have HV : Is (vecL k s L N) (rowL k (distL L (N + 1) k (degL k s L N))) := rfl
  have HPK := hide (fun a c wx (hi : IntzAt wx a k (tableL k s)) => (show Calls Tryd.prog 34 #[.slice a k c, .int .u64 ((drawN L (N + 1) : Nat) : Int)] wx fun e w' => e = .returned (.int .i64 ((degL k s L N : Nat) : Int)) ∧ w' = wx from pick10_any a k c (tableL k s) (drawN L (N + 1)) wx hi (by omega) (by have := tableL_sum k s h2 (by omega); omega) (drawN_lt hL _)))
  have HNE := hide (fun wx hd => rnext_any gd B L N wx hd (by omega))
  have HDI := hide (fun wx hd hb => rdistinct_any gd B L (N + 1) k ((degL k s L N : Nat) : Int) wx hd hL hb (by omega) h2)
  rw [deg_min k s L N h1 (by omega)] at HDI
  have HLL := hide (distL_length L (N + 1) k (degL k s L N) hdin.2)
  have HNB := hide (show ∀ i, (distL L (N + 1) k (degL k s L N)).getD i 0 ≤ 1048576 from fun i => by
    by_cases hi : i < (distL L (N + 1) k (degL k s L N)).length
    · have := distL_lt L (N + 1) k (degL k s L N) i hi
      omega
    · rw [getD_of_le (by omega)]; omega)
  have HVL := hide (vecL_length k s L N)
  have HSZ := hide (fun wx => rsize_any (k : Int) wx)
  have HMK := hide (fun wx => make_w (sizeOfK (k : Int)) (by have := sizeOfK_le (k : Int); omega) wx)
  have HMD := hide (fun wx => made_w wx (sizeOfK (k : Int)) (by have := sizeOfK_le (k : Int); omega))
  rw [← rowL_nil k] at HMD
  have HRL := hide (fun ns' => rowL_length k ns')
  have hm2 := sizeOfK_le (k : Int)
  have HTL := hide (tableL_len k s)
  have HSH := hide hsh
  clear hsrc hd hsh hL x0
  generalize vecL k s L N = vs at *
  generalize nextN k s L N = nn at *
  generalize degL k s L N = dg at *
  generalize drawN L (N + 1) = x at *
  generalize distL L (N + 1) k dg = ns at *
  have HTK := hide (fun j hj => rowL_take k ns j hj)
  generalize tableL k s = tb at *
  generalize sizeOfK (k : Int) = m at *
  have hdg : dg ≤ 128 := by omega
  clear hdin
  obtain ⟨r0, r1, r2, r3, r4⟩ := (unhide R0).cells
  go_enter Tryd.func17, Tryd.ntmps17
  go_wp2_with (first
    | (go_at_call 35; refine (unhide HT _).mono ?_; rintro e w1 ⟨v1, rfl, ho1, hb1⟩; obtain ⟨a1, c1, rfl, hi1⟩ := ho1.ints; rw [unhide HTL] at ho1 hi1 ⊢; have HO1 := hide ho1; have B1 := hide (below0 (unhide B0) hb1); have S1 := hide ((unhide S0).below hb1); have X1 := hide ((unhide X0).below hb1); have R1 := hide ((unhide R0).below hb1); have D1 := hide ((unhide D0).below (hb1.mono (Nat.le_trans hB (unhide B0).size))); clear ho1 hi1 hb1)
    | (go_at_call 36; refine (unhide HNE _ (unhide D1)).mono ?_; rintro e w2 ⟨rfl, hd2, hg2⟩; have HO2 := hide ((unhide HO1).kept hg2 (Nat.lt_of_lt_of_le hgd (Nat.le_trans hB (unhide B0).size))).at'; have S2 := hide ((unhide S1).drawnR hg2 (unhide D1)); have X2 := hide ((unhide X1).kept hg2 (fun e => by have := Option.some.inj e; omega)); have R2 := hide ((unhide R1).kept hg2 (fun e => by have := Option.some.inj e; omega)); have D2 := hide hd2; have G2 := hide (gb_trans (gb_of_below (unhide B1) (some gd)) hg2 (.inl rfl)); clear hd2 hg2)
    | (go_at_call 34; refine (unhide HPK _ _ _ (unhide HO2)).mono ?_; rintro e w' ⟨rfl, hw⟩; obtain rfl := hw.symm; clear hw)
    | (go_at_call 37; refine (unhide HDI _ (unhide D2) (Nat.le_trans hB (unhide G2).size)).mono ?_; rintro e w3 ⟨v3, rfl, ho3, hd3, hg3⟩; obtain ⟨a3, c3, rfl, hi3⟩ := ho3.ints; rw [castZ_length, unhide HLL] at hi3 ⊢; have HI3 := hide hi3; have S3 := hide ((unhide S2).drawnR hg3 (unhide D2)); have X3 := hide ((unhide X2).kept hg3 (fun e => by have := Option.some.inj e; omega)); have R3 := hide ((unhide R2).kept hg3 (fun e => by have := Option.some.inj e; omega)); have D3 := hide hd3; have G3 := hide (gb_trans (unhide G2) hg3 (.inl rfl)); have hmk := unhide HMK w3; clear ho3 hi3 hd3 hg3)
    | (go_at_call 38; refine (unhide HSZ _).mono ?_; rintro e w' ⟨rfl, hw⟩; obtain rfl := hw.symm; clear hw))
  clear HT HPK HNE HDI HTL HO1 B1 S1 X1 R1 D1 HO2 S2 X2 R2 D2 G2 S0 D0 X0 R0 r0 r1 r2 r3 r4 HSZ HMK
  go_loopw [8, 9] (fun v i wr => ∃ (j : Nat) (b : Option Addr) (cc : Nat), j ≤ dg ∧ i = .int .i64 j ∧ v = .slice b m cc ∧ Hid (Own wr w3.heap.size (.slice b m cc) (rowL k (ns.take j)) ∧ Below w3.heap.size w3 wr)) (fun _ i _ => dg - (intOf i).toNat)
  case atStart => exact ⟨0, _, _, Nat.zero_le _, rfl, rfl, hide ⟨unhide HMD w3, (Below.refl _ _).alloc (Nat.le_refl _) _⟩⟩
  case round =>
    rename_i wr
    obtain ⟨j, b, cc, hj, rfl, rfl, HR⟩ := hrel
    clear hmk HMD
    by_cases hlt : j < dg
    · have hlt' : (j : Int) < (dg : Int) := by omega
      obtain ⟨b', off, rfl, hc⟩ := ((unhide HI3).below (unhide HR).2).at hlt
      have hcell := hc j hlt
      rw [castZ_getD] at hcell
      have hx := unhide HNB j
      have HS := hide (rset_any b m cc _ ((ns.getD j 0 : Nat) : Int) true wr (unhide HR).1.at' (by omega) (by omega))
      rw [setI_nat, ← unhide HTK j (by rw [unhide HLL]; exact hlt)] at HS
      generalize ns.getD j 0 = y at *
      clear hc
      go_wp2_with fail
      refine (unhide HS).mono ?_
      rintro e w4 ⟨v4, rfl, ho4, hb4⟩
      obtain ⟨b2, c2, rfl, -⟩ := ho4.row
      rw [unhide HRL] at ho4 ⊢
      have HR2 := hide (show _ ∧ _ from ⟨ho4.mono (unhide HR).2.size, below0 (unhide HR).2 hb4⟩)
      clear ho4 hb4 HR hcell HS
      go_wp2
      go_roundw
      case rel => exact ⟨j + 1, b2, c2, by omega, by go_num, rfl, HR2⟩
      case measure => simp [intOf]; omega
    · obtain rfl : j = dg := by omega
      have he : ns.take j = ns := List.take_of_length_le (by rw [unhide HLL]; exact Nat.le_refl _)
      rw [he, ← HV.eq] at HR
      have hb4 := (unhide HR).2
      have HO4 := hide (unhide HR).1
      have HR4 := hide (unhide HR).1.at'
      have ht4 := (unhide S3).below hb4
      obtain ⟨k0, k1, k2, -, k4⟩ := ((unhide R3).below hb4).cells
      have X4 := hide ((unhide X3).below hb4)
      have D4 := hide ((unhide D3).below (hb4.mono (Nat.le_trans hB (unhide G3).size)))
      have G4 := hide (gb_then (unhide G3) (hb4.mono (unhide G3).size))
      have Z3 := hide (unhide X3).lt
      have HOF := hide (fun wx (hb : Below wr.heap.size wr wx) => rof_any at0 k ct0 ss b m cc vs wx (ht4.below hb) (unhide HSH) (by omega) ((unhide HR4).below hb) (by omega))
      have hglt : w.heap.size < wr.heap.size := World.block_lt_of_cell? wr ⟨w.heap.size, 0, none⟩ k0
      have hgw : w.heap.size + 1 ≠ w.heap.size := by omega
      clear he hb4 ht4 HR S3 R3 X3 D3 G3 HI3 HNB HLL HTK HRL HV
      go_wp2_with fail
      go_region_held (fun w' => w'.cell? ⟨w.heap.size, 0, none⟩ = some (.int .i64 o) ∧ w'.cell? ⟨w.heap.size, 1, none⟩ = some (.int .i64 l) ∧ w'.cell? ⟨w.heap.size, 2, none⟩ = some (.int .i64 z) ∧ w'.cell? ⟨w.heap.size, 4, none⟩ = some (.slice at0 k ct0)) (go_keep)
        (first | (go_at_call 40; refine (unhide HOF _ (Below.refl _ _).drew).mono ?_; rintro e w5 ⟨rfl, hb5⟩; have hb45 : Below wr.heap.size wr w5 := (Below.refl _ _).drew.trans hb5; have q0 := (hb45.cell (p := ⟨w.heap.size, 0, none⟩) hglt).trans k0; have q1 := (hb45.cell (p := ⟨w.heap.size, 1, none⟩) hglt).trans k1; have q2 := (hb45.cell (p := ⟨w.heap.size, 2, none⟩) hglt).trans k2; have q3 := (hb45.cell (p := ⟨w.heap.size, 4, none⟩) hglt).trans k4; have x5 := (unhide X4).below hb45; obtain ⟨y0, y1, y2, y3, y4, y5, y6⟩ := x5.at; have f0 := x5.frz 0; have f1 := x5.frz 1; have f2 := x5.frz 2; have f3 := x5.frz 3; have f4 := x5.frz 4; have f5 := x5.frz 5; have f6 := x5.frz 6; have X5 := hide x5; have HB5 := hide hb45; clear x5 hb45 hb5))
      go_wp2
      have hw4 : w.heap.size ≤ wr.heap.size := (unhide G4).size
      refine bodyPost_ret (results_remit rfl ((unhide X5).sets (.int .i64 o) (.int .i64 l) (.int .i64 (k : Int)) (.int .i64 z) (.int .i64 0) (.slice b m cc) (.string (st (ofL ss vs k))))) rfl
        ⟨b, cc, rfl, ((unhide HR4).below (unhide HB5)).other7 (fun ad ha hm => ?_) _ _ _ _ _ _ _, ?_, gb_then (unhide G4) (below7 ((unhide HB5).mono hw4) (Nat.le_succ _) _ _ _ _ _ _ _)⟩
      · have h1 := (unhide HO4).apart ad ha hm
        have h2 := unhide Z3
        omega
      · rw [HNX.eq]
        exact (unhide D4).below (below7 ((unhide HB5).mono (Nat.le_trans hB hw4)) (Nat.le_succ_of_le hB) _ _ _ _ _ _ _)
end Go.Proofs.YtigmckjjoabfeaaDoor
namespace Go.Proofs.YtigmckjjoabfeaaDoor
open Go.RowKit
set_option linter.unusedVariables false
set_option maxRecDepth 4000

/-- Below B, behind a step that turned the block g, one's own. -/
theorem below_gb {w w1 w2 : World} {B g : Nat} (h : Below B w w1) (hg : w1.grownBy w2 (some g)) (hB : B ≤ w1.heap.size) (hgB : B ≤ g) : Below B w w2 :=
  h.trans (gb_below hg hB (fun k hk => by rw [← Option.some.inj hk]; exact hgB))
def awS : List ByteArray := blocksL (tx ⟨#[97, 98, 99]⟩) 1 3
theorem awS_len : awS.length = 3 := blocksL_length _ _ _
theorem awS_short : shorts awS := shorts_blocks _ _ _ (by omega)
theorem awS_get : awS.getD 2 ByteArray.empty = ⟨#[99]⟩ := by
  unfold awS
  rw [blocks_get _ _ _ _ (by omega)]
  rfl
theorem aw_kc : kc (ByteArray.mk #[97, 98, 99]).size 1 = 3 := by decide
theorem aw_new (w : World) : Calls Tryd.prog 8 #[.int .i64 7, .string ⟨#[97, 98, 99]⟩, .int .i64 1, .int .i64 0] w fun e w' => ∃ g, e = .returned (.tuple #[.pointer (some ⟨g, 0, none⟩), .int .i64 0]) ∧ SrcAt w' g 7 3 1 0 awS ∧ Below w.heap.size w w' := by
  have := new_yes 7 ⟨#[97, 98, 99]⟩ 1 0 w (by omega) (by omega) (by omega) (by rw [aw_kc]; omega)
  rw [aw_kc] at this
  exact this
theorem aw_bad (w : World) : Calls Tryd.prog 8 #[.int .i64 (-1), .string ⟨#[97, 98, 99]⟩, .int .i64 1, .int .i64 0] w fun e w' => e = .returned (.tuple #[.pointer none, .int .i64 1]) ∧ Below w.heap.size w w' := by
  have hE : newE (-1) (ByteArray.mk #[97, 98, 99]).size 1 0 = 1 := newE_arg (.inl (by omega))
  have := new_bad (-1) ⟨#[97, 98, 99]⟩ 1 0 w (by decide) (by rw [hE]; decide)
  rw [hE] at this
  exact this
theorem aw_vec : vecL 3 0 [0, 2] 0 = [4] := by
  rw [unit_vec 3 0 2 (by omega) (by omega) (by omega)]
  decide
theorem aw_data : st (ofL awS [4] 3) = ⟨#[99]⟩ := by
  have h := unit_data awS 3 0 2 (by omega) (by omega) (by omega) (by omega)
  rw [aw_vec] at h
  rw [h, awS_get]
theorem aw_emit (g gd B : Nat) (w : World) (hsrc : SrcAt w g 7 3 1 0 awS) (ht : PTab w) (hd : DrAt w gd B [0, 2] 0) (hB : B ≤ w.heap.size) :
    Calls Tryd.prog 16 #[.pointer (some ⟨g, 0, none⟩), .pointer (some ⟨gd, 0, none⟩)] w fun e w' => ∃ a c, e = .returned (.agg #[.int .i64 7, .int .i64 3, .int .i64 3, .int .i64 1, .int .i64 0, .slice a 1 c, .string ⟨#[99]⟩]) ∧
      RowAt w' a 1 [4] ∧ w.grownBy w' (some gd) := by
  have := emit_any g gd B 7 3 1 0 3 awS [0, 2] 0 w hsrc awS_len (by omega) (by omega) (by omega) awS_short ht hd hB (by omega)
  rw [aw_vec, aw_data, show sizeOfK ((3 : Nat) : Int) = 1 from by decide] at this
  exact this.mono fun e w' ⟨a, c, h1, h2, _, h4⟩ => ⟨a, c, h1, h2, h4⟩

set_option maxHeartbeats 4000000 in
theorem awake_any (w : World) (ht : PTab w) : Calls Tryd.prog 13 #[] w fun e w' => e = .returned (.bool true) ∧ Below w.heap.size w w' := by
  have HP := hide ht
  have HSM := hide (show decide (cnt (xorL [4] [4]) = 0) = true from by decide)
  clear ht
  go_enter Tryd.func13, Tryd.ntmps13
  go_wp2_with fail
  refine (aw_new w).mono ?_
  rintro e w1 ⟨g, rfl, hs1, hb1⟩
  have S1 := hide hs1
  have B1 := hide hb1
  clear hs1 hb1
  go_wp2_with fail
  refine (aw_bad w1).mono ?_
  rintro e w2 ⟨rfl, hb2⟩
  have S2 := hide ((unhide S1).below hb2)
  have B2 := hide (below0 (unhide B1) hb2)
  clear S1 B1 hb2
  go_wp2_with fail
  refine (new_any (some ⟨w2.heap.size, 0, none⟩) 2 2 [0, 2] _ (row_new2 w2 0 2 (by omega) (by omega)) (by omega)).mono ?_
  rintro e w3 ⟨gd, rfl, hgd, hd3, hb3⟩
  have S3 := hide ((unhide S2).below (below1 (Below.refl _ _) hb3))
  have B3 := hide (below1 (unhide B2) hb3)
  have D3 := hide hd3
  have hgd' : w.heap.size ≤ gd := by
    have := (unhide B2).size
    rw [alloc_size] at hgd
    omega
  clear S2 B2 hb3 hd3 hgd
  go_wp2_with fail
  refine (aw_emit g gd _ w3 (unhide S3) ((unhide HP).below (unhide B3)) (unhide D3) (Nat.le_refl _)).mono ?_
  rintro e w4 ⟨a4, c4, rfl, hr4, hg4⟩
  have S4 := hide ((unhide S3).drawn hg4 (unhide D3))
  have R4 := hide hr4
  have B4 := hide (below_gb (unhide B3) hg4 (unhide B3).size hgd')
  clear S3 B3 D3 hr4 hg4 hgd' HP
  have X4 := hide (pkb_new w4 (.int .i64 7) (.int .i64 3) (.int .i64 3) (.int .i64 1) (.int .i64 0) (.slice a4 1 c4) (.string ⟨#[99]⟩))
  have hA := below_new w4 (.cells #[.int .i64 7, .int .i64 3, .int .i64 3, .int .i64 1, .int .i64 0, .slice a4 1 c4, .string ⟨#[99]⟩] 48)
  have S5 := hide ((unhide S4).below hA)
  have R5 := hide ((unhide R4).below hA)
  have B5 := hide (below0 (unhide B4) hA)
  clear hA S4 R4 B4
  have HKK := hide (fun wx hp => ek_any g 7 3 1 0 awS wx hp)
  rw [awS_len] at HKK
  go_wp2_with fail
  refine (unhide HKK _ (unhide S5)).mono ?_
  rintro e w5 ⟨rfl, hw⟩
  obtain rfl := hw.symm
  clear hw HKK
  go_wp2_with fail
  refine (eblocks_any g 7 3 1 0 awS _ (unhide S5) awS_short (by rw [awS_len]; omega)).mono ?_
  rintro e w6 ⟨v6, rfl, ho6, hb6⟩
  obtain ⟨a6, c6, rfl, -⟩ := ho6.texts
  rw [awS_len]
  have x6 := (unhide X4).below hb6
  obtain ⟨y0, y1, y2, y3, y4, y5, y6⟩ := x6.at
  have R6 := hide ((unhide R5).below hb6)
  have B6 := hide (below0 (unhide B5) hb6)
  clear ho6 hb6 x6 S5 R5 B5 X4
  go_wp2_with fail
  refine (rsame_any a4 1 c4 [4] _ 1 1 [4] _ (row_alloc (unhide R6) _) (row_new1 w6 4 (by omega)) (by omega) (by omega)).mono ?_
  rintro e w7 ⟨rfl, hb7⟩
  rw [unhide HSM]
  have B7 := hide (below1 (unhide B6) hb7)
  clear hb7 R6 B6 y0 y1 y2 y3 y4 y5 y6
  go_wp2
  go_ret
  exact ⟨rfl, unhide B7⟩
end Go.Proofs.YtigmckjjoabfeaaDoor
