/-
  Contracts of choice.degreeWith and add. Conditions: at most 10 words.
-/
import Derived.Test.YtfimbbiholllhaaDoorVG
import Derived.Test.YtfimbbiholllhaaDoorM11
import Derived.Test.YtfimbbiholllhaaDoorM1
import Derived.Deep.RegionHeld3
namespace Go.Proofs.YtfimbbiholllhaaDoor
open Go.RowKit Go.Sort
set_option linter.unusedVariables false
set_option maxRecDepth 4000

set_option maxHeartbeats 4000000 in
theorem degWith_any (g : Nat) (L : List Int) (k : Nat) (sv : Value) (xs : List Nat) (a : Option Addr) (m c : Nat) (ys : List Nat) (w : World) (h : CcAt w g L k sv xs (cnt xs)) (hr : RowAt w a m ys) (hx : xs.length ≤ 10) (hm : m ≤ 10) :
    Calls Tryd.prog 48 #[.pointer (some ⟨g, 0, none⟩), .slice a m c] w fun e w' => e = .returned (.int .i64 ((cnt (xorL xs ys) : Nat) : Int)) ∧ Below w.heap.size w w' := by
  obtain rfl := hr.1
  obtain ⟨sa, sc, rfl, hs⟩ := h.own.row
  have hcap := h.own.cap
  have hmin := min_run xs.length ys.length
  have hsl := uslice_hi sa xs.length sc (min xs.length ys.length) (by omega)
  obtain ⟨hd1, hd2⟩ := deg_with xs ys
  have hmx : min xs.length ys.length ≤ xs.length := Nat.min_le_left _ _
  have htk := List.length_take_le (min xs.length ys.length) xs
  have hrt := hs.take hmx
  generalize min xs.length ys.length = mn at *
  have k1 := cell_regrown h.at.2.1
  have Hh := hide h
  have HR := hide hr
  have hc1 := cnt_le xs
  have hc3 := cnt_le (xorL (xs.take mn) ys)
  have hzl := xorL_length (xs.take mn) ys
  have htl : (xs.take mn).length = mn := hrt.1
  have HXO := hide (fun wx (h1 : RowAt wx sa mn (xs.take mn)) (h2 : RowAt wx a ys.length ys) => xor_any sa mn sc (xs.take mn) a ys.length c ys wx h1 h2 (by omega) (by omega))
  generalize xorL (xs.take mn) ys = zs at *
  generalize xs.take mn = ts at *
  have hzl' : zs.length ≤ 10 := by omega
  have HT := hide hrt
  have HC2 := hide hd2
  generalize cnt (xorL xs ys) = R at *
  generalize ys.length = ym at *
  generalize xs.length = xm at *
  clear hd2 htk hzl htl
  clear h hr hs hrt
  go_enter Tryd.func48, Tryd.ntmps48
  go_wp2_with fail
  refine wp_region_quiet_below (by kernel_rfl) (by kernel_rfl) ?_
  repeat (with_reducible refine wpQuiet_step (fun K hK => ?_); go_simp; first | (with_reducible refine hK _ ?_; clear hK K))
  refine wpQuiet_nil ?_
  intro _ hw'
  obtain ⟨⟨dq, osq⟩, hw''⟩ := hw'
  subst hw''
  have hb := below_regrown w dq osq
  generalize grow (redrawn w dq) osq = W at *
  have hcc := (unhide Hh).below hb
  have htt := (unhide HT).below hb
  have hyy := (unhide HR).below hb
  have HB := hide hb
  have HCT := hide (fun wx (hbx : Below W.heap.size W wx) => count_any sa mn sc ts wx (htt.below hbx) (by omega))
  have HXP := hide (fun wx (hbx : Below W.heap.size W wx) => unhide HXO wx (htt.below hbx) (hyy.below hbx))
  have HQ := hide (fun wx (hbx : Below W.heap.size W wx) => (hcc.below hbx).at.2.2)
  have q0 := hcc.at.2.2
  clear hcc htt hyy hb Hh HT HR k1 hsl hmin
  go_wp2_with fail
  go_region_held3 (fun w' => w'.cell? ⟨g, 34, none⟩ = some (.int .i64 (cnt xs : Int))) (go_keep) (first
    | (go_at_call 49; refine (unhide HXP _ (by first | exact unhide D1 | exact (Below.refl _ _).drew)).mono ?_; rintro e w1 ⟨v1, rfl, ho1, hb1⟩; obtain ⟨a2, m2, c2, rfl, hr2, hm2⟩ : ∃ a m c, v1 = Value.slice a m c ∧ RowAt w1 a m zs ∧ m ≤ 10 := (by obtain ⟨a, c, e, hr⟩ := ho1.row; exact ⟨a, _, c, e, hr, hzl'⟩); have D3 := hide (show Below W.heap.size W w1 from below0 (by first | exact unhide D1 | exact (Below.refl _ _).drew) hb1); have HR2 := hide hr2; have q0 := unhide HQ w1 (unhide D3); clear ho1 hb1 hr2)
    | (go_at_call 29; refine (count_any a2 m2 c2 zs _ (unhide HR2) (by omega)).mono ?_; rintro e w1 ⟨rfl, hw1⟩; have D4 := hide (show Below W.heap.size W w1 from by rw [hw1]; first | exact unhide D1 | exact unhide D3); have q0 := unhide HQ w1 (unhide D4); clear hw1)
    | (go_at_call 29; refine (unhide HCT _ (by first | exact unhide D4 | exact unhide D3 | exact (Below.refl _ _).drew)).mono ?_; rintro e w1 ⟨rfl, hw1⟩; have D1 := hide (show Below W.heap.size W w1 from by rw [hw1]; first | exact unhide D4 | exact unhide D3 | exact (Below.refl _ _).drew); have q0 := unhide HQ w1 (unhide D1); clear hw1))
  have hwr : IntKind.i64.wrap (IntKind.i64.wrap (((cnt xs : Nat) : Int) - ((cnt ts : Nat) : Int)) + ((cnt zs : Nat) : Int)) = ((R : Nat) : Int) := by
    have h2 := unhide HC2
    rw [IntKind.wrap_i64, IntKind.wrap_i64]
    omega
  rw [hwr]
  have HD : Hid (Below W.heap.size W w1) := by first | exact D4 | exact D1
  go_wp2
  go_ret
  exact ⟨rfl, below0 (unhide HB) (unhide HD)⟩

set_option maxHeartbeats 4000000 in
theorem cadd_any (W : World) (L : List Int) (k : Nat) (sv : Value) (xs : List Nat) (d : Nat) (p : Nat) (a : Option Addr) (m c : Nat) (ys : List Nat) (w : World) (h : CcAt w W.heap.size L k sv xs d) (hb : Below W.heap.size W w) (hr : RowAt W a m ys) (hk : k < 32) (hx : xs.length ≤ 10) (hm : m ≤ 10) :
    Calls Tryd.prog 24 #[.pointer (some ⟨W.heap.size, 0, none⟩), .int .i64 (p : Int), .slice a m c] w fun e w' => e = .returned (.tuple #[]) ∧ (∃ u, CcAt w' W.heap.size (L.set k (p : Int)) (k + 1) u (xorL xs ys) (cnt (xorL xs ys))) ∧ Below W.heap.size W w' := by
  obtain rfl := hr.1
  have hk' : (k : Int) < 32 := by omega
  obtain ⟨sa, sc, rfl, _⟩ := h.own.row
  obtain ⟨q0, q1, q2⟩ := h.at
  have f0 := h.blk.frz k
  have qk := h.blk.at k (ccL_low h.len hk)
  have Hh := hide h
  have HB := hide hb
  have HR := hide hr
  clear h hr hb
  go_enter Tryd.func24, Tryd.ntmps24
  go_wp2_with fail
  go_region
  have h1 := ((unhide Hh).place hk (p : Int)).below (Below.refl _ _).drew
  have hb1 := ((unhide HB).setCell (p := ⟨W.heap.size, k, none⟩) (Nat.le_refl _) (.int .i64 (p : Int))).trans ((Below.refl _ _).drew)
  generalize (w.setCell ⟨W.heap.size, k, none⟩ (.int .i64 (p : Int))).drew = w1 at *
  clear q0 q1 q2 f0 qk Hh HB
  have f1 := h1.blk.frz 32
  obtain ⟨q0, q1, q2⟩ := h1.at
  obtain ⟨j, hj, hjk⟩ : ∃ j : Nat, (k : Int) + 1 = (j : Int) ∧ j = k + 1 := ⟨k + 1, by omega, rfl⟩
  have HJ := hide hjk
  have H2 := hide (h1.count j)
  have HB2 := hide (hb1.setCell (p := ⟨W.heap.size, 32, none⟩) (Nat.le_refl _) (.int .i64 (j : Int)))
  obtain ⟨_, r1, _⟩ := (h1.count j).at
  have hgl := (h1.count j).blk.lt
  have f3 := fun (wx : World) (hbx : Below (w1.setCell ⟨W.heap.size, 32, none⟩ (.int .i64 (j : Int))).heap.size (w1.setCell ⟨W.heap.size, 32, none⟩ (.int .i64 (j : Int))) wx) => ((h1.count j).below hbx).blk.frz 33
  clear h1 hb1 hjk
  generalize hw2 : w1.setCell ⟨W.heap.size, 32, none⟩ (.int .i64 (j : Int)) = w2 at *
  have HXO := hide (xor_any sa xs.length sc xs a ys.length c ys w2 (by obtain ⟨_, _, e, hrr⟩ := (unhide H2).own.row; simp only [Value.slice.injEq, true_and] at e; obtain ⟨rfl, rfl⟩ := e; exact hrr) ((unhide HR).below (unhide HB2)) (by omega) (by omega))
  have hzl : (xorL xs ys).length ≤ 10 := by rw [xorL_length]; omega
  have HFZ := hide f3
  clear f3
  go_wp2_with (first
    | (go_at_call 49; refine (unhide HXO).mono ?_; rintro e w3 ⟨v3, rfl, ho3, hb3⟩; obtain ⟨a3, m3, c3, rfl⟩ : ∃ a m c, v3 = Value.slice a m c := (by obtain ⟨a, c, e, _⟩ := ho3.row; exact ⟨a, _, c, e⟩); have h4 := ((unhide H2).below hb3).sum (ho3.mono (show W.heap.size + 1 ≤ _ from hgl)); have HB4 := hide (((unhide HB2).trans (hb3.mono (Nat.le_of_lt hgl))).setCell (p := ⟨W.heap.size, 33, none⟩) (Nat.le_refl _) (.slice a3 m3 c3)); have f3 := unhide HFZ w3 hb3; have s1 := ((unhide H2).below hb3).at.2.1; have s2 := h4.at.2.1; have s3 := h4.at.2.2; have f4 := h4.blk.frz 34; have H4 := hide h4; clear ho3 hb3 h4 HXO H2 HB2)
    | (go_at_call 29; refine (count_any a3 m3 c3 (xorL xs ys) _ (by obtain ⟨_, _, e, hrr⟩ := (unhide H4).own.row; simp only [Value.slice.injEq] at e; obtain ⟨rfl, rfl, rfl⟩ := e; exact hrr) (by have h5 := (unhide H4).own.row; obtain ⟨_, _, e, hrr⟩ := h5; simp only [Value.slice.injEq] at e; omega)).mono ?_; rintro e w5 ⟨rfl, hw5⟩; obtain rfl := hw5.symm; clear hw5))
  go_end0
  obtain rfl := unhide HJ
  exact ⟨rfl, ⟨_, (unhide H4).deg _⟩, (unhide HB4).setCell (p := ⟨W.heap.size, 34, none⟩) (Nat.le_refl _) _⟩
end Go.Proofs.YtfimbbiholllhaaDoor
