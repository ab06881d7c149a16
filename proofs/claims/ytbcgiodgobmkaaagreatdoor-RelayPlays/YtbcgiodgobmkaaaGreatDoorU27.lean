/-
  Contracts of slices.Index, Contains and Clone at ints, recode.around and distance, bucketlineref18.far, bucketlinelaw18.far. Conditions: at most 2^20 ints; a target from -2^40 to 2^40, a degree of at most 2^20.
  What is chosen, in memory ('CcAt': thirty-two places, how many, the xor, its degree); contracts of choice.has, degreeWith, add. Conditions: at most 10 words.
  Contracts of choice.degreeWith and add. Conditions: at most 10 words.
-/
import Derived.Test.YtbcgiodgobmkaaaGreatDoorU25
import Derived.Test.YtbcgiodgobmkaaaGreatDoorU6
import Derived.Test.YtbcgiodgobmkaaaGreatDoorU8
import Derived.Test.YtbcgiodgobmkaaaGreatDoorU3
import Derived.Test.YtbcgiodgobmkaaaGreatDoorU1
import Derived.Test.YtbcgiodgobmkaaaGreatDoorU10
import Derived.Deep.RegionHeld3
namespace Go.Proofs.YtbcgiodgobmkaaaGreatDoor
open Go.RowKit
set_option linter.unusedVariables false
set_option linter.unusedSimpArgs false
set_option maxRecDepth 4000

theorem take_snocZ (xs : List Int) (k : Nat) (hk : k < xs.length) : xs.take (k + 1) = xs.take k ++ [xs.getD k 0] := by
  rw [List.take_succ_eq_append_getElem hk]
  simp [List.getD_eq_getElem?_getD, List.getElem?_eq_getElem hk]
set_option maxHeartbeats 1000000 in
theorem indexI_any (a : Option Addr) (n c : Nat) (xs : List Int) (x : Int) (w : World) (h : IntzAt w a n xs) (hn : n ≤ 1048576) :
    Calls Tryz.prog 85 #[.slice a n c, .int .i64 x] w fun e w' => ∃ r : Int, e = .returned (.int .i64 r) ∧ decide (0 ≤ r) = decide (x ∈ xs) ∧ w' = w := by
  obtain rfl := h.1
  have Hh := hide h
  clear h
  go_enter Tryz.func85, Tryz.ntmps85
  go_wp2
  go_loop [8] (fun i => ∃ k : Nat, k ≤ xs.length ∧ i = .int .i64 k ∧ Hid (x ∉ xs.take k)) (fun i => xs.length - (intOf i).toNat)
  case atStart => exact ⟨0, Nat.zero_le _, rfl, hide (by rw [List.take_zero]; exact List.not_mem_nil)⟩
  case round =>
    obtain ⟨k, hk, rfl, HN⟩ := hrel
    by_cases hlt : k < xs.length
    · obtain ⟨b, off, rfl, hcl⟩ := (unhide Hh).at hlt
      have hcell := hcl k hlt
      have hlt' : (k : Int) < (xs.length : Int) := by omega
      have HT := hide (take_snocZ xs k hlt)
      have HM := hide (show xs.getD k 0 ∈ xs from by rw [List.getD_eq_getElem?_getD, List.getElem?_eq_getElem hlt]; exact List.getElem_mem hlt)
      clear hcl
      generalize xs.getD k 0 = y at *
      by_cases he : x = y
      · subst he
        go_wp2
        go_ret
        exact ⟨_, rfl, ⟨fun _ => unhide HM, fun _ => by omega⟩, rfl⟩
      · go_wp2
        go_round
        case rel => exact ⟨k + 1, by omega, by go_num, hide (by rw [unhide HT, List.mem_append, List.mem_singleton]; exact fun h => h.elim (unhide HN) he)⟩
        case measure => simp [intOf]; omega
    · have hke : xs.take k = xs := List.take_of_length_le (by omega)
      rw [hke] at HN
      go_wp2
      go_ret
      exact ⟨_, rfl, ⟨fun h => absurd h (by decide), fun h => absurd h (unhide HN)⟩, rfl⟩
set_option maxHeartbeats 400000 in
theorem containsI_any (a : Option Addr) (n c : Nat) (xs : List Int) (x : Int) (w : World) (h : IntzAt w a n xs) (hn : n ≤ 1048576) :
    Calls Tryz.prog 75 #[.slice a n c, .int .i64 x] w fun e w' => e = .returned (.bool (decide (x ∈ xs))) ∧ w' = w := by
  have HC := hide (indexI_any a n c xs x w h hn)
  clear h
  go_enter Tryz.func75, Tryz.ntmps75
  go_wp2_with (go_at_call 85; refine (unhide HC).mono ?_; rintro e w1 ⟨r, rfl, hr, hw1⟩; obtain rfl := hw1.symm; clear hw1 HC)
  go_ret
  exact ⟨rfl, rfl⟩
set_option maxHeartbeats 1000000 in
theorem cloneI_any (a : Addr) (n c : Nat) (xs : List Int) (w : World) (h : IntzAt w (some a) n xs) (hn : n ≤ 1048576) :
    Calls Tryz.prog 66 #[.slice (some a) n c] w fun e w' => ∃ v, e = .returned v ∧ OwnZ w' w.heap.size v xs ∧ Below w.heap.size w w' := by
  have hnil := fun wx => Lib.run_eql_slice_nil (P := Tryz.prog) wx 72 3 (some a) n c 0 0 Tryz.underlying72
  obtain ⟨i0, hi, hz0, hz1, hz2⟩ := info_parts info_intZ
  go_enter Tryz.func66, Tryz.ntmps66
  go_wp2_with (first | (at_builtin; refine wpList_append_own _ rfl (.tmp 5) (.tmp 6) 72 rfl w.heap.size 3 i0 (.int .i64 0) 1 8 Tryz.underlying72 hi hz0 hz1 hz2 rfl (by decide) _ _ _ rfl (World.ownsRow_lit _ #[] 0 (Nat.le_refl _) (by decide) rfl) a n c (cellsZ xs) rfl ?c0 ?c1 ?c2 ?c3 ?c4 ?c5 ?_))
  case c0 => rw [cellsZ_length, h.1, Nat.mul_one]
  case c1 =>
    have h2 := h.below ((Below.refl _ _).alloc (Nat.le_refl _) (.cells #[] 3))
    intro j u hj
    obtain ⟨b, off, e, hc⟩ := h2.at (i := j) (by have := (List.getElem?_eq_some_iff.1 hj).1; rw [cellsZ_length, h.1] at this; exact this)
    simp only [Option.some.injEq] at e
    subst e
    have hjl : j < n := by have := (List.getElem?_eq_some_iff.1 hj).1; rw [cellsZ_length, h.1] at this; exact this
    rw [cellsZ_get xs j (by rw [h.1]; exact hjl)] at hj
    rw [show (⟨b, off, none⟩ : Addr).add j = ⟨b, off + j, none⟩ by unfold Addr.add; split <;> simp_all, hc j hjl]
    exact hj
  case c2 => intro u hu; obtain ⟨x, _, rfl⟩ := List.mem_map.1 hu; rfl
  case c3 => unfold maxLen; omega
  case c4 => omega
  case c5 => simp
  intro v' w1 hown hgrow _
  have HB := hide (show Below w.heap.size w w1 from ((Below.refl _ _).alloc (Nat.le_refl _) _).grown hgrow (by simp) (fun k hk => by simp [Value.ownBlock] at hk; omega))
  have HO := hide (show OwnZ w1 w.heap.size v' xs from by have hl := h.1; show w1.ownsRow _ _ _ _ xs.length _; rw [hl]; simpa using hown)
  clear hown hgrow
  go_wp2
  go_ret
  exact ⟨_, rfl, unhide HO, unhide HB⟩

theorem place_emod (b : Int) {n : Nat} (hn : 0 < n) : ((placeN b n : Nat) : Int) = (b.tmod n + n) % n := by
  rw [(place_is b hn).1]
  have h3 : -(n : Int) < b.tmod n := by
    have := Int.lt_tmod_of_pos b (show (0 : Int) < n by omega)
    omega
  exact Int.tmod_eq_emod_of_nonneg (by omega)
theorem around_any (b : Int) (n : Nat) (hn : 0 < n) (hm : n ≤ 1048576) (hb : -9223372036854775808 ≤ b ∧ b ≤ 9223372036854775807) (w : World) :
    Calls Tryz.prog 43 #[.int .i64 b, .int .i64 (n : Int)] w fun e w' => e = .returned (.int .i64 ((placeN b n : Nat) : Int)) ∧ w' = w := by
  have hnz : ¬ ((n : Int) = 0) := by omega
  have h1 := place_emod b hn
  have h2 : (b.tmod n) < n := Int.tmod_lt_of_pos _ (by omega)
  have h3 : -(n : Int) < b.tmod n := by
    have := Int.lt_tmod_of_pos b (show (0 : Int) < n by omega)
    omega
  go_enter Tryz.func43, Tryz.ntmps43
  go_wp2
  go_ret
  exact ⟨congrArg (fun x => Ending.returned (.int .i64 x)) h1.symm, rfl⟩
theorem dist_wrap (d : Nat) (t : Int) (hd : d ≤ 1048576) (ht : -1099511627776 ≤ t ∧ t ≤ 1099511627776) : IntKind.u64.wrap (max (d : Int) t - IntKind.u64.wrap (min (d : Int) t)) = ((distN d t : Nat) : Int) := by
  rw [IntKind.wrap_u64, IntKind.wrap_u64, distN_cast]
  unfold distZ
  split <;> omega
theorem distance_any (d : Nat) (t : Int) (hd : d ≤ 1048576) (ht : -1099511627776 ≤ t ∧ t ≤ 1099511627776) (w : World) :
    Calls Tryz.prog 62 #[.int .i64 (d : Int), .int .i64 t] w fun e w' => e = .returned (.int .u64 ((distN d t : Nat) : Int)) ∧ w' = w := by
  have hmax := max_runZ (d : Int) t
  have hmin := min_runZ (d : Int) t
  go_enter Tryz.func62, Tryz.ntmps62
  go_wp2
  go_ret
  exact ⟨congrArg (fun x => Ending.returned (.int .u64 x)) (dist_wrap d t hd ht), rfl⟩
theorem far_any (d : Nat) (t : Int) (hd : d ≤ 1048576) (ht : -1099511627776 ≤ t ∧ t ≤ 1099511627776) (w : World) :
    Calls Tryz.prog 56 #[.int .i64 (d : Int), .int .i64 t] w fun e w' => e = .returned (.int .i64 (distZ d t)) ∧ w' = w := by
  unfold distZ
  by_cases h : (d : Int) < t
  · rw [if_pos h]
    go_enter Tryz.func56, Tryz.ntmps56
    go_wp2
    go_ret
    exact ⟨rfl, rfl⟩
  · rw [if_neg h]
    go_enter Tryz.func56, Tryz.ntmps56
    go_wp2
    go_ret
    exact ⟨rfl, rfl⟩
end Go.Proofs.YtbcgiodgobmkaaaGreatDoor
namespace Go.Proofs.YtbcgiodgobmkaaaGreatDoor
open Go.RowKit
set_option linter.unusedVariables false
set_option linter.unusedSimpArgs false
set_option maxRecDepth 4000

/-- The cells of a choice. -/
def ccL (L : List Int) (k : Nat) (sv : Value) (d : Nat) : List Value := cellsZ L ++ [.int .i64 (k : Int), sv, .int .i64 (d : Int)]
theorem ccL_low {L : List Int} {k : Nat} {sv : Value} {d : Nat} (hl : L.length = 32) {i : Nat} (hi : i < 32) : (ccL L k sv d)[i]? = some (.int .i64 (L.getD i 0)) := by
  unfold ccL
  rw [List.getElem?_append_left (by rw [cellsZ_length]; omega), cellsZ_get L i (by omega)]
theorem ccL_hi {L : List Int} {k : Nat} {sv : Value} {d : Nat} (hl : L.length = 32) (j : Nat) : (ccL L k sv d)[32 + j]? = [Value.int .i64 (k : Int), sv, .int .i64 (d : Int)][j]? := by
  unfold ccL
  rw [List.getElem?_append_right (by rw [cellsZ_length]; omega), cellsZ_length, hl, Nat.add_sub_cancel_left]
theorem ccL_set {L : List Int} {k : Nat} {sv : Value} {d : Nat} (hl : L.length = 32) {i : Nat} (hi : i < 32) (x : Int) : (ccL L k sv d).set i (.int .i64 x) = ccL (L.set i x) k sv d := by
  unfold ccL
  rw [List.set_append_left _ _ (by rw [cellsZ_length]; omega), cellsZ_set]
theorem ccL_setH {L : List Int} {k : Nat} {sv : Value} {d : Nat} (hl : L.length = 32) (j : Nat) (x : Value) : (ccL L k sv d).set (32 + j) x = cellsZ L ++ [Value.int .i64 (k : Int), sv, .int .i64 (d : Int)].set j x := by
  unfold ccL
  rw [List.set_append_right _ _ (by rw [cellsZ_length]; omega), cellsZ_length, hl, Nat.add_sub_cancel_left]
/-- A choice at block g: its xor lies behind it. -/
structure CcAt (w : World) (g : Nat) (L : List Int) (k : Nat) (sv : Value) (xs : List Nat) (d : Nat) : Prop where
  blk : BkA 90 w g (ccL L k sv d)
  len : L.length = 32
  own : Own w (g + 1) sv xs
theorem CcAt.below {w w' : World} {g : Nat} {L : List Int} {k : Nat} {sv : Value} {xs : List Nat} {d : Nat} (h : CcAt w g L k sv xs d) (hb : Below w.heap.size w w') : CcAt w' g L k sv xs d := ⟨h.blk.below hb, h.len, h.own.below hb⟩
theorem CcAt.at {w : World} {g : Nat} {L : List Int} {k : Nat} {sv : Value} {xs : List Nat} {d : Nat} (h : CcAt w g L k sv xs d) : w.cell? ⟨g, 32, none⟩ = some (.int .i64 (k : Int)) ∧ w.cell? ⟨g, 33, none⟩ = some sv ∧ w.cell? ⟨g, 34, none⟩ = some (.int .i64 (d : Int)) :=
  ⟨h.blk.at 32 (ccL_hi h.len 0), h.blk.at 33 (ccL_hi h.len 1), h.blk.at 34 (ccL_hi h.len 2)⟩
theorem CcAt.ints {w : World} {g : Nat} {L : List Int} {k : Nat} {sv : Value} {xs : List Nat} {d : Nat} (h : CcAt w g L k sv xs d) (hk : k ≤ 32) : IntzAt w (some ⟨g, 0, none⟩) k (L.take k) := by
  refine ⟨by rw [List.length_take, h.len]; omega, .inr ⟨g, 0, rfl, fun i hi => ?_⟩⟩
  rw [Nat.zero_add, h.blk.at i (ccL_low h.len (by omega)), List.getD_eq_getElem?_getD, List.getD_eq_getElem?_getD, List.getElem?_take, if_pos hi]
theorem CcAt.new (w : World) : CcAt (w.alloc (.cells (ccL (List.replicate 32 0) 0 (.slice none 0 0) 0).toArray 90)) w.heap.size (List.replicate 32 0) 0 (.slice none 0 0) [] 0 :=
  ⟨bkA_new _ _ _, by simp, Own.nil _ _⟩
theorem CcAt.place {w : World} {g : Nat} {L : List Int} {k : Nat} {sv : Value} {xs : List Nat} {d : Nat} (h : CcAt w g L k sv xs d) {i : Nat} (hi : i < 32) (x : Int) : CcAt (w.setCell ⟨g, i, none⟩ (.int .i64 x)) g (L.set i x) k sv xs d := by
  refine ⟨?_, by rw [List.length_set]; exact h.len, h.own.other _ _ (Nat.lt_succ_self _)⟩
  have := h.blk.set i (.int .i64 x)
  rwa [ccL_set h.len hi] at this
theorem CcAt.count {w : World} {g : Nat} {L : List Int} {k : Nat} {sv : Value} {xs : List Nat} {d : Nat} (h : CcAt w g L k sv xs d) (k' : Nat) : CcAt (w.setCell ⟨g, 32, none⟩ (.int .i64 (k' : Int))) g L k' sv xs d := by
  refine ⟨?_, h.len, h.own.other _ _ (Nat.lt_succ_self _)⟩
  have := h.blk.set 32 (.int .i64 (k' : Int))
  rwa [show (32 : Nat) = 32 + 0 from rfl, ccL_setH h.len 0] at this
theorem CcAt.sum {w : World} {g : Nat} {L : List Int} {k : Nat} {sv : Value} {xs : List Nat} {d : Nat} (h : CcAt w g L k sv xs d) {u : Value} {ys : List Nat} (ho : Own w (g + 1) u ys) : CcAt (w.setCell ⟨g, 33, none⟩ u) g L k u ys d := by
  refine ⟨?_, h.len, ho.other _ _ (Nat.lt_succ_self _)⟩
  have := h.blk.set 33 u
  rwa [show (33 : Nat) = 32 + 1 from rfl, ccL_setH h.len 1] at this
theorem CcAt.deg {w : World} {g : Nat} {L : List Int} {k : Nat} {sv : Value} {xs : List Nat} {d : Nat} (h : CcAt w g L k sv xs d) (d' : Nat) : CcAt (w.setCell ⟨g, 34, none⟩ (.int .i64 (d' : Int))) g L k sv xs d' := by
  refine ⟨?_, h.len, h.own.other _ _ (Nat.lt_succ_self _)⟩
  have := h.blk.set 34 (.int .i64 (d' : Int))
  rwa [show (34 : Nat) = 32 + 2 from rfl, ccL_setH h.len 2] at this

set_option maxHeartbeats 1000000 in
theorem has_any (g : Nat) (L : List Int) (k : Nat) (sv : Value) (xs : List Nat) (d : Nat) (x : Int) (w : World) (h : CcAt w g L k sv xs d) (hk : k ≤ 32) :
    Calls Tryz.prog 63 #[.pointer (some ⟨g, 0, none⟩), .int .i64 x] w fun e w' => e = .returned (.bool (decide (x ∈ L.take k))) ∧ Below w.heap.size w w' := by
  have hk' : (k : Int) ≤ 32 := by omega
  have k0 := cell_regrown h.at.1
  have cC := quietB (W := w) (fun w' hb => same_below (containsI_any (some ⟨g, 0, none⟩) k 32 (L.take k) x w' ((h.below hb).ints hk) (by omega)))
  generalize decide (x ∈ L.take k) = b at *
  clear h
  go_enter Tryz.func63, Tryz.ntmps63
  go_wp2_with fail
  refine wp_region_quiet_below (by kernel_rfl) (by kernel_rfl) ?_
  repeat (with_reducible refine wpQuiet_step (fun K hK => ?_); go_simp; first | (with_reducible refine hK _ ?_; clear hK K) | (apply Exists.intro; apply And.intro; (intro _; first | (go_at_call 75; exact cC _ _)); with_reducible refine hK _ ?_; clear hK K))
  refine wpQuiet_nil ?_
  intro _ hw'
  obtain ⟨⟨dq, osq⟩, hw''⟩ := hw'
  subst hw''
  go_wp2
  go_ret
  exact ⟨rfl, below_regrown _ dq osq⟩
end Go.Proofs.YtbcgiodgobmkaaaGreatDoor
namespace Go.Proofs.YtbcgiodgobmkaaaGreatDoor
open Go.RowKit Go.Sort
set_option linter.unusedVariables false
set_option linter.unusedSimpArgs false
set_option maxRecDepth 4000

set_option maxHeartbeats 4000000 in
theorem degWith_any (g : Nat) (L : List Int) (k : Nat) (sv : Value) (xs : List Nat) (a : Option Addr) (m c : Nat) (ys : List Nat) (w : World) (h : CcAt w g L k sv xs (cnt xs)) (hr : RowAt w a m ys) (hx : xs.length ≤ 10) (hm : m ≤ 10) :
    Calls Tryz.prog 64 #[.pointer (some ⟨g, 0, none⟩), .slice a m c] w fun e w' => e = .returned (.int .i64 ((cnt (xorL xs ys) : Nat) : Int)) ∧ Below w.heap.size w w' := by
  obtain rfl := hr.1
  obtain ⟨sa, sc, rfl, hs⟩ := h.own.row
  have hcap := h.own.cap
  have hmin := min_run xs.length ys.length
  have hsl := uslice_hi sa xs.length sc (min xs.length ys.length) (by omega)
  obtain ⟨hd1, hd2⟩ := deg_with xs ys
  have hmx : min xs.length ys.length ≤ xs.length := Nat.min_le_left _ _
  have htk := List.length_take_le (min xs.length ys.length) xs
  have hrt := hs.take hmx
  generalize min xs.length ys.length = mn at *
  have k1 := cell_regrown h.at.2.1
  have Hh := hide h
  have HR := hide hr
  have hc1 := cnt_le xs
  have hc3 := cnt_le (xorL (xs.take mn) ys)
  have hzl := xorL_length (xs.take mn) ys
  have htl : (xs.take mn).length = mn := hrt.1
  have HXO := hide (fun wx (h1 : RowAt wx sa mn (xs.take mn)) (h2 : RowAt wx a ys.length ys) => xor_any sa mn sc (xs.take mn) a ys.length c ys wx h1 h2 (by omega) (by omega))
  generalize xorL (xs.take mn) ys = zs at *
  generalize xs.take mn = ts at *
  have hzl' : zs.length ≤ 10 := by omega
  have HT := hide hrt
  have HC2 := hide hd2
  generalize cnt (xorL xs ys) = R at *
  generalize ys.length = ym at *
  generalize xs.length = xm at *
  clear hd2 htk hzl htl
  clear h hr hs hrt
  go_enter Tryz.func64, Tryz.ntmps64
  go_wp2_with fail
  refine wp_region_quiet_below (by kernel_rfl) (by kernel_rfl) ?_
  repeat (with_reducible refine wpQuiet_step (fun K hK => ?_); go_simp; first | (with_reducible refine hK _ ?_; clear hK K))
  refine wpQuiet_nil ?_
  intro _ hw'
  obtain ⟨⟨dq, osq⟩, hw''⟩ := hw'
  subst hw''
  have hb := below_regrown w dq osq
  generalize grow (redrawn w dq) osq = W at *
  have hcc := (unhide Hh).below hb
  have htt := (unhide HT).below hb
  have hyy := (unhide HR).below hb
  have HB := hide hb
  have HCT := hide (fun wx (hbx : Below W.heap.size W wx) => count_any sa mn sc ts wx (htt.below hbx) (by omega))
  have HXP := hide (fun wx (hbx : Below W.heap.size W wx) => unhide HXO wx (htt.below hbx) (hyy.below hbx))
  have HQ := hide (fun wx (hbx : Below W.heap.size W wx) => (hcc.below hbx).at.2.2)
  have q0 := hcc.at.2.2
  clear hcc htt hyy hb Hh HT HR k1 hsl hmin
  go_wp2_with fail
  go_region_held3 (fun w' => w'.cell? ⟨g, 34, none⟩ = some (.int .i64 (cnt xs : Int))) (go_keep) (first
    | (go_at_call 65; refine (unhide HXP _ (by first | exact unhide D1 | exact (Below.refl _ _).drew)).mono ?_; rintro e w1 ⟨v1, rfl, ho1, hb1⟩; obtain ⟨a2, m2, c2, rfl, hr2, hm2⟩ : ∃ a m c, v1 = Value.slice a m c ∧ RowAt w1 a m zs ∧ m ≤ 10 := (by obtain ⟨a, c, e, hr⟩ := ho1.row; exact ⟨a, _, c, e, hr, hzl'⟩); have D3 := hide (show Below W.heap.size W w1 from below0 (by first | exact unhide D1 | exact (Below.refl _ _).drew) hb1); have HR2 := hide hr2; have q0 := unhide HQ w1 (unhide D3); clear ho1 hb1 hr2)
    | (go_at_call 52; refine (count_any a2 m2 c2 zs _ (unhide HR2) (by omega)).mono ?_; rintro e w1 ⟨rfl, hw1⟩; have D4 := hide (show Below W.heap.size W w1 from by rw [hw1]; first | exact unhide D1 | exact unhide D3); have q0 := unhide HQ w1 (unhide D4); clear hw1)
    | (go_at_call 52; refine (unhide HCT _ (by first | exact unhide D4 | exact unhide D3 | exact (Below.refl _ _).drew)).mono ?_; rintro e w1 ⟨rfl, hw1⟩; have D1 := hide (show Below W.heap.size W w1 from by rw [hw1]; first | exact unhide D4 | exact unhide D3 | exact (Below.refl _ _).drew); have q0 := unhide HQ w1 (unhide D1); clear hw1))
  have hwr : IntKind.i64.wrap (IntKind.i64.wrap (((cnt xs : Nat) : Int) - ((cnt ts : Nat) : Int)) + ((cnt zs : Nat) : Int)) = ((R : Nat) : Int) := by
    have h2 := unhide HC2
    rw [IntKind.wrap_i64, IntKind.wrap_i64]
    omega
  rw [hwr]
  have HD : Hid (Below W.heap.size W w1) := by first | exact D4 | exact D1
  go_wp2
  go_ret
  exact ⟨rfl, below0 (unhide HB) (unhide HD)⟩

set_option maxHeartbeats 4000000 in
theorem cadd_any (W : World) (L : List Int) (k : Nat) (sv : Value) (xs : List Nat) (d : Nat) (p : Nat) (a : Option Addr) (m c : Nat) (ys : List Nat) (w : World) (h : CcAt w W.heap.size L k sv xs d) (hb : Below W.heap.size W w) (hr : RowAt W a m ys) (hk : k < 32) (hx : xs.length ≤ 10) (hm : m ≤ 10) :
    Calls Tryz.prog 45 #[.pointer (some ⟨W.heap.size, 0, none⟩), .int .i64 (p : Int), .slice a m c] w fun e w' => e = .returned (.tuple #[]) ∧ (∃ u, CcAt w' W.heap.size (L.set k (p : Int)) (k + 1) u (xorL xs ys) (cnt (xorL xs ys))) ∧ Below W.heap.size W w' := by
  obtain rfl := hr.1
  have hk' : (k : Int) < 32 := by omega
  obtain ⟨sa, sc, rfl, _⟩ := h.own.row
  obtain ⟨q0, q1, q2⟩ := h.at
  have f0 := h.blk.frz k
  have qk := h.blk.at k (ccL_low h.len hk)
  have Hh := hide h
  have HB := hide hb
  have HR := hide hr
  clear h hr hb
  go_enter Tryz.func45, Tryz.ntmps45
  go_wp2_with fail
  go_region
  have h1 := ((unhide Hh).place hk (p : Int)).below (Below.refl _ _).drew
  have hb1 := ((unhide HB).setCell (p := ⟨W.heap.size, k, none⟩) (Nat.le_refl _) (.int .i64 (p : Int))).trans ((Below.refl _ _).drew)
  generalize (w.setCell ⟨W.heap.size, k, none⟩ (.int .i64 (p : Int))).drew = w1 at *
  clear q0 q1 q2 f0 qk Hh HB
  have f1 := h1.blk.frz 32
  obtain ⟨q0, q1, q2⟩ := h1.at
  obtain ⟨j, hj, hjk⟩ : ∃ j : Nat, (k : Int) + 1 = (j : Int) ∧ j = k + 1 := ⟨k + 1, by omega, rfl⟩
  have HJ := hide hjk
  have H2 := hide (h1.count j)
  have HB2 := hide (hb1.setCell (p := ⟨W.heap.size, 32, none⟩) (Nat.le_refl _) (.int .i64 (j : Int)))
  obtain ⟨_, r1, _⟩ := (h1.count j).at
  have hgl := (h1.count j).blk.lt
  have f3 := fun (wx : World) (hbx : Below (w1.setCell ⟨W.heap.size, 32, none⟩ (.int .i64 (j : Int))).heap.size (w1.setCell ⟨W.heap.size, 32, none⟩ (.int .i64 (j : Int))) wx) => ((h1.count j).below hbx).blk.frz 33
  clear h1 hb1 hjk
  generalize hw2 : w1.setCell ⟨W.heap.size, 32, none⟩ (.int .i64 (j : Int)) = w2 at *
  have HXO := hide (xor_any sa xs.length sc xs a ys.length c ys w2 (by obtain ⟨_, _, e, hrr⟩ := (unhide H2).own.row; simp only [Value.slice.injEq, true_and] at e; obtain ⟨rfl, rfl⟩ := e; exact hrr) ((unhide HR).below (unhide HB2)) (by omega) (by omega))
  have hzl : (xorL xs ys).length ≤ 10 := by rw [xorL_length]; omega
  have HFZ := hide f3
  clear f3
  go_wp2_with (first
    | (go_at_call 65; refine (unhide HXO).mono ?_; rintro e w3 ⟨v3, rfl, ho3, hb3⟩; obtain ⟨a3, m3, c3, rfl⟩ : ∃ a m c, v3 = Value.slice a m c := (by obtain ⟨a, c, e, _⟩ := ho3.row; exact ⟨a, _, c, e⟩); have h4 := ((unhide H2).below hb3).sum (ho3.mono (show W.heap.size + 1 ≤ _ from hgl)); have HB4 := hide (((unhide HB2).trans (hb3.mono (Nat.le_of_lt hgl))).setCell (p := ⟨W.heap.size, 33, none⟩) (Nat.le_refl _) (.slice a3 m3 c3)); have f3 := unhide HFZ w3 hb3; have s1 := ((unhide H2).below hb3).at.2.1; have s2 := h4.at.2.1; have s3 := h4.at.2.2; have f4 := h4.blk.frz 34; have H4 := hide h4; clear ho3 hb3 h4 HXO H2 HB2)
    | (go_at_call 52; refine (count_any a3 m3 c3 (xorL xs ys) _ (by obtain ⟨_, _, e, hrr⟩ := (unhide H4).own.row; simp only [Value.slice.injEq] at e; obtain ⟨rfl, rfl, rfl⟩ := e; exact hrr) (by have h5 := (unhide H4).own.row; obtain ⟨_, _, e, hrr⟩ := h5; simp only [Value.slice.injEq] at e; omega)).mono ?_; rintro e w5 ⟨rfl, hw5⟩; obtain rfl := hw5.symm; clear hw5))
  go_end0
  obtain rfl := unhide HJ
  exact ⟨rfl, ⟨_, (unhide H4).deg _⟩, (unhide HB4).setCell (p := ⟨W.heap.size, 34, none⟩) (Nat.le_refl _) _⟩
end Go.Proofs.YtbcgiodgobmkaaaGreatDoor
