/-
  Contract of bucketlineref17.Put.
-/
import Derived.Test.YtbcgiodgobmkaaaGreatDoorU22
import Derived.Test.YtbcgiodgobmkaaaGreatDoorU23
import Derived.Test.YtbcgiodgobmkaaaGreatDoorU39
namespace Go.Proofs.YtbcgiodgobmkaaaGreatDoor
open Go.RowKit Go.Sort
set_option linter.unusedVariables false
set_option linter.unusedSimpArgs false
set_option maxRecDepth 4000

/-- What the reference's put gives. -/
def RputB (w w' : World) (m : Nat) (vl : Value) (cs : List PKV) (p : PKV) (e : Ending) : Prop :=
  ∃ v' cs', e = .returned (.tuple #[v', .bool (takeD m (cs.map PKV.pd) p.pd)]) ∧ cs'.map PKV.pd = bput m (cs.map PKV.pd) p.pd ∧ ((v' = vl ∧ cs' = cs) ∨ OwnP w' w.heap.size v' cs') ∧ (∀ q ∈ cs', q ∈ cs ∨ q = p) ∧ Below w.heap.size w w'
theorem RputB.no {w w' : World} {m : Nat} {vl : Value} {cs : List PKV} {p : PKV} (h : takeD m (cs.map PKV.pd) p.pd = false) (hb : Below w.heap.size w w') : RputB w w' m vl cs p (.returned (.tuple #[vl, .bool false])) :=
  ⟨vl, cs, by rw [h], by unfold bput; rw [if_neg (by rw [h]; decide)], .inl ⟨rfl, rfl⟩, fun q hq => .inl hq, hb⟩
theorem RputB.yes {w w' : World} {m : Nat} {vl v' : Value} {cs : List PKV} {p : PKV} (h : takeD m (cs.map PKV.pd) p.pd = true) {G : Nat} (hl : (cs.eraseIdx G).map PKV.pd = leftD m (cs.map PKV.pd)) (ho : OwnP w' w.heap.size v' (cs.eraseIdx G ++ [p])) (hb : Below w.heap.size w w') : RputB w w' m vl cs p (.returned (.tuple #[v', .bool true])) :=
  ⟨v', cs.eraseIdx G ++ [p], by rw [h], by unfold bput; rw [if_pos h, ← hl, List.map_append]; rfl, .inr ho, fun q hq => (List.mem_append.1 hq).elim (fun e => .inl (List.mem_of_mem_eraseIdx e)) (fun e => .inr (List.mem_singleton.1 e)), hb⟩
theorem erase_take (cs : List PKV) (G k : Nat) (hk : k < cs.length) : (cs.take (k + 1)).eraseIdx G = if k = G then (cs.take k).eraseIdx G else (cs.take k).eraseIdx G ++ [cs.getD k .dflt] := by
  have hl : (cs.take k).length = k := by rw [List.length_take]; omega
  rw [← take_snocK cs k hk, List.eraseIdx_append, hl]
  by_cases h : G < k
  · rw [if_pos h, if_neg (by omega)]
  · rw [if_neg h]
    by_cases e : k = G
    · rw [if_pos e, e, Nat.sub_self, List.eraseIdx_of_length_le (l := cs.take G) (by rw [← e, hl]; omega)]
      simp
    · rw [if_neg e, List.eraseIdx_of_length_le (l := cs.take k) (by omega), List.eraseIdx_of_length_le (l := [cs.getD k .dflt]) (by simp; omega)]
theorem OwnP.grownB {w w' : World} {B : Nat} {v : Value} {ps : List PKV} (h : OwnP w B v ps) (hg : w.grownBy w' v.ownBlock) (hB : B ≤ w.heap.size) : Below B w w' := gb_below hg hB fun k hk => (World.ownsRow.lt h k hk).1
theorem ite_no {c P Q : Prop} [Decidable c] (hc : ¬ c) (h : Q) : if c then P else Q := by rw [if_neg hc]; exact h
theorem vecs_none (w : World) : VecsAt w none 0 [] := ⟨rfl, .inl rfl, fun b off i ai k ci e => by cases e⟩
theorem rpvecs_nil (a : Option Addr) (c : Nat) (w : World) : Calls Tryz.prog 60 #[.slice a 0 c] w fun e w' => e = .returned (.slice none 0 0) ∧ w' = w := by
  go_enter Tryz.func60, Tryz.ntmps60
  go_wp2
  go_loop [3, 4] (fun o i => o = .slice none 0 0 ∧ i = .int .i64 0) (fun _ _ => 0)
  case atStart => exact ⟨rfl, rfl⟩
  case round =>
    obtain ⟨rfl, rfl⟩ := hrel
    go_wp2
    go_ret
    exact ⟨rfl, rfl⟩
/-- An equation that no simp looks into. -/
def IsK (a b : List PKV) : Prop := a = b
def IsN (a b : Nat) : Prop := a = b
def Is3 (a b : World) : Prop := a = b
set_option maxHeartbeats 2000000 in
theorem rbput_bad (a : Option Addr) (c m : Nat) (cs : List PKV) (p : PKV) (w : World) (hr : RowAt w p.r.a p.r.n p.r.xs) (hok : okD p.pd = false) :
    Calls Tryz.prog 36 #[.slice a cs.length c, .int .i64 (m : Int), p.val] w fun e w' => RputB w w' m (.slice a cs.length c) cs p e := by
  unfold PKV.val
  have hb0 := pk_low w p
  have hrr := hr.below hb0
  have hx := pk_new w (.int .i64 p.o) (.int .i64 p.l) (.int .i64 p.k) (.int .i64 p.z) (.int .i64 p.h) (.slice p.r.a p.r.n p.r.c) (.string p.r.s)
  generalize hW : w.alloc (.cells #[.int .i64 p.o, .int .i64 p.l, .int .i64 p.k, .int .i64 p.z, .int .i64 p.h, .slice p.r.a p.r.n p.r.c, .string p.r.s] 42) = W at *
  obtain ⟨q0, q1, q2, q3, q4, q5, q6⟩ := id hx
  have HB0 := hide hb0
  have HTK : Hid (takeD m (cs.map PKV.pd) p.pd = (decide (0 < m) && okD p.pd && alkH (cs.map PKV.pd) p.pd && freshB (vecsD (cs.map PKV.pd)) p.r.xs)) := hide rfl
  have s0 := cell_regrown q0
  have s1 := cell_regrown q1
  have s2 := cell_regrown q2
  have s3 := cell_regrown q3
  have s4 := cell_regrown q4
  have s5 := cell_regrown q5
  have s6 := cell_regrown q6
  have cC := hide (quietB (W := W) (fun w' hb => rcheck_any p.o p.l p.k p.z p.h p.r.a p.r.n p.r.c p.r.xs p.r.s w' (hrr.below hb) 1 (ckD_no hok)))
  have HE : Hid (takeD m (cs.map PKV.pd) p.pd = false) := hide (by rw [unhide HTK, hok]; simp)
  clear hr hrr hb0 hx q0 q1 q2 q3 q4 q5 q6 hok HTK
  go_enter Tryz.func36, Tryz.ntmps36
  go_wp2_with fail
  refine wp_region_quiet_below (by kernel_rfl) (by kernel_rfl) ?_
  repeat (with_reducible refine wpQuiet_step (fun K hK => ?_); go_simp; first | (with_reducible refine hK _ ?_; clear hK K) | (refine ite_no (by decide) ?_; with_reducible refine hK _ ?_; clear hK K) | (apply Exists.intro; apply And.intro; (intro _; first | (go_at_call 22; exact unhide cC _ _)); with_reducible refine hK _ ?_; clear hK K))
  refine wpQuiet_nil ?_
  intro w3 hw3
  obtain ⟨⟨dq, osq⟩, hw3⟩ := hw3
  have B3 := hide (below0 (unhide HB0) (show Below W.heap.size W w3 by rw [hw3]; exact below_regrown _ dq osq))
  clear hw3 dq osq
  go_wp2
  go_ret2
  exact RputB.no (unhide HE) (unhide B3)
set_option maxHeartbeats 2000000 in
theorem rbput_none (a : Option Addr) (c : Nat) (cs : List PKV) (p : PKV) (w : World) (hr : RowAt w p.r.a p.r.n p.r.xs) (hok : okD p.pd = true) :
    Calls Tryz.prog 36 #[.slice a cs.length c, .int .i64 0, p.val] w fun e w' => RputB w w' 0 (.slice a cs.length c) cs p e := by
  unfold PKV.val
  have hb0 := pk_low w p
  have hrr := hr.below hb0
  have hx := pk_new w (.int .i64 p.o) (.int .i64 p.l) (.int .i64 p.k) (.int .i64 p.z) (.int .i64 p.h) (.slice p.r.a p.r.n p.r.c) (.string p.r.s)
  generalize hW : w.alloc (.cells #[.int .i64 p.o, .int .i64 p.l, .int .i64 p.k, .int .i64 p.z, .int .i64 p.h, .slice p.r.a p.r.n p.r.c, .string p.r.s] 42) = W at *
  obtain ⟨q0, q1, q2, q3, q4, q5, q6⟩ := id hx
  have HB0 := hide hb0
  have HTK : Hid (takeD 0 (cs.map PKV.pd) p.pd = (decide (0 < 0) && okD p.pd && alkH (cs.map PKV.pd) p.pd && freshB (vecsD (cs.map PKV.pd)) p.r.xs)) := hide rfl
  have s0 := cell_regrown q0
  have s1 := cell_regrown q1
  have s2 := cell_regrown q2
  have s3 := cell_regrown q3
  have s4 := cell_regrown q4
  have s5 := cell_regrown q5
  have s6 := cell_regrown q6
  have cC := hide (quietB (W := W) (fun w' hb => rcheck_any p.o p.l p.k p.z p.h p.r.a p.r.n p.r.c p.r.xs p.r.s w' (hrr.below hb) 0 (ckD_yes hok)))
  have HE : Hid (takeD 0 (cs.map PKV.pd) p.pd = false) := hide (by rw [unhide HTK]; rfl)
  clear hr hrr hb0 hx q0 q1 q2 q3 q4 q5 q6 hok HTK
  go_enter Tryz.func36, Tryz.ntmps36
  go_wp2_with fail
  refine wp_region_quiet_below (by kernel_rfl) (by kernel_rfl) ?_
  repeat (with_reducible refine wpQuiet_step (fun K hK => ?_); go_simp; first | (with_reducible refine hK _ ?_; clear hK K) | (refine ite_no (by decide) ?_; with_reducible refine hK _ ?_; clear hK K) | (apply Exists.intro; apply And.intro; (intro _; first | (go_at_call 22; exact unhide cC _ _)); with_reducible refine hK _ ?_; clear hK K))
  refine wpQuiet_nil ?_
  intro w3 hw3
  obtain ⟨⟨dq, osq⟩, hw3⟩ := hw3
  have B3 := hide (below0 (unhide HB0) (show Below W.heap.size W w3 by rw [hw3]; exact below_regrown _ dq osq))
  clear hw3 dq osq
  go_wp2
  go_ret2
  exact RputB.no (unhide HE) (unhide B3)
set_option maxHeartbeats 2000000 in
theorem rbput_other (a : Option Addr) (c m : Nat) (cs : List PKV) (p : PKV) (w : World) (h : PksAt w a cs.length cs) (hr : RowAt w p.r.a p.r.n p.r.xs) (hok : okD p.pd = true) (hm0 : 0 < m) (hm : m ≤ 256) (h0 : 0 < cs.length) (hab : alkD (cs.getD 0 .dflt).pd p.pd = false) :
    Calls Tryz.prog 36 #[.slice a cs.length c, .int .i64 (m : Int), p.val] w fun e w' => RputB w w' m (.slice a cs.length c) cs p e := by
  unfold PKV.val
  have hb0 := pk_low w p
  have hrr := hr.below hb0
  have hx := pk_new w (.int .i64 p.o) (.int .i64 p.l) (.int .i64 p.k) (.int .i64 p.z) (.int .i64 p.h) (.slice p.r.a p.r.n p.r.c) (.string p.r.s)
  have hP := h.below hb0
  generalize hW : w.alloc (.cells #[.int .i64 p.o, .int .i64 p.l, .int .i64 p.k, .int .i64 p.z, .int .i64 p.h, .slice p.r.a p.r.n p.r.c, .string p.r.s] 42) = W at *
  obtain ⟨q0, q1, q2, q3, q4, q5, q6⟩ := id hx
  have HB0 := hide hb0
  have HTK : Hid (takeD m (cs.map PKV.pd) p.pd = (decide (0 < m) && okD p.pd && alkH (cs.map PKV.pd) p.pd && freshB (vecsD (cs.map PKV.pd)) p.r.xs)) := hide rfl
  have hm1 : decide ((m : Int) < 1) = false := by simp only [decide_eq_false_iff_not]; omega
  have hal : alkH (cs.map PKV.pd) p.pd = alkD (cs.getD 0 .dflt).pd p.pd := by
    cases cs with
    | nil => simp at h0
    | cons q qs => rfl
  have HAL := hide hal
  have h0' : (0 : Int) < (cs.length : Int) := by omega
  obtain ⟨b0, o0, rfl, hcl⟩ := hP.at (i := 0) h0
  obtain ⟨f0, f1, f2, f3, f4, f5, f6⟩ := hcl 0 h0
  rw [Nat.zero_mul, Nat.add_zero] at f0 f1 f2 f3 f4 f5 f6
  generalize hq : cs.getD 0 .dflt = q at *
  have y0 := cell_regrown f0
  have y1 := cell_regrown f1
  have y2 := cell_regrown f2
  have y3 := cell_regrown f3
  have y4 := cell_regrown f4
  have y5 := cell_regrown f5
  have y6 := cell_regrown f6
  have cA := hide (quietB (W := W) (fun w' hb => ralike_any q.o q.l q.k q.z q.h q.r.a q.r.n q.r.c q.r.s p.o p.l p.k p.z p.h p.r.a p.r.n p.r.c p.r.s w' false ⟨(fun e => by cases e), fun e => by unfold alkD at hab; rw [decide_eq_false_iff_not] at hab; exact absurd e hab⟩))
  have s0 := cell_regrown q0
  have s1 := cell_regrown q1
  have s2 := cell_regrown q2
  have s3 := cell_regrown q3
  have s4 := cell_regrown q4
  have s5 := cell_regrown q5
  have s6 := cell_regrown q6
  have cC := hide (quietB (W := W) (fun w' hb => rcheck_any p.o p.l p.k p.z p.h p.r.a p.r.n p.r.c p.r.xs p.r.s w' (hrr.below hb) 0 (ckD_yes hok)))
  have HE : Hid (takeD m (cs.map PKV.pd) p.pd = false) := hide (by rw [unhide HTK, unhide HAL, hab]; simp)
  clear h hr hP hrr hb0 hx q0 q1 q2 q3 q4 q5 q6 f0 f1 f2 f3 f4 f5 f6 hok HTK hal hab HAL hq hcl
  go_enter Tryz.func36, Tryz.ntmps36
  go_wp2_with fail
  refine wp_region_quiet_below (by kernel_rfl) (by kernel_rfl) ?_
  repeat (with_reducible refine wpQuiet_step (fun K hK => ?_); go_simp; first | (with_reducible refine hK _ ?_; clear hK K) | (refine ite_no (by decide) ?_; with_reducible refine hK _ ?_; clear hK K) | (apply Exists.intro; apply And.intro; (intro _; first | (go_at_call 22; exact unhide cC _ _) | (go_at_call 33; exact unhide cA _ _)); with_reducible refine hK _ ?_; clear hK K))
  refine wpQuiet_nil ?_
  intro w3 hw3
  obtain ⟨⟨dq, osq⟩, hw3⟩ := hw3
  have B3 := hide (below0 (unhide HB0) (show Below W.heap.size W w3 by rw [hw3]; exact below_regrown _ dq osq))
  clear hw3 dq osq
  go_wp2
  go_ret2
  exact RputB.no (unhide HE) (unhide B3)
set_option maxHeartbeats 2000000 in
theorem rbput_nil (a : Option Addr) (c m : Nat) (p : PKV) (w : World) (hr : RowAt w p.r.a p.r.n p.r.xs) (hn : p.r.n ≤ 10) (hok : okD p.pd = true) (hm0 : 0 < m) (hm : m ≤ 256) :
    Calls Tryz.prog 36 #[.slice a 0 c, .int .i64 (m : Int), p.val] w fun e w' => RputB w w' m (.slice a 0 c) [] p e := by
  unfold PKV.val
  have hb0 := pk_low w p
  have hrr := hr.below hb0
  have hx := pk_new w (.int .i64 p.o) (.int .i64 p.l) (.int .i64 p.k) (.int .i64 p.z) (.int .i64 p.h) (.slice p.r.a p.r.n p.r.c) (.string p.r.s)
  generalize hW : w.alloc (.cells #[.int .i64 p.o, .int .i64 p.l, .int .i64 p.k, .int .i64 p.z, .int .i64 p.h, .slice p.r.a p.r.n p.r.c, .string p.r.s] 42) = W at *
  obtain ⟨q0, q1, q2, q3, q4, q5, q6⟩ := id hx
  have HB0 := hide hb0
  have HTK : Hid (takeD m (([] : List PKV).map PKV.pd) p.pd = (decide (0 < m) && okD p.pd && alkH (([] : List PKV).map PKV.pd) p.pd && freshB (vecsD (([] : List PKV).map PKV.pd)) p.r.xs)) := hide rfl
  have hm1 : decide ((m : Int) < 1) = false := by simp only [decide_eq_false_iff_not]; omega
  have HE : Hid (takeD m (([] : List PKV).map PKV.pd) p.pd = freshB (vecsD (([] : List PKV).map PKV.pd)) p.r.xs) := hide (by rw [unhide HTK, hok, decide_eq_true hm0]; rfl)
  have s0 := cell_regrown q0
  have s1 := cell_regrown q1
  have s2 := cell_regrown q2
  have s3 := cell_regrown q3
  have s4 := cell_regrown q4
  have s5 := cell_regrown q5
  have s6 := cell_regrown q6
  have cC := hide (quietB (W := W) (fun w' hb => rcheck_any p.o p.l p.k p.z p.h p.r.a p.r.n p.r.c p.r.xs p.r.s w' (hrr.below hb) 0 (ckD_yes hok)))
  have cV := hide (quietB (W := W) (fun w' hb => same_below (rpvecs_nil a c w')))
  have cF := hide (quietB (W := W) (fun w' hb => rfresh_any none 0 0 (vecsD (([] : List PKV).map PKV.pd)) p.r.a p.r.n p.r.c p.r.xs w' (vecs_none w') (Fit.nil _) (hrr.below hb) (by omega) (by omega)))
  have HBX := hide hx
  clear hr hrr hb0 hx hok HTK q0 q1 q2 q3 q4 q5 q6
  generalize hFR : freshB (vecsD (([] : List PKV).map PKV.pd)) p.r.xs = FR at *
  go_enter Tryz.func36, Tryz.ntmps36
  go_wp2_with fail
  refine wp_region_quiet_below (by kernel_rfl) (by kernel_rfl) ?_
  repeat (with_reducible refine wpQuiet_step (fun K hK => ?_); go_simp; first | (with_reducible refine hK _ ?_; clear hK K) | (refine ite_no (by decide) ?_; with_reducible refine hK _ ?_; clear hK K) | (apply Exists.intro; apply And.intro; (intro _; first | (go_at_call 22; exact unhide cC _ _) | (go_at_call 60; exact unhide cV _ _) | (go_at_call 59; exact unhide cF _ _)); with_reducible refine hK _ ?_; clear hK K))
  refine wpQuiet_nil ?_
  intro w3 hw3
  obtain ⟨⟨dq, osq⟩, hw3⟩ := hw3
  have BW := hide (show Below W.heap.size W w3 by rw [hw3]; exact below_regrown _ dq osq)
  have B3 := hide (below0 (unhide HB0) (show Below W.heap.size W w3 by rw [hw3]; exact below_regrown _ dq osq))
  clear hw3 dq osq
  cases FR
  · go_wp2
    go_ret2
    exact RputB.no (unhide HE) (unhide B3)
  have HT : Hid (takeD m (([] : List PKV).map PKV.pd) p.pd = true) := hide (unhide HE)
  have hful : ¬ m ≤ 0 := by omega
  have HZ : Hid (w.heap.size + 1 ≤ w3.heap.size) := hide (by have h1 := (unhide BW).size; have h2 : W.heap.size = w.heap.size + 1 := (by rw [← hW, alloc_size]); omega)
  obtain ⟨x0, x1, x2, x3, x4, x5, x6⟩ := (unhide HBX).below (unhide BW)
  go_wp2
  go_loopw [10, 11] (fun o i wr => o = .slice none 0 0 ∧ i = .int .i64 0 ∧ Hid (Is3 wr w3)) (fun _ _ _ => 0)
  case atStart => exact ⟨rfl, rfl, hide rfl⟩
  case round =>
    obtain ⟨rfl, rfl, HW3⟩ := hrel
    obtain rfl : wr = w3 := unhide HW3
    go_wp2_with (first | (at_builtin; refine wpList_pushP rfl (.tmp 84) (.tmp 86) rfl (w.heap.size + 1) (.slice none 0 0) [] p rfl rfl (OwnP.nil _ _) (unhide HZ) (by decide) ?_; intro g3 cap3 w5 ho3 hg3 hat3; have HO3 := hide ho3; have HB3 := hide ((OwnP.nil wr (w.heap.size + 1)).grownB hg3 (unhide HZ)); clear ho3 hg3 hat3))
    go_ret2
    refine RputB.yes (unhide HT) (G := 0) (by unfold leftD; rw [List.length_map, List.length_nil, if_neg hful]; rfl) ?_ ((unhide B3).trans ((unhide HB3).mono (Nat.le_succ _)))
    exact (unhide HO3).mono (Nat.le_succ _)
end Go.Proofs.YtbcgiodgobmkaaaGreatDoor
