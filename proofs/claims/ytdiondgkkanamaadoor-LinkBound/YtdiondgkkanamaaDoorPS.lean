/-
  Contracts of packet.plainOf, Same and of bucketlineref07.Alike, Same: for every two packets of rows of at most 2^20 words.
-/
import Derived.Test.YtdiondgkkanamaaDoorG7
import Derived.Laws.StructEq
namespace Go.Proofs.YtdiondgkkanamaaDoor
open Go.RowKit Go.Sort
set_option linter.unusedVariables false
set_option maxRecDepth 4000

set_option maxHeartbeats 1000000 in
theorem eq_plain (o l k z h o' l' k' z' h' : Int) (s s' : ByteArray) (b : Bool) (hb : TB b ((o = o' ∧ l = l' ∧ k = k' ∧ z = z' ∧ h = h') ∧ s = s')) (W : World) :
    (binOp .eql 101 (.agg #[.int .i64 o, .int .i64 l, .int .i64 k, .int .i64 z, .int .i64 h, .string s]) (.agg #[.int .i64 o', .int .i64 l', .int .i64 k', .int .i64 z', .int .i64 h', .string s'])).run Tryd.prog W = .ok (.bool b) W := by
  obtain rfl : b = decide ((o = o' ∧ l = l' ∧ k = k' ∧ z = z' ∧ h = h') ∧ s = s') := by
    rw [eq_comm, Bool.eq_iff_iff, decide_eq_true_iff]
    exact hb.symm
  clear hb
  rw [run_eql_struct, run_equalIn_struct (d := 9999) (ht := by kernel_rfl) (hp := by kernel_rfl)]
  simp only [Program.fieldsOf, Tryd.underlying101]
  by_cases h1 : o = o'
  · by_cases h2 : l = l'
    · by_cases h3 : k = k'
      · by_cases h4 : z = z'
        · by_cases h5 : h = h'
          · have e6 := eq_texts s s'
            by_cases h6 : s = s' <;> simp [Op.eqFields, part, go_sem, Tryd.underlying3, Tryd.underlying9, h1, h2, h3, h4, h5, h6, e6]
          · simp [Op.eqFields, part, go_sem, Tryd.underlying3, h1, h2, h3, h4, h5]
        · simp [Op.eqFields, part, go_sem, Tryd.underlying3, h1, h2, h3, h4]
      · simp [Op.eqFields, part, go_sem, Tryd.underlying3, h1, h2, h3]
    · simp [Op.eqFields, part, go_sem, Tryd.underlying3, h1, h2]
  · simp [Op.eqFields, part, go_sem, Tryd.underlying3, h1]

theorem below2' (w : World) (o o' : Obj) : Below w.heap.size w ((w.alloc o).alloc o') := ((Below.refl _ _).alloc (Nat.le_refl _) _).alloc (by simp) _

set_option maxHeartbeats 1000000 in
theorem plain_any (o l k z h : Int) (x : Value) (s : ByteArray) (w : World) :
    Calls Tryd.prog 58 #[.agg #[.int .i64 o, .int .i64 l, .int .i64 k, .int .i64 z, .int .i64 h, x, .string s]] w fun e w' => e = .returned (.agg #[.int .i64 o, .int .i64 l, .int .i64 k, .int .i64 z, .int .i64 h, .string s]) ∧ Below w.heap.size w w' := by
  go_enter Tryd.func58, Tryd.ntmps58
  go_wp2
  exact bodyPost_ret (v := .agg #[.int .i64 o, .int .i64 l, .int .i64 k, .int .i64 z, .int .i64 h, .string s]) (by simp [results, Tryd.results58, go_sem]) rfl ⟨rfl, below2' w _ _⟩

/-- All fields alike; of the rows words of 0 at the end make no difference. -/
def SameP (o l k z h : Int) (xs : List Nat) (s : ByteArray) (o' l' k' z' h' : Int) (ys : List Nat) (t : ByteArray) : Prop := ((o = o' ∧ l = l' ∧ k = k' ∧ z = z' ∧ h = h') ∧ s = t) ∧ cnt (xorL xs ys) = 0
theorem first_cnt {xs ys : List Nat} (hx : smalls xs) (hy : smalls ys) : decide (firstI (xorL xs ys) < 0) = decide (cnt (xorL xs ys) = 0) := by
  have h1 := firstI_nonneg_iff (xorL xs ys)
  by_cases h : cnt (xorL xs ys) = 0
  · rw [decide_eq_true h, decide_eq_true (h1.2 (zero_of_cnt _ (xorL_small hx hy) h))]
  · rw [decide_eq_false h, decide_eq_false (fun h2 => h (cnt_of_zero _ (h1.1 h2)))]

set_option maxHeartbeats 2000000 in
theorem psame_any (o l k z h : Int) (a : Option Addr) (n c : Nat) (xs : List Nat) (s : ByteArray) (o' l' k' z' h' : Int) (a' : Option Addr) (m c' : Nat) (ys : List Nat) (t : ByteArray) (w : World) (ht : Tab w) (hr : RowAt w a n xs) (hr' : RowAt w a' m ys) (hn : n ≤ 1048576) (hm : m ≤ 1048576) (b : Bool) (hb : TB b (SameP o l k z h xs s o' l' k' z' h' ys t)) :
    Calls Tryd.prog 46 #[.agg #[.int .i64 o, .int .i64 l, .int .i64 k, .int .i64 z, .int .i64 h, .slice a n c, .string s], .agg #[.int .i64 o', .int .i64 l', .int .i64 k', .int .i64 z', .int .i64 h', .slice a' m c', .string t]] w fun e w' => e = .returned (.bool b) ∧ Below w.heap.size w w' := by
  have HB := hide hb
  obtain ⟨b1, h1⟩ := tb_ex ((o = o' ∧ l = l' ∧ k = k' ∧ z = z' ∧ h = h') ∧ s = t)
  have H1 := hide h1
  have hq := eq_plain o l k z h o' l' k' z' h' s t b1 h1
  have hg : Tryd.prog.eqGuardType Tryd.prog.depth 101 = false := by kernel_rfl
  have x1 := (pk_new w (.int .i64 o) (.int .i64 l) (.int .i64 k) (.int .i64 z) (.int .i64 h) (.slice a n c) (.string s)).alloc (.cells #[.int .i64 o', .int .i64 l', .int .i64 k', .int .i64 z', .int .i64 h', .slice a' m c', .string t] 34)
  have x2 := pk_new (w.alloc (.cells #[.int .i64 o, .int .i64 l, .int .i64 k, .int .i64 z, .int .i64 h, .slice a n c, .string s] 34)) (.int .i64 o') (.int .i64 l') (.int .i64 k') (.int .i64 z') (.int .i64 h') (.slice a' m c') (.string t)
  rw [alloc_size] at x2
  obtain ⟨x10, x11, x12, x13, x14, x15, x16⟩ := x1
  obtain ⟨x20, x21, x22, x23, x24, x25, x26⟩ := x2
  have k10 := cell_regrown x10
  have k11 := cell_regrown x11
  have k12 := cell_regrown x12
  have k13 := cell_regrown x13
  have k14 := cell_regrown x14
  have k15 := cell_regrown x15
  have k16 := cell_regrown x16
  have k20 := cell_regrown x20
  have k21 := cell_regrown x21
  have k22 := cell_regrown x22
  have k23 := cell_regrown x23
  have k24 := cell_regrown x24
  have k25 := cell_regrown x25
  have k26 := cell_regrown x26
  have c1 := quietB (W := (w.alloc (.cells #[.int .i64 o, .int .i64 l, .int .i64 k, .int .i64 z, .int .i64 h, .slice a n c, .string s] 34)).alloc (.cells #[.int .i64 o', .int .i64 l', .int .i64 k', .int .i64 z', .int .i64 h', .slice a' m c', .string t] 34)) (fun w' hb => plain_any o l k z h (.slice a n c) s w')
  have c2 := quietB (W := (w.alloc (.cells #[.int .i64 o, .int .i64 l, .int .i64 k, .int .i64 z, .int .i64 h, .slice a n c, .string s] 34)).alloc (.cells #[.int .i64 o', .int .i64 l', .int .i64 k', .int .i64 z', .int .i64 h', .slice a' m c', .string t] 34)) (fun w' hb => plain_any o' l' k' z' h' (.slice a' m c') t w')
  have c3 := quietB (W := (w.alloc (.cells #[.int .i64 o, .int .i64 l, .int .i64 k, .int .i64 z, .int .i64 h, .slice a n c, .string s] 34)).alloc (.cells #[.int .i64 o', .int .i64 l', .int .i64 k', .int .i64 z', .int .i64 h', .slice a' m c', .string t] 34)) (fun w' hb => same_any a n c xs a' m c' ys w' (ht.below (below2 (Below.refl _ w) hb)) (hr.below (below2 (Below.refl _ w) hb)) (hr'.below (below2 (Below.refl _ w) hb)) hn hm)
  rw [first_cnt hr.2.1 hr'.2.1] at c3
  clear hb h1 ht hr hr' hn hm x10 x11 x12 x13 x14 x15 x16 x20 x21 x22 x23 x24 x25 x26
  cases b1
  · go_enter Tryd.func46, Tryd.ntmps46
    go_wp2_with fail
    refine wp_region_quiet_below (by kernel_rfl) (by kernel_rfl) ?_
    repeat (with_reducible refine wpQuiet_step (fun K hK => ?_); go_simp; first | (with_reducible refine hK _ ?_; clear hK K) | (apply Exists.intro; apply And.intro; (intro _; first | (go_at_call 58; first | with_reducible exact c1 _ _ | with_reducible exact c2 _ _) | (go_at_call 59; exact c3 _ _)); with_reducible refine hK _ ?_; clear hK K))
    refine wpQuiet_nil ?_
    intro w3 hw3
    obtain ⟨⟨dq, osq⟩, hw3⟩ := hw3
    have hb3 : Below ((w.alloc (.cells #[.int .i64 o, .int .i64 l, .int .i64 k, .int .i64 z, .int .i64 h, .slice a n c, .string s] 34)).alloc (.cells #[.int .i64 o', .int .i64 l', .int .i64 k', .int .i64 z', .int .i64 h', .slice a' m c', .string t] 34)).heap.size ((w.alloc (.cells #[.int .i64 o, .int .i64 l, .int .i64 k, .int .i64 z, .int .i64 h, .slice a n c, .string s] 34)).alloc (.cells #[.int .i64 o', .int .i64 l', .int .i64 k', .int .i64 z', .int .i64 h', .slice a' m c', .string t] 34)) w3 := by rw [hw3]; exact below_regrown _ dq osq
    have B3 := hide (below2 (Below.refl _ w) hb3)
    clear hw3 hb3 dq osq
    go_wp2
    go_ret
    exact ⟨ret_bool ((unhide HB).no (fun h => by simpa using (unhide H1).2 h.1)).symm, unhide B3⟩
  · by_cases hz : cnt (xorL xs ys) = 0
    · rw [decide_eq_true hz] at c3
      have HZ := hide hz
      clear hz
      go_enter Tryd.func46, Tryd.ntmps46
      go_wp2_with fail
      refine wp_region_quiet_below (by kernel_rfl) (by kernel_rfl) ?_
      repeat (with_reducible refine wpQuiet_step (fun K hK => ?_); go_simp; first | (with_reducible refine hK _ ?_; clear hK K) | (apply Exists.intro; apply And.intro; (intro _; first | (go_at_call 58; first | with_reducible exact c1 _ _ | with_reducible exact c2 _ _) | (go_at_call 59; exact c3 _ _)); with_reducible refine hK _ ?_; clear hK K))
      refine wpQuiet_nil ?_
      intro w3 hw3
      obtain ⟨⟨dq, osq⟩, hw3⟩ := hw3
      have hb3 : Below ((w.alloc (.cells #[.int .i64 o, .int .i64 l, .int .i64 k, .int .i64 z, .int .i64 h, .slice a n c, .string s] 34)).alloc (.cells #[.int .i64 o', .int .i64 l', .int .i64 k', .int .i64 z', .int .i64 h', .slice a' m c', .string t] 34)).heap.size ((w.alloc (.cells #[.int .i64 o, .int .i64 l, .int .i64 k, .int .i64 z, .int .i64 h, .slice a n c, .string s] 34)).alloc (.cells #[.int .i64 o', .int .i64 l', .int .i64 k', .int .i64 z', .int .i64 h', .slice a' m c', .string t] 34)) w3 := by rw [hw3]; exact below_regrown _ dq osq
      have B3 := hide (below2 (Below.refl _ w) hb3)
      clear hw3 hb3 dq osq
      go_wp2
      go_ret
      exact ⟨ret_bool ((unhide HB).yes ⟨(unhide H1).1 rfl, unhide HZ⟩).symm, unhide B3⟩
    · rw [decide_eq_false hz] at c3
      have HZ := hide hz
      clear hz
      go_enter Tryd.func46, Tryd.ntmps46
      go_wp2_with fail
      refine wp_region_quiet_below (by kernel_rfl) (by kernel_rfl) ?_
      repeat (with_reducible refine wpQuiet_step (fun K hK => ?_); go_simp; first | (with_reducible refine hK _ ?_; clear hK K) | (apply Exists.intro; apply And.intro; (intro _; first | (go_at_call 58; first | with_reducible exact c1 _ _ | with_reducible exact c2 _ _) | (go_at_call 59; exact c3 _ _)); with_reducible refine hK _ ?_; clear hK K))
      refine wpQuiet_nil ?_
      intro w3 hw3
      obtain ⟨⟨dq, osq⟩, hw3⟩ := hw3
      have hb3 : Below ((w.alloc (.cells #[.int .i64 o, .int .i64 l, .int .i64 k, .int .i64 z, .int .i64 h, .slice a n c, .string s] 34)).alloc (.cells #[.int .i64 o', .int .i64 l', .int .i64 k', .int .i64 z', .int .i64 h', .slice a' m c', .string t] 34)).heap.size ((w.alloc (.cells #[.int .i64 o, .int .i64 l, .int .i64 k, .int .i64 z, .int .i64 h, .slice a n c, .string s] 34)).alloc (.cells #[.int .i64 o', .int .i64 l', .int .i64 k', .int .i64 z', .int .i64 h', .slice a' m c', .string t] 34)) w3 := by rw [hw3]; exact below_regrown _ dq osq
      have B3 := hide (below2 (Below.refl _ w) hb3)
      clear hw3 hb3 dq osq
      go_wp2
      go_ret
      exact ⟨ret_bool ((unhide HB).no (fun h => unhide HZ h.2)).symm, unhide B3⟩
end Go.Proofs.YtdiondgkkanamaaDoor
