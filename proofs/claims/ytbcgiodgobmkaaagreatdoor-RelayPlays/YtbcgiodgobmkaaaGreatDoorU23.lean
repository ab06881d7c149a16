/-
  Contracts of packet.plainOf, Same and of bucketlineref07.Alike, Same: for every two packets of rows of at most 2^20 words.
  Contracts of bucketlineref07.Alike and Same: for every two packets of rows of at most 2^20 words.
  Packets compared as data: contracts of bucketlineref07.Same, and of bucketlineref07.All of equal packets.
  Packets that came in and a buffer that turns; two buffers side by side; a buffer and the reference's packets. No condition.
  Plain mathematics of mixing packets: those at the places that are there ('selD'), the packet that they make ('mixD'); it may be, where they may ('mix_ok'). No condition.
-/
import Derived.Test.YtbcgiodgobmkaaaGreatDoorU22
import Derived.Laws.StructEq
import Derived.Test.YtbcgiodgobmkaaaGreatDoorU8
import Derived.BigQuiet
import Derived.Test.YtbcgiodgobmkaaaGreatDoorU3
namespace Go.Proofs.YtbcgiodgobmkaaaGreatDoor
open Go.RowKit Go.Sort
set_option linter.unusedVariables false
set_option linter.unusedSimpArgs false
set_option maxRecDepth 4000

set_option maxHeartbeats 1000000 in
theorem eq_plain (o l k z h o' l' k' z' h' : Int) (s s' : ByteArray) (b : Bool) (hb : TB b ((o = o' ∧ l = l' ∧ k = k' ∧ z = z' ∧ h = h') ∧ s = s')) (W : World) :
    (binOp .eql 124 (.agg #[.int .i64 o, .int .i64 l, .int .i64 k, .int .i64 z, .int .i64 h, .string s]) (.agg #[.int .i64 o', .int .i64 l', .int .i64 k', .int .i64 z', .int .i64 h', .string s'])).run Tryz.prog W = .ok (.bool b) W := by
  obtain rfl : b = decide ((o = o' ∧ l = l' ∧ k = k' ∧ z = z' ∧ h = h') ∧ s = s') := by
    rw [eq_comm, Bool.eq_iff_iff, decide_eq_true_iff]
    exact hb.symm
  clear hb
  rw [run_eql_struct, run_equalIn_struct (d := 9999) (ht := by kernel_rfl) (hp := by kernel_rfl)]
  simp only [Program.fieldsOf, Tryz.underlying124]
  by_cases h1 : o = o'
  · by_cases h2 : l = l'
    · by_cases h3 : k = k'
      · by_cases h4 : z = z'
        · by_cases h5 : h = h'
          · have e6 := eq_texts s s'
            by_cases h6 : s = s' <;> simp [Op.eqFields, part, go_sem, Tryz.underlying3, Tryz.underlying9, h1, h2, h3, h4, h5, h6, e6]
          · simp [Op.eqFields, part, go_sem, Tryz.underlying3, h1, h2, h3, h4, h5]
        · simp [Op.eqFields, part, go_sem, Tryz.underlying3, h1, h2, h3, h4]
      · simp [Op.eqFields, part, go_sem, Tryz.underlying3, h1, h2, h3]
    · simp [Op.eqFields, part, go_sem, Tryz.underlying3, h1, h2]
  · simp [Op.eqFields, part, go_sem, Tryz.underlying3, h1]

theorem below2' (w : World) (o o' : Obj) : Below w.heap.size w ((w.alloc o).alloc o') := ((Below.refl _ _).alloc (Nat.le_refl _) _).alloc (by simp) _

set_option maxHeartbeats 1000000 in
theorem plain_any (o l k z h : Int) (x : Value) (s : ByteArray) (w : World) :
    Calls Tryz.prog 79 #[.agg #[.int .i64 o, .int .i64 l, .int .i64 k, .int .i64 z, .int .i64 h, x, .string s]] w fun e w' => e = .returned (.agg #[.int .i64 o, .int .i64 l, .int .i64 k, .int .i64 z, .int .i64 h, .string s]) ∧ Below w.heap.size w w' := by
  go_enter Tryz.func79, Tryz.ntmps79
  go_wp2
  exact bodyPost_ret (v := .agg #[.int .i64 o, .int .i64 l, .int .i64 k, .int .i64 z, .int .i64 h, .string s]) (by simp [results, Tryz.results79, go_sem]) rfl ⟨rfl, below2' w _ _⟩

/-- All fields alike; of the rows words of 0 at the end make no difference. -/
def SameP (o l k z h : Int) (xs : List Nat) (s : ByteArray) (o' l' k' z' h' : Int) (ys : List Nat) (t : ByteArray) : Prop := ((o = o' ∧ l = l' ∧ k = k' ∧ z = z' ∧ h = h') ∧ s = t) ∧ cnt (xorL xs ys) = 0
theorem first_cnt {xs ys : List Nat} (hx : smalls xs) (hy : smalls ys) : decide (firstI (xorL xs ys) < 0) = decide (cnt (xorL xs ys) = 0) := by
  have h1 := firstI_nonneg_iff (xorL xs ys)
  by_cases h : cnt (xorL xs ys) = 0
  · rw [decide_eq_true h, decide_eq_true (h1.2 (zero_of_cnt _ (xorL_small hx hy) h))]
  · rw [decide_eq_false h, decide_eq_false (fun h2 => h (cnt_of_zero _ (h1.1 h2)))]

set_option maxHeartbeats 2000000 in
theorem psame_any (o l k z h : Int) (a : Option Addr) (n c : Nat) (xs : List Nat) (s : ByteArray) (o' l' k' z' h' : Int) (a' : Option Addr) (m c' : Nat) (ys : List Nat) (t : ByteArray) (w : World) (ht : Tab w) (hr : RowAt w a n xs) (hr' : RowAt w a' m ys) (hn : n ≤ 1048576) (hm : m ≤ 1048576) (b : Bool) (hb : TB b (SameP o l k z h xs s o' l' k' z' h' ys t)) :
    Calls Tryz.prog 69 #[.agg #[.int .i64 o, .int .i64 l, .int .i64 k, .int .i64 z, .int .i64 h, .slice a n c, .string s], .agg #[.int .i64 o', .int .i64 l', .int .i64 k', .int .i64 z', .int .i64 h', .slice a' m c', .string t]] w fun e w' => e = .returned (.bool b) ∧ Below w.heap.size w w' := by
  have HB := hide hb
  obtain ⟨b1, h1⟩ := tb_ex ((o = o' ∧ l = l' ∧ k = k' ∧ z = z' ∧ h = h') ∧ s = t)
  have H1 := hide h1
  have hq := eq_plain o l k z h o' l' k' z' h' s t b1 h1
  have hg : Tryz.prog.eqGuardType Tryz.prog.depth 124 = false := by kernel_rfl
  have x1 := (pk_new w (.int .i64 o) (.int .i64 l) (.int .i64 k) (.int .i64 z) (.int .i64 h) (.slice a n c) (.string s)).alloc (.cells #[.int .i64 o', .int .i64 l', .int .i64 k', .int .i64 z', .int .i64 h', .slice a' m c', .string t] 42)
  have x2 := pk_new (w.alloc (.cells #[.int .i64 o, .int .i64 l, .int .i64 k, .int .i64 z, .int .i64 h, .slice a n c, .string s] 42)) (.int .i64 o') (.int .i64 l') (.int .i64 k') (.int .i64 z') (.int .i64 h') (.slice a' m c') (.string t)
  rw [alloc_size] at x2
  obtain ⟨x10, x11, x12, x13, x14, x15, x16⟩ := x1
  obtain ⟨x20, x21, x22, x23, x24, x25, x26⟩ := x2
  have k10 := cell_regrown x10
  have k11 := cell_regrown x11
  have k12 := cell_regrown x12
  have k13 := cell_regrown x13
  have k14 := cell_regrown x14
  have k15 := cell_regrown x15
  have k16 := cell_regrown x16
  have k20 := cell_regrown x20
  have k21 := cell_regrown x21
  have k22 := cell_regrown x22
  have k23 := cell_regrown x23
  have k24 := cell_regrown x24
  have k25 := cell_regrown x25
  have k26 := cell_regrown x26
  have c1 := quietB (W := (w.alloc (.cells #[.int .i64 o, .int .i64 l, .int .i64 k, .int .i64 z, .int .i64 h, .slice a n c, .string s] 42)).alloc (.cells #[.int .i64 o', .int .i64 l', .int .i64 k', .int .i64 z', .int .i64 h', .slice a' m c', .string t] 42)) (fun w' hb => plain_any o l k z h (.slice a n c) s w')
  have c2 := quietB (W := (w.alloc (.cells #[.int .i64 o, .int .i64 l, .int .i64 k, .int .i64 z, .int .i64 h, .slice a n c, .string s] 42)).alloc (.cells #[.int .i64 o', .int .i64 l', .int .i64 k', .int .i64 z', .int .i64 h', .slice a' m c', .string t] 42)) (fun w' hb => plain_any o' l' k' z' h' (.slice a' m c') t w')
  have c3 := quietB (W := (w.alloc (.cells #[.int .i64 o, .int .i64 l, .int .i64 k, .int .i64 z, .int .i64 h, .slice a n c, .string s] 42)).alloc (.cells #[.int .i64 o', .int .i64 l', .int .i64 k', .int .i64 z', .int .i64 h', .slice a' m c', .string t] 42)) (fun w' hb => same_any a n c xs a' m c' ys w' (ht.below (below2 (Below.refl _ w) hb)) (hr.below (below2 (Below.refl _ w) hb)) (hr'.below (below2 (Below.refl _ w) hb)) hn hm)
  rw [first_cnt hr.2.1 hr'.2.1] at c3
  clear hb h1 ht hr hr' hn hm x10 x11 x12 x13 x14 x15 x16 x20 x21 x22 x23 x24 x25 x26
  cases b1
  · go_enter Tryz.func69, Tryz.ntmps69
    go_wp2_with fail
    refine wp_region_quiet_below (by kernel_rfl) (by kernel_rfl) ?_
    repeat (with_reducible refine wpQuiet_step (fun K hK => ?_); go_simp; first | (with_reducible refine hK _ ?_; clear hK K) | (apply Exists.intro; apply And.intro; (intro _; first | (go_at_call 79; first | with_reducible exact c1 _ _ | with_reducible exact c2 _ _) | (go_at_call 80; exact c3 _ _)); with_reducible refine hK _ ?_; clear hK K))
    refine wpQuiet_nil ?_
    intro w3 hw3
    obtain ⟨⟨dq, osq⟩, hw3⟩ := hw3
    have hb3 : Below ((w.alloc (.cells #[.int .i64 o, .int .i64 l, .int .i64 k, .int .i64 z, .int .i64 h, .slice a n c, .string s] 42)).alloc (.cells #[.int .i64 o', .int .i64 l', .int .i64 k', .int .i64 z', .int .i64 h', .slice a' m c', .string t] 42)).heap.size ((w.alloc (.cells #[.int .i64 o, .int .i64 l, .int .i64 k, .int .i64 z, .int .i64 h, .slice a n c, .string s] 42)).alloc (.cells #[.int .i64 o', .int .i64 l', .int .i64 k', .int .i64 z', .int .i64 h', .slice a' m c', .string t] 42)) w3 := by rw [hw3]; exact below_regrown _ dq osq
    have B3 := hide (below2 (Below.refl _ w) hb3)
    clear hw3 hb3 dq osq
    go_wp2
    go_ret
    exact ⟨ret_bool ((unhide HB).no (fun h => by simpa using (unhide H1).2 h.1)).symm, unhide B3⟩
  · by_cases hz : cnt (xorL xs ys) = 0
    · rw [decide_eq_true hz] at c3
      have HZ := hide hz
      clear hz
      go_enter Tryz.func69, Tryz.ntmps69
      go_wp2_with fail
      refine wp_region_quiet_below (by kernel_rfl) (by kernel_rfl) ?_
      repeat (with_reducible refine wpQuiet_step (fun K hK => ?_); go_simp; first | (with_reducible refine hK _ ?_; clear hK K) | (apply Exists.intro; apply And.intro; (intro _; first | (go_at_call 79; first | with_reducible exact c1 _ _ | with_reducible exact c2 _ _) | (go_at_call 80; exact c3 _ _)); with_reducible refine hK _ ?_; clear hK K))
      refine wpQuiet_nil ?_
      intro w3 hw3
      obtain ⟨⟨dq, osq⟩, hw3⟩ := hw3
      have hb3 : Below ((w.alloc (.cells #[.int .i64 o, .int .i64 l, .int .i64 k, .int .i64 z, .int .i64 h, .slice a n c, .string s] 42)).alloc (.cells #[.int .i64 o', .int .i64 l', .int .i64 k', .int .i64 z', .int .i64 h', .slice a' m c', .string t] 42)).heap.size ((w.alloc (.cells #[.int .i64 o, .int .i64 l, .int .i64 k, .int .i64 z, .int .i64 h, .slice a n c, .string s] 42)).alloc (.cells #[.int .i64 o', .int .i64 l', .int .i64 k', .int .i64 z', .int .i64 h', .slice a' m c', .string t] 42)) w3 := by rw [hw3]; exact below_regrown _ dq osq
      have B3 := hide (below2 (Below.refl _ w) hb3)
      clear hw3 hb3 dq osq
      go_wp2
      go_ret
      exact ⟨ret_bool ((unhide HB).yes ⟨(unhide H1).1 rfl, unhide HZ⟩).symm, unhide B3⟩
    · rw [decide_eq_false hz] at c3
      have HZ := hide hz
      clear hz
      go_enter Tryz.func69, Tryz.ntmps69
      go_wp2_with fail
      refine wp_region_quiet_below (by kernel_rfl) (by kernel_rfl) ?_
      repeat (with_reducible refine wpQuiet_step (fun K hK => ?_); go_simp; first | (with_reducible refine hK _ ?_; clear hK K) | (apply Exists.intro; apply And.intro; (intro _; first | (go_at_call 79; first | with_reducible exact c1 _ _ | with_reducible exact c2 _ _) | (go_at_call 80; exact c3 _ _)); with_reducible refine hK _ ?_; clear hK K))
      refine wpQuiet_nil ?_
      intro w3 hw3
      obtain ⟨⟨dq, osq⟩, hw3⟩ := hw3
      have hb3 : Below ((w.alloc (.cells #[.int .i64 o, .int .i64 l, .int .i64 k, .int .i64 z, .int .i64 h, .slice a n c, .string s] 42)).alloc (.cells #[.int .i64 o', .int .i64 l', .int .i64 k', .int .i64 z', .int .i64 h', .slice a' m c', .string t] 42)).heap.size ((w.alloc (.cells #[.int .i64 o, .int .i64 l, .int .i64 k, .int .i64 z, .int .i64 h, .slice a n c, .string s] 42)).alloc (.cells #[.int .i64 o', .int .i64 l', .int .i64 k', .int .i64 z', .int .i64 h', .slice a' m c', .string t] 42)) w3 := by rw [hw3]; exact below_regrown _ dq osq
      have B3 := hide (below2 (Below.refl _ w) hb3)
      clear hw3 hb3 dq osq
      go_wp2
      go_ret
      exact ⟨ret_bool ((unhide HB).no (fun h => unhide HZ h.2)).symm, unhide B3⟩
end Go.Proofs.YtbcgiodgobmkaaaGreatDoor
namespace Go.Proofs.YtbcgiodgobmkaaaGreatDoor
open Go.RowKit
set_option linter.unusedVariables false
set_option linter.unusedSimpArgs false
set_option maxRecDepth 4000

set_option maxHeartbeats 1000000 in
theorem ralike_any (o l k z h : Int) (a : Option Addr) (n c : Nat) (s : ByteArray) (o' l' k' z' h' : Int) (a' : Option Addr) (m c' : Nat) (t : ByteArray) (w : World) (b : Bool) (hb : TB b (o = o' ∧ l = l' ∧ k = k' ∧ z = z')) :
    Calls Tryz.prog 33 #[.agg #[.int .i64 o, .int .i64 l, .int .i64 k, .int .i64 z, .int .i64 h, .slice a n c, .string s], .agg #[.int .i64 o', .int .i64 l', .int .i64 k', .int .i64 z', .int .i64 h', .slice a' m c', .string t]] w fun e w' => e = .returned (.bool b) ∧ Below w.heap.size w w' := by
  have HB := hide hb
  clear hb
  have B0 := hide (below2' w (.cells #[.int .i64 o, .int .i64 l, .int .i64 k, .int .i64 z, .int .i64 h, .slice a n c, .string s] 42) (.cells #[.int .i64 o', .int .i64 l', .int .i64 k', .int .i64 z', .int .i64 h', .slice a' m c', .string t] 42))
  have x1 := (pk_new w (.int .i64 o) (.int .i64 l) (.int .i64 k) (.int .i64 z) (.int .i64 h) (.slice a n c) (.string s)).alloc (.cells #[.int .i64 o', .int .i64 l', .int .i64 k', .int .i64 z', .int .i64 h', .slice a' m c', .string t] 42)
  have x2 := pk_new (w.alloc (.cells #[.int .i64 o, .int .i64 l, .int .i64 k, .int .i64 z, .int .i64 h, .slice a n c, .string s] 42)) (.int .i64 o') (.int .i64 l') (.int .i64 k') (.int .i64 z') (.int .i64 h') (.slice a' m c') (.string t)
  rw [alloc_size] at x2
  obtain ⟨x10, x11, x12, x13, x14, x15, x16⟩ := x1
  obtain ⟨x20, x21, x22, x23, x24, x25, x26⟩ := x2
  by_cases h1 : o = o'
  case neg =>
    have e1 : (o == o') = false := beq_eq_false_iff_ne.2 h1
    have E1 := hide h1
    clear h1
    go_enter Tryz.func33, Tryz.ntmps33
    go_wp2
    go_ret
    exact ⟨ret_bool ((unhide HB).no (fun h => unhide E1 h.1)).symm, unhide B0⟩
  have e1 : (o == o') = true := beq_iff_eq.2 h1
  have E1 := hide h1
  clear h1
  by_cases h2 : l = l'
  case neg =>
    have e2 : (l == l') = false := beq_eq_false_iff_ne.2 h2
    have E2 := hide h2
    clear h2
    go_enter Tryz.func33, Tryz.ntmps33
    go_wp2
    go_ret
    exact ⟨ret_bool ((unhide HB).no (fun h => unhide E2 h.2.1)).symm, unhide B0⟩
  have e2 : (l == l') = true := beq_iff_eq.2 h2
  have E2 := hide h2
  clear h2
  by_cases h3 : k = k'
  case neg =>
    have e3 : (k == k') = false := beq_eq_false_iff_ne.2 h3
    have E3 := hide h3
    clear h3
    go_enter Tryz.func33, Tryz.ntmps33
    go_wp2
    go_ret
    exact ⟨ret_bool ((unhide HB).no (fun h => unhide E3 h.2.2.1)).symm, unhide B0⟩
  have e3 : (k == k') = true := beq_iff_eq.2 h3
  have E3 := hide h3
  clear h3
  by_cases h4 : z = z'
  case neg =>
    have e4 : (z == z') = false := beq_eq_false_iff_ne.2 h4
    have E4 := hide h4
    clear h4
    go_enter Tryz.func33, Tryz.ntmps33
    go_wp2
    go_ret
    exact ⟨ret_bool ((unhide HB).no (fun h => unhide E4 h.2.2.2)).symm, unhide B0⟩
  have e4 : (z == z') = true := beq_iff_eq.2 h4
  have E4 := hide h4
  clear h4
  go_enter Tryz.func33, Tryz.ntmps33
  go_wp2
  go_ret
  exact ⟨ret_bool ((unhide HB).yes ⟨unhide E1, unhide E2, unhide E3, unhide E4⟩).symm, unhide B0⟩

set_option maxHeartbeats 1000000 in
theorem rpsame_any (o l k z h : Int) (a : Option Addr) (n c : Nat) (xs : List Nat) (s : ByteArray) (o' l' k' z' h' : Int) (a' : Option Addr) (m c' : Nat) (ys : List Nat) (t : ByteArray) (w : World) (hr : RowAt w a n xs) (hr' : RowAt w a' m ys) (hn : n ≤ 1048576) (hm : m ≤ 1048576) (b : Bool) (hb : TB b (SameP o l k z h xs s o' l' k' z' h' ys t)) :
    Calls Tryz.prog 12 #[.agg #[.int .i64 o, .int .i64 l, .int .i64 k, .int .i64 z, .int .i64 h, .slice a n c, .string s], .agg #[.int .i64 o', .int .i64 l', .int .i64 k', .int .i64 z', .int .i64 h', .slice a' m c', .string t]] w fun e w' => e = .returned (.bool b) ∧ Below w.heap.size w w' := by
  have HB := hide hb
  clear hb
  obtain ⟨b1, h1⟩ := tb_ex (o = o' ∧ l = l' ∧ k = k' ∧ z = z')
  have H1 := hide h1
  have B0 := hide (below2' w (.cells #[.int .i64 o, .int .i64 l, .int .i64 k, .int .i64 z, .int .i64 h, .slice a n c, .string s] 42) (.cells #[.int .i64 o', .int .i64 l', .int .i64 k', .int .i64 z', .int .i64 h', .slice a' m c', .string t] 42))
  have x1 := (pk_new w (.int .i64 o) (.int .i64 l) (.int .i64 k) (.int .i64 z) (.int .i64 h) (.slice a n c) (.string s)).alloc (.cells #[.int .i64 o', .int .i64 l', .int .i64 k', .int .i64 z', .int .i64 h', .slice a' m c', .string t] 42)
  have x2 := pk_new (w.alloc (.cells #[.int .i64 o, .int .i64 l, .int .i64 k, .int .i64 z, .int .i64 h, .slice a n c, .string s] 42)) (.int .i64 o') (.int .i64 l') (.int .i64 k') (.int .i64 z') (.int .i64 h') (.slice a' m c') (.string t)
  rw [alloc_size] at x2
  have X1 := hide x1
  have X2 := hide x2
  have HR := hide (hr.below (unhide B0))
  have HR' := hide (hr'.below (unhide B0))
  clear hr hr' x1 x2 h1
  go_enter Tryz.func12, Tryz.ntmps12
  go_wp2_with fail
  refine (ralike_any o l k z h a n c s o' l' k' z' h' a' m c' t _ b1 (unhide H1)).mono ?_
  rintro e w1 ⟨rfl, hb1⟩
  obtain ⟨x10, x11, x12, x13, x14, x15, x16⟩ := (unhide X1).below hb1
  obtain ⟨x20, x21, x22, x23, x24, x25, x26⟩ := (unhide X2).below hb1
  have B1 := hide (below0 (unhide B0) hb1)
  have HR1 := hide ((unhide HR).below hb1)
  have HR1' := hide ((unhide HR').below hb1)
  clear hb1
  cases b1
  · go_wp2
    go_ret
    exact ⟨ret_bool ((unhide HB).no (fun h => by simpa using (unhide H1).2 ⟨h.1.1.1, h.1.1.2.1, h.1.1.2.2.1, h.1.1.2.2.2.1⟩)).symm, unhide B1⟩
  · by_cases h5 : h = h'
    case neg =>
      have e5 : (h == h') = false := beq_eq_false_iff_ne.2 h5
      have E5 := hide h5
      clear h5
      go_wp2
      go_ret
      exact ⟨ret_bool ((unhide HB).no (fun h => unhide E5 h.1.1.2.2.2.2)).symm, unhide B1⟩
    have e5 : (h == h') = true := beq_iff_eq.2 h5
    have E5 := hide h5
    clear h5
    go_wp2_with fail
    refine (rsame2_any a n c xs s a' m c' ys t _ (unhide HR1) (unhide HR1') hn hm).mono ?_
    rintro e w2 ⟨rfl, hb2⟩
    have B2 := hide (below0 (unhide B1) hb2)
    clear hb2
    have HE := hide (show (decide (cnt (xorL xs ys) = 0) && decide (s = t)) = b from by
      obtain ⟨d1, d2, d3, d4⟩ := (unhide H1).1 rfl
      have d5 := unhide E5
      rw [eq_comm, Bool.eq_iff_iff, Bool.and_eq_true, decide_eq_true_iff, decide_eq_true_iff]
      exact ⟨fun hbt => by have := (unhide HB).1 hbt; exact ⟨this.2, this.1.2⟩, fun hh => (unhide HB).2 ⟨⟨⟨d1, d2, d3, d4, d5⟩, hh.2⟩, hh.1⟩⟩)
    generalize (decide (cnt (xorL xs ys) = 0) && decide (s = t)) = q at *
    go_wp2
    go_ret
    exact ⟨ret_bool (unhide HE), unhide B2⟩
end Go.Proofs.YtbcgiodgobmkaaaGreatDoor
namespace Go.Proofs.YtbcgiodgobmkaaaGreatDoor
open Go.RowKit Go.Sort
set_option linter.unusedVariables false
set_option linter.unusedSimpArgs false
set_option maxRecDepth 4000

def sameD (p q : PD) : Bool := decide (((p.o = q.o ∧ p.l = q.l ∧ p.k = q.k ∧ p.z = q.z ∧ p.h = q.h) ∧ p.s = q.s) ∧ cnt (xorL p.xs q.xs) = 0)
theorem rpsame_is (p q : PKV) (w : World) (hp : RowAt w p.r.a p.r.n p.r.xs) (hq : RowAt w q.r.a q.r.n q.r.xs) (hn : p.r.n ≤ 1048576) (hm : q.r.n ≤ 1048576) :
    Calls Tryz.prog 12 #[.agg #[.int .i64 p.o, .int .i64 p.l, .int .i64 p.k, .int .i64 p.z, .int .i64 p.h, .slice p.r.a p.r.n p.r.c, .string p.r.s], .agg #[.int .i64 q.o, .int .i64 q.l, .int .i64 q.k, .int .i64 q.z, .int .i64 q.h, .slice q.r.a q.r.n q.r.c, .string q.r.s]] w fun e w' => e = .returned (.bool (sameD p.pd q.pd)) ∧ Below w.heap.size w w' :=
  rpsame_any p.o p.l p.k p.z p.h p.r.a p.r.n p.r.c p.r.xs p.r.s q.o q.l q.k q.z q.h q.r.a q.r.n q.r.c q.r.xs q.r.s w hp hq hn hm (sameD p.pd q.pd) (by unfold TB sameD SameP; rw [decide_eq_true_iff]; rfl)
end Go.Proofs.YtbcgiodgobmkaaaGreatDoor
namespace Go.Proofs.YtbcgiodgobmkaaaGreatDoor
open Go.RowKit Go.Sort
set_option linter.unusedVariables false
set_option linter.unusedSimpArgs false
set_option maxRecDepth 4000

theorem own_lit (w : World) (x : Nat) (hx : x < 18446744073709551616) : Own (w.alloc (.cells #[.int .u64 (x : Int)] 59)) w.heap.size (.slice (some ⟨w.heap.size, 0, none⟩) 1 1) [x] := by
  refine ⟨fun y hy => by rw [List.mem_singleton.1 hy]; exact hx, ⟨rfl, .inr ⟨w.heap.size, 1, #[.int .u64 (x : Int)], rfl, Nat.le_refl _, heap_alloc_new w _, Nat.le_refl 1, by decide, rfl, rfl⟩⟩⟩
/-- What came in: rows that can be read, not too long. -/
def InP (W : World) (ps : List PKV) : Prop := ∀ q ∈ ps, RowAt W q.r.a q.r.n q.r.xs ∧ q.r.n ≤ q.r.c ∧ q.r.n ≤ 10
theorem InP.ks {W w : World} {ps cs : List PKV} (h : InP W ps) (hs : ∀ q ∈ cs, q ∈ ps) (hb : Below W.heap.size W w) : KsIn w cs := fun q hq => ⟨(h q (hs q hq)).1.below hb, (h q (hs q hq)).2.1⟩
end Go.Proofs.YtbcgiodgobmkaaaGreatDoor
namespace Go.Proofs.YtbcgiodgobmkaaaGreatDoor
open Go.RowKit
set_option linter.unusedVariables false
set_option linter.unusedSimpArgs false
set_option maxRecDepth 4000

/-- Those at the places that are there. -/
def selD (L : List PD) (ws : List Int) : List PD := ws.filterMap fun (i : Int) => if 0 ≤ i ∧ i < (L.length : Int) then some (L.getD i.toNat .dflt) else none
/-- The xor of their rows, of their texts; the greatest of their hops. -/
def vecX (Q : List PD) : List Nat := Q.foldl (fun a p => xorL a p.xs) []
def txtX (Q : List PD) : List Nat := Q.foldl (fun a p => xorL a (tx p.s)) []
def hopX : List PD → Int
  | [] => 0
  | p :: Q => Q.foldl (fun a q => max a q.h) p.h
/-- The packet that they make. -/
def mixL : List PD → Option PD
  | [] => none
  | q :: Q => if (∀ p ∈ Q, alkD q p = true) ∧ 0 < cnt (vecX (q :: Q)) ∧ hopX (q :: Q) < 15 then some ⟨q.o, q.l, q.k, q.z, IntKind.i64.wrap (hopX (q :: Q) + 1), vecX (q :: Q), st (txtX (q :: Q))⟩ else none
def mixD (L : List PD) (ws : List Int) : Option PD := mixL (selD L ws)
theorem mixL_cons (q : PD) (Q : List PD) : mixL (q :: Q) = if (∀ p ∈ Q, alkD q p = true) ∧ 0 < cnt (vecX (q :: Q)) ∧ hopX (q :: Q) < 15 then some ⟨q.o, q.l, q.k, q.z, IntKind.i64.wrap (hopX (q :: Q) + 1), vecX (q :: Q), st (txtX (q :: Q))⟩ else none := rfl
theorem hop_fold : ∀ (Q : List PD) (a : Int), a ≤ Q.foldl (fun a q => max a q.h) a ∧ (∀ p ∈ Q, p.h ≤ Q.foldl (fun a q => max a q.h) a) ∧ ∀ b, a ≤ b → (∀ p ∈ Q, p.h ≤ b) → Q.foldl (fun a q => max a q.h) a ≤ b
  | [], a => ⟨Int.le_refl _, (fun p hp => by cases hp), fun b h _ => h⟩
  | q :: Q, a => by
    obtain ⟨h1, h2, h3⟩ := hop_fold Q (max a q.h)
    rw [List.foldl_cons]
    refine ⟨by omega, fun p hp => ?_, fun b hb hp => h3 b (by have := hp q List.mem_cons_self; omega) fun p hq => hp p (List.mem_cons_of_mem _ hq)⟩
    rcases List.mem_cons.1 hp with e | e
    · rw [e]; omega
    · exact h2 p e
theorem hop_le {q : PD} {Q : List PD} {b : Int} (h : ∀ p ∈ q :: Q, p.h ≤ b) : hopX (q :: Q) ≤ b := (hop_fold Q q.h).2.2 b (h q List.mem_cons_self) fun p hp => h p (List.mem_cons_of_mem _ hp)
theorem hop_ge {q : PD} {Q : List PD} {p : PD} (h : p ∈ q :: Q) : p.h ≤ hopX (q :: Q) := by
  rcases List.mem_cons.1 h with e | e
  · rw [e]; exact (hop_fold Q q.h).1
  · exact (hop_fold Q q.h).2.1 p e
theorem valid_xor {k : Int} {a b : List Nat} (ha : ValidP k a) (hb : ValidP k b) : ValidP k (xorL a b) := by
  obtain ⟨a1, a2, a3⟩ := ha
  obtain ⟨b1, b2, b3⟩ := hb
  refine ⟨by rw [xorL_length]; omega, by rw [xorL_length]; omega, fun i hi => ?_⟩
  rw [getB_xorL, a3 i hi, b3 i hi, Bool.xor_false]
theorem vec_valid {k : Int} : ∀ (Q : List PD) (a : List Nat), ValidP k a → (∀ p ∈ Q, ValidP k p.xs) → ValidP k (Q.foldl (fun a p => xorL a p.xs) a)
  | [], a, ha, _ => ha
  | q :: Q, a, ha, h => by
    rw [List.foldl_cons]
    exact vec_valid Q _ (valid_xor ha (h q List.mem_cons_self)) fun p hp => h p (List.mem_cons_of_mem _ hp)
theorem txt_len {m : Nat} : ∀ (Q : List PD) (a : List Nat), a.length = m → (∀ p ∈ Q, p.s.size = m) → (Q.foldl (fun a p => xorL a (tx p.s)) a).length = m
  | [], a, ha, _ => ha
  | q :: Q, a, ha, h => by
    rw [List.foldl_cons]
    refine txt_len Q _ ?_ fun p hp => h p (List.mem_cons_of_mem _ hp)
    rw [xorL_length, tx_length, ha, h q List.mem_cons_self, Nat.max_self]
theorem xorL_nil' (a : List Nat) : xorL [] a = a := by rw [xorL_comm, xorL_nil]
/-- Packets that may be, and are alike, make one that may be, one relay further than the furthest. -/
theorem mix_ok {q : PD} {Q : List PD} {r : PD} (hok : ∀ p ∈ q :: Q, okD p = true) (h : mixL (q :: Q) = some r) : okD r = true ∧ r.h = hopX (q :: Q) + 1 := by
  rw [mixL_cons] at h
  by_cases hc : (∀ p ∈ Q, alkD q p = true) ∧ 0 < cnt (vecX (q :: Q)) ∧ hopX (q :: Q) < 15
  · rw [if_pos hc] at h
    obtain ⟨h1, h2, h3⟩ := hc
    obtain rfl := Option.some.inj h
    have hq := okD_iff.1 (hok q List.mem_cons_self)
    obtain ⟨⟨hs, ho, hl, hh⟩, hv, hcn, hz⟩ := hq
    have hg := hop_ge (q := q) (Q := Q) (p := q) List.mem_cons_self
    have hwr : IntKind.i64.wrap (hopX (q :: Q) + 1) = hopX (q :: Q) + 1 := by rw [IntKind.wrap_i64]; omega
    refine ⟨okD_iff.2 ⟨⟨hs, ho, hl, ?_, ?_⟩, ?_, h2, ?_⟩, hwr⟩
    · show 0 ≤ IntKind.i64.wrap (hopX (q :: Q) + 1)
      omega
    · show IntKind.i64.wrap (hopX (q :: Q) + 1) ≤ 15
      omega
    · show ValidP q.k (vecX (q :: Q))
      unfold vecX
      rw [List.foldl_cons, xorL_nil']
      refine vec_valid Q _ hv fun p hp => ?_
      have h4 := (okD_valid (hok p (List.mem_cons_of_mem _ hp))).1
      have h5 := h1 p hp
      unfold alkD at h5
      rw [decide_eq_true_eq] at h5
      rw [h5.2.2.1]
      exact h4
    · show ((st (txtX (q :: Q))).size : Int) = q.z
      unfold txtX
      rw [st_len, List.foldl_cons, xorL_nil', txt_len (m := q.s.size) Q _ (tx_length _) fun p hp => ?_]
      · exact hz
      · have h4 := (okD_valid (hok p (List.mem_cons_of_mem _ hp))).2.2.1
        have h5 := h1 p hp
        unfold alkD at h5
        rw [decide_eq_true_eq] at h5
        have h6 := h5.2.2.2
        have h7 : (p.s.size : Int) = (q.s.size : Int) := by rw [h4, ← h6, ← hz]
        omega
  · rw [if_neg hc] at h; cases h
end Go.Proofs.YtbcgiodgobmkaaaGreatDoor
