/-
  Contracts of bucketlineref07.sizes, Check, and of bucketlinelaw07.few: for every packet.
  Contracts of packet.plainOf, Same and of bucketlineref07.Alike, Same: for every two packets of rows of at most 2^20 words.
  Contracts of bucketlineref07.Alike and Same: for every two packets of rows of at most 2^20 words.
  Packets compared as data: contracts of bucketlineref07.Same, and of bucketlineref07.All of equal packets.
-/
import Derived.Test.YtmdmipojbeppiaaGreatDoorM11
import Derived.Laws.StructEq
import Derived.Test.YtmdmipojbeppiaaGreatDoorM6
import Derived.BigQuiet
namespace Go.Proofs.YtmdmipojbeppiaaGreatDoor
open Go.RowKit
set_option linter.unusedVariables false
set_option maxRecDepth 4000

set_option maxHeartbeats 400000 in
theorem rsizes_any (k z : Int) (w : World) (b : Bool) (hb : TB b (shapedP k z)) :
    Calls Tryz.prog 46 #[.int .i64 k, .int .i64 z] w fun e w' => e = .returned (.bool b) ∧ w' = w := by
  have HB := hide hb
  clear hb
  by_cases h1 : 1 ≤ k
  · by_cases h2 : k ≤ 128
    · by_cases h3 : 1 ≤ z
      · by_cases h4 : z ≤ 64
        · go_enter Tryz.func46, Tryz.ntmps46
          go_wp2
          go_ret
          exact ⟨ret_bool ((unhide HB).yes ⟨⟨h1, h2⟩, h3, h4⟩).symm, rfl⟩
        · go_enter Tryz.func46, Tryz.ntmps46
          go_wp2
          go_ret
          exact ⟨ret_bool ((unhide HB).no (fun h => by have := h.2.2; omega)).symm, rfl⟩
      · go_enter Tryz.func46, Tryz.ntmps46
        go_wp2
        go_ret
        exact ⟨ret_bool ((unhide HB).no (fun h => by have := h.2.1; omega)).symm, rfl⟩
    · go_enter Tryz.func46, Tryz.ntmps46
      go_wp2
      go_ret
      exact ⟨ret_bool ((unhide HB).no (fun h => by have := h.1.2; omega)).symm, rfl⟩
  · go_enter Tryz.func46, Tryz.ntmps46
    go_wp2
    go_ret
    exact ⟨ret_bool ((unhide HB).no (fun h => by have := h.1.1; omega)).symm, rfl⟩

set_option maxHeartbeats 2000000 in
theorem rcheck_any (o l k z h : Int) (a : Option Addr) (n c : Nat) (xs : List Nat) (s : ByteArray) (w : World) (hr : RowAt w a n xs) (en : Nat) (hen : CkP en (CheckP o l k z h xs s.size)) :
    Calls Tryz.prog 27 #[.agg #[.int .i64 o, .int .i64 l, .int .i64 k, .int .i64 z, .int .i64 h, .slice a n c, .string s]] w fun e w' => e = .returned (.int .i64 ((en : Nat) : Int)) ∧ Below w.heap.size w w' := by
  have HE := hide hen
  obtain ⟨b1, h1⟩ := tb_ex (shapedP k z)
  have H1 := hide h1
  have HL := hide hr.1
  have HR := hide (row_alloc hr (.cells #[.int .i64 o, .int .i64 l, .int .i64 k, .int .i64 z, .int .i64 h, .slice a n c, .string s] 42))
  have B0 := hide (below_new w (.cells #[.int .i64 o, .int .i64 l, .int .i64 k, .int .i64 z, .int .i64 h, .slice a n c, .string s] 42))
  clear hen hr h1
  by_cases c1 : 0 ≤ o
  case neg =>
    go_enter Tryz.func27, Tryz.ntmps27
    go_wp2
    go_ret
    exact ⟨ret_int (by rw [(unhide HE).no (fun h => by have := h.1.2.1.1; omega)]; rfl), unhide B0⟩
  by_cases c2 : o ≤ 4294967295
  case neg =>
    go_enter Tryz.func27, Tryz.ntmps27
    go_wp2
    go_ret
    exact ⟨ret_int (by rw [(unhide HE).no (fun h => by have := h.1.2.1.2; omega)]; rfl), unhide B0⟩
  go_enter Tryz.func27, Tryz.ntmps27
  go_wp2_with fail
  refine (rsizes_any k z _ b1 (unhide H1)).mono ?_
  rintro e w' ⟨rfl, hw⟩
  obtain rfl := hw.symm
  clear hw
  cases b1
  · go_wp2
    go_ret
    exact ⟨ret_int (by rw [(unhide HE).no (fun h => by simpa using (unhide H1).2 h.1.1)]; rfl), unhide B0⟩
  · have HW := hide (show wrap64 (k * z) = k * z by have hm := mul_le ((unhide H1).1 rfl); unfold wrap64; omega)
    by_cases c4 : 0 ≤ h
    case neg =>
      go_wp2
      go_ret
      exact ⟨ret_int (by rw [(unhide HE).no (fun h => by have := h.1.2.2.2.1; omega)]; rfl), unhide B0⟩
    by_cases c5 : h ≤ 15
    case neg =>
      go_wp2
      go_ret
      exact ⟨ret_int (by rw [(unhide HE).no (fun h => by have := h.1.2.2.2.2; omega)]; rfl), unhide B0⟩
    by_cases c6 : l < 0
    case pos =>
      go_wp2
      go_ret
      exact ⟨ret_int (by rw [(unhide HE).no (fun h => by have := h.1.2.2.1.1; omega)]; rfl), unhide B0⟩
    by_cases c7 : wrap64 (k * z) < l
    case pos =>
      go_wp2
      go_ret
      exact ⟨ret_int (by rw [(unhide HE).no (fun h => by have := h.1.2.2.1.2; have := unhide HW; omega)]; rfl), unhide B0⟩
    have HL7 := hide (show 0 ≤ l ∧ l ≤ k * z by have := unhide HW; omega)
    have HBP := hide (show boundP o l k z h from ⟨(unhide H1).1 rfl, ⟨c1, c2⟩, unhide HL7, c4, c5⟩)
    go_wp2_with fail
    refine (rvalid_any a n c xs k _ (unhide HR)).mono ?_
    rintro e w1 ⟨⟨b2, rfl, hb2⟩, hw⟩
    obtain rfl := hw.symm
    clear hw
    have H2 := hide hb2
    clear hb2
    cases b2
    · go_wp2
      go_ret
      exact ⟨ret_int (by rw [(unhide HE).no (fun h => by simpa using (unhide H2).2 h.2.1)]; rfl), unhide B0⟩
    · have hv := (unhide H2).1 rfl
      have hn : n ≤ 1048576 := by have := valid_len hv; have := unhide HL; omega
      have HC := hide (rcount_any a n c xs _ (unhide HR) hn)
      have HV := hide hv
      clear hv hn
      rcases Nat.eq_zero_or_pos (cnt xs) with hc | hc
      · rw [hc] at HC
        have HZ := hide hc
        clear hc
        go_wp2_with fail
        refine (unhide HC).mono ?_
        rintro e w' ⟨rfl, hw⟩
        obtain rfl := hw.symm
        clear hw
        go_wp2
        go_ret
        exact ⟨ret_int (by rw [(unhide HE).no (fun h => by have := h.2.2.1; have := unhide HZ; omega)]; rfl), unhide B0⟩
      · have HZ := hide hc
        have hc' : (((cnt xs : Nat) : Int) == 0) = false := by rw [beq_eq_false_iff_ne]; omega
        generalize ((cnt xs : Nat) : Int) = m at *
        clear hc
        by_cases hz : (s.size : Int) = z
        · have hz' : ((s.size : Int) != z) = false := by rw [hz]; simp
          have HQ := hide hz
          clear hz
          go_wp2_with fail
          refine (unhide HC).mono ?_
          rintro e w' ⟨rfl, hw⟩
          obtain rfl := hw.symm
          clear hw
          go_wp2
          go_ret
          exact ⟨ret_int (by rw [(unhide HE).yes ⟨unhide HBP, unhide HV, unhide HZ, unhide HQ⟩]; rfl), unhide B0⟩
        · have hz' : ((s.size : Int) != z) = true := by rw [bne_iff_ne]; exact hz
          have HQ := hide hz
          clear hz
          go_wp2_with fail
          refine (unhide HC).mono ?_
          rintro e w' ⟨rfl, hw⟩
          obtain rfl := hw.symm
          clear hw
          go_wp2
          go_ret
          exact ⟨ret_int (by rw [(unhide HE).no (fun h => unhide HQ h.2.2.2)]; rfl), unhide B0⟩

end Go.Proofs.YtmdmipojbeppiaaGreatDoor
namespace Go.Proofs.YtmdmipojbeppiaaGreatDoor
open Go.RowKit Go.Sort
set_option linter.unusedVariables false
set_option maxRecDepth 4000

set_option maxHeartbeats 1000000 in
theorem eq_plain (o l k z h o' l' k' z' h' : Int) (s s' : ByteArray) (b : Bool) (hb : TB b ((o = o' ∧ l = l' ∧ k = k' ∧ z = z' ∧ h = h') ∧ s = s')) (W : World) :
    (binOp .eql 129 (.agg #[.int .i64 o, .int .i64 l, .int .i64 k, .int .i64 z, .int .i64 h, .string s]) (.agg #[.int .i64 o', .int .i64 l', .int .i64 k', .int .i64 z', .int .i64 h', .string s'])).run Tryz.prog W = .ok (.bool b) W := by
  obtain rfl : b = decide ((o = o' ∧ l = l' ∧ k = k' ∧ z = z' ∧ h = h') ∧ s = s') := by
    rw [eq_comm, Bool.eq_iff_iff, decide_eq_true_iff]
    exact hb.symm
  clear hb
  rw [run_eql_struct, run_equalIn_struct (d := 9999) (ht := by kernel_rfl) (hp := by kernel_rfl)]
  simp only [Program.fieldsOf, Tryz.underlying129]
  by_cases h1 : o = o'
  · by_cases h2 : l = l'
    · by_cases h3 : k = k'
      · by_cases h4 : z = z'
        · by_cases h5 : h = h'
          · have e6 := eq_texts s s'
            by_cases h6 : s = s' <;> simp [Op.eqFields, part, go_sem, Tryz.underlying3, Tryz.underlying9, h1, h2, h3, h4, h5, h6, e6]
          · simp [Op.eqFields, part, go_sem, Tryz.underlying3, h1, h2, h3, h4, h5]
        · simp [Op.eqFields, part, go_sem, Tryz.underlying3, h1, h2, h3, h4]
      · simp [Op.eqFields, part, go_sem, Tryz.underlying3, h1, h2, h3]
    · simp [Op.eqFields, part, go_sem, Tryz.underlying3, h1, h2]
  · simp [Op.eqFields, part, go_sem, Tryz.underlying3, h1]

theorem below2' (w : World) (o o' : Obj) : Below w.heap.size w ((w.alloc o).alloc o') := ((Below.refl _ _).alloc (Nat.le_refl _) _).alloc (by simp) _

set_option maxHeartbeats 1000000 in
theorem plain_any (o l k z h : Int) (x : Value) (s : ByteArray) (w : World) :
    Calls Tryz.prog 85 #[.agg #[.int .i64 o, .int .i64 l, .int .i64 k, .int .i64 z, .int .i64 h, x, .string s]] w fun e w' => e = .returned (.agg #[.int .i64 o, .int .i64 l, .int .i64 k, .int .i64 z, .int .i64 h, .string s]) ∧ Below w.heap.size w w' := by
  go_enter Tryz.func85, Tryz.ntmps85
  go_wp2
  exact bodyPost_ret (v := .agg #[.int .i64 o, .int .i64 l, .int .i64 k, .int .i64 z, .int .i64 h, .string s]) (by simp [results, Tryz.results85, go_sem]) rfl ⟨rfl, below2' w _ _⟩

/-- All fields alike; of the rows words of 0 at the end make no difference. -/
def SameP (o l k z h : Int) (xs : List Nat) (s : ByteArray) (o' l' k' z' h' : Int) (ys : List Nat) (t : ByteArray) : Prop := ((o = o' ∧ l = l' ∧ k = k' ∧ z = z' ∧ h = h') ∧ s = t) ∧ cnt (xorL xs ys) = 0
theorem first_cnt {xs ys : List Nat} (hx : smalls xs) (hy : smalls ys) : decide (firstI (xorL xs ys) < 0) = decide (cnt (xorL xs ys) = 0) := by
  have h1 := firstI_nonneg_iff (xorL xs ys)
  by_cases h : cnt (xorL xs ys) = 0
  · rw [decide_eq_true h, decide_eq_true (h1.2 (zero_of_cnt _ (xorL_small hx hy) h))]
  · rw [decide_eq_false h, decide_eq_false (fun h2 => h (cnt_of_zero _ (h1.1 h2)))]

set_option maxHeartbeats 2000000 in
theorem psame_any (o l k z h : Int) (a : Option Addr) (n c : Nat) (xs : List Nat) (s : ByteArray) (o' l' k' z' h' : Int) (a' : Option Addr) (m c' : Nat) (ys : List Nat) (t : ByteArray) (w : World) (ht : Tab w) (hr : RowAt w a n xs) (hr' : RowAt w a' m ys) (hn : n ≤ 1048576) (hm : m ≤ 1048576) (b : Bool) (hb : TB b (SameP o l k z h xs s o' l' k' z' h' ys t)) :
    Calls Tryz.prog 77 #[.agg #[.int .i64 o, .int .i64 l, .int .i64 k, .int .i64 z, .int .i64 h, .slice a n c, .string s], .agg #[.int .i64 o', .int .i64 l', .int .i64 k', .int .i64 z', .int .i64 h', .slice a' m c', .string t]] w fun e w' => e = .returned (.bool b) ∧ Below w.heap.size w w' := by
  have HB := hide hb
  obtain ⟨b1, h1⟩ := tb_ex ((o = o' ∧ l = l' ∧ k = k' ∧ z = z' ∧ h = h') ∧ s = t)
  have H1 := hide h1
  have hq := eq_plain o l k z h o' l' k' z' h' s t b1 h1
  have hg : Tryz.prog.eqGuardType Tryz.prog.depth 129 = false := by kernel_rfl
  have x1 := (pk_new w (.int .i64 o) (.int .i64 l) (.int .i64 k) (.int .i64 z) (.int .i64 h) (.slice a n c) (.string s)).alloc (.cells #[.int .i64 o', .int .i64 l', .int .i64 k', .int .i64 z', .int .i64 h', .slice a' m c', .string t] 42)
  have x2 := pk_new (w.alloc (.cells #[.int .i64 o, .int .i64 l, .int .i64 k, .int .i64 z, .int .i64 h, .slice a n c, .string s] 42)) (.int .i64 o') (.int .i64 l') (.int .i64 k') (.int .i64 z') (.int .i64 h') (.slice a' m c') (.string t)
  rw [alloc_size] at x2
  obtain ⟨x10, x11, x12, x13, x14, x15, x16⟩ := x1
  obtain ⟨x20, x21, x22, x23, x24, x25, x26⟩ := x2
  have k10 := cell_regrown x10
  have k11 := cell_regrown x11
  have k12 := cell_regrown x12
  have k13 := cell_regrown x13
  have k14 := cell_regrown x14
  have k15 := cell_regrown x15
  have k16 := cell_regrown x16
  have k20 := cell_regrown x20
  have k21 := cell_regrown x21
  have k22 := cell_regrown x22
  have k23 := cell_regrown x23
  have k24 := cell_regrown x24
  have k25 := cell_regrown x25
  have k26 := cell_regrown x26
  have c1 := quietB (W := (w.alloc (.cells #[.int .i64 o, .int .i64 l, .int .i64 k, .int .i64 z, .int .i64 h, .slice a n c, .string s] 42)).alloc (.cells #[.int .i64 o', .int .i64 l', .int .i64 k', .int .i64 z', .int .i64 h', .slice a' m c', .string t] 42)) (fun w' hb => plain_any o l k z h (.slice a n c) s w')
  have c2 := quietB (W := (w.alloc (.cells #[.int .i64 o, .int .i64 l, .int .i64 k, .int .i64 z, .int .i64 h, .slice a n c, .string s] 42)).alloc (.cells #[.int .i64 o', .int .i64 l', .int .i64 k', .int .i64 z', .int .i64 h', .slice a' m c', .string t] 42)) (fun w' hb => plain_any o' l' k' z' h' (.slice a' m c') t w')
  have c3 := quietB (W := (w.alloc (.cells #[.int .i64 o, .int .i64 l, .int .i64 k, .int .i64 z, .int .i64 h, .slice a n c, .string s] 42)).alloc (.cells #[.int .i64 o', .int .i64 l', .int .i64 k', .int .i64 z', .int .i64 h', .slice a' m c', .string t] 42)) (fun w' hb => same_any a n c xs a' m c' ys w' (ht.below (below2 (Below.refl _ w) hb)) (hr.below (below2 (Below.refl _ w) hb)) (hr'.below (below2 (Below.refl _ w) hb)) hn hm)
  rw [first_cnt hr.2.1 hr'.2.1] at c3
  clear hb h1 ht hr hr' hn hm x10 x11 x12 x13 x14 x15 x16 x20 x21 x22 x23 x24 x25 x26
  cases b1
  · go_enter Tryz.func77, Tryz.ntmps77
    go_wp2_with fail
    refine wp_region_quiet_below (by kernel_rfl) (by kernel_rfl) ?_
    repeat (with_reducible refine wpQuiet_step (fun K hK => ?_); go_simp; first | (with_reducible refine hK _ ?_; clear hK K) | (apply Exists.intro; apply And.intro; (intro _; first | (go_at_call 85; first | with_reducible exact c1 _ _ | with_reducible exact c2 _ _) | (go_at_call 86; exact c3 _ _)); with_reducible refine hK _ ?_; clear hK K))
    refine wpQuiet_nil ?_
    intro w3 hw3
    obtain ⟨⟨dq, osq⟩, hw3⟩ := hw3
    have hb3 : Below ((w.alloc (.cells #[.int .i64 o, .int .i64 l, .int .i64 k, .int .i64 z, .int .i64 h, .slice a n c, .string s] 42)).alloc (.cells #[.int .i64 o', .int .i64 l', .int .i64 k', .int .i64 z', .int .i64 h', .slice a' m c', .string t] 42)).heap.size ((w.alloc (.cells #[.int .i64 o, .int .i64 l, .int .i64 k, .int .i64 z, .int .i64 h, .slice a n c, .string s] 42)).alloc (.cells #[.int .i64 o', .int .i64 l', .int .i64 k', .int .i64 z', .int .i64 h', .slice a' m c', .string t] 42)) w3 := by rw [hw3]; exact below_regrown _ dq osq
    have B3 := hide (below2 (Below.refl _ w) hb3)
    clear hw3 hb3 dq osq
    go_wp2
    go_ret
    exact ⟨ret_bool ((unhide HB).no (fun h => by simpa using (unhide H1).2 h.1)).symm, unhide B3⟩
  · by_cases hz : cnt (xorL xs ys) = 0
    · rw [decide_eq_true hz] at c3
      have HZ := hide hz
      clear hz
      go_enter Tryz.func77, Tryz.ntmps77
      go_wp2_with fail
      refine wp_region_quiet_below (by kernel_rfl) (by kernel_rfl) ?_
      repeat (with_reducible refine wpQuiet_step (fun K hK => ?_); go_simp; first | (with_reducible refine hK _ ?_; clear hK K) | (apply Exists.intro; apply And.intro; (intro _; first | (go_at_call 85; first | with_reducible exact c1 _ _ | with_reducible exact c2 _ _) | (go_at_call 86; exact c3 _ _)); with_reducible refine hK _ ?_; clear hK K))
      refine wpQuiet_nil ?_
      intro w3 hw3
      obtain ⟨⟨dq, osq⟩, hw3⟩ := hw3
      have hb3 : Below ((w.alloc (.cells #[.int .i64 o, .int .i64 l, .int .i64 k, .int .i64 z, .int .i64 h, .slice a n c, .string s] 42)).alloc (.cells #[.int .i64 o', .int .i64 l', .int .i64 k', .int .i64 z', .int .i64 h', .slice a' m c', .string t] 42)).heap.size ((w.alloc (.cells #[.int .i64 o, .int .i64 l, .int .i64 k, .int .i64 z, .int .i64 h, .slice a n c, .string s] 42)).alloc (.cells #[.int .i64 o', .int .i64 l', .int .i64 k', .int .i64 z', .int .i64 h', .slice a' m c', .string t] 42)) w3 := by rw [hw3]; exact below_regrown _ dq osq
      have B3 := hide (below2 (Below.refl _ w) hb3)
      clear hw3 hb3 dq osq
      go_wp2
      go_ret
      exact ⟨ret_bool ((unhide HB).yes ⟨(unhide H1).1 rfl, unhide HZ⟩).symm, unhide B3⟩
    · rw [decide_eq_false hz] at c3
      have HZ := hide hz
      clear hz
      go_enter Tryz.func77, Tryz.ntmps77
      go_wp2_with fail
      refine wp_region_quiet_below (by kernel_rfl) (by kernel_rfl) ?_
      repeat (with_reducible refine wpQuiet_step (fun K hK => ?_); go_simp; first | (with_reducible refine hK _ ?_; clear hK K) | (apply Exists.intro; apply And.intro; (intro _; first | (go_at_call 85; first | with_reducible exact c1 _ _ | with_reducible exact c2 _ _) | (go_at_call 86; exact c3 _ _)); with_reducible refine hK _ ?_; clear hK K))
      refine wpQuiet_nil ?_
      intro w3 hw3
      obtain ⟨⟨dq, osq⟩, hw3⟩ := hw3
      have hb3 : Below ((w.alloc (.cells #[.int .i64 o, .int .i64 l, .int .i64 k, .int .i64 z, .int .i64 h, .slice a n c, .string s] 42)).alloc (.cells #[.int .i64 o', .int .i64 l', .int .i64 k', .int .i64 z', .int .i64 h', .slice a' m c', .string t] 42)).heap.size ((w.alloc (.cells #[.int .i64 o, .int .i64 l, .int .i64 k, .int .i64 z, .int .i64 h, .slice a n c, .string s] 42)).alloc (.cells #[.int .i64 o', .int .i64 l', .int .i64 k', .int .i64 z', .int .i64 h', .slice a' m c', .string t] 42)) w3 := by rw [hw3]; exact below_regrown _ dq osq
      have B3 := hide (below2 (Below.refl _ w) hb3)
      clear hw3 hb3 dq osq
      go_wp2
      go_ret
      exact ⟨ret_bool ((unhide HB).no (fun h => unhide HZ h.2)).symm, unhide B3⟩
end Go.Proofs.YtmdmipojbeppiaaGreatDoor
namespace Go.Proofs.YtmdmipojbeppiaaGreatDoor
open Go.RowKit
set_option linter.unusedVariables false
set_option maxRecDepth 4000

set_option maxHeartbeats 1000000 in
theorem ralike_any (o l k z h : Int) (a : Option Addr) (n c : Nat) (s : ByteArray) (o' l' k' z' h' : Int) (a' : Option Addr) (m c' : Nat) (t : ByteArray) (w : World) (b : Bool) (hb : TB b (o = o' ∧ l = l' ∧ k = k' ∧ z = z')) :
    Calls Tryz.prog 39 #[.agg #[.int .i64 o, .int .i64 l, .int .i64 k, .int .i64 z, .int .i64 h, .slice a n c, .string s], .agg #[.int .i64 o', .int .i64 l', .int .i64 k', .int .i64 z', .int .i64 h', .slice a' m c', .string t]] w fun e w' => e = .returned (.bool b) ∧ Below w.heap.size w w' := by
  have HB := hide hb
  clear hb
  have B0 := hide (below2' w (.cells #[.int .i64 o, .int .i64 l, .int .i64 k, .int .i64 z, .int .i64 h, .slice a n c, .string s] 42) (.cells #[.int .i64 o', .int .i64 l', .int .i64 k', .int .i64 z', .int .i64 h', .slice a' m c', .string t] 42))
  have x1 := (pk_new w (.int .i64 o) (.int .i64 l) (.int .i64 k) (.int .i64 z) (.int .i64 h) (.slice a n c) (.string s)).alloc (.cells #[.int .i64 o', .int .i64 l', .int .i64 k', .int .i64 z', .int .i64 h', .slice a' m c', .string t] 42)
  have x2 := pk_new (w.alloc (.cells #[.int .i64 o, .int .i64 l, .int .i64 k, .int .i64 z, .int .i64 h, .slice a n c, .string s] 42)) (.int .i64 o') (.int .i64 l') (.int .i64 k') (.int .i64 z') (.int .i64 h') (.slice a' m c') (.string t)
  rw [alloc_size] at x2
  obtain ⟨x10, x11, x12, x13, x14, x15, x16⟩ := x1
  obtain ⟨x20, x21, x22, x23, x24, x25, x26⟩ := x2
  by_cases h1 : o = o'
  case neg =>
    have e1 : (o == o') = false := beq_eq_false_iff_ne.2 h1
    have E1 := hide h1
    clear h1
    go_enter Tryz.func39, Tryz.ntmps39
    go_wp2
    go_ret
    exact ⟨ret_bool ((unhide HB).no (fun h => unhide E1 h.1)).symm, unhide B0⟩
  have e1 : (o == o') = true := beq_iff_eq.2 h1
  have E1 := hide h1
  clear h1
  by_cases h2 : l = l'
  case neg =>
    have e2 : (l == l') = false := beq_eq_false_iff_ne.2 h2
    have E2 := hide h2
    clear h2
    go_enter Tryz.func39, Tryz.ntmps39
    go_wp2
    go_ret
    exact ⟨ret_bool ((unhide HB).no (fun h => unhide E2 h.2.1)).symm, unhide B0⟩
  have e2 : (l == l') = true := beq_iff_eq.2 h2
  have E2 := hide h2
  clear h2
  by_cases h3 : k = k'
  case neg =>
    have e3 : (k == k') = false := beq_eq_false_iff_ne.2 h3
    have E3 := hide h3
    clear h3
    go_enter Tryz.func39, Tryz.ntmps39
    go_wp2
    go_ret
    exact ⟨ret_bool ((unhide HB).no (fun h => unhide E3 h.2.2.1)).symm, unhide B0⟩
  have e3 : (k == k') = true := beq_iff_eq.2 h3
  have E3 := hide h3
  clear h3
  by_cases h4 : z = z'
  case neg =>
    have e4 : (z == z') = false := beq_eq_false_iff_ne.2 h4
    have E4 := hide h4
    clear h4
    go_enter Tryz.func39, Tryz.ntmps39
    go_wp2
    go_ret
    exact ⟨ret_bool ((unhide HB).no (fun h => unhide E4 h.2.2.2)).symm, unhide B0⟩
  have e4 : (z == z') = true := beq_iff_eq.2 h4
  have E4 := hide h4
  clear h4
  go_enter Tryz.func39, Tryz.ntmps39
  go_wp2
  go_ret
  exact ⟨ret_bool ((unhide HB).yes ⟨unhide E1, unhide E2, unhide E3, unhide E4⟩).symm, unhide B0⟩

set_option maxHeartbeats 1000000 in
theorem rpsame_any (o l k z h : Int) (a : Option Addr) (n c : Nat) (xs : List Nat) (s : ByteArray) (o' l' k' z' h' : Int) (a' : Option Addr) (m c' : Nat) (ys : List Nat) (t : ByteArray) (w : World) (hr : RowAt w a n xs) (hr' : RowAt w a' m ys) (hn : n ≤ 1048576) (hm : m ≤ 1048576) (b : Bool) (hb : TB b (SameP o l k z h xs s o' l' k' z' h' ys t)) :
    Calls Tryz.prog 15 #[.agg #[.int .i64 o, .int .i64 l, .int .i64 k, .int .i64 z, .int .i64 h, .slice a n c, .string s], .agg #[.int .i64 o', .int .i64 l', .int .i64 k', .int .i64 z', .int .i64 h', .slice a' m c', .string t]] w fun e w' => e = .returned (.bool b) ∧ Below w.heap.size w w' := by
  have HB := hide hb
  clear hb
  obtain ⟨b1, h1⟩ := tb_ex (o = o' ∧ l = l' ∧ k = k' ∧ z = z')
  have H1 := hide h1
  have B0 := hide (below2' w (.cells #[.int .i64 o, .int .i64 l, .int .i64 k, .int .i64 z, .int .i64 h, .slice a n c, .string s] 42) (.cells #[.int .i64 o', .int .i64 l', .int .i64 k', .int .i64 z', .int .i64 h', .slice a' m c', .string t] 42))
  have x1 := (pk_new w (.int .i64 o) (.int .i64 l) (.int .i64 k) (.int .i64 z) (.int .i64 h) (.slice a n c) (.string s)).alloc (.cells #[.int .i64 o', .int .i64 l', .int .i64 k', .int .i64 z', .int .i64 h', .slice a' m c', .string t] 42)
  have x2 := pk_new (w.alloc (.cells #[.int .i64 o, .int .i64 l, .int .i64 k, .int .i64 z, .int .i64 h, .slice a n c, .string s] 42)) (.int .i64 o') (.int .i64 l') (.int .i64 k') (.int .i64 z') (.int .i64 h') (.slice a' m c') (.string t)
  rw [alloc_size] at x2
  have X1 := hide x1
  have X2 := hide x2
  have HR := hide (hr.below (unhide B0))
  have HR' := hide (hr'.below (unhide B0))
  clear hr hr' x1 x2 h1
  go_enter Tryz.func15, Tryz.ntmps15
  go_wp2_with fail
  refine (ralike_any o l k z h a n c s o' l' k' z' h' a' m c' t _ b1 (unhide H1)).mono ?_
  rintro e w1 ⟨rfl, hb1⟩
  obtain ⟨x10, x11, x12, x13, x14, x15, x16⟩ := (unhide X1).below hb1
  obtain ⟨x20, x21, x22, x23, x24, x25, x26⟩ := (unhide X2).below hb1
  have B1 := hide (below0 (unhide B0) hb1)
  have HR1 := hide ((unhide HR).below hb1)
  have HR1' := hide ((unhide HR').below hb1)
  clear hb1
  cases b1
  · go_wp2
    go_ret
    exact ⟨ret_bool ((unhide HB).no (fun h => by simpa using (unhide H1).2 ⟨h.1.1.1, h.1.1.2.1, h.1.1.2.2.1, h.1.1.2.2.2.1⟩)).symm, unhide B1⟩
  · by_cases h5 : h = h'
    case neg =>
      have e5 : (h == h') = false := beq_eq_false_iff_ne.2 h5
      have E5 := hide h5
      clear h5
      go_wp2
      go_ret
      exact ⟨ret_bool ((unhide HB).no (fun h => unhide E5 h.1.1.2.2.2.2)).symm, unhide B1⟩
    have e5 : (h == h') = true := beq_iff_eq.2 h5
    have E5 := hide h5
    clear h5
    go_wp2_with fail
    refine (rsame2_any a n c xs s a' m c' ys t _ (unhide HR1) (unhide HR1') hn hm).mono ?_
    rintro e w2 ⟨rfl, hb2⟩
    have B2 := hide (below0 (unhide B1) hb2)
    clear hb2
    have HE := hide (show (decide (cnt (xorL xs ys) = 0) && decide (s = t)) = b from by
      obtain ⟨d1, d2, d3, d4⟩ := (unhide H1).1 rfl
      have d5 := unhide E5
      rw [eq_comm, Bool.eq_iff_iff, Bool.and_eq_true, decide_eq_true_iff, decide_eq_true_iff]
      exact ⟨fun hbt => by have := (unhide HB).1 hbt; exact ⟨this.2, this.1.2⟩, fun hh => (unhide HB).2 ⟨⟨⟨d1, d2, d3, d4, d5⟩, hh.2⟩, hh.1⟩⟩)
    generalize (decide (cnt (xorL xs ys) = 0) && decide (s = t)) = q at *
    go_wp2
    go_ret
    exact ⟨ret_bool (unhide HE), unhide B2⟩
end Go.Proofs.YtmdmipojbeppiaaGreatDoor
namespace Go.Proofs.YtmdmipojbeppiaaGreatDoor
open Go.RowKit Go.Sort
set_option linter.unusedVariables false
set_option maxRecDepth 4000

/-- Packets that are not too long. -/
def shortK (ps : List PKV) : Prop := ∀ i, i < ps.length → (ps.getD i .dflt).r.n ≤ 1048576
def sameD (p q : PD) : Bool := decide (((p.o = q.o ∧ p.l = q.l ∧ p.k = q.k ∧ p.z = q.z ∧ p.h = q.h) ∧ p.s = q.s) ∧ cnt (xorL p.xs q.xs) = 0)
theorem sameD_self (p : PD) : sameD p p = true := decide_eq_true ⟨⟨⟨rfl, rfl, rfl, rfl, rfl⟩, rfl⟩, cnt_of_zero _ (xorL_self_zero _)⟩
theorem rpsame_is (p q : PKV) (w : World) (hp : RowAt w p.r.a p.r.n p.r.xs) (hq : RowAt w q.r.a q.r.n q.r.xs) (hn : p.r.n ≤ 1048576) (hm : q.r.n ≤ 1048576) :
    Calls Tryz.prog 15 #[.agg #[.int .i64 p.o, .int .i64 p.l, .int .i64 p.k, .int .i64 p.z, .int .i64 p.h, .slice p.r.a p.r.n p.r.c, .string p.r.s], .agg #[.int .i64 q.o, .int .i64 q.l, .int .i64 q.k, .int .i64 q.z, .int .i64 q.h, .slice q.r.a q.r.n q.r.c, .string q.r.s]] w fun e w' => e = .returned (.bool (sameD p.pd q.pd)) ∧ Below w.heap.size w w' :=
  rpsame_any p.o p.l p.k p.z p.h p.r.a p.r.n p.r.c p.r.xs p.r.s q.o q.l q.k q.z q.h q.r.a q.r.n q.r.c q.r.xs q.r.s w hp hq hn hm (sameD p.pd q.pd) (by unfold TB sameD SameP; rw [decide_eq_true_iff]; rfl)
theorem pd_at {ps qs : List PKV} (h : ps.map PKV.pd = qs.map PKV.pd) {i : Nat} (hi : i < ps.length) : (ps.getD i .dflt).pd = (qs.getD i .dflt).pd := by
  have hl : ps.length = qs.length := by have := congrArg List.length h; simpa using this
  rw [← pdGet hi, h, pdGet (by omega)]
end Go.Proofs.YtmdmipojbeppiaaGreatDoor
