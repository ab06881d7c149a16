/-
  Contracts of bucketlineref07.sizes, Check, and of bucketlinelaw07.few: for every packet.
  Contracts of packet.plainOf, Same and of bucketlineref07.Alike, Same: for every two packets of rows of at most 2^20 words.
  Contracts of bucketlineref07.Alike and Same: for every two packets of rows of at most 2^20 words.
  Packets compared as data: contracts of bucketlineref07.Same, and of bucketlineref07.All of equal packets.
-/
import Derived.Test.YtbppanebpfpioaaDoorM12
import Derived.Laws.StructEq
import Derived.Test.YtbppanebpfpioaaDoorPd
import Derived.BigQuiet
namespace Go.Proofs.YtbppanebpfpioaaDoor
open Go.RowKit
set_option linter.unusedVariables false
set_option maxRecDepth 4000

set_option maxHeartbeats 400000 in
theorem rsizes_any (k z : Int) (w : World) (b : Bool) (hb : TB b (shapedP k z)) :
    Calls Tryd.prog 33 #[.int .i64 k, .int .i64 z] w fun e w' => e = .returned (.bool b) ∧ w' = w := by
  have HB := hide hb
  clear hb
  by_cases h1 : 1 ≤ k
  · by_cases h2 : k ≤ 128
    · by_cases h3 : 1 ≤ z
      · by_cases h4 : z ≤ 64
        · go_enter Tryd.func33, Tryd.ntmps33
          go_wp2
          go_ret
          exact ⟨ret_bool ((unhide HB).yes ⟨⟨h1, h2⟩, h3, h4⟩).symm, rfl⟩
        · go_enter Tryd.func33, Tryd.ntmps33
          go_wp2
          go_ret
          exact ⟨ret_bool ((unhide HB).no (fun h => by have := h.2.2; omega)).symm, rfl⟩
      · go_enter Tryd.func33, Tryd.ntmps33
        go_wp2
        go_ret
        exact ⟨ret_bool ((unhide HB).no (fun h => by have := h.2.1; omega)).symm, rfl⟩
    · go_enter Tryd.func33, Tryd.ntmps33
      go_wp2
      go_ret
      exact ⟨ret_bool ((unhide HB).no (fun h => by have := h.1.2; omega)).symm, rfl⟩
  · go_enter Tryd.func33, Tryd.ntmps33
    go_wp2
    go_ret
    exact ⟨ret_bool ((unhide HB).no (fun h => by have := h.1.1; omega)).symm, rfl⟩

set_option maxHeartbeats 2000000 in
theorem rcheck_any (o l k z h : Int) (a : Option Addr) (n c : Nat) (xs : List Nat) (s : ByteArray) (w : World) (hr : RowAt w a n xs) (en : Nat) (hen : CkP en (CheckP o l k z h xs s.size)) :
    Calls Tryd.prog 23 #[.agg #[.int .i64 o, .int .i64 l, .int .i64 k, .int .i64 z, .int .i64 h, .slice a n c, .string s]] w fun e w' => e = .returned (.int .i64 ((en : Nat) : Int)) ∧ Below w.heap.size w w' := by
  have HE := hide hen
  obtain ⟨b1, h1⟩ := tb_ex (shapedP k z)
  have H1 := hide h1
  have HL := hide hr.1
  have HR := hide (row_alloc hr (.cells #[.int .i64 o, .int .i64 l, .int .i64 k, .int .i64 z, .int .i64 h, .slice a n c, .string s] 34))
  have B0 := hide (below_new w (.cells #[.int .i64 o, .int .i64 l, .int .i64 k, .int .i64 z, .int .i64 h, .slice a n c, .string s] 34))
  clear hen hr h1
  by_cases c1 : 0 ≤ o
  case neg =>
    go_enter Tryd.func23, Tryd.ntmps23
    go_wp2
    go_ret
    exact ⟨ret_int (by rw [(unhide HE).no (fun h => by have := h.1.2.1.1; omega)]; rfl), unhide B0⟩
  by_cases c2 : o ≤ 4294967295
  case neg =>
    go_enter Tryd.func23, Tryd.ntmps23
    go_wp2
    go_ret
    exact ⟨ret_int (by rw [(unhide HE).no (fun h => by have := h.1.2.1.2; omega)]; rfl), unhide B0⟩
  go_enter Tryd.func23, Tryd.ntmps23
  go_wp2_with fail
  refine (rsizes_any k z _ b1 (unhide H1)).mono ?_
  rintro e w' ⟨rfl, hw⟩
  obtain rfl := hw.symm
  clear hw
  cases b1
  · go_wp2
    go_ret
    exact ⟨ret_int (by rw [(unhide HE).no (fun h => by simpa using (unhide H1).2 h.1.1)]; rfl), unhide B0⟩
  · have HW := hide (show wrap64 (k * z) = k * z by have hm := mul_le ((unhide H1).1 rfl); unfold wrap64; omega)
    by_cases c4 : 0 ≤ h
    case neg =>
      go_wp2
      go_ret
      exact ⟨ret_int (by rw [(unhide HE).no (fun h => by have := h.1.2.2.2.1; omega)]; rfl), unhide B0⟩
    by_cases c5 : h ≤ 15
    case neg =>
      go_wp2
      go_ret
      exact ⟨ret_int (by rw [(unhide HE).no (fun h => by have := h.1.2.2.2.2; omega)]; rfl), unhide B0⟩
    by_cases c6 : l < 0
    case pos =>
      go_wp2
      go_ret
      exact ⟨ret_int (by rw [(unhide HE).no (fun h => by have := h.1.2.2.1.1; omega)]; rfl), unhide B0⟩
    by_cases c7 : wrap64 (k * z) < l
    case pos =>
      go_wp2
      go_ret
      exact ⟨ret_int (by rw [(unhide HE).no (fun h => by have := h.1.2.2.1.2; have := unhide HW; omega)]; rfl), unhide B0⟩
    have HL7 := hide (show 0 ≤ l ∧ l ≤ k * z by have := unhide HW; omega)
    have HBP := hide (show boundP o l k z h from ⟨(unhide H1).1 rfl, ⟨c1, c2⟩, unhide HL7, c4, c5⟩)
    go_wp2_with fail
    refine (rvalid_any a n c xs k _ (unhide HR)).mono ?_
    rintro e w1 ⟨⟨b2, rfl, hb2⟩, hw⟩
    obtain rfl := hw.symm
    clear hw
    have H2 := hide hb2
    clear hb2
    cases b2
    · go_wp2
      go_ret
      exact ⟨ret_int (by rw [(unhide HE).no (fun h => by simpa using (unhide H2).2 h.2.1)]; rfl), unhide B0⟩
    · have hv := (unhide H2).1 rfl
      have hn : n ≤ 1048576 := by have := valid_len hv; have := unhide HL; omega
      have HC := hide (rcount_any a n c xs _ (unhide HR) hn)
      have HV := hide hv
      clear hv hn
      rcases Nat.eq_zero_or_pos (cnt xs) with hc | hc
      · rw [hc] at HC
        have HZ := hide hc
        clear hc
        go_wp2_with fail
        refine (unhide HC).mono ?_
        rintro e w' ⟨rfl, hw⟩
        obtain rfl := hw.symm
        clear hw
        go_wp2
        go_ret
        exact ⟨ret_int (by rw [(unhide HE).no (fun h => by have := h.2.2.1; have := unhide HZ; omega)]; rfl), unhide B0⟩
      · have HZ := hide hc
        have hc' : (((cnt xs : Nat) : Int) == 0) = false := by rw [beq_eq_false_iff_ne]; omega
        generalize ((cnt xs : Nat) : Int) = m at *
        clear hc
        by_cases hz : (s.size : Int) = z
        · have hz' : ((s.size : Int) != z) = false := by rw [hz]; simp
          have HQ := hide hz
          clear hz
          go_wp2_with fail
          refine (unhide HC).mono ?_
          rintro e w' ⟨rfl, hw⟩
          obtain rfl := hw.symm
          clear hw
          go_wp2
          go_ret
          exact ⟨ret_int (by rw [(unhide HE).yes ⟨unhide HBP, unhide HV, unhide HZ, unhide HQ⟩]; rfl), unhide B0⟩
        · have hz' : ((s.size : Int) != z) = true := by rw [bne_iff_ne]; exact hz
          have HQ := hide hz
          clear hz
          go_wp2_with fail
          refine (unhide HC).mono ?_
          rintro e w' ⟨rfl, hw⟩
          obtain rfl := hw.symm
          clear hw
          go_wp2
          go_ret
          exact ⟨ret_int (by rw [(unhide HE).no (fun h => unhide HQ h.2.2.2)]; rfl), unhide B0⟩

end Go.Proofs.YtbppanebpfpioaaDoor
namespace Go.Proofs.YtbppanebpfpioaaDoor
open Go.RowKit Go.Sort
set_option linter.unusedVariables false
set_option maxRecDepth 4000


theorem below2' (w : World) (o o' : Obj) : Below w.heap.size w ((w.alloc o).alloc o') := ((Below.refl _ _).alloc (Nat.le_refl _) _).alloc (by simp) _


/-- All fields alike; of the rows words of 0 at the end make no difference. -/
def SameP (o l k z h : Int) (xs : List Nat) (s : ByteArray) (o' l' k' z' h' : Int) (ys : List Nat) (t : ByteArray) : Prop := ((o = o' ∧ l = l' ∧ k = k' ∧ z = z' ∧ h = h') ∧ s = t) ∧ cnt (xorL xs ys) = 0

end Go.Proofs.YtbppanebpfpioaaDoor
namespace Go.Proofs.YtbppanebpfpioaaDoor
open Go.RowKit
set_option linter.unusedVariables false
set_option maxRecDepth 4000

set_option maxHeartbeats 1000000 in
theorem ralike_any (o l k z h : Int) (a : Option Addr) (n c : Nat) (s : ByteArray) (o' l' k' z' h' : Int) (a' : Option Addr) (m c' : Nat) (t : ByteArray) (w : World) (b : Bool) (hb : TB b (o = o' ∧ l = l' ∧ k = k' ∧ z = z')) :
    Calls Tryd.prog 24 #[.agg #[.int .i64 o, .int .i64 l, .int .i64 k, .int .i64 z, .int .i64 h, .slice a n c, .string s], .agg #[.int .i64 o', .int .i64 l', .int .i64 k', .int .i64 z', .int .i64 h', .slice a' m c', .string t]] w fun e w' => e = .returned (.bool b) ∧ Below w.heap.size w w' := by
  have HB := hide hb
  clear hb
  have B0 := hide (below2' w (.cells #[.int .i64 o, .int .i64 l, .int .i64 k, .int .i64 z, .int .i64 h, .slice a n c, .string s] 34) (.cells #[.int .i64 o', .int .i64 l', .int .i64 k', .int .i64 z', .int .i64 h', .slice a' m c', .string t] 34))
  have x1 := (pk_new w (.int .i64 o) (.int .i64 l) (.int .i64 k) (.int .i64 z) (.int .i64 h) (.slice a n c) (.string s)).alloc (.cells #[.int .i64 o', .int .i64 l', .int .i64 k', .int .i64 z', .int .i64 h', .slice a' m c', .string t] 34)
  have x2 := pk_new (w.alloc (.cells #[.int .i64 o, .int .i64 l, .int .i64 k, .int .i64 z, .int .i64 h, .slice a n c, .string s] 34)) (.int .i64 o') (.int .i64 l') (.int .i64 k') (.int .i64 z') (.int .i64 h') (.slice a' m c') (.string t)
  rw [alloc_size] at x2
  obtain ⟨x10, x11, x12, x13, x14, x15, x16⟩ := x1
  obtain ⟨x20, x21, x22, x23, x24, x25, x26⟩ := x2
  by_cases h1 : o = o'
  case neg =>
    have e1 : (o == o') = false := beq_eq_false_iff_ne.2 h1
    have E1 := hide h1
    clear h1
    go_enter Tryd.func24, Tryd.ntmps24
    go_wp2
    go_ret
    exact ⟨ret_bool ((unhide HB).no (fun h => unhide E1 h.1)).symm, unhide B0⟩
  have e1 : (o == o') = true := beq_iff_eq.2 h1
  have E1 := hide h1
  clear h1
  by_cases h2 : l = l'
  case neg =>
    have e2 : (l == l') = false := beq_eq_false_iff_ne.2 h2
    have E2 := hide h2
    clear h2
    go_enter Tryd.func24, Tryd.ntmps24
    go_wp2
    go_ret
    exact ⟨ret_bool ((unhide HB).no (fun h => unhide E2 h.2.1)).symm, unhide B0⟩
  have e2 : (l == l') = true := beq_iff_eq.2 h2
  have E2 := hide h2
  clear h2
  by_cases h3 : k = k'
  case neg =>
    have e3 : (k == k') = false := beq_eq_false_iff_ne.2 h3
    have E3 := hide h3
    clear h3
    go_enter Tryd.func24, Tryd.ntmps24
    go_wp2
    go_ret
    exact ⟨ret_bool ((unhide HB).no (fun h => unhide E3 h.2.2.1)).symm, unhide B0⟩
  have e3 : (k == k') = true := beq_iff_eq.2 h3
  have E3 := hide h3
  clear h3
  by_cases h4 : z = z'
  case neg =>
    have e4 : (z == z') = false := beq_eq_false_iff_ne.2 h4
    have E4 := hide h4
    clear h4
    go_enter Tryd.func24, Tryd.ntmps24
    go_wp2
    go_ret
    exact ⟨ret_bool ((unhide HB).no (fun h => unhide E4 h.2.2.2)).symm, unhide B0⟩
  have e4 : (z == z') = true := beq_iff_eq.2 h4
  have E4 := hide h4
  clear h4
  go_enter Tryd.func24, Tryd.ntmps24
  go_wp2
  go_ret
  exact ⟨ret_bool ((unhide HB).yes ⟨unhide E1, unhide E2, unhide E3, unhide E4⟩).symm, unhide B0⟩

set_option maxHeartbeats 1000000 in
theorem rpsame_any (o l k z h : Int) (a : Option Addr) (n c : Nat) (xs : List Nat) (s : ByteArray) (o' l' k' z' h' : Int) (a' : Option Addr) (m c' : Nat) (ys : List Nat) (t : ByteArray) (w : World) (hr : RowAt w a n xs) (hr' : RowAt w a' m ys) (hn : n ≤ 1048576) (hm : m ≤ 1048576) (b : Bool) (hb : TB b (SameP o l k z h xs s o' l' k' z' h' ys t)) :
    Calls Tryd.prog 20 #[.agg #[.int .i64 o, .int .i64 l, .int .i64 k, .int .i64 z, .int .i64 h, .slice a n c, .string s], .agg #[.int .i64 o', .int .i64 l', .int .i64 k', .int .i64 z', .int .i64 h', .slice a' m c', .string t]] w fun e w' => e = .returned (.bool b) ∧ Below w.heap.size w w' := by
  have HB := hide hb
  clear hb
  obtain ⟨b1, h1⟩ := tb_ex (o = o' ∧ l = l' ∧ k = k' ∧ z = z')
  have H1 := hide h1
  have B0 := hide (below2' w (.cells #[.int .i64 o, .int .i64 l, .int .i64 k, .int .i64 z, .int .i64 h, .slice a n c, .string s] 34) (.cells #[.int .i64 o', .int .i64 l', .int .i64 k', .int .i64 z', .int .i64 h', .slice a' m c', .string t] 34))
  have x1 := (pk_new w (.int .i64 o) (.int .i64 l) (.int .i64 k) (.int .i64 z) (.int .i64 h) (.slice a n c) (.string s)).alloc (.cells #[.int .i64 o', .int .i64 l', .int .i64 k', .int .i64 z', .int .i64 h', .slice a' m c', .string t] 34)
  have x2 := pk_new (w.alloc (.cells #[.int .i64 o, .int .i64 l, .int .i64 k, .int .i64 z, .int .i64 h, .slice a n c, .string s] 34)) (.int .i64 o') (.int .i64 l') (.int .i64 k') (.int .i64 z') (.int .i64 h') (.slice a' m c') (.string t)
  rw [alloc_size] at x2
  have X1 := hide x1
  have X2 := hide x2
  have HR := hide (hr.below (unhide B0))
  have HR' := hide (hr'.below (unhide B0))
  clear hr hr' x1 x2 h1
  go_enter Tryd.func20, Tryd.ntmps20
  go_wp2_with fail
  refine (ralike_any o l k z h a n c s o' l' k' z' h' a' m c' t _ b1 (unhide H1)).mono ?_
  rintro e w1 ⟨rfl, hb1⟩
  obtain ⟨x10, x11, x12, x13, x14, x15, x16⟩ := (unhide X1).below hb1
  obtain ⟨x20, x21, x22, x23, x24, x25, x26⟩ := (unhide X2).below hb1
  have B1 := hide (below0 (unhide B0) hb1)
  have HR1 := hide ((unhide HR).below hb1)
  have HR1' := hide ((unhide HR').below hb1)
  clear hb1
  cases b1
  · go_wp2
    go_ret
    exact ⟨ret_bool ((unhide HB).no (fun h => by simpa using (unhide H1).2 ⟨h.1.1.1, h.1.1.2.1, h.1.1.2.2.1, h.1.1.2.2.2.1⟩)).symm, unhide B1⟩
  · by_cases h5 : h = h'
    case neg =>
      have e5 : (h == h') = false := beq_eq_false_iff_ne.2 h5
      have E5 := hide h5
      clear h5
      go_wp2
      go_ret
      exact ⟨ret_bool ((unhide HB).no (fun h => unhide E5 h.1.1.2.2.2.2)).symm, unhide B1⟩
    have e5 : (h == h') = true := beq_iff_eq.2 h5
    have E5 := hide h5
    clear h5
    go_wp2_with fail
    refine (rsame2_any a n c xs s a' m c' ys t _ (unhide HR1) (unhide HR1') hn hm).mono ?_
    rintro e w2 ⟨rfl, hb2⟩
    have B2 := hide (below0 (unhide B1) hb2)
    clear hb2
    have HE := hide (show (decide (cnt (xorL xs ys) = 0) && decide (s = t)) = b from by
      obtain ⟨d1, d2, d3, d4⟩ := (unhide H1).1 rfl
      have d5 := unhide E5
      rw [eq_comm, Bool.eq_iff_iff, Bool.and_eq_true, decide_eq_true_iff, decide_eq_true_iff]
      exact ⟨fun hbt => by have := (unhide HB).1 hbt; exact ⟨this.2, this.1.2⟩, fun hh => (unhide HB).2 ⟨⟨⟨d1, d2, d3, d4, d5⟩, hh.2⟩, hh.1⟩⟩)
    generalize (decide (cnt (xorL xs ys) = 0) && decide (s = t)) = q at *
    go_wp2
    go_ret
    exact ⟨ret_bool (unhide HE), unhide B2⟩
end Go.Proofs.YtbppanebpfpioaaDoor
namespace Go.Proofs.YtbppanebpfpioaaDoor
open Go.RowKit Go.Sort
set_option linter.unusedVariables false
set_option maxRecDepth 4000

/-- Packets that are not too long. -/
def shortK (ps : List PKV) : Prop := ∀ i, i < ps.length → (ps.getD i .dflt).r.n ≤ 1048576
def sameD (p q : PD) : Bool := decide (((p.o = q.o ∧ p.l = q.l ∧ p.k = q.k ∧ p.z = q.z ∧ p.h = q.h) ∧ p.s = q.s) ∧ cnt (xorL p.xs q.xs) = 0)
theorem sameD_self (p : PD) : sameD p p = true := decide_eq_true ⟨⟨⟨rfl, rfl, rfl, rfl, rfl⟩, rfl⟩, cnt_of_zero _ (xorL_self_zero _)⟩
theorem rpsame_is (p q : PKV) (w : World) (hp : RowAt w p.r.a p.r.n p.r.xs) (hq : RowAt w q.r.a q.r.n q.r.xs) (hn : p.r.n ≤ 1048576) (hm : q.r.n ≤ 1048576) :
    Calls Tryd.prog 20 #[.agg #[.int .i64 p.o, .int .i64 p.l, .int .i64 p.k, .int .i64 p.z, .int .i64 p.h, .slice p.r.a p.r.n p.r.c, .string p.r.s], .agg #[.int .i64 q.o, .int .i64 q.l, .int .i64 q.k, .int .i64 q.z, .int .i64 q.h, .slice q.r.a q.r.n q.r.c, .string q.r.s]] w fun e w' => e = .returned (.bool (sameD p.pd q.pd)) ∧ Below w.heap.size w w' :=
  rpsame_any p.o p.l p.k p.z p.h p.r.a p.r.n p.r.c p.r.xs p.r.s q.o q.l q.k q.z q.h q.r.a q.r.n q.r.c q.r.xs q.r.s w hp hq hn hm (sameD p.pd q.pd) (by unfold TB sameD SameP; rw [decide_eq_true_iff]; rfl)
theorem pd_at {ps qs : List PKV} (h : ps.map PKV.pd = qs.map PKV.pd) {i : Nat} (hi : i < ps.length) : (ps.getD i .dflt).pd = (qs.getD i .dflt).pd := by
  have hl : ps.length = qs.length := by have := congrArg List.length h; simpa using this
  rw [← pdGet hi, h, pdGet (by omega)]
set_option maxHeartbeats 4000000 in
theorem rpall_any (a : Option Addr) (n c : Nat) (ps : List PKV) (a' : Option Addr) (m c' : Nat) (qs : List PKV) (w : World) (h : PksAt w a n ps) (h' : PksAt w a' m qs) (he : ps.map PKV.pd = qs.map PKV.pd) (hs : shortK ps) (hs' : shortK qs) (hn : n ≤ 1048576) :
    Calls Tryd.prog 15 #[.slice a n c, .slice a' m c'] w fun e w' => e = .returned (.bool true) ∧ Below w.heap.size w w' := by
  obtain rfl := h.1
  obtain rfl : m = ps.length := by have h1 := congrArg List.length he; rw [List.length_map, List.length_map] at h1; rw [← h'.1]; exact h1.symm
  have H1 := hide h
  have H2 := hide h'
  have HE := hide he
  have HS := hide hs
  have HS' := hide hs'
  have hql : Hid (qs.length = ps.length) := hide h'.1
  clear h h' he hs hs'
  go_enter Tryd.func15, Tryd.ntmps15
  go_wp2
  go_loopw [5] (fun i wr => ∃ k : Nat, k ≤ ps.length ∧ i = .int .i64 k ∧ Hid (Below w.heap.size w wr)) (fun i _ => ps.length - (intOf i).toNat)
  case atStart => exact ⟨0, Nat.zero_le _, rfl, hide (Below.refl _ _)⟩
  case round =>
    obtain ⟨k, hk, rfl, HB⟩ := hrel
    by_cases hlt : k < ps.length
    · obtain ⟨b, off, rfl, hcl⟩ := ((unhide H1).below (unhide HB)).at hlt
      obtain ⟨b', off', rfl, hcl'⟩ := ((unhide H2).below (unhide HB)).at hlt
      obtain ⟨x0, x1, x2, x3, x4, x5, x6⟩ := hcl k hlt
      obtain ⟨y0, y1, y2, y3, y4, y5, y6⟩ := hcl' k hlt
      have hlt' : (k : Int) < (ps.length : Int) := by omega
      have hr1 := ((unhide H1).below (unhide HB)).2.1 k hlt
      have hr2 := ((unhide H2).below (unhide HB)).2.1 k hlt
      have hn1 := unhide HS k hlt
      have hn2 := unhide HS' k (by rw [unhide hql]; exact hlt)
      have hpd := pd_at (unhide HE) hlt
      generalize ps.getD k .dflt = p at *
      generalize qs.getD k .dflt = q at *
      have cS := quietB (W := wr) (fun w' hb => rpsame_is p q w' (hr1.below hb) (hr2.below hb) hn1 hn2)
      rw [hpd, sameD_self] at cS
      have CS := hide cS
      have r0 := cell_regrown x0
      have r1 := cell_regrown x1
      have r2 := cell_regrown x2
      have r3 := cell_regrown x3
      have r4 := cell_regrown x4
      have r5 := cell_regrown x5
      have r6 := cell_regrown x6
      have s0 := cell_regrown y0
      have s1 := cell_regrown y1
      have s2 := cell_regrown y2
      have s3 := cell_regrown y3
      have s4 := cell_regrown y4
      have s5 := cell_regrown y5
      have s6 := cell_regrown y6
      clear hcl hcl' cS hr1 hr2 hn1 hn2 hpd x0 x1 x2 x3 x4 x5 x6 y0 y1 y2 y3 y4 y5 y6
      go_wp2_with fail
      refine wp_region_quiet_below (by kernel_rfl) (by kernel_rfl) ?_
      repeat (with_reducible refine wpQuiet_step (fun K hK => ?_); go_simp; first | (with_reducible refine hK _ ?_; clear hK K) | (apply Exists.intro; apply And.intro; (intro _; (go_at_call 20; exact unhide CS _ _)); with_reducible refine hK _ ?_; clear hK K))
      refine wpQuiet_nil ?_
      intro w3 hw3
      obtain ⟨⟨dq, osq⟩, hw3⟩ := hw3
      have B3 := hide (below0 (unhide HB) (show Below wr.heap.size wr w3 by rw [hw3]; exact below_regrown _ dq osq))
      clear hw3 dq osq r0 r1 r2 r3 r4 r5 r6 s0 s1 s2 s3 s4 s5 s6 CS
      go_wp2
      go_roundw
      case rel => exact ⟨k + 1, by omega, by go_num, B3⟩
      case measure => simp [intOf]; omega
    · go_wp2
      go_ret
      exact ⟨rfl, unhide HB⟩
end Go.Proofs.YtbppanebpfpioaaDoor
