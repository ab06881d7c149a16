/-
  The walks of DecoderNone and DecoderOnce: for every input each tells true and writes nothing that was there.
  Packets that are true of an object's blocks: what a decoder tells of them is that object. No condition.
  Contracts of bucketlineref07.sizes, Check, and of bucketlinelaw07.few: for every packet.
  Contracts of packet.plainOf, Same and of bucketlineref07.Alike, Same: for every two packets of rows of at most 2^20 words.
  Contracts of bucketlineref07.Alike and Same: for every two packets of rows of at most 2^20 words.
-/
import Derived.Test.YtnjdldbdkafnaaaGreatDoorOJ
import Derived.Test.YtnjdldbdkafnaaaGreatDoorU43
import Derived.Test.YtnjdldbdkafnaaaGreatDoorU37
import Derived.Laws.StructEq
namespace Go.Proofs.YtnjdldbdkafnaaaGreatDoor
open Go.RowKit Go.Sort
set_option linter.unusedVariables false
set_option linter.unusedSimpArgs false
set_option maxRecDepth 4000

/-- A packet of a slice that came in, put into a decoder behind it. -/
theorem dput_of {W w : World} {g : Nat} {M : Int} {s : DS} {gs : Nat} {v : Value} {rs : List RV} {a : Option Addr} {n : Nat} {ps : List PKV} (ht : Tab W) (hb : Below W.heap.size W w) (hd : DcAt w g W.heap.size M s gs v rs) (h : PksAt W a n ps) (hs : shortP ps) {j : Nat} (hj : j < n) :
    Calls Tryz.prog 11 #[.pointer (some ⟨g, 0, none⟩), .agg #[.int .i64 (ps.getD j .dflt).o, .int .i64 (ps.getD j .dflt).l, .int .i64 (ps.getD j .dflt).k, .int .i64 (ps.getD j .dflt).z, .int .i64 (ps.getD j .dflt).h, .slice (ps.getD j .dflt).r.a (ps.getD j .dflt).r.n (ps.getD j .dflt).r.c, .string (ps.getD j .dflt).r.s]] w
      fun e w' => DputR w w' g W.heap.size M s gs v (ps.getD j .dflt) e :=
  dput_any g W.heap.size M s gs v rs (ps.getD j .dflt) w (fun wx hx => ht.below (hb.trans hx)) hd (fun wx hx => (h.2.1 j hj).below (hd.step hb hx)) (hs j).1 (hs j).2

end Go.Proofs.YtnjdldbdkafnaaaGreatDoor
namespace Go.Proofs.YtnjdldbdkafnaaaGreatDoor
open Go.RowKit Go.Sort
set_option linter.unusedVariables false
set_option linter.unusedSimpArgs false
set_option maxRecDepth 4000

/-- An object's blocks. -/
def blkS (t : ByteArray) (Z : Nat) : List ByteArray := blocksL (tx t) Z (kc t.size Z)
theorem blkS_len (t : ByteArray) (Z : Nat) : (blkS t Z).length = kc t.size Z := blocksL_length _ _ _
theorem blkS_get (t : ByteArray) (Z : Nat) : ∀ b, b < (blkS t Z).length → ((blkS t Z).getD b ByteArray.empty).size = Z := fun b hb => by
  rw [blkS_len] at hb
  unfold blkS
  rw [blocks_get _ _ _ _ hb, st_len, blk_length]
theorem blkS_join (t : ByteArray) (Z : Nat) (hz : 1 ≤ Z) : st ((joinL (blkS t Z)).take t.size) = t := by
  have hke := kc_enough t.size Z hz
  have hk1 := kc_pos t.size Z
  have h1 := join_back (tx_bytes t) Z (kc t.size Z) hk1 (by rw [tx_length]; exact hke) (by
    rw [tx_length]
    by_cases e : kc t.size Z = 1
    · exact .inl e
    · exact .inr ((kc_great t.size Z (kc t.size Z - 1) hz (by omega)).1 (by omega)))
  rw [tx_length] at h1
  unfold blkS
  rw [h1, st_tx]
/-- A packet that is true of the object t in blocks of Z bytes. -/
structure TruP (t : ByteArray) (Z : Nat) (p : PKV) : Prop where
  ok : okB p = true
  l : p.l = (t.size : Int)
  k : p.k = (kc t.size Z : Int)
  z : p.z = (Z : Int)
  h : holdsB (blkS t Z) p.r.xs p.r.s = true
/-- A decoder of such packets. -/
structure TrS (t : ByteArray) (Z : Nat) (s : DS) : Prop where
  same : s.bg = true → s.l = (t.size : Int) ∧ s.k = (kc t.size Z : Int) ∧ s.z = (Z : Int)
  hold : ∀ x ∈ s.L, holdsB (blkS t Z) x.1 x.2 = true ∧ smalls x.1 ∧ x.2.size ≤ 1000 ∧ x.1.length ≤ 10
  told : s.dn = true → s.ob = t
theorem TrS.zero (t : ByteArray) (Z : Nat) : TrS t Z zDS := ⟨(fun e => by cases e), (fun x hx => by cases hx), fun e => by cases e⟩
theorem TrS.beg {t : ByteArray} {Z : Nat} {s : DS} {p : PKV} (h : TrS t Z s) (hp : TruP t Z p) : TrS t Z (begS s p) := by
  unfold begS
  split
  · exact h
  · exact ⟨fun _ => ⟨hp.l, hp.k, hp.z⟩, (fun x hx => by cases hx), fun e => by cases e⟩
theorem TrS.keep {t : ByteArray} {Z : Nat} {M : Int} {s : DS} {x : List Nat × ByteArray} {ob : ByteArray} (h : TrS t Z s) (hi : DInv s) (hz : 1 ≤ Z) (hf : fitB s.k s.z x = true) (hx : holdsB (blkS t Z) x.1 x.2 = true ∧ smalls x.1 ∧ x.2.size ≤ 1000 ∧ x.1.length ≤ 10) (hT : TellsP M s x ob) : TrS t Z (keepS M s x ob) := by
  have hhold : ∀ y ∈ s.L ++ [x], holdsB (blkS t Z) y.1 y.2 = true ∧ smalls y.1 ∧ y.2.size ≤ 1000 ∧ y.1.length ≤ 10 := fun y hy => by
    rcases List.mem_append.1 hy with hy | hy
    · exact h.hold y hy
    · rw [List.mem_singleton.1 hy]; exact hx
  have hfit : ∀ y ∈ s.L ++ [x], fitB s.k s.z y = true := fun y hy => by
    rcases List.mem_append.1 hy with hy | hy
    · exact hi.fit y hy
    · rw [List.mem_singleton.1 hy]; exact hf
  cases hd : s.dn
  · by_cases hl : s.L.length < capN M
    · by_cases hr : (rankC (s.L ++ [x]) : Int) = s.k
      · have ho := hT (keepS_new (ob := ob) hd hl hr).2.2
        obtain ⟨e1, e2, e3⟩ := h.same hi.bg
        rw [(keepS_new hd hl hr).1]
        refine ⟨h.same, hhold, fun _ => ?_⟩
        show ob = t
        have hkk : s.k = ((blkS t Z).length : Int) := by rw [blkS_len]; exact e2
        rw [hkk, e1] at ho
        have hlen : (s.L ++ [x]).length ≤ 300 := by
          rw [List.length_append, List.length_singleton]
          have := capN_le M
          exact Nat.le_trans (Nat.succ_le_of_lt hl) (Nat.le_trans this (by decide))
        have hvv : ∀ y ∈ s.L ++ [x], validB ((blkS t Z).length : Int) y.1 = true ∧ y.2.size = Z := fun y hy => by
          have := hfit y hy
          unfold fitB at this
          rw [Bool.and_eq_true, Bool.and_eq_true] at this
          have h2 := decide_eq_true_iff.1 this.2
          rw [e3] at h2
          exact ⟨by rw [← hkk]; exact this.1.1, Int.ofNat.inj h2⟩
        have hrr : rankC (s.L ++ [x]) = (blkS t Z).length := by
          rw [hkk] at hr
          exact Int.ofNat.inj hr
        have hsz : 0 < sizeOfK ((blkS t Z).length : Int) := (valid_size (hvv x (List.mem_append.2 (.inr List.mem_cons_self))).1).1
        have := obj_true (m := Z) ho hsz (fun y hy => (hhold y hy).2) hlen (fun y hy => (hvv y hy).1) (fun y hy => (hhold y hy).1) (fun y hy => (hvv y hy).2) (blkS_get t Z) hrr
        rw [Int.toNat_natCast, blkS_join t Z hz] at this
        exact this
      · rw [(keepS_in hd hl hr).1]
        exact ⟨h.same, hhold, fun e => by have e' : s.dn = true := e; rw [hd] at e'; cases e'⟩
    · rw [(keepS_full hd hl).1]
      exact ⟨h.same, h.hold, h.told⟩
  · rw [(keepS_dn hd).1]; exact h
theorem TrS.put {t : ByteArray} {Z : Nat} {M : Int} {s : DS} {p : PKV} {ob : ByteArray} (h : TrS t Z s) (hi : s.bg = true → DInv s) (hz : 1 ≤ Z) (hp : TruP t Z p) (hx : smalls p.r.xs ∧ p.r.s.size ≤ 1000 ∧ p.r.xs.length ≤ 10) (hT : admB s p = true → TellsP M (begS s p) (p.r.xs, p.r.s) ob) : TrS t Z (dput M s p ob) := by
  cases ha : admB s p
  · rw [(dput_no ha).1]; exact h
  · rw [(dput_yes ha).1]
    exact (h.beg hp).keep (DInv.beg hi hp.ok) hz (adm_fit ha).2.1 ⟨hp.h, hx⟩ (hT ha)
end Go.Proofs.YtnjdldbdkafnaaaGreatDoor
namespace Go.Proofs.YtnjdldbdkafnaaaGreatDoor
open Go.RowKit
set_option linter.unusedVariables false
set_option linter.unusedSimpArgs false
set_option maxRecDepth 4000

set_option maxHeartbeats 400000 in
theorem rsizes_any (k z : Int) (w : World) (b : Bool) (hb : TB b (shapedP k z)) :
    Calls Tryz.prog 36 #[.int .i64 k, .int .i64 z] w fun e w' => e = .returned (.bool b) ∧ w' = w := by
  have HB := hide hb
  clear hb
  by_cases h1 : 1 ≤ k
  · by_cases h2 : k ≤ 128
    · by_cases h3 : 1 ≤ z
      · by_cases h4 : z ≤ 64
        · go_enter Tryz.func36, Tryz.ntmps36
          go_wp2
          go_ret
          exact ⟨ret_bool ((unhide HB).yes ⟨⟨h1, h2⟩, h3, h4⟩).symm, rfl⟩
        · go_enter Tryz.func36, Tryz.ntmps36
          go_wp2
          go_ret
          exact ⟨ret_bool ((unhide HB).no (fun h => by have := h.2.2; omega)).symm, rfl⟩
      · go_enter Tryz.func36, Tryz.ntmps36
        go_wp2
        go_ret
        exact ⟨ret_bool ((unhide HB).no (fun h => by have := h.2.1; omega)).symm, rfl⟩
    · go_enter Tryz.func36, Tryz.ntmps36
      go_wp2
      go_ret
      exact ⟨ret_bool ((unhide HB).no (fun h => by have := h.1.2; omega)).symm, rfl⟩
  · go_enter Tryz.func36, Tryz.ntmps36
    go_wp2
    go_ret
    exact ⟨ret_bool ((unhide HB).no (fun h => by have := h.1.1; omega)).symm, rfl⟩

set_option maxHeartbeats 2000000 in
theorem rcheck_any (o l k z h : Int) (a : Option Addr) (n c : Nat) (xs : List Nat) (s : ByteArray) (w : World) (hr : RowAt w a n xs) (en : Nat) (hen : CkP en (CheckP o l k z h xs s.size)) :
    Calls Tryz.prog 19 #[.agg #[.int .i64 o, .int .i64 l, .int .i64 k, .int .i64 z, .int .i64 h, .slice a n c, .string s]] w fun e w' => e = .returned (.int .i64 ((en : Nat) : Int)) ∧ Below w.heap.size w w' := by
  have HE := hide hen
  obtain ⟨b1, h1⟩ := tb_ex (shapedP k z)
  have H1 := hide h1
  have HL := hide hr.1
  have HR := hide (row_alloc hr (.cells #[.int .i64 o, .int .i64 l, .int .i64 k, .int .i64 z, .int .i64 h, .slice a n c, .string s] 31))
  have B0 := hide (below_new w (.cells #[.int .i64 o, .int .i64 l, .int .i64 k, .int .i64 z, .int .i64 h, .slice a n c, .string s] 31))
  clear hen hr h1
  by_cases c1 : 0 ≤ o
  case neg =>
    go_enter Tryz.func19, Tryz.ntmps19
    go_wp2
    go_ret
    exact ⟨ret_int (by rw [(unhide HE).no (fun h => by have := h.1.2.1.1; omega)]; rfl), unhide B0⟩
  by_cases c2 : o ≤ 4294967295
  case neg =>
    go_enter Tryz.func19, Tryz.ntmps19
    go_wp2
    go_ret
    exact ⟨ret_int (by rw [(unhide HE).no (fun h => by have := h.1.2.1.2; omega)]; rfl), unhide B0⟩
  go_enter Tryz.func19, Tryz.ntmps19
  go_wp2_with fail
  refine (rsizes_any k z _ b1 (unhide H1)).mono ?_
  rintro e w' ⟨rfl, hw⟩
  obtain rfl := hw.symm
  clear hw
  cases b1
  · go_wp2
    go_ret
    exact ⟨ret_int (by rw [(unhide HE).no (fun h => by simpa using (unhide H1).2 h.1.1)]; rfl), unhide B0⟩
  · have HW := hide (show wrap64 (k * z) = k * z by have hm := mul_le ((unhide H1).1 rfl); unfold wrap64; omega)
    by_cases c4 : 0 ≤ h
    case neg =>
      go_wp2
      go_ret
      exact ⟨ret_int (by rw [(unhide HE).no (fun h => by have := h.1.2.2.2.1; omega)]; rfl), unhide B0⟩
    by_cases c5 : h ≤ 15
    case neg =>
      go_wp2
      go_ret
      exact ⟨ret_int (by rw [(unhide HE).no (fun h => by have := h.1.2.2.2.2; omega)]; rfl), unhide B0⟩
    by_cases c6 : l < 0
    case pos =>
      go_wp2
      go_ret
      exact ⟨ret_int (by rw [(unhide HE).no (fun h => by have := h.1.2.2.1.1; omega)]; rfl), unhide B0⟩
    by_cases c7 : wrap64 (k * z) < l
    case pos =>
      go_wp2
      go_ret
      exact ⟨ret_int (by rw [(unhide HE).no (fun h => by have := h.1.2.2.1.2; have := unhide HW; omega)]; rfl), unhide B0⟩
    have HL7 := hide (show 0 ≤ l ∧ l ≤ k * z by have := unhide HW; omega)
    have HBP := hide (show boundP o l k z h from ⟨(unhide H1).1 rfl, ⟨c1, c2⟩, unhide HL7, c4, c5⟩)
    go_wp2_with fail
    refine (rvalid_any a n c xs k _ (unhide HR)).mono ?_
    rintro e w1 ⟨⟨b2, rfl, hb2⟩, hw⟩
    obtain rfl := hw.symm
    clear hw
    have H2 := hide hb2
    clear hb2
    cases b2
    · go_wp2
      go_ret
      exact ⟨ret_int (by rw [(unhide HE).no (fun h => by simpa using (unhide H2).2 h.2.1)]; rfl), unhide B0⟩
    · have hv := (unhide H2).1 rfl
      have hn : n ≤ 1048576 := by have := valid_len hv; have := unhide HL; omega
      have HC := hide (rcount_any a n c xs _ (unhide HR) hn)
      have HV := hide hv
      clear hv hn
      rcases Nat.eq_zero_or_pos (cnt xs) with hc | hc
      · rw [hc] at HC
        have HZ := hide hc
        clear hc
        go_wp2_with fail
        refine (unhide HC).mono ?_
        rintro e w' ⟨rfl, hw⟩
        obtain rfl := hw.symm
        clear hw
        go_wp2
        go_ret
        exact ⟨ret_int (by rw [(unhide HE).no (fun h => by have := h.2.2.1; have := unhide HZ; omega)]; rfl), unhide B0⟩
      · have HZ := hide hc
        have hc' : (((cnt xs : Nat) : Int) == 0) = false := by rw [beq_eq_false_iff_ne]; omega
        generalize ((cnt xs : Nat) : Int) = m at *
        clear hc
        by_cases hz : (s.size : Int) = z
        · have hz' : ((s.size : Int) != z) = false := by rw [hz]; simp
          have HQ := hide hz
          clear hz
          go_wp2_with fail
          refine (unhide HC).mono ?_
          rintro e w' ⟨rfl, hw⟩
          obtain rfl := hw.symm
          clear hw
          go_wp2
          go_ret
          exact ⟨ret_int (by rw [(unhide HE).yes ⟨unhide HBP, unhide HV, unhide HZ, unhide HQ⟩]; rfl), unhide B0⟩
        · have hz' : ((s.size : Int) != z) = true := by rw [bne_iff_ne]; exact hz
          have HQ := hide hz
          clear hz
          go_wp2_with fail
          refine (unhide HC).mono ?_
          rintro e w' ⟨rfl, hw⟩
          obtain rfl := hw.symm
          clear hw
          go_wp2
          go_ret
          exact ⟨ret_int (by rw [(unhide HE).no (fun h => unhide HQ h.2.2.2)]; rfl), unhide B0⟩

end Go.Proofs.YtnjdldbdkafnaaaGreatDoor
namespace Go.Proofs.YtnjdldbdkafnaaaGreatDoor
open Go.RowKit Go.Sort
set_option linter.unusedVariables false
set_option linter.unusedSimpArgs false
set_option maxRecDepth 4000

theorem below2' (w : World) (o o' : Obj) : Below w.heap.size w ((w.alloc o).alloc o') := ((Below.refl _ _).alloc (Nat.le_refl _) _).alloc (by simp) _

end Go.Proofs.YtnjdldbdkafnaaaGreatDoor
namespace Go.Proofs.YtnjdldbdkafnaaaGreatDoor
open Go.RowKit
set_option linter.unusedVariables false
set_option linter.unusedSimpArgs false
set_option maxRecDepth 4000

set_option maxHeartbeats 1000000 in
theorem ralike_any (o l k z h : Int) (a : Option Addr) (n c : Nat) (s : ByteArray) (o' l' k' z' h' : Int) (a' : Option Addr) (m c' : Nat) (t : ByteArray) (w : World) (b : Bool) (hb : TB b (o = o' ∧ l = l' ∧ k = k' ∧ z = z')) :
    Calls Tryz.prog 20 #[.agg #[.int .i64 o, .int .i64 l, .int .i64 k, .int .i64 z, .int .i64 h, .slice a n c, .string s], .agg #[.int .i64 o', .int .i64 l', .int .i64 k', .int .i64 z', .int .i64 h', .slice a' m c', .string t]] w fun e w' => e = .returned (.bool b) ∧ Below w.heap.size w w' := by
  have HB := hide hb
  clear hb
  have B0 := hide (below2' w (.cells #[.int .i64 o, .int .i64 l, .int .i64 k, .int .i64 z, .int .i64 h, .slice a n c, .string s] 31) (.cells #[.int .i64 o', .int .i64 l', .int .i64 k', .int .i64 z', .int .i64 h', .slice a' m c', .string t] 31))
  have x1 := (pk_new w (.int .i64 o) (.int .i64 l) (.int .i64 k) (.int .i64 z) (.int .i64 h) (.slice a n c) (.string s)).alloc (.cells #[.int .i64 o', .int .i64 l', .int .i64 k', .int .i64 z', .int .i64 h', .slice a' m c', .string t] 31)
  have x2 := pk_new (w.alloc (.cells #[.int .i64 o, .int .i64 l, .int .i64 k, .int .i64 z, .int .i64 h, .slice a n c, .string s] 31)) (.int .i64 o') (.int .i64 l') (.int .i64 k') (.int .i64 z') (.int .i64 h') (.slice a' m c') (.string t)
  rw [alloc_size] at x2
  obtain ⟨x10, x11, x12, x13, x14, x15, x16⟩ := x1
  obtain ⟨x20, x21, x22, x23, x24, x25, x26⟩ := x2
  by_cases h1 : o = o'
  case neg =>
    have e1 : (o == o') = false := beq_eq_false_iff_ne.2 h1
    have E1 := hide h1
    clear h1
    go_enter Tryz.func20, Tryz.ntmps20
    go_wp2
    go_ret
    exact ⟨ret_bool ((unhide HB).no (fun h => unhide E1 h.1)).symm, unhide B0⟩
  have e1 : (o == o') = true := beq_iff_eq.2 h1
  have E1 := hide h1
  clear h1
  by_cases h2 : l = l'
  case neg =>
    have e2 : (l == l') = false := beq_eq_false_iff_ne.2 h2
    have E2 := hide h2
    clear h2
    go_enter Tryz.func20, Tryz.ntmps20
    go_wp2
    go_ret
    exact ⟨ret_bool ((unhide HB).no (fun h => unhide E2 h.2.1)).symm, unhide B0⟩
  have e2 : (l == l') = true := beq_iff_eq.2 h2
  have E2 := hide h2
  clear h2
  by_cases h3 : k = k'
  case neg =>
    have e3 : (k == k') = false := beq_eq_false_iff_ne.2 h3
    have E3 := hide h3
    clear h3
    go_enter Tryz.func20, Tryz.ntmps20
    go_wp2
    go_ret
    exact ⟨ret_bool ((unhide HB).no (fun h => unhide E3 h.2.2.1)).symm, unhide B0⟩
  have e3 : (k == k') = true := beq_iff_eq.2 h3
  have E3 := hide h3
  clear h3
  by_cases h4 : z = z'
  case neg =>
    have e4 : (z == z') = false := beq_eq_false_iff_ne.2 h4
    have E4 := hide h4
    clear h4
    go_enter Tryz.func20, Tryz.ntmps20
    go_wp2
    go_ret
    exact ⟨ret_bool ((unhide HB).no (fun h => unhide E4 h.2.2.2)).symm, unhide B0⟩
  have e4 : (z == z') = true := beq_iff_eq.2 h4
  have E4 := hide h4
  clear h4
  go_enter Tryz.func20, Tryz.ntmps20
  go_wp2
  go_ret
  exact ⟨ret_bool ((unhide HB).yes ⟨unhide E1, unhide E2, unhide E3, unhide E4⟩).symm, unhide B0⟩

end Go.Proofs.YtnjdldbdkafnaaaGreatDoor
