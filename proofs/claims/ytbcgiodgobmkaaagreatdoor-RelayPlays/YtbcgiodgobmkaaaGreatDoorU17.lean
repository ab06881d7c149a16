/-
  Contracts of packet.within, shaped, bounded, rowed, Check, of bucketlineref07.sizes, Check, and of bucketlinelaw07.few: for every packet.
  Blocks that hold packets, none of them frozen (PkB); all of one written (set7). No condition.
  Contracts of internal/stringslite.Clone and strings.Clone: for every text of at most 2^20 bytes.
-/
import Derived.Test.YtbcgiodgobmkaaaGreatDoorU8
import Derived.Laws.Rows
import Derived.Test.YtbcgiodgobmkaaaGreatDoorU3
import Derived.Lib.UnsafeStr
import Derived.Laws.Concat
namespace Go.Proofs.YtbcgiodgobmkaaaGreatDoor
open Go.RowKit
set_option linter.unusedVariables false
set_option linter.unusedSimpArgs false
set_option maxRecDepth 4000

/-- A block that holds a packet. -/
def PkAt (w : World) (g : Nat) (v0 v1 v2 v3 v4 v5 v6 : Value) : Prop :=
  w.cell? ⟨g, 0, none⟩ = some v0 ∧ w.cell? ⟨g, 1, none⟩ = some v1 ∧ w.cell? ⟨g, 2, none⟩ = some v2 ∧ w.cell? ⟨g, 3, none⟩ = some v3 ∧ w.cell? ⟨g, 4, none⟩ = some v4 ∧ w.cell? ⟨g, 5, none⟩ = some v5 ∧ w.cell? ⟨g, 6, none⟩ = some v6
theorem pk_new (w : World) (v0 v1 v2 v3 v4 v5 v6 : Value) : PkAt (w.alloc (.cells #[v0, v1, v2, v3, v4, v5, v6] 42)) w.heap.size v0 v1 v2 v3 v4 v5 v6 := by
  refine ⟨?_, ?_, ?_, ?_, ?_, ?_, ?_⟩ <;> simp
theorem PkAt.below {w w' : World} {g : Nat} {v0 v1 v2 v3 v4 v5 v6 : Value} (h : PkAt w g v0 v1 v2 v3 v4 v5 v6) (hb : Below w.heap.size w w') : PkAt w' g v0 v1 v2 v3 v4 v5 v6 := by
  obtain ⟨h0, h1, h2, h3, h4, h5, h6⟩ := h
  have e : ∀ o, w'.cell? ⟨g, o, none⟩ = w.cell? ⟨g, o, none⟩ := fun o => hb.cell (show g < w.heap.size from World.block_lt_of_cell? w ⟨g, 0, none⟩ h0)
  exact ⟨(e _).trans h0, (e _).trans h1, (e _).trans h2, (e _).trans h3, (e _).trans h4, (e _).trans h5, (e _).trans h6⟩
theorem PkAt.alloc {w : World} {g : Nat} {v0 v1 v2 v3 v4 v5 v6 : Value} (h : PkAt w g v0 v1 v2 v3 v4 v5 v6) (o : Obj) : PkAt (w.alloc o) g v0 v1 v2 v3 v4 v5 v6 := h.below ((Below.refl _ _).alloc (Nat.le_refl _) _)
theorem below_new (w : World) (o : Obj) : Below w.heap.size w (w.alloc o) := (Below.refl _ _).alloc (Nat.le_refl _) _

set_option maxHeartbeats 400000 in
theorem pwithin_any (n lo hi : Int) (w : World) (b : Bool) (hb : TB b (lo ≤ n ∧ n ≤ hi)) :
    Calls Tryz.prog 145 #[.int .i64 n, .int .i64 lo, .int .i64 hi] w fun e w' => e = .returned (.bool b) ∧ w' = w := by
  have HB := hide hb
  clear hb
  by_cases h1 : lo ≤ n
  · by_cases h2 : n ≤ hi
    · go_enter Tryz.func145, Tryz.ntmps145
      go_wp2
      go_ret
      exact ⟨ret_bool ((unhide HB).yes ⟨h1, h2⟩).symm, rfl⟩
    · go_enter Tryz.func145, Tryz.ntmps145
      go_wp2
      go_ret
      exact ⟨ret_bool ((unhide HB).no (fun h => by omega)).symm, rfl⟩
  · go_enter Tryz.func145, Tryz.ntmps145
    go_wp2
    go_ret
    exact ⟨ret_bool ((unhide HB).no (fun h => by omega)).symm, rfl⟩

set_option maxHeartbeats 400000 in
theorem shaped_any (o l k z h : Int) (x y : Value) (w : World) (b : Bool) (hb : TB b (shapedP k z)) :
    Calls Tryz.prog 144 #[.agg #[.int .i64 o, .int .i64 l, .int .i64 k, .int .i64 z, .int .i64 h, x, y]] w fun e w' => e = .returned (.bool b) ∧ Below w.heap.size w w' := by
  have HB := hide hb
  obtain ⟨b1, h1⟩ := tb_ex (1 ≤ k ∧ k ≤ 128)
  obtain ⟨b2, h2⟩ := tb_ex (1 ≤ z ∧ z ≤ 64)
  have H1 := hide h1
  have H2 := hide h2
  clear hb h1 h2
  have B0 := hide (below_new w (.cells #[.int .i64 o, .int .i64 l, .int .i64 k, .int .i64 z, .int .i64 h, x, y] 42))
  go_enter Tryz.func144, Tryz.ntmps144
  go_wp2_with fail
  refine (pwithin_any k 1 128 _ b1 (unhide H1)).mono ?_
  rintro e w' ⟨rfl, hw⟩
  obtain rfl := hw.symm
  clear hw
  cases b1
  · go_wp2
    go_ret
    exact ⟨ret_bool ((unhide HB).no (fun h => by simpa using (unhide H1).2 h.1)).symm, unhide B0⟩
  · go_wp2_with fail
    refine (pwithin_any z 1 64 _ b2 (unhide H2)).mono ?_
    rintro e w' ⟨rfl, hw⟩
    obtain rfl := hw.symm
    clear hw
    cases b2
    · go_wp2
      go_ret
      exact ⟨ret_bool ((unhide HB).no (fun h => by simpa using (unhide H2).2 h.2)).symm, unhide B0⟩
    · go_wp2
      go_ret
      exact ⟨ret_bool ((unhide HB).yes ⟨(unhide H1).1 rfl, (unhide H2).1 rfl⟩).symm, unhide B0⟩

set_option maxHeartbeats 1000000 in
theorem bounded_any (o l k z h : Int) (x y : Value) (w : World) (b : Bool) (hb : TB b (boundP o l k z h)) :
    Calls Tryz.prog 139 #[.agg #[.int .i64 o, .int .i64 l, .int .i64 k, .int .i64 z, .int .i64 h, x, y]] w fun e w' => e = .returned (.bool b) ∧ Below w.heap.size w w' := by
  have HB := hide hb
  obtain ⟨b1, h1⟩ := tb_ex (shapedP k z)
  obtain ⟨b2, h2⟩ := tb_ex (0 ≤ o ∧ o ≤ 4294967295)
  obtain ⟨b3, h3⟩ := tb_ex (0 ≤ l ∧ l ≤ k * z)
  obtain ⟨b4, h4⟩ := tb_ex (0 ≤ h ∧ h ≤ 15)
  have H1 := hide h1
  have H2 := hide h2
  have H3 := hide h3
  have H4 := hide h4
  clear hb h1 h2 h3 h4
  have B0 := hide (below_new w (.cells #[.int .i64 o, .int .i64 l, .int .i64 k, .int .i64 z, .int .i64 h, x, y] 42))
  have HX := hide (pk_new w (.int .i64 o) (.int .i64 l) (.int .i64 k) (.int .i64 z) (.int .i64 h) x y)
  go_enter Tryz.func139, Tryz.ntmps139
  go_wp2_with fail
  refine (shaped_any o l k z h x y _ b1 (unhide H1)).mono ?_
  rintro e w1 ⟨rfl, hb1⟩
  obtain ⟨k0, k1, k2, k3, k4, k5, k6⟩ := (unhide HX).below hb1
  have B1 := hide (below0 (unhide B0) hb1)
  clear hb1
  cases b1
  · go_wp2
    go_ret
    exact ⟨ret_bool ((unhide HB).no (fun h => by simpa using (unhide H1).2 h.1)).symm, unhide B1⟩
  · have hm := mul_le ((unhide H1).1 rfl)
    have HW := hide (show wrap64 (k * z) = k * z by unfold wrap64; omega)
    clear hm
    go_wp2_with fail
    refine (pwithin_any o 0 4294967295 _ b2 (unhide H2)).mono ?_
    rintro e w' ⟨rfl, hw⟩
    obtain rfl := hw.symm
    clear hw
    cases b2
    · go_wp2
      go_ret
      exact ⟨ret_bool ((unhide HB).no (fun h => by simpa using (unhide H2).2 h.2.1)).symm, unhide B1⟩
    · go_wp2_with fail
      refine (pwithin_any l 0 (wrap64 (k * z)) _ b3 (by rw [unhide HW]; exact unhide H3)).mono ?_
      rintro e w' ⟨rfl, hw⟩
      obtain rfl := hw.symm
      clear hw
      cases b3
      · go_wp2
        go_ret
        exact ⟨ret_bool ((unhide HB).no (fun h => by simpa using (unhide H3).2 h.2.2.1)).symm, unhide B1⟩
      · go_wp2_with fail
        refine (pwithin_any h 0 15 _ b4 (unhide H4)).mono ?_
        rintro e w' ⟨rfl, hw⟩
        obtain rfl := hw.symm
        clear hw
        cases b4
        · go_wp2
          go_ret
          exact ⟨ret_bool ((unhide HB).no (fun h => by simpa using (unhide H4).2 h.2.2.2)).symm, unhide B1⟩
        · go_wp2
          go_ret
          exact ⟨ret_bool ((unhide HB).yes ⟨(unhide H1).1 rfl, (unhide H2).1 rfl, (unhide H3).1 rfl, (unhide H4).1 rfl⟩).symm, unhide B1⟩

theorem valid_len {k : Int} {xs : List Nat} (h : ValidP k xs) : xs.length ≤ 2 := by
  have := sizeOfK_le k
  have := h.2.1
  omega

set_option maxHeartbeats 1000000 in
theorem rowed_any (o l k z h : Int) (a : Option Addr) (n c : Nat) (xs : List Nat) (s : ByteArray) (w : World) (hr : RowAt w a n xs) (b : Bool) (hb : TB b (rowedP k z xs s.size)) :
    Calls Tryz.prog 140 #[.agg #[.int .i64 o, .int .i64 l, .int .i64 k, .int .i64 z, .int .i64 h, .slice a n c, .string s]] w fun e w' => e = .returned (.bool b) ∧ Below w.heap.size w w' := by
  have HB := hide hb
  have hlen := hr.1
  have HR := hide (row_alloc hr (.cells #[.int .i64 o, .int .i64 l, .int .i64 k, .int .i64 z, .int .i64 h, .slice a n c, .string s] 42))
  have B0 := hide (below_new w (.cells #[.int .i64 o, .int .i64 l, .int .i64 k, .int .i64 z, .int .i64 h, .slice a n c, .string s] 42))
  have HX := hide (pk_new w (.int .i64 o) (.int .i64 l) (.int .i64 k) (.int .i64 z) (.int .i64 h) (.slice a n c) (.string s))
  have HL := hide hlen
  clear hb hr hlen
  go_enter Tryz.func140, Tryz.ntmps140
  go_wp2_with fail
  refine (valid_any a n c xs k _ (unhide HR)).mono ?_
  rintro e w1 ⟨⟨b1, rfl, hb1⟩, hbl⟩
  obtain ⟨k0, k1, k2, k3, k4, k5, k6⟩ := (unhide HX).below hbl
  have B1 := hide (below0 (unhide B0) hbl)
  have HR1 := hide ((unhide HR).below hbl)
  have H1 := hide hb1
  clear hbl hb1
  cases b1
  · go_wp2
    go_ret
    exact ⟨ret_bool ((unhide HB).no (fun h => by simpa using (unhide H1).2 h.1)).symm, unhide B1⟩
  · have hv := (unhide H1).1 rfl
    have hn : n ≤ 1048576 := by have := valid_len hv; have := unhide HL; omega
    have HC := hide (count_any a n c xs w1 (unhide HR1) hn)
    have HV := hide hv
    clear hv hn
    rcases Nat.eq_zero_or_pos (cnt xs) with hc | hc
    · rw [hc] at HC
      have HZ := hide hc
      clear hc
      go_wp2_with fail
      refine (unhide HC).mono ?_
      rintro e w' ⟨rfl, hw⟩
      obtain rfl := hw.symm
      clear hw
      go_wp2
      go_ret
      exact ⟨ret_bool ((unhide HB).no (fun h => by have := h.2.1; have := unhide HZ; omega)).symm, unhide B1⟩
    · have HZ := hide hc
      have hc' : (0 : Int) < ((cnt xs : Nat) : Int) := by omega
      generalize ((cnt xs : Nat) : Int) = m at *
      clear hc
      by_cases hz : (s.size : Int) = z
      · have hz' : ((s.size : Int) == z) = true := by rw [beq_iff_eq]; exact hz
        have HQ := hide hz
        clear hz
        go_wp2_with fail
        refine (unhide HC).mono ?_
        rintro e w' ⟨rfl, hw⟩
        obtain rfl := hw.symm
        clear hw
        go_wp2
        go_ret
        exact ⟨ret_bool ((unhide HB).yes ⟨unhide HV, unhide HZ, unhide HQ⟩).symm, unhide B1⟩
      · have hz' : ((s.size : Int) == z) = false := by rw [beq_eq_false_iff_ne]; exact hz
        have HQ := hide hz
        clear hz
        go_wp2_with fail
        refine (unhide HC).mono ?_
        rintro e w' ⟨rfl, hw⟩
        obtain rfl := hw.symm
        clear hw
        go_wp2
        go_ret
        exact ⟨ret_bool ((unhide HB).no (fun h => unhide HQ h.2.2)).symm, unhide B1⟩

set_option maxHeartbeats 1000000 in
theorem check_any (o l k z h : Int) (a : Option Addr) (n c : Nat) (xs : List Nat) (s : ByteArray) (w : World) (hr : RowAt w a n xs) (en : Nat) (hen : CkP en (CheckP o l k z h xs s.size)) :
    Calls Tryz.prog 133 #[.agg #[.int .i64 o, .int .i64 l, .int .i64 k, .int .i64 z, .int .i64 h, .slice a n c, .string s]] w fun e w' => e = .returned (.int .i64 ((en : Nat) : Int)) ∧ Below w.heap.size w w' := by
  have HE := hide hen
  obtain ⟨b1, h1⟩ := tb_ex (boundP o l k z h)
  obtain ⟨b2, h2⟩ := tb_ex (rowedP k z xs s.size)
  have H1 := hide h1
  have H2 := hide h2
  have HR := hide (row_alloc hr (.cells #[.int .i64 o, .int .i64 l, .int .i64 k, .int .i64 z, .int .i64 h, .slice a n c, .string s] 42))
  have B0 := hide (below_new w (.cells #[.int .i64 o, .int .i64 l, .int .i64 k, .int .i64 z, .int .i64 h, .slice a n c, .string s] 42))
  have HX := hide (pk_new w (.int .i64 o) (.int .i64 l) (.int .i64 k) (.int .i64 z) (.int .i64 h) (.slice a n c) (.string s))
  clear hen hr h1 h2
  go_enter Tryz.func133, Tryz.ntmps133
  go_wp2_with fail
  refine (bounded_any o l k z h _ _ _ b1 (unhide H1)).mono ?_
  rintro e w1 ⟨rfl, hb1⟩
  obtain ⟨k0, k1, k2, k3, k4, k5, k6⟩ := (unhide HX).below hb1
  have HR1 := hide ((unhide HR).below hb1)
  have B1 := hide (below0 (unhide B0) hb1)
  clear hb1
  cases b1
  · go_wp2
    go_ret
    exact ⟨ret_int (by rw [(unhide HE).no (fun h => by simpa using (unhide H1).2 h.1)]; rfl), unhide B1⟩
  · go_wp2_with fail
    refine (rowed_any o l k z h a n c xs s _ (unhide HR1) b2 (unhide H2)).mono ?_
    rintro e w2 ⟨rfl, hb2⟩
    have B2 := hide (below0 (unhide B1) hb2)
    clear hb2
    cases b2
    · go_wp2
      go_ret
      exact ⟨ret_int (by rw [(unhide HE).no (fun h => by simpa using (unhide H2).2 h.2)]; rfl), unhide B2⟩
    · go_wp2
      go_ret
      exact ⟨ret_int (by rw [(unhide HE).yes ⟨(unhide H1).1 rfl, (unhide H2).1 rfl⟩]; rfl), unhide B2⟩
end Go.Proofs.YtbcgiodgobmkaaaGreatDoor
namespace Go.Proofs.YtbcgiodgobmkaaaGreatDoor
open Go.RowKit Go.Sort
set_option linter.unusedVariables false
set_option linter.unusedSimpArgs false
set_option maxRecDepth 4000

/-- A block that holds a packet, none of it frozen. -/
def PkB (w : World) (g : Nat) (v0 v1 v2 v3 v4 v5 v6 : Value) : Prop := w.heap[g]? = some (.cells #[v0, v1, v2, v3, v4, v5, v6] 42 (0, 0))
theorem pkb_new (w : World) (v0 v1 v2 v3 v4 v5 v6 : Value) : PkB (w.alloc (.cells #[v0, v1, v2, v3, v4, v5, v6] 42)) w.heap.size v0 v1 v2 v3 v4 v5 v6 := by
  show (w.heap.push _)[w.heap.size]? = _
  simp
theorem PkB.lt {w : World} {g : Nat} {v0 v1 v2 v3 v4 v5 v6 : Value} (h : PkB w g v0 v1 v2 v3 v4 v5 v6) : g < w.heap.size := (Array.getElem?_eq_some_iff.1 h).1
theorem PkB.below {w w' : World} {g : Nat} {v0 v1 v2 v3 v4 v5 v6 : Value} (h : PkB w g v0 v1 v2 v3 v4 v5 v6) (hb : Below w.heap.size w w') : PkB w' g v0 v1 v2 v3 v4 v5 v6 := (hb.block g h.lt).trans h
theorem PkB.at {w : World} {g : Nat} {v0 v1 v2 v3 v4 v5 v6 : Value} (h : PkB w g v0 v1 v2 v3 v4 v5 v6) : PkAt w g v0 v1 v2 v3 v4 v5 v6 := by
  unfold PkB at h
  refine ⟨?_, ?_, ?_, ?_, ?_, ?_, ?_⟩ <;> rw [cell_of_row w g _ _ _ _ h] <;> rfl
theorem PkB.frz {w : World} {g : Nat} {v0 v1 v2 v3 v4 v5 v6 : Value} (h : PkB w g v0 v1 v2 v3 v4 v5 v6) (i : Nat) : w.frozen? ⟨g, i, none⟩ = false := by
  unfold PkB at h
  simp [World.frozen?, h]
theorem PkB.other {w : World} {g : Nat} {v0 v1 v2 v3 v4 v5 v6 : Value} (h : PkB w g v0 v1 v2 v3 v4 v5 v6) {a : Addr} (ha : g ≠ a.block) (u : Value) : PkB (w.setCell a u) g v0 v1 v2 v3 v4 v5 v6 :=
  (Below.heap_setCell w a u g ha).trans h
theorem PkB.set0 {w : World} {g : Nat} {v0 v1 v2 v3 v4 v5 v6 : Value} (h : PkB w g v0 v1 v2 v3 v4 v5 v6) (u : Value) : PkB (w.setCell ⟨g, 0, none⟩ u) g u v1 v2 v3 v4 v5 v6 := heap_setCell_same w g 0 _ _ u h
theorem PkB.set1 {w : World} {g : Nat} {v0 v1 v2 v3 v4 v5 v6 : Value} (h : PkB w g v0 v1 v2 v3 v4 v5 v6) (u : Value) : PkB (w.setCell ⟨g, 1, none⟩ u) g v0 u v2 v3 v4 v5 v6 := heap_setCell_same w g 1 _ _ u h
theorem PkB.set2 {w : World} {g : Nat} {v0 v1 v2 v3 v4 v5 v6 : Value} (h : PkB w g v0 v1 v2 v3 v4 v5 v6) (u : Value) : PkB (w.setCell ⟨g, 2, none⟩ u) g v0 v1 u v3 v4 v5 v6 := heap_setCell_same w g 2 _ _ u h
theorem PkB.set3 {w : World} {g : Nat} {v0 v1 v2 v3 v4 v5 v6 : Value} (h : PkB w g v0 v1 v2 v3 v4 v5 v6) (u : Value) : PkB (w.setCell ⟨g, 3, none⟩ u) g v0 v1 v2 u v4 v5 v6 := heap_setCell_same w g 3 _ _ u h
theorem PkB.set4 {w : World} {g : Nat} {v0 v1 v2 v3 v4 v5 v6 : Value} (h : PkB w g v0 v1 v2 v3 v4 v5 v6) (u : Value) : PkB (w.setCell ⟨g, 4, none⟩ u) g v0 v1 v2 v3 u v5 v6 := heap_setCell_same w g 4 _ _ u h
theorem PkB.set5 {w : World} {g : Nat} {v0 v1 v2 v3 v4 v5 v6 : Value} (h : PkB w g v0 v1 v2 v3 v4 v5 v6) (u : Value) : PkB (w.setCell ⟨g, 5, none⟩ u) g v0 v1 v2 v3 v4 u v6 := heap_setCell_same w g 5 _ _ u h
theorem PkB.set6 {w : World} {g : Nat} {v0 v1 v2 v3 v4 v5 v6 : Value} (h : PkB w g v0 v1 v2 v3 v4 v5 v6) (u : Value) : PkB (w.setCell ⟨g, 6, none⟩ u) g v0 v1 v2 v3 v4 v5 u := heap_setCell_same w g 6 _ _ u h
/-- All cells of a packet's block are written. -/
def set7 (w : World) (g : Nat) (u0 u1 u2 u3 u4 u5 u6 : Value) : World := ((((((w.setCell ⟨g, 0, none⟩ u0).setCell ⟨g, 1, none⟩ u1).setCell ⟨g, 2, none⟩ u2).setCell ⟨g, 3, none⟩ u3).setCell ⟨g, 4, none⟩ u4).setCell ⟨g, 5, none⟩ u5).setCell ⟨g, 6, none⟩ u6
theorem PkB.sets {w : World} {g : Nat} {v0 v1 v2 v3 v4 v5 v6 : Value} (h : PkB w g v0 v1 v2 v3 v4 v5 v6) (u0 u1 u2 u3 u4 u5 u6 : Value) : PkB (set7 w g u0 u1 u2 u3 u4 u5 u6) g u0 u1 u2 u3 u4 u5 u6 :=
  ((((((h.set0 u0).set1 u1).set2 u2).set3 u3).set4 u4).set5 u5).set6 u6
theorem below7 {B : Nat} {a w : World} (h : Below B a w) {g : Nat} (hg : B ≤ g) (u0 u1 u2 u3 u4 u5 u6 : Value) : Below B a (set7 w g u0 u1 u2 u3 u4 u5 u6) :=
  ((((((h.setCell hg u0).setCell hg u1).setCell hg u2).setCell hg u3).setCell hg u4).setCell hg u5).setCell hg u6
theorem Own.apart {w : World} {B : Nat} {a : Option Addr} {n c : Nat} {xs : List Nat} (h : Own w B (.slice a n c) xs) : ∀ ad, a = some ad → n ≠ 0 → B ≤ ad.block := by
  intro ad ha hn
  obtain ⟨a', c', he, hr⟩ := h.row
  simp only [Value.slice.injEq] at he
  obtain ⟨rfl, rfl, rfl⟩ := he
  obtain ⟨g, cap, hv, hB, _⟩ := h.at (by omega)
  simp only [Value.slice.injEq] at hv
  rw [ha] at hv
  obtain rfl := Option.some.inj hv.1
  exact hB
theorem RowAt.other {w : World} {a : Option Addr} {n : Nat} {xs : List Nat} (h : RowAt w a n xs) {B : Nat} (hB : ∀ ad, a = some ad → n ≠ 0 → ad.block ≠ B) (i : Nat) (u : Value) : RowAt (w.setCell ⟨B, i, none⟩ u) a n xs := by
  refine ⟨h.1, h.2.1, ?_⟩
  rcases h.2.2 with h0 | ⟨b, off, rfl, hc⟩
  · exact .inl h0
  · by_cases hn : n = 0
    · exact .inl hn
    · exact .inr ⟨b, off, rfl, fun j hj => (World.cell?_setCell_other (h := fun e => hB _ rfl hn (congrArg Addr.block e).symm) ..).trans (hc j hj)⟩
end Go.Proofs.YtbcgiodgobmkaaaGreatDoor
namespace Go.Proofs.YtbcgiodgobmkaaaGreatDoor
open Go.RowKit
set_option linter.unusedVariables false
set_option linter.unusedSimpArgs false
set_option maxRecDepth 4000

theorem size_eq0 {s : ByteArray} (h : s.size = 0) : s = ⟨#[]⟩ := by
  apply tx_inj
  have h1 : (tx s).length = 0 := by rw [tx_length]; exact h
  rw [List.eq_nil_of_length_eq_zero h1]
  rfl

set_option maxHeartbeats 1000000 in
theorem lclone_any (s : ByteArray) (w : World) (hn : s.size ≤ 1048576) :
    Calls Tryz.prog 138 #[.string s] w fun e w' => e = .returned (.string s) ∧ Below w.heap.size w w' := by
  by_cases h0 : s.size = 0
  · obtain rfl := size_eq0 h0
    go_enter Tryz.func138, Tryz.ntmps138
    go_wp2
    go_ret
    exact ⟨rfl, Below.refl _ _⟩
  · have h0' : ¬ ((s.size : Int) = 0) := by omega
    obtain ⟨i0, hi0, hz0, hz1, hz2⟩ := info_parts info_u8
    have hco : Tryz.prog.cellsOf 5 = 1 := by simp [Program.cellsOf, hi0, hz1]
    have hrun := fun W => run_make (P := Tryz.prog) W 108 5 i0 (.int .u8 0) Tryz.underlying108 hi0 hz0 .i64 .i64 (s.size : Int) (s.size : Int) (by omega) (by omega) (by rw [hz2]; omega) (by omega)
    simp only [Int.toNat_natCast] at hrun
    have hcs : (madeCells (Value.int .u8 0).cells (s.size * i0.size)).size = s.size := by rw [size_madeCells, hz1, Nat.mul_one]
    generalize madeCells (Value.int .u8 0).cells (s.size * i0.size) = cur at *
    have hgw : (w.alloc (.cells cur 5)).heap[w.heap.size]? = some (.cells cur 5 (0, 0)) := by
      show (w.heap.push _)[w.heap.size]? = _
      simp
    have hbw : Below w.heap.size w (w.alloc (.cells cur 5)) := (Below.refl _ _).alloc (Nat.le_refl _) _
    have hcp := run_copy_text_of (P := Tryz.prog) (w.alloc (.cells cur 5)) 108 9 3 5 w.heap.size s.size s.size s cur 5 Tryz.underlying108 (by rw [hi0]; simp [hz1]) hgw hcs rfl
    have hgY := setRow_heap (w.alloc (.cells cur 5)) w.heap.size cur (s.data.map fun b => Value.int .u8 (b.toNat : Int)) 5 (0, 0) hgw
    have hY : (s.data.map fun b => Value.int .u8 (b.toNat : Int)).size = s.size := by rw [Array.size_map]; rfl
    have hl : s.data.toList.length = s.size := Array.length_toList
    have hb2 : Below w.heap.size w ((w.alloc (.cells cur 5)).setRow w.heap.size (s.data.map fun b => Value.int .u8 (b.toNat : Int))) := hbw.trans ⟨rfl, rfl, rfl, by simp, fun k hk => setRow_other _ _ k _ (by omega)⟩
    have hcl : ∀ (j : Nat) (x : UInt8), s.data.toList[j]? = some x → ((w.alloc (.cells cur 5)).setRow w.heap.size (s.data.map fun b => Value.int .u8 (b.toNat : Int))).cell? ((⟨w.heap.size, 0, none⟩ : Addr).add j) = some (.int .u8 x.toNat) := by
      intro j x hx
      have e : (⟨w.heap.size, 0, none⟩ : Addr).add j = ⟨w.heap.size, j, none⟩ := by unfold Addr.add; split <;> simp_all
      rw [e, cell_setRow_same _ _ j _ _ _ _ hgw]
      rw [Array.getElem?_toList] at hx
      simp [hx]
    have hUS := Lib.run_unsafeString_row (P := Tryz.prog) ((w.alloc (.cells cur 5)).setRow w.heap.size (s.data.map fun b => Value.int .u8 (b.toNat : Int))) 161 3 9 5 Tryz.underlying161 hco w.heap.size s.size (by unfold World.shape?; rw [hgY]; exact congrArg (fun n => some (5, n)) hY) s.data.toList
      (fun e => h0 (by rw [← hl, e]; rfl)) (by rw [hl]; omega) (by rw [hl]; omega) hcl
    rw [hl] at hUS
    have e2 : (⟨s.data.toList.toArray⟩ : ByteArray) = s := by cases s; simp
    rw [e2] at hUS
    generalize (w.alloc (.cells cur 5)).setRow w.heap.size (s.data.map fun b => Value.int .u8 (b.toNat : Int)) = w1 at *
    have HB := hide (Lib.below_freeze hb2 (p := ⟨w.heap.size, 0, none⟩) (Nat.le_refl _) s.size)
    clear hcl hb2 hY hgY hbw hgw hcs hl e2 hco
    go_enter Tryz.func138, Tryz.ntmps138
    go_wp2
    go_ret
    exact ⟨rfl, unhide HB⟩

theorem sclone_any (s : ByteArray) (w : World) (hn : s.size ≤ 1048576) :
    Calls Tryz.prog 132 #[.string s] w fun e w' => e = .returned (.string s) ∧ Below w.heap.size w w' := by
  go_enter Tryz.func132, Tryz.ntmps132
  go_wp2_with fail
  refine (lclone_any s w hn).mono ?_
  rintro e w1 ⟨rfl, hb⟩
  have HB := hide hb
  clear hb
  go_wp2
  go_ret
  exact ⟨rfl, unhide HB⟩
end Go.Proofs.YtbcgiodgobmkaaaGreatDoor
