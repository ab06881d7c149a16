/-
  Contracts of packet.within, shaped, bounded, rowed, Check, of bucketlineref07.sizes, Check, and of bucketlinelaw07.few: for every packet.
-/
import Derived.Test.YtbcgiodgobmkaaaGreatDoorU13
namespace Go.Proofs.YtbcgiodgobmkaaaGreatDoor
open Go.RowKit
set_option linter.unusedVariables false
set_option linter.unusedSimpArgs false
set_option maxRecDepth 4000

/-- A block that holds a packet. -/
def PkAt (w : World) (g : Nat) (v0 v1 v2 v3 v4 v5 v6 : Value) : Prop :=
  w.cell? ⟨g, 0, none⟩ = some v0 ∧ w.cell? ⟨g, 1, none⟩ = some v1 ∧ w.cell? ⟨g, 2, none⟩ = some v2 ∧ w.cell? ⟨g, 3, none⟩ = some v3 ∧ w.cell? ⟨g, 4, none⟩ = some v4 ∧ w.cell? ⟨g, 5, none⟩ = some v5 ∧ w.cell? ⟨g, 6, none⟩ = some v6
theorem pk_new (w : World) (v0 v1 v2 v3 v4 v5 v6 : Value) : PkAt (w.alloc (.cells #[v0, v1, v2, v3, v4, v5, v6] 42)) w.heap.size v0 v1 v2 v3 v4 v5 v6 := by
  refine ⟨?_, ?_, ?_, ?_, ?_, ?_, ?_⟩ <;> simp
theorem PkAt.below {w w' : World} {g : Nat} {v0 v1 v2 v3 v4 v5 v6 : Value} (h : PkAt w g v0 v1 v2 v3 v4 v5 v6) (hb : Below w.heap.size w w') : PkAt w' g v0 v1 v2 v3 v4 v5 v6 := by
  obtain ⟨h0, h1, h2, h3, h4, h5, h6⟩ := h
  have e : ∀ o, w'.cell? ⟨g, o, none⟩ = w.cell? ⟨g, o, none⟩ := fun o => hb.cell (show g < w.heap.size from World.block_lt_of_cell? w ⟨g, 0, none⟩ h0)
  exact ⟨(e _).trans h0, (e _).trans h1, (e _).trans h2, (e _).trans h3, (e _).trans h4, (e _).trans h5, (e _).trans h6⟩
theorem PkAt.alloc {w : World} {g : Nat} {v0 v1 v2 v3 v4 v5 v6 : Value} (h : PkAt w g v0 v1 v2 v3 v4 v5 v6) (o : Obj) : PkAt (w.alloc o) g v0 v1 v2 v3 v4 v5 v6 := h.below ((Below.refl _ _).alloc (Nat.le_refl _) _)
theorem below_new (w : World) (o : Obj) : Below w.heap.size w (w.alloc o) := (Below.refl _ _).alloc (Nat.le_refl _) _

set_option maxHeartbeats 400000 in
theorem pwithin_any (n lo hi : Int) (w : World) (b : Bool) (hb : TB b (lo ≤ n ∧ n ≤ hi)) :
    Calls Tryz.prog 145 #[.int .i64 n, .int .i64 lo, .int .i64 hi] w fun e w' => e = .returned (.bool b) ∧ w' = w := by
  have HB := hide hb
  clear hb
  by_cases h1 : lo ≤ n
  · by_cases h2 : n ≤ hi
    · go_enter Tryz.func145, Tryz.ntmps145
      go_wp2
      go_ret
      exact ⟨ret_bool ((unhide HB).yes ⟨h1, h2⟩).symm, rfl⟩
    · go_enter Tryz.func145, Tryz.ntmps145
      go_wp2
      go_ret
      exact ⟨ret_bool ((unhide HB).no (fun h => by omega)).symm, rfl⟩
  · go_enter Tryz.func145, Tryz.ntmps145
    go_wp2
    go_ret
    exact ⟨ret_bool ((unhide HB).no (fun h => by omega)).symm, rfl⟩

set_option maxHeartbeats 400000 in
theorem shaped_any (o l k z h : Int) (x y : Value) (w : World) (b : Bool) (hb : TB b (shapedP k z)) :
    Calls Tryz.prog 144 #[.agg #[.int .i64 o, .int .i64 l, .int .i64 k, .int .i64 z, .int .i64 h, x, y]] w fun e w' => e = .returned (.bool b) ∧ Below w.heap.size w w' := by
  have HB := hide hb
  obtain ⟨b1, h1⟩ := tb_ex (1 ≤ k ∧ k ≤ 128)
  obtain ⟨b2, h2⟩ := tb_ex (1 ≤ z ∧ z ≤ 64)
  have H1 := hide h1
  have H2 := hide h2
  clear hb h1 h2
  have B0 := hide (below_new w (.cells #[.int .i64 o, .int .i64 l, .int .i64 k, .int .i64 z, .int .i64 h, x, y] 42))
  go_enter Tryz.func144, Tryz.ntmps144
  go_wp2_with fail
  refine (pwithin_any k 1 128 _ b1 (unhide H1)).mono ?_
  rintro e w' ⟨rfl, hw⟩
  obtain rfl := hw.symm
  clear hw
  cases b1
  · go_wp2
    go_ret
    exact ⟨ret_bool ((unhide HB).no (fun h => by simpa using (unhide H1).2 h.1)).symm, unhide B0⟩
  · go_wp2_with fail
    refine (pwithin_any z 1 64 _ b2 (unhide H2)).mono ?_
    rintro e w' ⟨rfl, hw⟩
    obtain rfl := hw.symm
    clear hw
    cases b2
    · go_wp2
      go_ret
      exact ⟨ret_bool ((unhide HB).no (fun h => by simpa using (unhide H2).2 h.2)).symm, unhide B0⟩
    · go_wp2
      go_ret
      exact ⟨ret_bool ((unhide HB).yes ⟨(unhide H1).1 rfl, (unhide H2).1 rfl⟩).symm, unhide B0⟩

set_option maxHeartbeats 1000000 in
theorem bounded_any (o l k z h : Int) (x y : Value) (w : World) (b : Bool) (hb : TB b (boundP o l k z h)) :
    Calls Tryz.prog 139 #[.agg #[.int .i64 o, .int .i64 l, .int .i64 k, .int .i64 z, .int .i64 h, x, y]] w fun e w' => e = .returned (.bool b) ∧ Below w.heap.size w w' := by
  have HB := hide hb
  obtain ⟨b1, h1⟩ := tb_ex (shapedP k z)
  obtain ⟨b2, h2⟩ := tb_ex (0 ≤ o ∧ o ≤ 4294967295)
  obtain ⟨b3, h3⟩ := tb_ex (0 ≤ l ∧ l ≤ k * z)
  obtain ⟨b4, h4⟩ := tb_ex (0 ≤ h ∧ h ≤ 15)
  have H1 := hide h1
  have H2 := hide h2
  have H3 := hide h3
  have H4 := hide h4
  clear hb h1 h2 h3 h4
  have B0 := hide (below_new w (.cells #[.int .i64 o, .int .i64 l, .int .i64 k, .int .i64 z, .int .i64 h, x, y] 42))
  have HX := hide (pk_new w (.int .i64 o) (.int .i64 l) (.int .i64 k) (.int .i64 z) (.int .i64 h) x y)
  go_enter Tryz.func139, Tryz.ntmps139
  go_wp2_with fail
  refine (shaped_any o l k z h x y _ b1 (unhide H1)).mono ?_
  rintro e w1 ⟨rfl, hb1⟩
  obtain ⟨k0, k1, k2, k3, k4, k5, k6⟩ := (unhide HX).below hb1
  have B1 := hide (below0 (unhide B0) hb1)
  clear hb1
  cases b1
  · go_wp2
    go_ret
    exact ⟨ret_bool ((unhide HB).no (fun h => by simpa using (unhide H1).2 h.1)).symm, unhide B1⟩
  · have hm := mul_le ((unhide H1).1 rfl)
    have HW := hide (show wrap64 (k * z) = k * z by unfold wrap64; omega)
    clear hm
    go_wp2_with fail
    refine (pwithin_any o 0 4294967295 _ b2 (unhide H2)).mono ?_
    rintro e w' ⟨rfl, hw⟩
    obtain rfl := hw.symm
    clear hw
    cases b2
    · go_wp2
      go_ret
      exact ⟨ret_bool ((unhide HB).no (fun h => by simpa using (unhide H2).2 h.2.1)).symm, unhide B1⟩
    · go_wp2_with fail
      refine (pwithin_any l 0 (wrap64 (k * z)) _ b3 (by rw [unhide HW]; exact unhide H3)).mono ?_
      rintro e w' ⟨rfl, hw⟩
      obtain rfl := hw.symm
      clear hw
      cases b3
      · go_wp2
        go_ret
        exact ⟨ret_bool ((unhide HB).no (fun h => by simpa using (unhide H3).2 h.2.2.1)).symm, unhide B1⟩
      · go_wp2_with fail
        refine (pwithin_any h 0 15 _ b4 (unhide H4)).mono ?_
        rintro e w' ⟨rfl, hw⟩
        obtain rfl := hw.symm
        clear hw
        cases b4
        · go_wp2
          go_ret
          exact ⟨ret_bool ((unhide HB).no (fun h => by simpa using (unhide H4).2 h.2.2.2)).symm, unhide B1⟩
        · go_wp2
          go_ret
          exact ⟨ret_bool ((unhide HB).yes ⟨(unhide H1).1 rfl, (unhide H2).1 rfl, (unhide H3).1 rfl, (unhide H4).1 rfl⟩).symm, unhide B1⟩

theorem valid_len {k : Int} {xs : List Nat} (h : ValidP k xs) : xs.length ≤ 2 := by
  have := sizeOfK_le k
  have := h.2.1
  omega

set_option maxHeartbeats 1000000 in
theorem rowed_any (o l k z h : Int) (a : Option Addr) (n c : Nat) (xs : List Nat) (s : ByteArray) (w : World) (hr : RowAt w a n xs) (b : Bool) (hb : TB b (rowedP k z xs s.size)) :
    Calls Tryz.prog 140 #[.agg #[.int .i64 o, .int .i64 l, .int .i64 k, .int .i64 z, .int .i64 h, .slice a n c, .string s]] w fun e w' => e = .returned (.bool b) ∧ Below w.heap.size w w' := by
  have HB := hide hb
  have hlen := hr.1
  have HR := hide (row_alloc hr (.cells #[.int .i64 o, .int .i64 l, .int .i64 k, .int .i64 z, .int .i64 h, .slice a n c, .string s] 42))
  have B0 := hide (below_new w (.cells #[.int .i64 o, .int .i64 l, .int .i64 k, .int .i64 z, .int .i64 h, .slice a n c, .string s] 42))
  have HX := hide (pk_new w (.int .i64 o) (.int .i64 l) (.int .i64 k) (.int .i64 z) (.int .i64 h) (.slice a n c) (.string s))
  have HL := hide hlen
  clear hb hr hlen
  go_enter Tryz.func140, Tryz.ntmps140
  go_wp2_with fail
  refine (valid_any a n c xs k _ (unhide HR)).mono ?_
  rintro e w1 ⟨⟨b1, rfl, hb1⟩, hbl⟩
  obtain ⟨k0, k1, k2, k3, k4, k5, k6⟩ := (unhide HX).below hbl
  have B1 := hide (below0 (unhide B0) hbl)
  have HR1 := hide ((unhide HR).below hbl)
  have H1 := hide hb1
  clear hbl hb1
  cases b1
  · go_wp2
    go_ret
    exact ⟨ret_bool ((unhide HB).no (fun h => by simpa using (unhide H1).2 h.1)).symm, unhide B1⟩
  · have hv := (unhide H1).1 rfl
    have hn : n ≤ 1048576 := by have := valid_len hv; have := unhide HL; omega
    have HC := hide (count_any a n c xs w1 (unhide HR1) hn)
    have HV := hide hv
    clear hv hn
    rcases Nat.eq_zero_or_pos (cnt xs) with hc | hc
    · rw [hc] at HC
      have HZ := hide hc
      clear hc
      go_wp2_with fail
      refine (unhide HC).mono ?_
      rintro e w' ⟨rfl, hw⟩
      obtain rfl := hw.symm
      clear hw
      go_wp2
      go_ret
      exact ⟨ret_bool ((unhide HB).no (fun h => by have := h.2.1; have := unhide HZ; omega)).symm, unhide B1⟩
    · have HZ := hide hc
      have hc' : (0 : Int) < ((cnt xs : Nat) : Int) := by omega
      generalize ((cnt xs : Nat) : Int) = m at *
      clear hc
      by_cases hz : (s.size : Int) = z
      · have hz' : ((s.size : Int) == z) = true := by rw [beq_iff_eq]; exact hz
        have HQ := hide hz
        clear hz
        go_wp2_with fail
        refine (unhide HC).mono ?_
        rintro e w' ⟨rfl, hw⟩
        obtain rfl := hw.symm
        clear hw
        go_wp2
        go_ret
        exact ⟨ret_bool ((unhide HB).yes ⟨unhide HV, unhide HZ, unhide HQ⟩).symm, unhide B1⟩
      · have hz' : ((s.size : Int) == z) = false := by rw [beq_eq_false_iff_ne]; exact hz
        have HQ := hide hz
        clear hz
        go_wp2_with fail
        refine (unhide HC).mono ?_
        rintro e w' ⟨rfl, hw⟩
        obtain rfl := hw.symm
        clear hw
        go_wp2
        go_ret
        exact ⟨ret_bool ((unhide HB).no (fun h => unhide HQ h.2.2)).symm, unhide B1⟩

set_option maxHeartbeats 1000000 in
theorem check_any (o l k z h : Int) (a : Option Addr) (n c : Nat) (xs : List Nat) (s : ByteArray) (w : World) (hr : RowAt w a n xs) (en : Nat) (hen : CkP en (CheckP o l k z h xs s.size)) :
    Calls Tryz.prog 133 #[.agg #[.int .i64 o, .int .i64 l, .int .i64 k, .int .i64 z, .int .i64 h, .slice a n c, .string s]] w fun e w' => e = .returned (.int .i64 ((en : Nat) : Int)) ∧ Below w.heap.size w w' := by
  have HE := hide hen
  obtain ⟨b1, h1⟩ := tb_ex (boundP o l k z h)
  obtain ⟨b2, h2⟩ := tb_ex (rowedP k z xs s.size)
  have H1 := hide h1
  have H2 := hide h2
  have HR := hide (row_alloc hr (.cells #[.int .i64 o, .int .i64 l, .int .i64 k, .int .i64 z, .int .i64 h, .slice a n c, .string s] 42))
  have B0 := hide (below_new w (.cells #[.int .i64 o, .int .i64 l, .int .i64 k, .int .i64 z, .int .i64 h, .slice a n c, .string s] 42))
  have HX := hide (pk_new w (.int .i64 o) (.int .i64 l) (.int .i64 k) (.int .i64 z) (.int .i64 h) (.slice a n c) (.string s))
  clear hen hr h1 h2
  go_enter Tryz.func133, Tryz.ntmps133
  go_wp2_with fail
  refine (bounded_any o l k z h _ _ _ b1 (unhide H1)).mono ?_
  rintro e w1 ⟨rfl, hb1⟩
  obtain ⟨k0, k1, k2, k3, k4, k5, k6⟩ := (unhide HX).below hb1
  have HR1 := hide ((unhide HR).below hb1)
  have B1 := hide (below0 (unhide B0) hb1)
  clear hb1
  cases b1
  · go_wp2
    go_ret
    exact ⟨ret_int (by rw [(unhide HE).no (fun h => by simpa using (unhide H1).2 h.1)]; rfl), unhide B1⟩
  · go_wp2_with fail
    refine (rowed_any o l k z h a n c xs s _ (unhide HR1) b2 (unhide H2)).mono ?_
    rintro e w2 ⟨rfl, hb2⟩
    have B2 := hide (below0 (unhide B1) hb2)
    clear hb2
    cases b2
    · go_wp2
      go_ret
      exact ⟨ret_int (by rw [(unhide HE).no (fun h => by simpa using (unhide H2).2 h.2)]; rfl), unhide B2⟩
    · go_wp2
      go_ret
      exact ⟨ret_int (by rw [(unhide HE).yes ⟨(unhide H1).1 rfl, (unhide H2).1 rfl⟩]; rfl), unhide B2⟩
end Go.Proofs.YtbcgiodgobmkaaaGreatDoor
