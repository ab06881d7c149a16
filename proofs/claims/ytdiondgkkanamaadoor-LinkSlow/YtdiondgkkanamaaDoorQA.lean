/-
  Contracts of frame.within, bodyOf, fits, Check: for every frame whose row has at most 2^20 words.
-/
import Derived.Test.YtdiondgkkanamaaDoorQM
namespace Go.Proofs.YtdiondgkkanamaaDoor
open Go.RowKit Go.Sort
set_option linter.unusedVariables false
set_option maxRecDepth 4000

/-- A block that holds a frame. -/
def FrAt (w : World) (g : Nat) (u0 u1 u2 v0 v1 v2 v3 v4 v5 v6 : Value) : Prop :=
  (w.cell? ⟨g, 0, none⟩ = some u0 ∧ w.cell? ⟨g, 1, none⟩ = some u1 ∧ w.cell? ⟨g, 2, none⟩ = some u2) ∧ w.cell? ⟨g, 3, none⟩ = some v0 ∧ w.cell? ⟨g, 4, none⟩ = some v1 ∧ w.cell? ⟨g, 5, none⟩ = some v2 ∧ w.cell? ⟨g, 6, none⟩ = some v3 ∧ w.cell? ⟨g, 7, none⟩ = some v4 ∧ w.cell? ⟨g, 8, none⟩ = some v5 ∧ w.cell? ⟨g, 9, none⟩ = some v6
theorem fr_new (w : World) (u0 u1 u2 v0 v1 v2 v3 v4 v5 v6 : Value) : FrAt (w.alloc (.cells #[u0, u1, u2, v0, v1, v2, v3, v4, v5, v6] 36)) w.heap.size u0 u1 u2 v0 v1 v2 v3 v4 v5 v6 := by
  refine ⟨⟨?_, ?_, ?_⟩, ?_, ?_, ?_, ?_, ?_, ?_, ?_⟩ <;> simp
theorem FrAt.below {w w' : World} {g : Nat} {u0 u1 u2 v0 v1 v2 v3 v4 v5 v6 : Value} (h : FrAt w g u0 u1 u2 v0 v1 v2 v3 v4 v5 v6) (hb : Below w.heap.size w w') : FrAt w' g u0 u1 u2 v0 v1 v2 v3 v4 v5 v6 := by
  obtain ⟨⟨g0, g1, g2⟩, h0, h1, h2, h3, h4, h5, h6⟩ := h
  have e : ∀ o, w'.cell? ⟨g, o, none⟩ = w.cell? ⟨g, o, none⟩ := fun o => hb.cell (show g < w.heap.size from World.block_lt_of_cell? w ⟨g, 0, none⟩ g0)
  exact ⟨⟨(e _).trans g0, (e _).trans g1, (e _).trans g2⟩, (e _).trans h0, (e _).trans h1, (e _).trans h2, (e _).trans h3, (e _).trans h4, (e _).trans h5, (e _).trans h6⟩

theorem mk_hello (x : Value) (w : World) : (Instr.makeInterface 79 x).run Tryd.prog w = .ok (.iface 79 x) w := run_makeInterface w 79 x (by kernel_rfl)
theorem mk_data (x : Value) (w : World) : (Instr.makeInterface 77 x).run Tryd.prog w = .ok (.iface 77 x) w := run_makeInterface w 77 x (by kernel_rfl)
theorem as_hh (v : Value) (w : World) : (Instr.typeAssert (.iface 79 v) 20 79 true).run Tryd.prog w = .ok (.tuple #[v, .bool true]) w := by kernel_rfl
theorem as_dd (v : Value) (w : World) : (Instr.typeAssert (.iface 77 v) 20 77 true).run Tryd.prog w = .ok (.tuple #[v, .bool true]) w := by kernel_rfl
theorem as_dh (v : Value) (w : World) : (Instr.typeAssert (.iface 77 v) 20 79 true).run Tryd.prog w = .ok (.tuple #[.agg #[.int .i64 0, .int .i64 0, .int .i64 0, .int .i64 0, .int .i64 0, .slice none 0 0, .string ⟨#[]⟩], .bool false]) w := by kernel_rfl
theorem as_hd (v : Value) (w : World) : (Instr.typeAssert (.iface 79 v) 20 77 true).run Tryd.prog w = .ok (.tuple #[.agg #[.int .i64 0, .int .i64 0, .int .i64 0, .int .i64 0, .int .i64 0, .slice none 0 0, .string ⟨#[]⟩], .bool false]) w := by kernel_rfl
theorem as_nh (w : World) : (Instr.typeAssert .nilIface 20 79 true).run Tryd.prog w = .ok (.tuple #[.agg #[.int .i64 0, .int .i64 0, .int .i64 0, .int .i64 0, .int .i64 0, .slice none 0 0, .string ⟨#[]⟩], .bool false]) w := by kernel_rfl
theorem as_nd (w : World) : (Instr.typeAssert .nilIface 20 77 true).run Tryd.prog w = .ok (.tuple #[.agg #[.int .i64 0, .int .i64 0, .int .i64 0, .int .i64 0, .int .i64 0, .slice none 0 0, .string ⟨#[]⟩], .bool false]) w := by kernel_rfl

set_option maxHeartbeats 400000 in
theorem fwithin_any (n hi : Int) (w : World) (b : Bool) (hb : TB b (0 ≤ n ∧ n ≤ hi)) :
    Calls Tryd.prog 37 #[.int .i64 n, .int .i64 hi] w fun e w' => e = .returned (.bool b) ∧ w' = w := by
  have HB := hide hb
  clear hb
  by_cases h1 : 0 ≤ n
  · by_cases h2 : n ≤ hi
    · go_enter Tryd.func37, Tryd.ntmps37
      go_wp2
      go_ret
      exact ⟨ret_bool ((unhide HB).yes ⟨h1, h2⟩).symm, rfl⟩
    · go_enter Tryd.func37, Tryd.ntmps37
      go_wp2
      go_ret
      exact ⟨ret_bool ((unhide HB).no (fun h => by omega)).symm, rfl⟩
  · go_enter Tryd.func37, Tryd.ntmps37
    go_wp2
    go_ret
    exact ⟨ret_bool ((unhide HB).no (fun h => by omega)).symm, rfl⟩

/-- The body that bodyOf tells. -/
def bodyV (kd : Int) (v0 v1 v2 v3 v4 v5 v6 : Value) : Value := if kd = 1 then .iface 79 (.agg #[v0, v1, v2, v3, v4, v5, v6]) else if kd = 2 then .iface 77 (.agg #[v0, v1, v2, v3, v4, v5, v6]) else .nilIface
theorem bodyV1 (v0 v1 v2 v3 v4 v5 v6 : Value) : bodyV 1 v0 v1 v2 v3 v4 v5 v6 = .iface 79 (.agg #[v0, v1, v2, v3, v4, v5, v6]) := rfl
theorem bodyV2 (v0 v1 v2 v3 v4 v5 v6 : Value) : bodyV 2 v0 v1 v2 v3 v4 v5 v6 = .iface 77 (.agg #[v0, v1, v2, v3, v4, v5, v6]) := rfl
theorem bodyV0 {kd : Int} (h1 : kd ≠ 1) (h2 : kd ≠ 2) (v0 v1 v2 v3 v4 v5 v6 : Value) : bodyV kd v0 v1 v2 v3 v4 v5 v6 = .nilIface := by
  unfold bodyV
  rw [if_neg h1, if_neg h2]
theorem ret_val {a b : Value} (h : a = b) : Ending.returned a = .returned b := by rw [h]

set_option maxHeartbeats 400000 in
theorem body_any (kd : Int) (u1 u2 v0 v1 v2 v3 v4 v5 v6 : Value) (w : World) :
    Calls Tryd.prog 32 #[.agg #[.int .i64 kd, u1, u2, v0, v1, v2, v3, v4, v5, v6]] w fun e w' => e = .returned (bodyV kd v0 v1 v2 v3 v4 v5 v6) ∧ Below w.heap.size w w' := by
  have B0 := hide (below_new w (.cells #[.int .i64 kd, u1, u2, v0, v1, v2, v3, v4, v5, v6] 36))
  have m1 := mk_hello
  have m2 := mk_data
  by_cases h1 : kd = 1
  · subst h1
    rw [bodyV1]
    go_enter Tryd.func32, Tryd.ntmps32
    go_wp2
    go_ret
    exact ⟨rfl, unhide B0⟩
  · by_cases h2 : kd = 2
    · subst h2
      rw [bodyV2]
      go_enter Tryd.func32, Tryd.ntmps32
      go_wp2
      go_ret
      exact ⟨rfl, unhide B0⟩
    · rw [bodyV0 h1 h2]
      go_enter Tryd.func32, Tryd.ntmps32
      go_wp2
      go_ret
      exact ⟨rfl, unhide B0⟩

set_option maxHeartbeats 1000000 in
theorem fits_hello (o l k z h : Int) (a : Option Addr) (n c : Nat) (xs : List Nat) (s : ByteArray) (w : World) (ht : Tab w) (hr : RowAt w a n xs) (hn : n ≤ 1048576) (b : Bool) (hb : TB b (NoneP o l k z h xs s)) :
    Calls Tryd.prog 38 #[.iface 79 (.agg #[.int .i64 o, .int .i64 l, .int .i64 k, .int .i64 z, .int .i64 h, .slice a n c, .string s])] w fun e w' => e = .returned (.bool b) ∧ Below w.heap.size w w' := by
  have HT := hide (ht.below (below_new w (.cells #[.int .i64 o, .int .i64 l, .int .i64 k, .int .i64 z, .int .i64 h, .slice a n c, .string s] 79)))
  have HR := hide (row_alloc hr (.cells #[.int .i64 o, .int .i64 l, .int .i64 k, .int .i64 z, .int .i64 h, .slice a n c, .string s] 79))
  have HS := hide (fun wx (htx : Tab wx) (hrx : RowAt wx a n xs) => psame_any o l k z h a n c xs s 0 0 0 0 0 none 0 0 [] ⟨#[]⟩ wx htx hrx (row_none _) hn (by decide) b hb)
  have B0 := hide (below_new w (.cells #[.int .i64 o, .int .i64 l, .int .i64 k, .int .i64 z, .int .i64 h, .slice a n c, .string s] 79))
  have m1 := as_hh
  clear hb ht hr hn
  go_enter Tryd.func38, Tryd.ntmps38
  go_wp2_with fail
  refine (unhide HS _ (unhide HT) (unhide HR)).mono ?_
  rintro e w1 ⟨rfl, hb1⟩
  have B1 := hide (below0 (unhide B0) hb1)
  clear hb1
  go_wp2
  go_ret
  exact ⟨rfl, unhide B1⟩

set_option maxHeartbeats 1000000 in
theorem fits_data (o l k z h : Int) (a : Option Addr) (n c : Nat) (xs : List Nat) (s : ByteArray) (w : World) (hr : RowAt w a n xs) (b : Bool) (hb : TB b (CheckP o l k z h xs s.size)) :
    Calls Tryd.prog 38 #[.iface 77 (.agg #[.int .i64 o, .int .i64 l, .int .i64 k, .int .i64 z, .int .i64 h, .slice a n c, .string s])] w fun e w' => e = .returned (.bool b) ∧ Below w.heap.size w w' := by
  obtain ⟨ck, hck⟩ := ck_ex (CheckP o l k z h xs s.size)
  have HB := hide hb
  have HC := hide hck
  have HS := hide (check_any o l k z h a n c xs s _ (row_alloc hr (.cells #[.int .i64 o, .int .i64 l, .int .i64 k, .int .i64 z, .int .i64 h, .slice a n c, .string s] 77)) ck hck)
  have B0 := hide (below_new w (.cells #[.int .i64 o, .int .i64 l, .int .i64 k, .int .i64 z, .int .i64 h, .slice a n c, .string s] 77))
  have m1 := as_dh
  have m2 := as_dd
  clear hb hr hck
  go_enter Tryd.func38, Tryd.ntmps38
  go_wp2_with fail
  refine (unhide HS).mono ?_
  rintro e w1 ⟨rfl, hb1⟩
  have B1 := hide (below0 (unhide B0) hb1)
  clear hb1 HS
  rcases (unhide HC) with ⟨hP, rfl⟩ | ⟨hP, rfl⟩
  · have HP := hide hP
    clear hP HC
    go_wp2
    go_ret
    exact ⟨ret_bool ((unhide HB).yes (unhide HP)).symm, unhide B1⟩
  · have HP := hide hP
    clear hP HC
    go_wp2
    go_ret
    exact ⟨ret_bool ((unhide HB).no (unhide HP)).symm, unhide B1⟩

set_option maxHeartbeats 1000000 in
theorem fits_none (w : World) : Calls Tryd.prog 38 #[.nilIface] w fun e w' => e = .returned (.bool false) ∧ w' = w := by
  have m1 := as_nh
  have m2 := as_nd
  go_enter Tryd.func38, Tryd.ntmps38
  go_wp2
  go_ret
  exact ⟨rfl, rfl⟩

theorem fits_any (kd o l k z h : Int) (a : Option Addr) (n c : Nat) (xs : List Nat) (s : ByteArray) (w : World) (ht : Tab w) (hr : RowAt w a n xs) (hn : n ≤ 1048576) (b : Bool) (hb : TB b (FitP kd o l k z h xs s)) :
    Calls Tryd.prog 38 #[bodyV kd (.int .i64 o) (.int .i64 l) (.int .i64 k) (.int .i64 z) (.int .i64 h) (.slice a n c) (.string s)] w fun e w' => e = .returned (.bool b) ∧ Below w.heap.size w w' := by
  by_cases h1 : kd = 1
  · subst h1
    rw [bodyV1]
    refine fits_hello o l k z h a n c xs s w ht hr hn b ⟨fun h => ?_, fun h => hb.2 (.inl ⟨rfl, h⟩)⟩
    rcases hb.1 h with h | h
    · exact h.2
    · exact absurd h.1 (by decide)
  · by_cases h2 : kd = 2
    · subst h2
      rw [bodyV2]
      refine fits_data o l k z h a n c xs s w hr b ⟨fun h => ?_, fun h => hb.2 (.inr ⟨rfl, h⟩)⟩
      rcases hb.1 h with h | h
      · exact absurd h.1 (by decide)
      · exact h.2
    · rw [bodyV0 h1 h2]
      refine (fits_none w).mono fun e w' ⟨he, hw⟩ => ⟨?_, by rw [hw]; exact Below.refl _ _⟩
      rw [he, hb.no (fun h => by rcases fit_not h with h | h; exact h1 h; exact h2 h)]

set_option maxHeartbeats 1000000 in
theorem fcheck_any (kd fr ic o l k z h : Int) (a : Option Addr) (n c : Nat) (xs : List Nat) (s : ByteArray) (w : World) (ht : Tab w) (hr : RowAt w a n xs) (hn : n ≤ 1048576) (en : Nat) (hen : CkP en (FChkP kd fr ic o l k z h xs s)) :
    Calls Tryd.prog 28 #[.agg #[.int .i64 kd, .int .i64 fr, .int .i64 ic, .int .i64 o, .int .i64 l, .int .i64 k, .int .i64 z, .int .i64 h, .slice a n c, .string s]] w fun e w' => e = .returned (.int .i64 ((en : Nat) : Int)) ∧ Below w.heap.size w w' := by
  obtain ⟨b1, h1⟩ := tb_ex (0 ≤ fr ∧ fr ≤ 7)
  obtain ⟨b2, h2⟩ := tb_ex (0 ≤ ic ∧ ic ≤ 4294967295)
  obtain ⟨b3, h3⟩ := tb_ex (FitP kd o l k z h xs s)
  have H1 := hide h1
  have H2 := hide h2
  have H3 := hide h3
  have HE := hide hen
  have HF := hide (fun wx (htx : Tab wx) (hrx : RowAt wx a n xs) => fits_any kd o l k z h a n c xs s wx htx hrx hn b3 h3)
  have HB := hide (fun wx => body_any kd (.int .i64 fr) (.int .i64 ic) (.int .i64 o) (.int .i64 l) (.int .i64 k) (.int .i64 z) (.int .i64 h) (.slice a n c) (.string s) wx)
  have HT := hide ht
  have HR := hide hr
  have B0 := hide (below_new w (.cells #[.int .i64 kd, .int .i64 fr, .int .i64 ic, .int .i64 o, .int .i64 l, .int .i64 k, .int .i64 z, .int .i64 h, .slice a n c, .string s] 36))
  generalize bodyV kd (.int .i64 o) (.int .i64 l) (.int .i64 k) (.int .i64 z) (.int .i64 h) (.slice a n c) (.string s) = V at *
  clear h1 h2 h3 hen ht hr hn
  go_enter Tryd.func28, Tryd.ntmps28
  go_wp2_with fail
  refine (fwithin_any fr 7 _ b1 (unhide H1)).mono ?_
  rintro e w' ⟨rfl, hw⟩
  obtain rfl := hw.symm
  clear hw
  cases b1
  · rcases (unhide HE) with ⟨hP, rfl⟩ | ⟨hP, rfl⟩
    · exact absurd ((unhide H1).2 hP.1) (by decide)
    · clear hP
      go_wp2
      go_ret
      exact ⟨rfl, unhide B0⟩
  · go_wp2_with fail
    refine (fwithin_any ic 4294967295 _ b2 (unhide H2)).mono ?_
    rintro e w' ⟨rfl, hw⟩
    obtain rfl := hw.symm
    clear hw
    cases b2
    · rcases (unhide HE) with ⟨hP, rfl⟩ | ⟨hP, rfl⟩
      · exact absurd ((unhide H2).2 hP.2.1) (by decide)
      · clear hP
        go_wp2
        go_ret
        exact ⟨rfl, unhide B0⟩
    · go_wp2_with fail
      refine (unhide HB _).mono ?_
      rintro e w1 ⟨rfl, hb1⟩
      have B1 := hide (below0 (unhide B0) hb1)
      clear hb1
      go_wp2_with fail
      refine (unhide HF _ ((unhide HT).below (unhide B1)) ((unhide HR).below (unhide B1))).mono ?_
      rintro e w2 ⟨rfl, hb2⟩
      have B2 := hide (below0 (unhide B1) hb2)
      clear hb2
      cases b3
      · rcases (unhide HE) with ⟨hP, rfl⟩ | ⟨hP, rfl⟩
        · exact absurd ((unhide H3).2 hP.2.2) (by decide)
        · clear hP
          go_wp2
          go_ret
          exact ⟨rfl, unhide B2⟩
      · rcases (unhide HE) with ⟨hP, rfl⟩ | ⟨hP, rfl⟩
        · clear hP
          go_wp2
          go_ret
          exact ⟨rfl, unhide B2⟩
        · exact absurd ⟨(unhide H1).1 rfl, (unhide H2).1 rfl, (unhide H3).1 rfl⟩ hP
end Go.Proofs.YtdiondgkkanamaaDoor
