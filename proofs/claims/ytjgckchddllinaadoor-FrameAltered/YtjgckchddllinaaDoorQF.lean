/-
  Contracts of frame.Same, bucketlineref08.Same, bucketlinelaw08.few: for every two frames whose rows have at most 2^20 words.
-/
import Derived.Test.YtjgckchddllinaaDoorQD
import Derived.Test.YtjgckchddllinaaDoorPT
namespace Go.Proofs.YtjgckchddllinaaDoor
open Go.RowKit Go.Sort
set_option linter.unusedVariables false
set_option maxRecDepth 4000

def FSameP (kd fr ic o l k z h : Int) (xs : List Nat) (s : ByteArray) (kd' fr' ic' o' l' k' z' h' : Int) (ys : List Nat) (t : ByteArray) : Prop := (kd = kd' ∧ fr = fr' ∧ ic = ic') ∧ SameP o l k z h xs s o' l' k' z' h' ys t
theorem fsame_self (kd fr ic o l k z h : Int) (xs : List Nat) (s : ByteArray) : TB true (FSameP kd fr ic o l k z h xs s kd fr ic o l k z h xs s) := ⟨fun _ => ⟨⟨rfl, rfl, rfl⟩, ⟨⟨rfl, rfl, rfl, rfl, rfl⟩, rfl⟩, cnt_self xs⟩, fun _ => rfl⟩

set_option maxHeartbeats 2000000 in
theorem fsame_any (kd fr ic o l k z h : Int) (a : Option Addr) (n c : Nat) (xs : List Nat) (s : ByteArray) (kd' fr' ic' o' l' k' z' h' : Int) (a' : Option Addr) (m c' : Nat) (ys : List Nat) (t : ByteArray) (w : World) (ht : Tab w) (hr : RowAt w a n xs) (hr' : RowAt w a' m ys) (hn : n ≤ 1048576) (hm : m ≤ 1048576) (b : Bool)
    (hb : TB b (FSameP kd fr ic o l k z h xs s kd' fr' ic' o' l' k' z' h' ys t)) :
    Calls Tryd.prog 12 #[.agg #[.int .i64 kd, .int .i64 fr, .int .i64 ic, .int .i64 o, .int .i64 l, .int .i64 k, .int .i64 z, .int .i64 h, .slice a n c, .string s], .agg #[.int .i64 kd', .int .i64 fr', .int .i64 ic', .int .i64 o', .int .i64 l', .int .i64 k', .int .i64 z', .int .i64 h', .slice a' m c', .string t]] w fun e w' => e = .returned (.bool b) ∧ Below w.heap.size w w' := by
  obtain ⟨b1, h1⟩ := tb_ex (SameP o l k z h xs s o' l' k' z' h' ys t)
  have HB := hide hb
  have H1 := hide h1
  have B0 := hide (below2' w (.cells #[.int .i64 kd, .int .i64 fr, .int .i64 ic, .int .i64 o, .int .i64 l, .int .i64 k, .int .i64 z, .int .i64 h, .slice a n c, .string s] 28) (.cells #[.int .i64 kd', .int .i64 fr', .int .i64 ic', .int .i64 o', .int .i64 l', .int .i64 k', .int .i64 z', .int .i64 h', .slice a' m c', .string t] 28))
  have ht2 := ht.below (unhide B0)
  have HS := hide (psame_any o l k z h a n c xs s o' l' k' z' h' a' m c' ys t _ ht2 (hr.below (unhide B0)) (hr'.below (unhide B0)) hn hm b1 h1)
  clear hb h1 hr hr' hn hm ht ht2
  by_cases e1 : kd = kd'
  · subst e1
    by_cases e2 : fr = fr'
    · subst e2
      by_cases e3 : ic = ic'
      · subst e3
        go_enter Tryd.func12, Tryd.ntmps12
        go_wp2_with fail
        refine (unhide HS).mono ?_
        rintro e w1 ⟨rfl, hb1⟩
        have B1 := hide (below0 (unhide B0) hb1)
        clear hb1 HS B0
        cases b1
        · go_wp2
          go_ret
          exact ⟨ret_bool ((unhide HB).no (fun h => by simpa using (unhide H1).2 h.2)).symm, unhide B1⟩
        · go_wp2
          go_ret
          exact ⟨ret_bool ((unhide HB).yes ⟨⟨rfl, rfl, rfl⟩, (unhide H1).1 rfl⟩).symm, unhide B1⟩
      · clear HS
        go_enter Tryd.func12, Tryd.ntmps12
        go_wp2
        go_ret
        exact ⟨ret_bool ((unhide HB).no (fun h => e3 h.1.2.2)).symm, unhide B0⟩
    · clear HS
      go_enter Tryd.func12, Tryd.ntmps12
      go_wp2
      go_ret
      exact ⟨ret_bool ((unhide HB).no (fun h => e2 h.1.2.1)).symm, unhide B0⟩
  · clear HS
    go_enter Tryd.func12, Tryd.ntmps12
    go_wp2
    go_ret
    exact ⟨ret_bool ((unhide HB).no (fun h => e1 h.1.1)).symm, unhide B0⟩

set_option maxHeartbeats 2000000 in
theorem rfsame_any (kd fr ic o l k z h : Int) (a : Option Addr) (n c : Nat) (xs : List Nat) (s : ByteArray) (kd' fr' ic' o' l' k' z' h' : Int) (a' : Option Addr) (m c' : Nat) (ys : List Nat) (t : ByteArray) (w : World) (hr : RowAt w a n xs) (hr' : RowAt w a' m ys) (hn : n ≤ 1048576) (hm : m ≤ 1048576) (b : Bool)
    (hb : TB b (FSameP kd fr ic o l k z h xs s kd' fr' ic' o' l' k' z' h' ys t)) :
    Calls Tryd.prog 13 #[.agg #[.int .i64 kd, .int .i64 fr, .int .i64 ic, .int .i64 o, .int .i64 l, .int .i64 k, .int .i64 z, .int .i64 h, .slice a n c, .string s], .agg #[.int .i64 kd', .int .i64 fr', .int .i64 ic', .int .i64 o', .int .i64 l', .int .i64 k', .int .i64 z', .int .i64 h', .slice a' m c', .string t]] w fun e w' => e = .returned (.bool b) ∧ Below w.heap.size w w' := by
  obtain ⟨b1, h1⟩ := tb_ex (SameP o l k z h xs s o' l' k' z' h' ys t)
  have HB := hide hb
  have H1 := hide h1
  have B0 := hide (below2' w (.cells #[.int .i64 kd, .int .i64 fr, .int .i64 ic, .int .i64 o, .int .i64 l, .int .i64 k, .int .i64 z, .int .i64 h, .slice a n c, .string s] 28) (.cells #[.int .i64 kd', .int .i64 fr', .int .i64 ic', .int .i64 o', .int .i64 l', .int .i64 k', .int .i64 z', .int .i64 h', .slice a' m c', .string t] 28))
  have HS := hide (rpsame_any o l k z h a n c xs s o' l' k' z' h' a' m c' ys t _ (hr.below (unhide B0)) (hr'.below (unhide B0)) hn hm b1 h1)
  clear hb h1 hr hr' hn hm
  by_cases e1 : kd = kd'
  · subst e1
    by_cases e2 : fr = fr'
    · subst e2
      by_cases e3 : ic = ic'
      · subst e3
        go_enter Tryd.func13, Tryd.ntmps13
        go_wp2_with fail
        refine (unhide HS).mono ?_
        rintro e w1 ⟨rfl, hb1⟩
        have B1 := hide (below0 (unhide B0) hb1)
        clear hb1 HS B0
        cases b1
        · go_wp2
          go_ret
          exact ⟨ret_bool ((unhide HB).no (fun h => by simpa using (unhide H1).2 h.2)).symm, unhide B1⟩
        · go_wp2
          go_ret
          exact ⟨ret_bool ((unhide HB).yes ⟨⟨rfl, rfl, rfl⟩, (unhide H1).1 rfl⟩).symm, unhide B1⟩
      · clear HS
        go_enter Tryd.func13, Tryd.ntmps13
        go_wp2
        go_ret
        exact ⟨ret_bool ((unhide HB).no (fun h => e3 h.1.2.2)).symm, unhide B0⟩
    · clear HS
      go_enter Tryd.func13, Tryd.ntmps13
      go_wp2
      go_ret
      exact ⟨ret_bool ((unhide HB).no (fun h => e2 h.1.2.1)).symm, unhide B0⟩
  · clear HS
    go_enter Tryd.func13, Tryd.ntmps13
    go_wp2
    go_ret
    exact ⟨ret_bool ((unhide HB).no (fun h => e1 h.1.1)).symm, unhide B0⟩

set_option maxHeartbeats 400000 in
theorem ffew_any (u0 u1 u2 v0 v1 v2 v3 v4 : Value) (a : Option Addr) (n c : Nat) (s : ByteArray) (w : World) (b : Bool) (hb : TB b (n ≤ 100 ∧ s.size ≤ 10000)) :
    Calls Tryd.prog 8 #[.agg #[u0, u1, u2, v0, v1, v2, v3, v4, .slice a n c, .string s]] w fun e w' => e = .returned (.bool b) ∧ Below w.heap.size w w' := by
  have HB := hide hb
  have B0 := hide (below_new w (.cells #[u0, u1, u2, v0, v1, v2, v3, v4, .slice a n c, .string s] 28))
  clear hb
  by_cases h1 : (n : Int) ≤ 100
  · by_cases h2 : (s.size : Int) ≤ 10000
    · go_enter Tryd.func8, Tryd.ntmps8
      go_wp2
      go_ret
      exact ⟨ret_bool ((unhide HB).yes ⟨by omega, by omega⟩).symm, unhide B0⟩
    · go_enter Tryd.func8, Tryd.ntmps8
      go_wp2
      go_ret
      exact ⟨ret_bool ((unhide HB).no (fun h => by omega)).symm, unhide B0⟩
  · go_enter Tryd.func8, Tryd.ntmps8
    go_wp2
    go_ret
    exact ⟨ret_bool ((unhide HB).no (fun h => by omega)).symm, unhide B0⟩
end Go.Proofs.YtjgckchddllinaaDoor
