/-
  The reference's draws in memory ('RfAt'). Contracts of bucketlineref11's Next and Below. Conditions: at most 2^40 draws used.
-/
import Derived.Test.YtongbnpihepgdaaGreatDoorM19
namespace Go.Proofs.YtongbnpihepgdaaGreatDoor
open Go.RowKit
set_option linter.unusedVariables false
set_option maxRecDepth 4000

/-- The reference's draws at block h: L's, of which N were used; all of it lies below B. -/
def RfAt (w : World) (h B : Nat) (L : List Nat) (N : Nat) : Prop :=
  h < B ∧ ∃ a n c, Bk2 38 w h (.slice a n c) (.int .i64 (N : Int)) ∧ n ≤ 1048576 ∧ RowAt w a n L ∧ (n = 0 ∨ ∀ ad, a = some ad → ad.block < B)
theorem RfAt.below {w w' : World} {g B : Nat} {L : List Nat} {N : Nat} (h : RfAt w g B L N) (hb : Below B w w') : RfAt w' g B L N := by
  obtain ⟨h1, a, n, c, h3, h4, h6, h7⟩ := h
  exact ⟨h1, a, n, c, h3.belowB hb h1, h4, h6.belowB hb h7, h7⟩
theorem RfAt.kept {w w' : World} {g B k : Nat} {L : List Nat} {N : Nat} {T : TypeId} {a' : Option Addr} {n' c' : Nat} {i : Int} (h : RfAt w g B L N) (hg : w.grownBy w' (some k)) (hk : g ≠ k) (hap : Bk2 T w k (.slice a' n' c') (.int .i64 i)) : RfAt w' g B L N := by
  obtain ⟨h1, a, n, c, h3, h4, h6, h7⟩ := h
  exact ⟨h1, a, n, c, h3.kept hg (fun e => hk (Option.some.inj e)), h4, h6.kept hg (hap.apart h6), h7⟩
theorem RfAt.drew {w : World} {g B : Nat} {L : List Nat} {N : Nat} (h : RfAt w g B L N) : RfAt w.drew g B L N := h.below (Below.refl _ _).drew
theorem gb_drewN {w w' : World} {r : Option Nat} (h : w.grownBy w' r) (n : Nat) : w.grownBy (w'.drewN n) r := ⟨h.os, h.tape, h.output, h.size, h.block⟩
set_option maxHeartbeats 1000000 in
theorem rnext_any (g B : Nat) (L : List Nat) (N : Nat) (w : World) (h : RfAt w g B L N) (hN : N ≤ 1099511627776) :
    Calls Tryz.prog 62 #[.pointer (some ⟨g, 0, none⟩)] w fun e w' => e = .returned (.int .u64 ((drawN L (N + 1) : Nat) : Int)) ∧ RfAt w' g B L (N + 1) ∧ w.grownBy w' (some g) := by
  obtain ⟨h1, a, n, c, h3, h4, h6, h7⟩ := h
  obtain rfl : n = L.length := h6.1.symm
  have hcast : ((N + 1 : Nat) : Int) = (N : Int) + 1 := by omega
  have hset : RfAt (w.setCell ⟨g, 1, none⟩ (.int .i64 ((N + 1 : Nat) : Int))) g B L (N + 1) := ⟨h1, a, L.length, c, h3.set1 _, h4, h6.kept (gb_setCell _ _ _ _) (h3.apart h6), h7⟩
  have hrow : RowAt (w.setCell ⟨g, 1, none⟩ (.int .i64 ((N + 1 : Nat) : Int))) a L.length L := h6.kept (gb_setCell _ _ _ _) (h3.apart h6)
  have k1 := h3.at1
  have kf := h3.frz 1
  have m0 := (h3.set1 (.int .i64 ((N + 1 : Nat) : Int))).at0
  have m1 := (h3.set1 (.int .i64 ((N + 1 : Nat) : Int))).at1
  rw [hcast] at hset hrow m0 m1
  have HD := hide hset
  clear hcast
  clear hset h6 h7 h3
  by_cases hlt : N < L.length
  · obtain ⟨b, off, rfl, hc⟩ := hrow.at hlt
    have hcell := hc N hlt
    rw [← drawN_in hlt] at hcell
    clear hc hrow
    generalize drawN L (N + 1) = x at *
    go_enter Tryz.func62, Tryz.ntmps62
    go_wp2_with fail
    go_quiet (fail)
    go_wp2_with fail
    go_quiet (fail)
    go_wp2
    go_ret
    exact ⟨rfl, (unhide HD).below (below_drewN (below_drewN (Below.refl _ _) _) _), gb_drewN (gb_drewN (gb_setCell _ _ _ _) _) _⟩
  · have HE := hide (drawN_out (L := L) (n := N + 1) (by omega))
    clear hrow
    go_enter Tryz.func62, Tryz.ntmps62
    go_wp2_with fail
    go_quiet (fail)
    go_wp2
    go_ret
    refine ⟨ret_int ?_, (unhide HD).below (below_drewN (Below.refl _ _) _), gb_drewN (gb_setCell _ _ _ _) _⟩
    rw [unhide HE, IntKind.wrap_u64]
    omega
set_option maxHeartbeats 400000 in
theorem rbelow_any (g B : Nat) (L : List Nat) (N n : Nat) (m : Int) (hm : m = (n : Int)) (w : World) (h : RfAt w g B L N) (hL : smalls L) (hN : N ≤ 1099511627776) (h1 : 1 ≤ n) (h2 : n ≤ 9223372036854775807) :
    Calls Tryz.prog 35 #[.pointer (some ⟨g, 0, none⟩), .int .i64 m] w fun e w' => e = .returned (.int .i64 ((drawN L (N + 1) % n : Nat) : Int)) ∧ RfAt w' g B L (N + 1) ∧ w.grownBy w' (some g) := by
  subst hm
  have HX := hide (rnext_any g B L N w h hN)
  have hx := drawN_lt hL (N + 1)
  clear h
  generalize drawN L (N + 1) = x at *
  obtain ⟨hr, hl⟩ := rem_draw x n h1 h2
  generalize x % n = y at *
  go_enter Tryz.func35, Tryz.ntmps35
  go_wp2_with (go_at_call 62; refine (unhide HX).mono ?_; rintro e w1 ⟨rfl, hD, hG⟩)
  go_ret
  exact ⟨rfl, hD, hG⟩
theorem rbelow_no (p : Value) (n : Int) (hn : n < 1) (w : World) :
    Calls Tryz.prog 35 #[p, .int .i64 n] w fun e w' => e = .returned (.int .i64 0) ∧ w' = w := by
  go_enter Tryz.func35, Tryz.ntmps35
  go_wp2
  go_ret
  exact ⟨rfl, rfl⟩
end Go.Proofs.YtongbnpihepgdaaGreatDoor
