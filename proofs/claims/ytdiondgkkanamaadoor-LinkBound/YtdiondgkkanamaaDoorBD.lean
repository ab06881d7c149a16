/-
  A bucket in memory ('BtAt'); contracts of pace.within, New, Tick, Take, Level, of a bucket that is there and of none. No condition.
-/
import Derived.Test.YtdiondgkkanamaaDoorG2
import Derived.Test.YtdiondgkkanamaaDoorZs
namespace Go.Proofs.YtdiondgkkanamaaDoor
open Go.RowKit
set_option linter.unusedVariables false
set_option maxRecDepth 4000

/-- From a to b; beyond as these. -/
def wiZ (x a b : Int) : Int := min (max x a) b
theorem wiZ_in (x : Int) {a b : Int} (h : a ≤ b) : a ≤ wiZ x a b ∧ wiZ x a b ≤ b := by unfold wiZ; omega
theorem wiZ_id {x a b : Int} (h1 : a ≤ x) (h2 : x ≤ b) : wiZ x a b = x := by unfold wiZ; omega
/-- A bucket at block g: its thousandths a tick, how many it holds, how many are there. -/
structure BtAt (w : World) (g : Nat) (M T L : Int) : Prop where
  blk : BkA 67 w g [.int .i64 M, .int .i64 T, .int .i64 L]
  mil : 0 ≤ M ∧ M ≤ 1000000
  top : 1000 ≤ T ∧ T ≤ 256000
  lev : 0 ≤ L ∧ L ≤ T
theorem BtAt.below {w w' : World} {g : Nat} {M T L : Int} (h : BtAt w g M T L) (hb : Below w.heap.size w w') : BtAt w' g M T L := ⟨h.blk.below hb, h.mil, h.top, h.lev⟩
theorem BtAt.tu {F : Nat → Prop} {w w' : World} {g : Nat} {M T L : Int} (h : BtAt w g M T L) (ht : Tu F w w') (hF : ¬ F g) : BtAt w' g M T L := ⟨h.blk.tu ht hF, h.mil, h.top, h.lev⟩
def tickL (M T L n : Int) : Int := min (L + wiZ n 0 1048576 * M) T
theorem tickL_in {M T L : Int} (n : Int) (hM : 0 ≤ M) (hT : 0 ≤ T) (hL : 0 ≤ L) : 0 ≤ tickL M T L n ∧ tickL M T L n ≤ T := by
  have := wiZ_in n (show (0 : Int) ≤ 1048576 by decide)
  have := Int.mul_nonneg this.1 hM
  unfold tickL
  omega
/-- A slice of uint16 that can be read. -/
def U16At (w : World) (a : Option Addr) (n : Nat) (xs : List Int) : Prop :=
  xs.length = n ∧ (∀ x ∈ xs, 0 ≤ x ∧ x < 65536) ∧ (n = 0 ∨ ∃ b off, a = some ⟨b, off, none⟩ ∧ ∀ i, i < n → w.cell? ⟨b, off + i, none⟩ = some (.int .u16 (xs.getD i 0)))
theorem U16At.at {w : World} {a : Option Addr} {n : Nat} {xs : List Int} (h : U16At w a n xs) {i : Nat} (hi : i < n) :
    ∃ b off, a = some ⟨b, off, none⟩ ∧ w.cell? ⟨b, off + i, none⟩ = some (.int .u16 (xs.getD i 0)) := by
  rcases h.2.2 with h0 | ⟨b, off, e, hc⟩
  · omega
  · exact ⟨b, off, e, hc i hi⟩
theorem U16At.below {w w' : World} {a : Option Addr} {n : Nat} {xs : List Int} (h : U16At w a n xs) (hb : Below w.heap.size w w') : U16At w' a n xs := by
  refine ⟨h.1, h.2.1, ?_⟩
  rcases h.2.2 with h0 | ⟨b, off, e, hc⟩
  · exact .inl h0
  · exact .inr ⟨b, off, e, fun i hi => (hb.cell (World.block_lt_of_cell? w _ (hc i hi))).trans (hc i hi)⟩
theorem within_any (x a b : Int) (w : World) : Calls Tryd.prog 34 #[.int .i64 x, .int .i64 a, .int .i64 b] w fun e w' => e = .returned (.int .i64 (wiZ x a b)) ∧ w' = w := by
  have hmx := max_runZ x a
  have hmn := min_runZ (max x a) b
  unfold wiZ
  generalize max x a = m at *
  generalize min m b = n at *
  go_enter Tryd.func34, Tryd.ntmps34
  go_wp2
  go_ret
  exact ⟨rfl, rfl⟩
set_option maxHeartbeats 1000000 in
theorem pcnew_any (m k : Int) (w : World) :
    Calls Tryd.prog 27 #[.int .i64 m, .int .i64 k] w fun e w' => e = .returned (.pointer (some ⟨w.heap.size, 0, none⟩)) ∧ BtAt w' w.heap.size (wiZ m 0 1000000) (1000 * wiZ k 1 256) (1000 * wiZ k 1 256) ∧ Below w.heap.size w w' := by
  have h1 := wiZ_in k (show (1 : Int) ≤ 256 by decide)
  have h2 := wiZ_in m (show (0 : Int) ≤ 1000000 by decide)
  have HF1 : Hid True := hide trivial
  have H1 := within_any k 1 256
  have H2 := within_any m 0 1000000
  generalize wiZ k 1 256 = x at *
  generalize wiZ m 0 1000000 = y at *
  go_enter Tryd.func27, Tryd.ntmps27
  go_wp2_with (first
    | (clear HF1; go_at_call 34; refine (H1 _).mono ?_; rintro e w1 ⟨rfl, hw1⟩; obtain rfl := hw1.symm; clear hw1)
    | (go_at_call 34; refine (H2 _).mono ?_; rintro e w1 ⟨rfl, hw1⟩; obtain rfl := hw1.symm; clear hw1)
    | fail)
  go_ret
  exact ⟨rfl, ⟨bkA_new 67 _ [.int .i64 y, .int .i64 (1000 * x), .int .i64 (1000 * x)], h2, by omega, by omega⟩, alloc_low _ _⟩
theorem pctake_no (g : Nat) (M T L : Int) (w : World) (h : BtAt w g M T L) (hl : L < 1000) : Calls Tryd.prog 35 #[.pointer (some ⟨g, 0, none⟩)] w fun e w' => e = .returned (.bool false) ∧ w' = w := by
  have h2 := h.blk.at 2 rfl
  go_enter Tryd.func35, Tryd.ntmps35
  go_wp2
  go_ret
  exact ⟨rfl, rfl⟩
theorem pctake_nil (w : World) : Calls Tryd.prog 35 #[.pointer none] w fun e w' => e = .returned (.bool false) ∧ w' = w := by
  go_enter Tryd.func35, Tryd.ntmps35
  go_wp2
  go_ret
  exact ⟨rfl, rfl⟩
theorem pctake_yes (g : Nat) (M T L : Int) (w : World) (h : BtAt w g M T L) (hl : 1000 ≤ L) : Calls Tryd.prog 35 #[.pointer (some ⟨g, 0, none⟩)] w fun e w' => e = .returned (.bool true) ∧ BtAt w' g M T (L - 1000) ∧ Tu (fun j => j = g) w w' := by
  have h2 := h.blk.at 2 rfl
  have hf := h.blk.frz 2
  have hb := h.lev
  have ht := h.top
  have H := hide h
  clear h
  go_enter Tryd.func35, Tryd.ntmps35
  go_wp2
  go_ret
  exact ⟨rfl, ⟨(unhide H).blk.set 2 _, (unhide H).mil, ht, by omega⟩, tu_set _ _ _ _⟩
theorem pctick_nil (n : Int) (w : World) : Calls Tryd.prog 20 #[.pointer none, .int .i64 n] w fun e w' => e = .returned (.tuple #[]) ∧ w' = w := by
  go_enter Tryd.func20, Tryd.ntmps20
  go_wp2
  exact bodyPost_ret (v := .tuple #[]) (by simp [results, Tryd.results20, go_sem]) rfl ⟨rfl, rfl⟩
theorem pcnew_ex (m k : Int) (w : World) :
    Calls Tryd.prog 27 #[.int .i64 m, .int .i64 k] w fun e w' => ∃ g, e = .returned (.pointer (some ⟨g, 0, none⟩)) ∧ w.heap.size ≤ g ∧ BtAt w' g (wiZ m 0 1000000) (1000 * wiZ k 1 256) (1000 * wiZ k 1 256) ∧ Below w.heap.size w w' :=
  (pcnew_any m k w).mono fun e w' ⟨h1, h2, h3⟩ => ⟨_, h1, Nat.le_refl _, h2, h3⟩
end Go.Proofs.YtdiondgkkanamaaDoor
