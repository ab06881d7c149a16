/-
  Rows (a slice of words and a text) by value and in slices; contracts of bucketlineref02.Same, xor.Holds, bucketlineref02.Holds.
-/
import Derived.Test.YtiiiohbpjkonfaaXC
import Derived.Deep.RegionWith
import Derived.Lib.QuietBelow
namespace Go.Proofs.Ytiiiohbpjkonfaa
open Go.RowKit Go.Sort
set_option linter.unusedVariables false

/-- A block that holds a row. -/
def BoxAt (w : World) (g : Nat) (x y : Value) : Prop := w.cell? ⟨g, 0, none⟩ = some x ∧ w.cell? ⟨g, 1, none⟩ = some y
theorem box_new (w : World) (x y : Value) : BoxAt (w.alloc (.cells #[x, y] 35)) w.heap.size x y := by
  constructor <;> simp
theorem BoxAt.below {w w' : World} {g : Nat} {x y : Value} (h : BoxAt w g x y) (hb : Below w.heap.size w w') : BoxAt w' g x y :=
  ⟨(hb.cell (World.block_lt_of_cell? w _ h.1)).trans h.1, (hb.cell (World.block_lt_of_cell? w _ h.2)).trans h.2⟩
theorem BoxAt.alloc {w : World} {g : Nat} {x y : Value} (h : BoxAt w g x y) (o : Obj) : BoxAt (w.alloc o) g x y := h.below ((Below.refl _ _).alloc (Nat.le_refl _) _)
theorem TextsAt.alloc {w : World} {a : Option Addr} {n : Nat} {ss : List ByteArray} (h : TextsAt w a n ss) (o : Obj) : TextsAt (w.alloc o) a n ss := h.below ((Below.refl _ _).alloc (Nat.le_refl _) _)

set_option maxHeartbeats 400000 in
theorem rsame2_any (a : Option Addr) (n c : Nat) (xs : List Nat) (s : ByteArray) (a' : Option Addr) (m c' : Nat) (ys : List Nat) (t : ByteArray) (w : World) (h : RowAt w a n xs) (h' : RowAt w a' m ys) (hn : n ≤ 1048576) (hm : m ≤ 1048576) :
    Calls Try.prog 19 #[.agg #[.slice a n c, .string s], .agg #[.slice a' m c', .string t]] w fun e w' => e = .returned (.bool (decide (cnt (xorL xs ys) = 0) && decide (s = t))) ∧ Below w.heap.size w w' := by
  have hst := eq_texts s t
  have H := hide h
  have H' := hide h'
  clear h h'
  go_enter Try.func19, Try.ntmps19
  go_wp2_with fail
  refine (rsame_any a n c xs a' m c' ys _ (row_alloc (row_alloc (unhide H) _) _) (row_alloc (row_alloc (unhide H') _) _) hn hm).mono ?_
  rintro e w1 ⟨rfl, hb⟩
  have hx1 := ((box_new w (.slice a n c) (.string s)).alloc (.cells #[.slice a' m c', .string t] 35)).below hb
  have hx2 := (box_new (w.alloc (.cells #[.slice a n c, .string s] 35)) (.slice a' m c') (.string t)).below hb
  rw [alloc_size] at hx2
  obtain ⟨_, hc1⟩ := hx1
  obtain ⟨_, hc2⟩ := hx2
  have HB := hide (below2 (Below.refl _ w) hb)
  clear hb
  cases hd : decide (cnt (xorL xs ys) = 0)
  · go_wp2
    go_ret
    exact ⟨ret_bool (by rw [hd]; rfl), unhide HB⟩
  · go_wp2
    go_ret
    exact ⟨ret_bool (by rw [hd]; rfl), unhide HB⟩

theorem holds_yes {vs : List Nat} {n : Nat} : (((upTo vs n : Nat) : Int) == ((cnt vs : Nat) : Int)) = decide (upTo vs n = cnt vs) := by
  by_cases h : upTo vs n = cnt vs
  · simp [h]
  · simp [h]; omega
/-- What xor.Holds tells. -/
def holdsB (ss : List ByteArray) (vs : List Nat) (s : ByteArray) : Bool := zeroB (xorS (st (ofL ss vs ss.length)) s) && decide (upTo vs ss.length = cnt vs)

/-- A callee in a region that draws its order, in whatever world that region can have come to. -/
theorem quietB {W : World} {f : FuncId} {args : Array Value} {v : Value} (h : ∀ w', Below W.heap.size W w' → Calls Try.prog f args w' fun e w'' => e = .returned v ∧ Below w'.heap.size w' w'') (d : Nat) (os : Array Obj) :
    Calls Try.prog f args (grow (redrawn W d) os) fun e w'' => e = .returned v ∧ ∃ p : Regrown, w'' = grow (redrawn W p.d) p.os :=
  Calls.regrown_of (h _ (below_regrown W d os))
theorem same_below {f : FuncId} {args : Array Value} {v : Value} {w : World} (h : Calls Try.prog f args w fun e w'' => e = .returned v ∧ w'' = w) : Calls Try.prog f args w fun e w'' => e = .returned v ∧ Below w.heap.size w w'' :=
  h.mono fun e w' ⟨he, hw⟩ => ⟨he, by rw [hw]; exact Below.refl _ _⟩

set_option maxHeartbeats 1000000 in
theorem holds_any (a : Option Addr) (n c : Nat) (ss : List ByteArray) (a' : Option Addr) (m c' : Nat) (vs : List Nat) (s : ByteArray) (w : World) (h : TextsAt w a n ss) (hs : shorts ss) (hn : n ≤ 1048576) (h' : RowAt w a' m vs) (hm : m ≤ 1048576) (hz : s.size ≤ 1048576) :
    Calls Try.prog 17 #[.slice a n c, .agg #[.slice a' m c', .string s]] w fun e w' => e = .returned (.bool (holdsB ss vs s)) ∧ Below w.heap.size w w' := by
  obtain rfl := h.1
  have hx := box_new w (.slice a' m c') (.string s)
  have h0 := h.alloc (.cells #[.slice a' m c', .string s] 35)
  have r0 := row_alloc h' (.cells #[.slice a' m c', .string s] 35)
  have b0 := (Below.refl _ w).alloc (Nat.le_refl _) (.cells #[.slice a' m c', .string s] 35)
  have hsz : (st (ofL ss vs ss.length)).size ≤ 1048576 := by rw [st_size (ofL_bytes _ _ _)]; exact ofL_len ss vs hs _
  have hsz2 : (xorS (st (ofL ss vs ss.length)) s).size ≤ 1048576 := by rw [xorS_size]; omega
  have k0 := cell_regrown hx.1
  have k1 := cell_regrown hx.2
  have cOf := quietB (fun w' hb => of_any a _ c ss a' m c' vs w' (h0.below hb) hs hn (r0.below hb) hm)
  have cXor := quietB (W := w.alloc (.cells #[.slice a' m c', .string s] 35)) (fun w' hb => xx_any (st (ofL ss vs ss.length)) s w' hsz hz)
  have cZero := quietB (W := w.alloc (.cells #[.slice a' m c', .string s] 35)) (fun w' hb => same_below (zero_any _ w' hsz2))
  have cRe := quietB (fun w' hb => reached_any ss.length a' m c' vs w' hn (r0.below hb) hm)
  have cCnt := quietB (fun w' hb => same_below (count_any a' m c' vs w' (r0.below hb) hm))
  have B0 := hide b0
  have hq := holds_yes (vs := vs) (n := ss.length)
  clear h hs h' h0 r0 b0 hx hsz hsz2
  cases hzb : zeroB (xorS (st (ofL ss vs ss.length)) s)
  · have HE := hide (show holdsB ss vs s = false from by unfold holdsB; rw [hzb]; rfl)
    rw [hzb] at cZero
    go_enter Try.func17, Try.ntmps17
    go_wp2_with fail
    refine wp_region_quiet_below (by kernel_rfl) (by kernel_rfl) ?_
    repeat (with_reducible refine wpQuiet_step (fun K hK => ?_); go_simp; first | (with_reducible refine hK _ ?_; clear hK K) | (apply Exists.intro; apply And.intro; (intro _; first | (go_at_call 14; exact cOf _ _) | (go_at_call 10; exact cXor _ _) | (go_at_call 25; exact cZero _ _)); with_reducible refine hK _ ?_; clear hK K))
    refine wpQuiet_nil ?_
    intro _ hw'
    obtain ⟨⟨dq, osq⟩, hw''⟩ := hw'
    subst hw''
    go_wp2
    go_ret
    exact ⟨ret_bool (unhide HE).symm, below0 (unhide B0) (below_regrown _ dq osq)⟩
  · have HE := hide (show holdsB ss vs s = decide (upTo vs ss.length = cnt vs) from by unfold holdsB; rw [hzb]; rfl)
    rw [hzb] at cZero
    go_enter Try.func17, Try.ntmps17
    go_wp2_with fail
    refine wp_region_quiet_below (by kernel_rfl) (by kernel_rfl) ?_
    repeat (with_reducible refine wpQuiet_step (fun K hK => ?_); go_simp; first | (with_reducible refine hK _ ?_; clear hK K) | (apply Exists.intro; apply And.intro; (intro _; first | (go_at_call 14; exact cOf _ _) | (go_at_call 10; exact cXor _ _) | (go_at_call 25; exact cZero _ _) | (go_at_call 26; exact cRe _ _) | (go_at_call 27; exact cCnt _ _)); with_reducible refine hK _ ?_; clear hK K))
    refine wpQuiet_nil ?_
    intro _ hw'
    obtain ⟨⟨dq, osq⟩, hw''⟩ := hw'
    subst hw''
    go_wp2
    go_ret
    exact ⟨ret_bool (unhide HE).symm, below0 (unhide B0) (below_regrown _ dq osq)⟩
end Go.Proofs.Ytiiiohbpjkonfaa
