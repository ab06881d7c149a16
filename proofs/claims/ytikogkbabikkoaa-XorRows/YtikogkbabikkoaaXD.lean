/-
  Rows (a slice of words and a text) by value and in slices; contracts of bucketlineref02.Same, xor.Holds, bucketlineref02.Holds.
-/
import Derived.Test.YtikogkbabikkoaaXC
import Derived.Test.YtikogkbabikkoaaXS
import Derived.Deep.RegionWith
import Derived.Lib.QuietBelow
namespace Go.Proofs.Ytikogkbabikkoaa
open Go.RowKit Go.Sort
set_option linter.unusedVariables false
set_option maxRecDepth 4000

theorem TextsAt.alloc {w : World} {a : Option Addr} {n : Nat} {ss : List ByteArray} (h : TextsAt w a n ss) (o : Obj) : TextsAt (w.alloc o) a n ss := h.below ((Below.refl _ _).alloc (Nat.le_refl _) _)

theorem holds_yes {vs : List Nat} {n : Nat} : (((upTo vs n : Nat) : Int) == ((cnt vs : Nat) : Int)) = decide (upTo vs n = cnt vs) := by
  by_cases h : upTo vs n = cnt vs
  · simp [h]
  · simp [h]; omega
/-- What xor.Holds tells. -/
def holdsB (ss : List ByteArray) (vs : List Nat) (s : ByteArray) : Bool := zeroB (xorS (st (ofL ss vs ss.length)) s) && decide (upTo vs ss.length = cnt vs)

set_option maxHeartbeats 1000000 in
theorem holds_any (a : Option Addr) (n c : Nat) (ss : List ByteArray) (a' : Option Addr) (m c' : Nat) (vs : List Nat) (s : ByteArray) (w : World) (h : TextsAt w a n ss) (hs : shorts ss) (hn : n ≤ 1048576) (h' : RowAt w a' m vs) (hm : m ≤ 1048576) (hz : s.size ≤ 1048576) :
    Calls Try.prog 17 #[.slice a n c, .agg #[.slice a' m c', .string s]] w fun e w' => e = .returned (.bool (holdsB ss vs s)) ∧ Below w.heap.size w w' := by
  obtain rfl := h.1
  have hx := box_new w (.slice a' m c') (.string s)
  have h0 := h.alloc (.cells #[.slice a' m c', .string s] 35)
  have r0 := row_alloc h' (.cells #[.slice a' m c', .string s] 35)
  have b0 := (Below.refl _ w).alloc (Nat.le_refl _) (.cells #[.slice a' m c', .string s] 35)
  have hsz : (st (ofL ss vs ss.length)).size ≤ 1048576 := by rw [st_size (ofL_bytes _ _ _)]; exact ofL_len ss vs hs _
  have hsz2 : (xorS (st (ofL ss vs ss.length)) s).size ≤ 1048576 := by rw [xorS_size]; omega
  have k0 := cell_regrown hx.1
  have k1 := cell_regrown hx.2
  have cOf := quietB (fun w' hb => of_any a _ c ss a' m c' vs w' (h0.below hb) hs hn (r0.below hb) hm)
  have cXor := quietB (W := w.alloc (.cells #[.slice a' m c', .string s] 35)) (fun w' hb => xx_any (st (ofL ss vs ss.length)) s w' hsz hz)
  have cZero := quietB (W := w.alloc (.cells #[.slice a' m c', .string s] 35)) (fun w' hb => same_below (zero_any _ w' hsz2))
  have cRe := quietB (fun w' hb => reached_any ss.length a' m c' vs w' hn (r0.below hb) hm)
  have cCnt := quietB (fun w' hb => same_below (count_any a' m c' vs w' (r0.below hb) hm))
  have B0 := hide b0
  have hq := holds_yes (vs := vs) (n := ss.length)
  clear h hs h' h0 r0 b0 hx hsz hsz2
  cases hzb : zeroB (xorS (st (ofL ss vs ss.length)) s)
  · have HE := hide (show holdsB ss vs s = false from by unfold holdsB; rw [hzb]; rfl)
    rw [hzb] at cZero
    go_enter Try.func17, Try.ntmps17
    go_wp2_with fail
    refine wp_region_quiet_below (by kernel_rfl) (by kernel_rfl) ?_
    repeat (with_reducible refine wpQuiet_step (fun K hK => ?_); go_simp; first | (with_reducible refine hK _ ?_; clear hK K) | (apply Exists.intro; apply And.intro; (intro _; first | (go_at_call 14; exact cOf _ _) | (go_at_call 10; exact cXor _ _) | (go_at_call 25; exact cZero _ _)); with_reducible refine hK _ ?_; clear hK K))
    refine wpQuiet_nil ?_
    intro _ hw'
    obtain ⟨⟨dq, osq⟩, hw''⟩ := hw'
    subst hw''
    go_wp2
    go_ret
    exact ⟨ret_bool (unhide HE).symm, below0 (unhide B0) (below_regrown _ dq osq)⟩
  · have HE := hide (show holdsB ss vs s = decide (upTo vs ss.length = cnt vs) from by unfold holdsB; rw [hzb]; rfl)
    rw [hzb] at cZero
    go_enter Try.func17, Try.ntmps17
    go_wp2_with fail
    refine wp_region_quiet_below (by kernel_rfl) (by kernel_rfl) ?_
    repeat (with_reducible refine wpQuiet_step (fun K hK => ?_); go_simp; first | (with_reducible refine hK _ ?_; clear hK K) | (apply Exists.intro; apply And.intro; (intro _; first | (go_at_call 14; exact cOf _ _) | (go_at_call 10; exact cXor _ _) | (go_at_call 25; exact cZero _ _) | (go_at_call 26; exact cRe _ _) | (go_at_call 27; exact cCnt _ _)); with_reducible refine hK _ ?_; clear hK K))
    refine wpQuiet_nil ?_
    intro _ hw'
    obtain ⟨⟨dq, osq⟩, hw''⟩ := hw'
    subst hw''
    go_wp2
    go_ret
    exact ⟨ret_bool (unhide HE).symm, below0 (unhide B0) (below_regrown _ dq osq)⟩
end Go.Proofs.Ytikogkbabikkoaa
