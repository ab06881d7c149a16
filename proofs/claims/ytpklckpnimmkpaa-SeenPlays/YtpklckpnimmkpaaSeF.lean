/-
  Contract of bucketlinelaw23.awake. No condition.
-/
import Derived.Test.YtpklckpnimmkpaaG3
import Derived.Lib.QuietBelow
namespace Go.Proofs.Ytpklckpnimmkpaa
open Go.RowKit Go.Sort Go.Maps
set_option linter.unusedVariables false
set_option maxRecDepth 4000

def pA : PD := ⟨0, 0, 1, 1, 0, [1], ⟨#[97]⟩⟩
def pB : PD := ⟨0, 0, 1, 1, 3, [1], ⟨#[97]⟩⟩
def pZ : PD := ⟨0, 0, 0, 0, 0, [], ⟨#[]⟩⟩
theorem okA : okD pA = true := by decide +kernel
theorem okB : okD pB = true := by decide +kernel
theorem okZ : okD pZ = false := by decide +kernel
theorem prA : ¬ prD pA = 0 := by decide +kernel
theorem prB : prD pB = prD pA := by decide +kernel
theorem fr_A : freshD [] pA = true ∧ cameL 2 [] pA = [prD pA] := by
  have h1 : hasD [] (prD pA) = false := rfl
  exact ⟨(fresh_yes okA h1 2).1, (fresh_yes okA h1 2).2⟩
theorem fr_B : freshD [prD pA] pB = false ∧ cameL 2 [prD pA] pB = [prD pA] := fresh_old (by rw [prB]; simp [hasD]) 2
theorem fr_Z : freshD [prD pA] pZ = false ∧ cameL 2 [prD pA] pZ = [prD pA] := fresh_no okZ 2
/-- The example's packets, their row at block s. -/
def vA (s : Nat) : PKV := ⟨0, 0, 1, 1, 0, ⟨some ⟨s, 0, none⟩, 1, 1, [1], ⟨#[97]⟩⟩⟩
def vB (s : Nat) : PKV := ⟨0, 0, 1, 1, 3, ⟨some ⟨s, 0, none⟩, 1, 1, [1], ⟨#[97]⟩⟩⟩
def vZ : PKV := ⟨0, 0, 0, 0, 0, ⟨none, 0, 0, [], ⟨#[]⟩⟩⟩
/-- Within the example: a cache, a row, two packets. -/
structure AwS (w wk : World) (s g b N : Nat) (L : List Nat) : Prop where
  ca : CaAt wk g b 2 N L
  ro : BkA 47 wk s [.int .u64 1]
  pa : BkA 26 wk (s + 1) [.int .i64 0, .int .i64 0, .int .i64 1, .int .i64 1, .int .i64 0, .slice (some ⟨s, 0, none⟩) 1 1, .string ⟨#[97]⟩]
  pb : BkA 26 wk (s + 1 + 1) [.int .i64 0, .int .i64 0, .int .i64 1, .int .i64 1, .int .i64 3, .slice (some ⟨s, 0, none⟩) 1 1, .string ⟨#[97]⟩]
  bel : Below w.heap.size w wk
  lg : w.heap.size ≤ g
  lb : w.heap.size ≤ b
theorem AwS.row {w wk : World} {s g b N : Nat} {L : List Nat} (h : AwS w wk s g b N L) : RowAt wk (some ⟨s, 0, none⟩) 1 [1] :=
  ⟨rfl, (fun x hx => by rw [List.mem_singleton] at hx; subst hx; show (1 : Nat) < 18446744073709551616; decide), .inr ⟨s, 0, rfl, fun i hi => by
    obtain rfl : i = 0 := by omega
    exact h.ro.at 0 rfl⟩⟩
theorem AwS.below {w wk w' : World} {s g b N : Nat} {L : List Nat} (h : AwS w wk s g b N L) (hb : Below wk.heap.size wk w') : AwS w w' s g b N L :=
  ⟨h.ca.below hb, h.ro.below hb, h.pa.below hb, h.pb.below hb, below0 h.bel hb, h.lg, h.lb⟩
theorem AwS.tu {w wk w' : World} {s g b N N' : Nat} {L L' : List Nat} (h : AwS w wk s g b N L) (ht : Tu (caF g b) wk w') (hc : CaAt w' g b 2 N' L') : AwS w w' s g b N' L' :=
  ⟨hc, h.ro.tu ht (h.ca.out h.ro (by decide)), h.pa.tu ht (h.ca.out h.pa (by decide)), h.pb.tu ht (h.ca.out h.pb (by decide)),
    h.bel.trans (ht.below h.bel.size fun j hj hf => by have := h.lg; have := h.lb; rcases hf with hf | hf <;> omega), h.lg, h.lb⟩
theorem AwS.start {w w1 : World} {g b : Nat} (hc : CaAt w1 g b (capN 2) 0 []) (hb : Below w.heap.size w w1) (lg : w.heap.size ≤ g) (lb : w.heap.size ≤ b) :
    AwS w (((w1.alloc (.cells #[.int .u64 1] 47)).alloc (.cells #[.int .i64 0, .int .i64 0, .int .i64 1, .int .i64 1, .int .i64 0, .slice (some ⟨w1.heap.size, 0, none⟩) 1 1, .string ⟨#[97]⟩] 26)).alloc
      (.cells #[.int .i64 0, .int .i64 0, .int .i64 1, .int .i64 1, .int .i64 3, .slice (some ⟨w1.heap.size, 0, none⟩) 1 1, .string ⟨#[97]⟩] 26)) w1.heap.size g b 0 [] := by
  have b1 := below_new w1 (.cells #[.int .u64 1] 47)
  have k1 := bkA_new 47 w1 [.int .u64 1]
  generalize e1 : w1.alloc (.cells #[.int .u64 1] 47) = w2 at *
  have z2 : w2.heap.size = w1.heap.size + 1 := by rw [← e1, alloc_size]
  have b2 := below_new w2 (.cells #[.int .i64 0, .int .i64 0, .int .i64 1, .int .i64 1, .int .i64 0, .slice (some ⟨w1.heap.size, 0, none⟩) 1 1, .string ⟨#[97]⟩] 26)
  have k2 := bkA_new 26 w2 [.int .i64 0, .int .i64 0, .int .i64 1, .int .i64 1, .int .i64 0, .slice (some ⟨w1.heap.size, 0, none⟩) 1 1, .string ⟨#[97]⟩]
  generalize e2 : w2.alloc (.cells #[.int .i64 0, .int .i64 0, .int .i64 1, .int .i64 1, .int .i64 0, .slice (some ⟨w1.heap.size, 0, none⟩) 1 1, .string ⟨#[97]⟩] 26) = w3 at *
  have z3 : w3.heap.size = w1.heap.size + 1 + 1 := by rw [← e2, alloc_size, z2]
  have b3 := below_new w3 (.cells #[.int .i64 0, .int .i64 0, .int .i64 1, .int .i64 1, .int .i64 3, .slice (some ⟨w1.heap.size, 0, none⟩) 1 1, .string ⟨#[97]⟩] 26)
  have k3 := bkA_new 26 w3 [.int .i64 0, .int .i64 0, .int .i64 1, .int .i64 1, .int .i64 3, .slice (some ⟨w1.heap.size, 0, none⟩) 1 1, .string ⟨#[97]⟩]
  rw [z2] at k2
  rw [z3] at k3
  exact ⟨((hc.below b1).below b2).below b3, (k1.below b2).below b3, k2.below b3, k3, below0 (below0 (below0 hb b1) b2) b3, lg, lb⟩
theorem aw_h1 {w wk : World} {s g b N : Nat} (h : AwS w wk s g b N []) :
    Calls Try.prog 16 #[.pointer (some ⟨g, 0, none⟩), (vA s).val] wk fun e w' => e = .returned (.bool false) ∧ AwS w w' s g b N [] :=
  (sehas_any g b 2 N [] (vA s) wk h.ca h.row).mono fun e w' ⟨he, hb⟩ => ⟨he, h.below hb⟩
theorem aw_f1 {w wk : World} {s g b N : Nat} (h : AwS w wk s g b N []) (hN : N < 1099511627776) :
    Calls Try.prog 18 #[.pointer (some ⟨g, 0, none⟩), (vA s).val] wk fun e w' => e = .returned (.bool true) ∧ AwS w w' s g b (N + 1) [prD pA] :=
  (sefresh_any g b 2 N [] (vA s) wk h.ca h.row hN).mono fun e w' ⟨he, hc, ht⟩ => ⟨he.trans (ret_bool fr_A.1), h.tu ht (by have h1 := hc; rw [show cameL 2 [] (vA s).pd = [prD pA] from fr_A.2] at h1; exact h1)⟩
theorem aw_h2 {w wk : World} {s g b N : Nat} (h : AwS w wk s g b N [prD pA]) :
    Calls Try.prog 16 #[.pointer (some ⟨g, 0, none⟩), (vB s).val] wk fun e w' => e = .returned (.bool true) ∧ AwS w w' s g b N [prD pA] :=
  (sehas_any g b 2 N [prD pA] (vB s) wk h.ca h.row).mono fun e w' ⟨he, hb⟩ => ⟨he.trans (ret_bool (show hasD [prD pA] (prD pB) = true by rw [prB]; simp [hasD])), h.below hb⟩
theorem aw_f2 {w wk : World} {s g b N : Nat} (h : AwS w wk s g b N [prD pA]) (hN : N < 1099511627776) :
    Calls Try.prog 18 #[.pointer (some ⟨g, 0, none⟩), (vB s).val] wk fun e w' => e = .returned (.bool false) ∧ AwS w w' s g b (N + 1) [prD pA] :=
  (sefresh_any g b 2 N [prD pA] (vB s) wk h.ca h.row hN).mono fun e w' ⟨he, hc, ht⟩ => ⟨he.trans (ret_bool fr_B.1), h.tu ht (by have h1 := hc; rw [show cameL 2 [prD pA] (vB s).pd = [prD pA] from fr_B.2] at h1; exact h1)⟩
theorem aw_f3 {w wk : World} {s g b N : Nat} (h : AwS w wk s g b N [prD pA]) (hN : N < 1099511627776) :
    Calls Try.prog 18 #[.pointer (some ⟨g, 0, none⟩), vZ.val] wk fun e w' => e = .returned (.bool false) ∧ AwS w w' s g b (N + 1) [prD pA] :=
  (sefresh_any g b 2 N [prD pA] vZ wk h.ca (row_none wk) hN).mono fun e w' ⟨he, hc, ht⟩ => ⟨he.trans (ret_bool fr_Z.1), h.tu ht (by have h1 := hc; rw [show cameL 2 [prD pA] vZ.pd = [prD pA] from fr_Z.2] at h1; exact h1)⟩
theorem aw_c {w wk : World} {s g b N : Nat} {L : List Nat} (h : AwS w wk s g b N L) :
    Calls Try.prog 21 #[.pointer (some ⟨g, 0, none⟩)] wk fun e w' => e = .returned (.tuple #[]) ∧ AwS w w' s g b 0 [] :=
  (seclear_any g b 2 N L wk h.ca).mono fun e w' ⟨he, hc, ht⟩ => ⟨he, h.tu ht hc⟩
theorem aw_pA {w wk : World} {s g b N : Nat} {L : List Nat} (h : AwS w wk s g b N L) (X : Nat) (hX : prD pA = X) :
    Calls Try.prog 10 #[(vA s).val] wk fun e w' => e = .returned (.int .u32 (X : Int)) ∧ Below wk.heap.size wk w' := by
  subst hX
  exact pr_any (vA s) wk h.row
theorem aw_pB {w wk : World} {s g b N : Nat} {L : List Nat} (h : AwS w wk s g b N L) (X : Nat) (hX : prD pA = X) :
    Calls Try.prog 10 #[(vB s).val] wk fun e w' => e = .returned (.int .u32 (X : Int)) ∧ Below wk.heap.size wk w' := by
  have := pr_any (vB s) wk h.row
  rw [show prD (vB s).pd = X from prB.trans hX] at this
  exact this
theorem aw_pZ {wk : World} :
    Calls Try.prog 10 #[vZ.val] wk fun e w' => e = .returned (.int .u32 0) ∧ Below wk.heap.size wk w' := by
  have := pr_any vZ wk (row_none wk)
  rw [show prD vZ.pd = 0 from prD_no okZ] at this
  exact this

set_option maxHeartbeats 2000000 in
theorem seawake_any (w : World) : Calls Try.prog 8 #[] w fun e w' => e = .returned (.bool true) ∧ Below w.heap.size w w' := by
  have HF1 : Hid True := trivial
  have HF2 : Hid True := trivial
  have HF3 : Hid True := trivial
  obtain ⟨X, hX⟩ : ∃ X, prD pA = X := ⟨_, rfl⟩
  have hX0 : ((X : Int) != 0) = true := by have := prA; rw [hX] at this; simp; omega
  have HX := hide hX
  clear hX
  go_enter Try.func8, Try.ntmps8
  go_wp2_with (first
    | (go_at_call 13; refine (senew_any 2 w).mono ?_; rintro e w1 ⟨g, b, rfl, hg, hb, hc, hbw⟩; have HA0 := hide (AwS.start hc hbw hg hb); clear hc hbw hg hb)
    | (go_at_call 16; clear HF1; refine (aw_h1 (unhide HA0)).mono ?_; rintro e w2 ⟨rfl, ha⟩; have HA1 := hide ha; clear HA0; generalize w1.heap.size = s at *; have q0 := ha.pa.at 0 rfl; have q1 := ha.pa.at 1 rfl; have q2 := ha.pa.at 2 rfl; have q3 := ha.pa.at 3 rfl; have q4 := ha.pa.at 4 rfl; have q5 := ha.pa.at 5 rfl; have q6 := ha.pa.at 6 rfl; clear ha)
    | (go_at_call 18; clear HF2; refine (aw_f1 (unhide HA1) (by decide)).mono ?_; rintro e w3 ⟨rfl, ha⟩; have HA2 := hide ha; clear HA1; clear q0 q1 q2 q3 q4 q5 q6; have q0 := ha.pb.at 0 rfl; have q1 := ha.pb.at 1 rfl; have q2 := ha.pb.at 2 rfl; have q3 := ha.pb.at 3 rfl; have q4 := ha.pb.at 4 rfl; have q5 := ha.pb.at 5 rfl; have q6 := ha.pb.at 6 rfl; clear ha)
    | (go_at_call 16; refine (aw_h2 (unhide HA2)).mono ?_; rintro e w4 ⟨rfl, ha⟩; have HA3 := hide ha; clear HA2; clear q0 q1 q2 q3 q4 q5 q6; have q0 := ha.pb.at 0 rfl; have q1 := ha.pb.at 1 rfl; have q2 := ha.pb.at 2 rfl; have q3 := ha.pb.at 3 rfl; have q4 := ha.pb.at 4 rfl; have q5 := ha.pb.at 5 rfl; have q6 := ha.pb.at 6 rfl; clear ha)
    | (go_at_call 18; clear HF3; refine (aw_f2 (unhide HA3) (by decide)).mono ?_; rintro e w5 ⟨rfl, ha⟩; have HA4 := hide ha; clear HA3; clear q0 q1 q2 q3 q4 q5 q6 ha)
    | (go_at_call 18; refine (aw_f3 (unhide HA4) (by decide)).mono ?_; rintro e w6 ⟨rfl, ha⟩; have HA5 := hide ha; clear HA4 ha)
    | (go_at_call 19; refine (selen_any _ _ _ _ _ _ (unhide HA5).ca).mono ?_; rintro e w7 ⟨rfl, hw7⟩; obtain rfl := hw7.symm; clear hw7)
    | (go_at_call 21; refine (aw_c (unhide HA5)).mono ?_; rintro e w8 ⟨rfl, ha⟩; have HA6 := hide ha; clear HA5; have k0 := cell_regrown (ha.pa.at 0 rfl); have k1 := cell_regrown (ha.pa.at 1 rfl); have k2 := cell_regrown (ha.pa.at 2 rfl); have k3 := cell_regrown (ha.pa.at 3 rfl); have k4 := cell_regrown (ha.pa.at 4 rfl); have k5 := cell_regrown (ha.pa.at 5 rfl); have k6 := cell_regrown (ha.pa.at 6 rfl); have j0 := cell_regrown (ha.pb.at 0 rfl); have j1 := cell_regrown (ha.pb.at 1 rfl); have j2 := cell_regrown (ha.pb.at 2 rfl); have j3 := cell_regrown (ha.pb.at 3 rfl); have j4 := cell_regrown (ha.pb.at 4 rfl); have j5 := cell_regrown (ha.pb.at 5 rfl); have j6 := cell_regrown (ha.pb.at 6 rfl); clear ha)
    | fail)
  have cL := quietB (W := w8) (fun w' hb => same_below (selen_any g b 2 0 [] w' ((unhide HA6).below hb).ca))
  have cA := quietB (W := w8) (fun w' hb => aw_pA ((unhide HA6).below hb) X (unhide HX))
  have cB := quietB (W := w8) (fun w' hb => aw_pB ((unhide HA6).below hb) X (unhide HX))
  have cZ := quietB (W := w8) (fun w' hb => aw_pZ (wk := w'))
  simp only [PKV.val, vA, vB, vZ] at cA cB cZ
  refine wp_region_quiet_below (by kernel_rfl) (by kernel_rfl) ?_
  repeat (with_reducible refine wpQuiet_step (fun K hK => ?_); go_simp; first | (with_reducible refine hK _ ?_; clear hK K) | (apply Exists.intro; apply And.intro; (intro _; first | (go_at_call 19; exact cL _ _) | (go_at_call 10; first | exact cA _ _ | exact cB _ _ | exact cZ _ _)); with_reducible refine hK _ ?_; clear hK K))
  refine wpQuiet_nil ?_
  intro w9 hw9
  obtain ⟨⟨dq, osq⟩, hw9⟩ := hw9
  have hb9 : Below w8.heap.size w8 w9 := by rw [hw9]; exact below_regrown _ dq osq
  have HB9 := hide (below0 (unhide HA6).bel hb9)
  clear hw9 hb9 cL cA cB cZ
  go_wp2
  go_ret
  exact ⟨rfl, unhide HB9⟩
end Go.Proofs.Ytpklckpnimmkpaa
