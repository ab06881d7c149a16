/-
  Packets compared as data: contracts of bucketlineref07.Same, and of bucketlineref07.All of equal packets.
-/
import Derived.Test.YtfimbbiholllhaaDoorM5
import Derived.Test.YtfimbbiholllhaaDoorM10
import Derived.BigQuiet
namespace Go.Proofs.YtfimbbiholllhaaDoor
open Go.RowKit Go.Sort
set_option linter.unusedVariables false
set_option maxRecDepth 4000

/-- Packets that are not too long. -/
def shortK (ps : List PKV) : Prop := ∀ i, i < ps.length → (ps.getD i .dflt).r.n ≤ 1048576
def sameD (p q : PD) : Bool := decide (((p.o = q.o ∧ p.l = q.l ∧ p.k = q.k ∧ p.z = q.z ∧ p.h = q.h) ∧ p.s = q.s) ∧ cnt (xorL p.xs q.xs) = 0)
theorem sameD_self (p : PD) : sameD p p = true := decide_eq_true ⟨⟨⟨rfl, rfl, rfl, rfl, rfl⟩, rfl⟩, cnt_of_zero _ (xorL_self_zero _)⟩
theorem rpsame_is (p q : PKV) (w : World) (hp : RowAt w p.r.a p.r.n p.r.xs) (hq : RowAt w q.r.a q.r.n q.r.xs) (hn : p.r.n ≤ 1048576) (hm : q.r.n ≤ 1048576) :
    Calls Tryd.prog 19 #[.agg #[.int .i64 p.o, .int .i64 p.l, .int .i64 p.k, .int .i64 p.z, .int .i64 p.h, .slice p.r.a p.r.n p.r.c, .string p.r.s], .agg #[.int .i64 q.o, .int .i64 q.l, .int .i64 q.k, .int .i64 q.z, .int .i64 q.h, .slice q.r.a q.r.n q.r.c, .string q.r.s]] w fun e w' => e = .returned (.bool (sameD p.pd q.pd)) ∧ Below w.heap.size w w' :=
  rpsame_any p.o p.l p.k p.z p.h p.r.a p.r.n p.r.c p.r.xs p.r.s q.o q.l q.k q.z q.h q.r.a q.r.n q.r.c q.r.xs q.r.s w hp hq hn hm (sameD p.pd q.pd) (by unfold TB sameD SameP; rw [decide_eq_true_iff]; rfl)
theorem pd_at {ps qs : List PKV} (h : ps.map PKV.pd = qs.map PKV.pd) {i : Nat} (hi : i < ps.length) : (ps.getD i .dflt).pd = (qs.getD i .dflt).pd := by
  have hl : ps.length = qs.length := by have := congrArg List.length h; simpa using this
  rw [← pdGet hi, h, pdGet (by omega)]
end Go.Proofs.YtfimbbiholllhaaDoor
