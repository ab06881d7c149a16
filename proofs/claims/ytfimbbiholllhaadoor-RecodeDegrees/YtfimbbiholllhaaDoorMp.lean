/-
  What a Mix gives, in one form. No condition.
-/
import Derived.Test.YtfimbbiholllhaaDoorVN
import Derived.Test.YtfimbbiholllhaaDoorPs
namespace Go.Proofs.YtfimbbiholllhaaDoor
open Go.RowKit Go.Sort
set_option linter.unusedVariables false
set_option maxRecDepth 4000

theorem retI_yes {e : Ending} {P : Prop} (h : RetI e P) (hp : P) : e = .returned (.int .i64 1) := h.elim (fun h => h.1) fun h => absurd hp h.2
theorem retI_no {e : Ending} {P : Prop} (h : RetI e P) (hp : ¬ P) : e = .returned (.int .i64 0) := h.elim (fun h => absurd h.2 hp) fun h => h.1
theorem sameD_refl {p q : PD} (h : p = q) : sameD p q = true := by
  subst h
  unfold sameD
  rw [decide_eq_true_eq]
  exact ⟨⟨⟨rfl, rfl, rfl, rfl, rfl⟩, rfl⟩, cnt_of_zero _ (fun x hx => by
    obtain ⟨i, hi, rfl⟩ := List.mem_iff_getElem.1 hx
    have := xorL_getD p.xs p.xs i
    rw [List.getD_eq_getElem?_getD, List.getElem?_eq_getElem hi, Nat.xor_self] at this
    exact this)⟩
/-- No packet. -/
def zPK : PKV := ⟨0, 0, 0, 0, 0, ⟨none, 0, 0, [], ⟨#[]⟩⟩⟩
/-- What both give, in one form. -/
theorem MixR.pk {w w' : World} {o : Option PD} {e : Ending} (h : MixR w w' o e) : Below w.heap.size w w' ∧ ∃ q : PKV, e = .returned (.tuple #[q.val, .bool o.isSome]) ∧ q.pd = o.getD zPK.pd ∧ RowAt w' q.r.a q.r.n q.r.xs := by
  cases o with
  | none => exact ⟨h.1, zPK, h.2, rfl, row_none _⟩
  | some d =>
    obtain ⟨hb, q, hq, he, ho⟩ := h
    refine ⟨hb, q, he, hq, ?_⟩
    obtain ⟨_, _, e2, hr⟩ := ho.row
    simp only [Value.slice.injEq] at e2
    obtain ⟨rfl, h2, rfl⟩ := e2
    rw [h2]
    exact hr
end Go.Proofs.YtfimbbiholllhaaDoor
