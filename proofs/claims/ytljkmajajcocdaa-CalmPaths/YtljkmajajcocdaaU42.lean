/-
  What a way is, node by node. No condition.
-/
import Derived.Test.YtljkmajajcocdaaU36
namespace Go.Proofs.Ytljkmajajcocdaa
open Go.RowKit Go.Sort Go.Shelf
set_option linter.unusedVariables false
set_option linter.unusedSimpArgs false
set_option maxRecDepth 4000

theorem wayK_head {ds : List NDV} {F : Nat → Nat} {n : Nat} (k i : Nat) : (wayK ds F n k i).getD 0 0 = i := by cases k <;> rfl
theorem wayK_at {ds : List NDV} {n to : Nat} {F : Nat → Nat} (hF : FarP ds n to F) (hw : WayP ds n) : ∀ k i, i < n → F i = k → k < 8 → ∀ j, j ≤ k →
    (wayK ds F n k i).getD j 0 < n ∧ F ((wayK ds F n k i).getD j 0) + j = k ∧ (j < k → (wayK ds F n k i).getD (j + 1) 0 = nxtN ds F n ((wayK ds F n k i).getD j 0))
  | 0, i, hi, hk, _, j, hj => by
    obtain rfl : j = 0 := by omega
    exact ⟨hi, hk, fun h => by omega⟩
  | k + 1, i, hi, hk, h8, 0, _ => ⟨hi, hk, fun _ => wayK_head k _⟩
  | k + 1, i, hi, hk, h8, j + 1, hj => by
    have h := nxt_is hF hw hi (by omega) (by omega)
    obtain ⟨h1, h2, h3⟩ := wayK_at hF hw k (nxtN ds F n i) h.2.1 (by omega) (by omega) j (by omega)
    refine ⟨h1, ?_, fun hjk => h3 (by omega)⟩
    have h2' : F ((wayK ds F n (k + 1) i).getD (j + 1) 0) + j = k := h2
    omega
/-- What a way is that is not empty. -/
structure WayQ (f : CFV) (fr to : Int) (L : List Nat) : Prop where
  chk : ChkR f 0
  ends : ∃ s t : Nat, fr = s ∧ to = t ∧ s < f.n ∧ t < f.n
  pos : 0 < L.length ∧ L.length ≤ 8
  first : ((L.getD 0 0 : Nat) : Int) = fr
  last : ((L.getD (L.length - 1) 0 : Nat) : Int) = to
  lt : ∀ i, i < L.length → L.getD i 0 < f.n
  far : ∀ i, i < L.length → farN f.ds f.n to.toNat (L.getD i 0) + i + 1 = L.length
  step : ∀ i, i + 1 < L.length → ((L.getD (i + 1) 0 : Nat) : Int) ∈ tosN f.ds (L.getD i 0)
  least : ∀ i, i + 1 < L.length → ∀ x, x ∈ tosN f.ds (L.getD i 0) → farN f.ds f.n to.toNat x.toNat < farN f.ds f.n to.toNat (L.getD i 0) → ((L.getD (i + 1) 0 : Nat) : Int) ≤ x
theorem PathP.q {f : CFV} {fr to : Int} {L : List Nat} (h : PathP f fr to L) (h0 : 0 < L.length) : WayQ f fr to L := by
  rcases h with ⟨hc, h1, h2, h8, rfl⟩ | ⟨_, rfl⟩
  · have hw := (stepP_of hc).1
    have hF := farN_is (to := to.toNat) hw
    have hl : (wayL f.ds f.n to.toNat fr.toNat).length = farN f.ds f.n to.toNat fr.toNat + 1 := wayK_len _ _
    have key := wayK_at hF hw (farN f.ds f.n to.toNat fr.toNat) fr.toNat (by omega) rfl h8
    have hst : ∀ i, i + 1 < (wayL f.ds f.n to.toNat fr.toNat).length → _ := fun i hi => nxt_is hF hw (key i (by omega)).1 (by have := (key i (by omega)).2.1; omega) (by have := (key i (by omega)).2.1; omega)
    refine ⟨hc, ⟨fr.toNat, to.toNat, by omega, by omega, by omega, by omega⟩, ⟨h0, by omega⟩, ?_, ?_, fun i hi => (key i (by omega)).1, fun i hi => ?_, fun i hi => ?_, fun i hi => ?_⟩
    · unfold wayL
      rw [wayK_head]
      omega
    · have h := (key (farN f.ds f.n to.toNat fr.toNat) (Nat.le_refl _)).2.1
      have := hF.fin ((wayL f.ds f.n to.toNat fr.toNat).getD (farN f.ds f.n to.toNat fr.toNat) 0) (by unfold wayL; omega)
      rw [hl, Nat.add_sub_cancel, this]
      omega
    · have h := (key i (by omega)).2.1
      unfold wayL at *
      omega
    · have h := (key i (by omega)).2.2 (by omega)
      have h' := (hst i hi).2.2.1
      unfold wayL at *
      rw [h]
      exact h'
    · have h := (key i (by omega)).2.2 (by omega)
      have h' := (hst i hi).2.2.2.2
      unfold wayL at *
      rw [h]
      exact h'
  · exact absurd h0 (Nat.lt_irrefl 0)
/-- No way: none is asked for that has no step. -/
theorem PathP.none {f : CFV} {fr to : Int} (h : PathP f fr to []) (hc : ChkR f 0) (e : fr = to) (h0 : 0 ≤ fr ∧ fr < (f.n : Int)) : False := by
  subst e
  rcases h with ⟨_, _, _, _, h5⟩ | ⟨h1, _⟩
  · have := congrArg List.length h5
    unfold wayL at this
    rw [wayK_len] at this
    cases this
  · refine h1 ⟨hc, h0, h0, ?_⟩
    rw [(farN_is (stepP_of hc).1).zero]
    omega
end Go.Proofs.Ytljkmajajcocdaa
