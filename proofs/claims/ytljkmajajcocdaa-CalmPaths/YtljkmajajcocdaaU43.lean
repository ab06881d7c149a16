/-
  The levels as the plain way counts them: -1 where there is none yet. No condition.
-/
import Derived.Test.YtljkmajajcocdaaU42
namespace Go.Proofs.Ytljkmajajcocdaa
open Go.RowKit Go.Sort Go.Shelf
set_option linter.unusedVariables false
set_option linter.unusedSimpArgs false
set_option maxRecDepth 4000

/-- How far, or -1. -/
def farI (v : Nat) : Int := if v < 8 then (v : Int) else -1
theorem farI_lt {v : Nat} (h : v < 8) : farI v = (v : Int) := if_pos h
theorem farI_no {v : Nat} (h : ¬ v < 8) : farI v = -1 := if_neg h
/-- The level of the nodes while round k + 1 has come to node i. -/
def levM (ds : List NDV) (to k i q : Nat) : Nat := if q < i then lev ds to (k + 1) q else lev ds to k q
/-- A list of levels. -/
def LvP (n : Nat) (h : Nat → Nat) (L : List Int) : Prop := L.length = n ∧ ∀ q, q < n → L.getD q 0 = farI (h q)
theorem getDz_set {L : List Int} {i q : Nat} {x : Int} (hi : i < L.length) : (L.set i x).getD q 0 = if q = i then x else L.getD q 0 := by
  rw [List.getD_eq_getElem?_getD, List.getD_eq_getElem?_getD, List.getElem?_set]
  by_cases e : i = q
  · subst e
    simp [hi]
  · rw [if_neg e, if_neg fun h => e h.symm]
/-- What node i holds when its first m steps have been looked at. -/
def InP (ds : List NDV) (to k i m : Nat) (v : Int) : Prop :=
  (lev ds to k i < 8 ∧ v = (lev ds to k i : Int)) ∨ (¬ lev ds to k i < 8 ∧ ((v = -1 ∧ ∀ j, j < m → lev ds to k ((tosN ds i).getD j 0).toNat ≠ k) ∨ (v = (k : Int) + 1 ∧ ∃ x, x ∈ tosN ds i ∧ lev ds to k x.toNat = k)))
theorem InP.start (ds : List NDV) (to k i : Nat) : InP ds to k i 0 (farI (lev ds to k i)) := by
  by_cases h : lev ds to k i < 8
  · exact .inl ⟨h, farI_lt h⟩
  · exact .inr ⟨h, .inl ⟨farI_no h, fun j hj => by omega⟩⟩
theorem InP.stop {ds : List NDV} {n to k i : Nat} {v : Int} (hw : WayP ds n) (hi : i < n) (h : InP ds to k i (tosN ds i).length v) (hk : k < 8) : v = farI (lev ds to (k + 1) i) := by
  have e : lev ds to (k + 1) i = if lev ds to k i < 8 then lev ds to k i else if ∃ x, x ∈ tosN ds i ∧ lev ds to k x.toNat = k then k + 1 else 8 := rfl
  rcases h with ⟨h, rfl⟩ | ⟨h, ⟨rfl, h2⟩ | ⟨rfl, h2⟩⟩
  · rw [if_pos h] at e
    rw [e]
    exact (farI_lt h).symm
  · rw [if_neg h, if_neg fun ⟨x, hx, hx2⟩ => by
      obtain ⟨j, hj, rfl⟩ := mem_getD hx
      exact h2 j hj hx2] at e
    rw [e]
    rfl
  · rw [if_neg h, if_pos h2] at e
    by_cases h7 : k = 7
    · obtain ⟨x, hx, hx2⟩ := h2
      have hxn := hw.2 i hi x hx
      have := lev_room (ds := ds) (to := to) (k := k) (m := 8) hi (fun q hq => lev_each hw (k := k) k x.toNat (by omega) hx2 (by omega) q (by omega)) (fun q hq e => h (by omega))
      have := hw.1
      omega
    · rw [e, farI_lt (by omega)]
      omega
theorem levM_k {ds : List NDV} {to k i q : Nat} (hk : k < 8) : farI (levM ds to k i q) = (k : Int) ↔ lev ds to k q = k := by
  unfold levM
  split
  · have e : lev ds to (k + 1) q = if lev ds to k q < 8 then lev ds to k q else if ∃ x, x ∈ tosN ds q ∧ lev ds to k x.toNat = k then k + 1 else 8 := rfl
    by_cases h : lev ds to k q < 8
    · rw [if_pos h] at e
      rw [e, farI_lt h]
      omega
    · rw [if_neg h] at e
      have h' : lev ds to (k + 1) q = k + 1 ∨ lev ds to (k + 1) q = 8 := by rw [e]; split <;> simp
      constructor
      · intro hf
        unfold farI at hf
        split at hf <;> omega
      · intro hf
        omega
  · unfold farI
    split <;> omega
/-- One step is looked at. -/
theorem InP.next {ds : List NDV} {to k i m : Nat} {v u : Int} (h : InP ds to k i m v) (hk : k < 8) (hm : m < (tosN ds i).length) (hu : (((tosN ds i).getD m 0).toNat = i ∧ u = v) ∨ (u = farI (levM ds to k i ((tosN ds i).getD m 0).toNat))) :
    (v < 0 ∧ u = (k : Int) → InP ds to k i (m + 1) ((k : Int) + 1)) ∧ (¬ (v < 0 ∧ u = (k : Int)) → InP ds to k i (m + 1) v) := by
  have key : v < 0 → (u = (k : Int) ↔ lev ds to k ((tosN ds i).getD m 0).toNat = k) := fun hv => by
    rcases hu with ⟨h1, h2⟩ | h1
    · rw [h1]
      rcases h with ⟨_, rfl⟩ | ⟨h3, _⟩
      · omega
      · constructor <;> omega
    · rw [h1]
      exact levM_k hk
  constructor
  · rintro ⟨h1, h2⟩
    have h3 := (key h1).1 h2
    rcases h with ⟨_, rfl⟩ | ⟨h4, _⟩
    · omega
    · exact .inr ⟨h4, .inr ⟨rfl, _, getD_mem hm, h3⟩⟩
  · intro hn
    rcases h with ⟨h1, rfl⟩ | ⟨h1, ⟨rfl, h2⟩ | h2⟩
    · exact .inl ⟨h1, rfl⟩
    · refine .inr ⟨h1, .inl ⟨rfl, fun j hj => ?_⟩⟩
      by_cases e : j = m
      · rw [e]
        exact fun hl => hn ⟨by decide, (key (by decide)).2 hl⟩
      · exact h2 j (by omega)
    · exact .inr ⟨h1, .inr h2⟩
/-- The plain way's levels in memory, in a block of one's own: the first behind w. -/
structure FrS (w W : World) (n : Nat) (L : List Int) : Prop where
  own : OwnZ W w.heap.size (.slice (some ⟨w.heap.size, 0, none⟩) n n) L
  len : L.length = n
  low : Below w.heap.size w W
theorem FrS.at {w W : World} {n : Nat} {L : List Int} (h : FrS w W n L) {i : Nat} (hi : i < n) : W.cell? ⟨w.heap.size, i, none⟩ = some (.int .i64 (L.getD i 0)) ∧ W.frozen? ⟨w.heap.size, i, none⟩ = false := by
  obtain ⟨g, c, e, -, -, hc, hf⟩ := h.own.at (by rw [h.len]; omega)
  simp only [Value.slice.injEq, Option.some.injEq, Addr.mk.injEq, and_true] at e
  obtain ⟨rfl, -, -⟩ := e
  exact ⟨hc i (by rw [h.len]; exact hi), hf i⟩
theorem FrS.set {w W : World} {n : Nat} {L : List Int} (h : FrS w W n L) (i : Nat) (x : Int) : FrS w (W.setCell ⟨w.heap.size, i, none⟩ (.int .i64 x)) n (L.set i x) :=
  ⟨h.own.stored i x, by rw [List.length_set]; exact h.len, h.low.trans (gb_below (gb_setCell W w.heap.size i _) h.low.size fun k hk => by rw [← Option.some.inj hk]; exact Nat.le_refl _)⟩
theorem FrS.new (w : World) (n : Nat) (hn : n ≤ 1048576) : FrS w (w.alloc (.cells (madeCells #[.int .i64 0] n) 3)) n (List.replicate n 0) :=
  ⟨made_intz w n hn _ rfl, List.length_replicate, alloc_low w _⟩
end Go.Proofs.Ytljkmajajcocdaa
