/-
  What a way is, node by node. No condition.
  The levels as the plain way counts them: -1 where there is none yet. No condition.
-/
import Derived.Test.YtljkmajajcocdaaU30
namespace Go.Proofs.Ytljkmajajcocdaa
open Go.RowKit Go.Sort Go.Shelf
set_option linter.unusedVariables false
set_option linter.unusedSimpArgs false
set_option maxRecDepth 4000

theorem wayK_head {ds : List NDV} {F : Nat → Nat} {n : Nat} (k i : Nat) : (wayK ds F n k i).getD 0 0 = i := by cases k <;> rfl
theorem wayK_at {ds : List NDV} {n to : Nat} {F : Nat → Nat} (hF : FarP ds n to F) (hw : WayP ds n) : ∀ k i, i < n → F i = k → k < 8 → ∀ j, j ≤ k →
    (wayK ds F n k i).getD j 0 < n ∧ F ((wayK ds F n k i).getD j 0) + j = k ∧ (j < k → (wayK ds F n k i).getD (j + 1) 0 = nxtN ds F n ((wayK ds F n k i).getD j 0))
  | 0, i, hi, hk, _, j, hj => by
    obtain rfl : j = 0 := by omega
    exact ⟨hi, hk, fun h => by omega⟩
  | k + 1, i, hi, hk, h8, 0, _ => ⟨hi, hk, fun _ => wayK_head k _⟩
  | k + 1, i, hi, hk, h8, j + 1, hj => by
    have h := nxt_is hF hw hi (by omega) (by omega)
    obtain ⟨h1, h2, h3⟩ := wayK_at hF hw k (nxtN ds F n i) h.2.1 (by omega) (by omega) j (by omega)
    refine ⟨h1, ?_, fun hjk => h3 (by omega)⟩
    have h2' : F ((wayK ds F n (k + 1) i).getD (j + 1) 0) + j = k := h2
    omega
/-- What a way is that is not empty. -/
structure WayQ (f : CFV) (fr to : Int) (L : List Nat) : Prop where
  chk : ChkR f 0
  ends : ∃ s t : Nat, fr = s ∧ to = t ∧ s < f.n ∧ t < f.n
  pos : 0 < L.length ∧ L.length ≤ 8
  first : ((L.getD 0 0 : Nat) : Int) = fr
  last : ((L.getD (L.length - 1) 0 : Nat) : Int) = to
  lt : ∀ i, i < L.length → L.getD i 0 < f.n
  far : ∀ i, i < L.length → farN f.ds f.n to.toNat (L.getD i 0) + i + 1 = L.length
  step : ∀ i, i + 1 < L.length → ((L.getD (i + 1) 0 : Nat) : Int) ∈ tosN f.ds (L.getD i 0)
  least : ∀ i, i + 1 < L.length → ∀ x, x ∈ tosN f.ds (L.getD i 0) → farN f.ds f.n to.toNat x.toNat < farN f.ds f.n to.toNat (L.getD i 0) → ((L.getD (i + 1) 0 : Nat) : Int) ≤ x
theorem PathP.q {f : CFV} {fr to : Int} {L : List Nat} (h : PathP f fr to L) (h0 : 0 < L.length) : WayQ f fr to L := by
  rcases h with ⟨hc, h1, h2, h8, rfl⟩ | ⟨_, rfl⟩
  · have hw := (stepP_of hc).1
    have hF := farN_is (to := to.toNat) hw
    have hl : (wayL f.ds f.n to.toNat fr.toNat).length = farN f.ds f.n to.toNat fr.toNat + 1 := wayK_len _ _
    have key := wayK_at hF hw (farN f.ds f.n to.toNat fr.toNat) fr.toNat (by omega) rfl h8
    have hst : ∀ i, i + 1 < (wayL f.ds f.n to.toNat fr.toNat).length → _ := fun i hi => nxt_is hF hw (key i (by omega)).1 (by have := (key i (by omega)).2.1; omega) (by have := (key i (by omega)).2.1; omega)
    refine ⟨hc, ⟨fr.toNat, to.toNat, by omega, by omega, by omega, by omega⟩, ⟨h0, by omega⟩, ?_, ?_, fun i hi => (key i (by omega)).1, fun i hi => ?_, fun i hi => ?_, fun i hi => ?_⟩
    · unfold wayL
      rw [wayK_head]
      omega
    · have h := (key (farN f.ds f.n to.toNat fr.toNat) (Nat.le_refl _)).2.1
      have := hF.fin ((wayL f.ds f.n to.toNat fr.toNat).getD (farN f.ds f.n to.toNat fr.toNat) 0) (by unfold wayL; omega)
      rw [hl, Nat.add_sub_cancel, this]
      omega
    · have h := (key i (by omega)).2.1
      unfold wayL at *
      omega
    · have h := (key i (by omega)).2.2 (by omega)
      have h' := (hst i hi).2.2.1
      unfold wayL at *
      rw [h]
      exact h'
    · have h := (key i (by omega)).2.2 (by omega)
      have h' := (hst i hi).2.2.2.2
      unfold wayL at *
      rw [h]
      exact h'
  · exact absurd h0 (Nat.lt_irrefl 0)
theorem WayQ.ne {f : CFV} {fr to : Int} {L : List Nat} (h : WayQ f fr to L) {i k : Nat} (hk : k < i) (hi : i < L.length) : L.getD k 0 ≠ L.getD i 0 := fun e => by
  have h1 := h.far i hi
  have h2 := h.far k (by omega)
  rw [e] at h2
  omega
/-- No way: none is asked for that has no step. -/
theorem PathP.none {f : CFV} {fr to : Int} (h : PathP f fr to []) (hc : ChkR f 0) (e : fr = to) (h0 : 0 ≤ fr ∧ fr < (f.n : Int)) : False := by
  subst e
  rcases h with ⟨_, _, _, _, h5⟩ | ⟨h1, _⟩
  · have := congrArg List.length h5
    unfold wayL at this
    rw [wayK_len] at this
    cases this
  · refine h1 ⟨hc, h0, h0, ?_⟩
    rw [(farN_is (stepP_of hc).1).zero]
    omega
theorem natZ_get (L : List Nat) (i : Nat) : (natZ L).getD i 0 = ((L.getD i 0 : Nat) : Int) := by
  unfold natZ
  rw [List.getD_eq_getElem?_getD, List.getD_eq_getElem?_getD, List.getElem?_map]
  cases L[i]? <;> rfl
theorem OwnZ.nats {w : World} {B : Nat} {v : Value} {L : List Nat} (h : OwnZ w B v (natZ L)) (hn : 0 < L.length) :
    ∃ g c, v = .slice (some ⟨g, 0, none⟩) L.length c ∧ g < w.heap.size ∧ ∀ W, Below w.heap.size w W → ∀ i, i < L.length → W.cell? ⟨g, i, none⟩ = some (.int .i64 ((L.getD i 0 : Nat) : Int)) := by
  have hl : (natZ L).length = L.length := List.length_map _
  obtain ⟨g, c, e, -, hg, hc, -⟩ := h.at (by rw [hl]; exact hn)
  rw [hl] at e hc
  exact ⟨g, c, e, hg, fun W hb i hi => by rw [(hb.cell (p := ⟨g, i, none⟩) hg).trans (hc i hi), natZ_get]⟩
end Go.Proofs.Ytljkmajajcocdaa
namespace Go.Proofs.Ytljkmajajcocdaa
open Go.RowKit Go.Sort Go.Shelf
set_option linter.unusedVariables false
set_option linter.unusedSimpArgs false
set_option maxRecDepth 4000

/-- How far, or -1. -/
def farI (v : Nat) : Int := if v < 8 then (v : Int) else -1
theorem farI_lt {v : Nat} (h : v < 8) : farI v = (v : Int) := if_pos h
theorem farI_no {v : Nat} (h : ¬ v < 8) : farI v = -1 := if_neg h
/-- The level of the nodes while round k + 1 has come to node i. -/
def levM (ds : List NDV) (to k i q : Nat) : Nat := if q < i then lev ds to (k + 1) q else lev ds to k q
/-- A list of levels. -/
def LvP (n : Nat) (h : Nat → Nat) (L : List Int) : Prop := L.length = n ∧ ∀ q, q < n → L.getD q 0 = farI (h q)
theorem getDz_set {L : List Int} {i q : Nat} {x : Int} (hi : i < L.length) : (L.set i x).getD q 0 = if q = i then x else L.getD q 0 := by
  rw [List.getD_eq_getElem?_getD, List.getD_eq_getElem?_getD, List.getElem?_set]
  by_cases e : i = q
  · subst e
    simp [hi]
  · rw [if_neg e, if_neg fun h => e h.symm]
/-- What node i holds when its first m steps have been looked at. -/
def InP (ds : List NDV) (to k i m : Nat) (v : Int) : Prop :=
  (lev ds to k i < 8 ∧ v = (lev ds to k i : Int)) ∨ (¬ lev ds to k i < 8 ∧ ((v = -1 ∧ ∀ j, j < m → lev ds to k ((tosN ds i).getD j 0).toNat ≠ k) ∨ (v = (k : Int) + 1 ∧ ∃ x, x ∈ tosN ds i ∧ lev ds to k x.toNat = k)))
theorem InP.start (ds : List NDV) (to k i : Nat) : InP ds to k i 0 (farI (lev ds to k i)) := by
  by_cases h : lev ds to k i < 8
  · exact .inl ⟨h, farI_lt h⟩
  · exact .inr ⟨h, .inl ⟨farI_no h, fun j hj => by omega⟩⟩
theorem InP.stop {ds : List NDV} {n to k i : Nat} {v : Int} (hw : WayP ds n) (hi : i < n) (h : InP ds to k i (tosN ds i).length v) (hk : k < 8) : v = farI (lev ds to (k + 1) i) := by
  have e : lev ds to (k + 1) i = if lev ds to k i < 8 then lev ds to k i else if ∃ x, x ∈ tosN ds i ∧ lev ds to k x.toNat = k then k + 1 else 8 := rfl
  rcases h with ⟨h, rfl⟩ | ⟨h, ⟨rfl, h2⟩ | ⟨rfl, h2⟩⟩
  · rw [if_pos h] at e
    rw [e]
    exact (farI_lt h).symm
  · rw [if_neg h, if_neg fun ⟨x, hx, hx2⟩ => by
      obtain ⟨j, hj, rfl⟩ := mem_getD hx
      exact h2 j hj hx2] at e
    rw [e]
    rfl
  · rw [if_neg h, if_pos h2] at e
    by_cases h7 : k = 7
    · obtain ⟨x, hx, hx2⟩ := h2
      have hxn := hw.2 i hi x hx
      have := lev_room (ds := ds) (to := to) (k := k) (m := 8) hi (fun q hq => lev_each hw (k := k) k x.toNat (by omega) hx2 (by omega) q (by omega)) (fun q hq e => h (by omega))
      have := hw.1
      omega
    · rw [e, farI_lt (by omega)]
      omega
theorem levM_k {ds : List NDV} {to k i q : Nat} (hk : k < 8) : farI (levM ds to k i q) = (k : Int) ↔ lev ds to k q = k := by
  unfold levM
  split
  · have e : lev ds to (k + 1) q = if lev ds to k q < 8 then lev ds to k q else if ∃ x, x ∈ tosN ds q ∧ lev ds to k x.toNat = k then k + 1 else 8 := rfl
    by_cases h : lev ds to k q < 8
    · rw [if_pos h] at e
      rw [e, farI_lt h]
      omega
    · rw [if_neg h] at e
      have h' : lev ds to (k + 1) q = k + 1 ∨ lev ds to (k + 1) q = 8 := by rw [e]; split <;> simp
      constructor
      · intro hf
        unfold farI at hf
        split at hf <;> omega
      · intro hf
        omega
  · unfold farI
    split <;> omega
/-- One step is looked at. -/
theorem InP.next {ds : List NDV} {to k i m : Nat} {v u : Int} (h : InP ds to k i m v) (hk : k < 8) (hm : m < (tosN ds i).length) (hu : (((tosN ds i).getD m 0).toNat = i ∧ u = v) ∨ (u = farI (levM ds to k i ((tosN ds i).getD m 0).toNat))) :
    (v < 0 ∧ u = (k : Int) → InP ds to k i (m + 1) ((k : Int) + 1)) ∧ (¬ (v < 0 ∧ u = (k : Int)) → InP ds to k i (m + 1) v) := by
  have key : v < 0 → (u = (k : Int) ↔ lev ds to k ((tosN ds i).getD m 0).toNat = k) := fun hv => by
    rcases hu with ⟨h1, h2⟩ | h1
    · rw [h1]
      rcases h with ⟨_, rfl⟩ | ⟨h3, _⟩
      · omega
      · constructor <;> omega
    · rw [h1]
      exact levM_k hk
  constructor
  · rintro ⟨h1, h2⟩
    have h3 := (key h1).1 h2
    rcases h with ⟨_, rfl⟩ | ⟨h4, _⟩
    · omega
    · exact .inr ⟨h4, .inr ⟨rfl, _, getD_mem hm, h3⟩⟩
  · intro hn
    rcases h with ⟨h1, rfl⟩ | ⟨h1, ⟨rfl, h2⟩ | h2⟩
    · exact .inl ⟨h1, rfl⟩
    · refine .inr ⟨h1, .inl ⟨rfl, fun j hj => ?_⟩⟩
      by_cases e : j = m
      · rw [e]
        exact fun hl => hn ⟨by decide, (key (by decide)).2 hl⟩
      · exact h2 j (by omega)
    · exact .inr ⟨h1, .inr h2⟩
/-- The plain way's levels in memory, in a block of one's own: the first behind w. -/
structure FrS (w W : World) (n : Nat) (L : List Int) : Prop where
  own : OwnZ W w.heap.size (.slice (some ⟨w.heap.size, 0, none⟩) n n) L
  len : L.length = n
  low : Below w.heap.size w W
theorem FrS.at {w W : World} {n : Nat} {L : List Int} (h : FrS w W n L) {i : Nat} (hi : i < n) : W.cell? ⟨w.heap.size, i, none⟩ = some (.int .i64 (L.getD i 0)) ∧ W.frozen? ⟨w.heap.size, i, none⟩ = false := by
  obtain ⟨g, c, e, -, -, hc, hf⟩ := h.own.at (by rw [h.len]; omega)
  simp only [Value.slice.injEq, Option.some.injEq, Addr.mk.injEq, and_true] at e
  obtain ⟨rfl, -, -⟩ := e
  exact ⟨hc i (by rw [h.len]; exact hi), hf i⟩
theorem FrS.set {w W : World} {n : Nat} {L : List Int} (h : FrS w W n L) (i : Nat) (x : Int) : FrS w (W.setCell ⟨w.heap.size, i, none⟩ (.int .i64 x)) n (L.set i x) :=
  ⟨h.own.stored i x, by rw [List.length_set]; exact h.len, h.low.trans (gb_below (gb_setCell W w.heap.size i _) h.low.size fun k hk => by rw [← Option.some.inj hk]; exact Nat.le_refl _)⟩
theorem FrS.new (w : World) (n : Nat) (hn : n ≤ 1048576) : FrS w (w.alloc (.cells (madeCells #[.int .i64 0] n) 3)) n (List.replicate n 0) :=
  ⟨made_intz w n hn _ rfl, List.length_replicate, alloc_low w _⟩
end Go.Proofs.Ytljkmajajcocdaa
