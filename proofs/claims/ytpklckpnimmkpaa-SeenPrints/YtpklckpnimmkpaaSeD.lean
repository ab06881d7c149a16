/-
  Contracts of seen.oldest (whatever the order of the map), keep, Clear. Conditions: fewer than 2^40 came.
-/
import Derived.Test.YtpklckpnimmkpaaSeC
import Derived.OpenShut
import Derived.ChangeShapes
namespace Go.Proofs.Ytpklckpnimmkpaa
open Go.RowKit Go.Sort Go.Maps Go.ChangeShapes
set_option linter.unusedVariables false
set_option maxRecDepth 4000

/-- What a range over the map has found so far: f is the eldest of those that have come, l when it came; at first l is nx. -/
structure OlS (w wr : World) (b n nx : Nat) (es : List (Nat × Nat)) (D : DataW Unit) (left : Lit → Bool) (c f l : Nat) : Prop where
  rg : wr.ranges Try.prog 29 (plainElem Try.prog 3) b w.heap.size n D left c
  bel : Below w.heap.size w wr
  low : ∀ p ∈ es, left (.int .u32 (p.1 : Int)) = false → l ≤ p.2
  one : (f, l) ∈ es ∨ l = nx
theorem OlS.step {w wr w1 : World} {b n nx c c1 f l : Nat} {es : List (Nat × Nat)} {D : DataW Unit} {left : Lit → Bool} {x v : Int} (h : OlS w wr b n nx es D left c f l) (hM : MpL D nx es)
    (hwx : (Lit.int .u32 x).wf = true) (hat : ∀ zd, D.atKey (.int .u32 x) zd = .lit (.int .i64 v))
    (hrg : w1.ranges Try.prog 29 (plainElem Try.prog 3) b w.heap.size n D (fun z => left z && !z.sameKey (.int .u32 x)) c1) (hg : wr.grownBy w1 (some w.heap.size)) :
    ∃ k s : Nat, x = (k : Int) ∧ v = (s : Int) ∧ (s < l → OlS w w1 b n nx es D (fun z => left z && !z.sameKey (.int .u32 x)) c1 k s) ∧ (¬ s < l → OlS w w1 b n nx es D (fun z => left z && !z.sameKey (.int .u32 x)) c1 f l) := by
  have hx := bounds_u32 hwx
  obtain ⟨k, rfl⟩ : ∃ k : Nat, x = (k : Int) := ⟨x.toNat, by omega⟩
  have hh := has_true_of_atKey hat
  rw [hM.has, hasD_iff] at hh
  obtain ⟨⟨k', s⟩, hp, e⟩ := List.mem_map.1 hh
  obtain rfl : k' = k := e
  have h1 := hM.at' _ hp (.lit (.int .i64 0))
  rw [hat] at h1
  have hv : v = (s : Int) := by simpa using h1
  have hb1 : Below w.heap.size w w1 := h.bel.trans (gb_below hg h.bel.size fun j hj => by cases hj; exact Nat.le_refl _)
  have hlow : ∀ p ∈ es, (left (.int .u32 (p.1 : Int)) && !(Lit.int .u32 (p.1 : Int)).sameKey (.int .u32 (k' : Int))) = false → left (.int .u32 (p.1 : Int)) = false ∨ p.2 = s := fun p hp' hf => by
    rw [same32] at hf
    by_cases e : p.1 = k'
    · have h2 := hM.at' p hp' (.lit (.int .i64 0))
      rw [e, hat, hv] at h2
      right
      have : (s : Int) = (p.2 : Int) := by simpa using h2
      omega
    · left; simpa [e] using hf
  refine ⟨k', s, rfl, hv, fun hlt => ⟨hrg, hb1, fun p hp' hf => ?_, .inl hp⟩, fun hlt => ⟨hrg, hb1, fun p hp' hf => ?_, h.one⟩⟩
  · rcases hlow p hp' hf with h3 | h3
    · have := h.low p hp' h3; omega
    · omega
  · rcases hlow p hp' hf with h3 | h3
    · exact h.low p hp' h3
    · omega
theorem OlS.done {w wr : World} {b n nx c f l : Nat} {es : List (Nat × Nat)} {D : DataW Unit} {left : Lit → Bool} (h : OlS w wr b n nx es D left c f l) (hM : MpL D nx es) (hl : ∀ kl, left kl = false) (hne : es ≠ []) : f = (es.map Prod.fst).headD 0 := by
  match es, hne with
  | (k0, s0) :: r, _ =>
    have h1 := h.low (k0, s0) List.mem_cons_self (hl _)
    have h2 := hM.low (k0, s0) List.mem_cons_self
    have h3 := (List.pairwise_cons.1 hM.rise).1
    show f = k0
    rcases h.one with h4 | h4
    · rcases List.mem_cons.1 h4 with h5 | h5
      · exact (Prod.mk.inj h5).1
      · have := h3 _ h5
        simp only at this h1
        omega
    · simp only at h1 h2; omega

set_option maxHeartbeats 1000000 in
theorem seoldest_any (g b m N : Nat) (L : List Nat) (w : World) (h : CaAt w g b m N L) (hne : L ≠ []) :
    Calls Try.prog 40 #[.pointer (some ⟨g, 0, none⟩)] w fun e w' => e = .returned (.int .u32 ((L.headD 0 : Nat) : Int)) ∧ Below w.heap.size w w' := by
  obtain ⟨nx, es, D, hn, hk, ho, hM, hL⟩ := h.it
  have h1 := hk.at 1 rfl
  have h2 := hk.at 2 rfl
  have HO := hide (OwnM.tu (F := fun _ => False) ho (tu_drew _ w) id)
  have HM := hide hM
  have hes : es ≠ [] := fun e => hne (by rw [hL, e]; rfl)
  have HE := hide hes
  have HS := hide (show ∀ w0, w0.ranges Try.prog 29 (plainElem Try.prog 3) b w.heap.size L.length D (Maps.has D) (Maps.size D) → w.drew.grownBy w0 none → OlS w w0 b L.length nx es D (Maps.has D) (Maps.size D) 0 nx from
    fun w0 hrg hg => ⟨hrg, (Below.refl _ _).drew.trans (gb_below hg (Nat.le_refl _) fun j hj => by cases hj), fun p hp hf => by rw [hM.has, hasD_no] at hf; exact absurd (List.mem_map.2 ⟨p, hp, rfl⟩) hf, .inr rfl⟩)
  rw [hL] at HO HS ⊢
  generalize (es.map Prod.fst).length = n at *
  clear hk ho hM hL hes h hne
  go_enter Try.func40, Try.ntmps40
  go_wp2_with fail
  go_region_held (fun w' => w'.cell? ⟨g, 2, none⟩ = some (.int .i64 (nx : Int))) (go_keep) (fail)
  go_wp2_with (first | (at_range; refine wpList_range_own _ rfl _ 58 rfl 29 3 law32 Try.underlying58 _ b n D rfl (unhide HO) ?_; intro w0 hrg0 hg0 hs0; have HN0 := hide (unhide HS w0 hrg0 hg0); clear hrg0 hg0 hs0 HS HO))
  go_frame
  go_loopw [3, 4] (fun t u wr => ∃ (f l c : Nat) (left : Lit → Bool), t = .int .u32 (f : Int) ∧ u = .int .i64 (l : Int) ∧ Hid (OlS w wr b n nx es D left c f l)) (fun _ _ wr => wr.rangeLeft b w.heap.size)
  case atStart => exact ⟨0, nx, _, _, rfl, rfl, HN0⟩
  case round =>
    obtain ⟨f, l, c, left, rfl, rfl, HN⟩ := hrel
    clear HN0 h1 h2
    have hrgm := hide (unhide HN).rg.left_eq
    go_wp2_with (first | (at_next; refine wpList_next_ranges_ii _ rfl _ rfl 29 3 .u32 .i64 law32 Try.underlying29 Try.underlying3 b w.heap.size n D left c rfl (unhide HN).rg ?_ ?_))
    · intro _ hl
      have HD := hide ((unhide HN).done (unhide HM) hl (unhide HE))
      have HB := hide (unhide HN).bel
      clear HN hl hrgm
      go_wp2
      go_ret
      exact ⟨ret_int (by rw [unhide HD]), unhide HB⟩
    · intro x v w1 c1 hwx hwv hlx hat hrg1 hlt hg1 hs1 hen
      obtain ⟨k, s, rfl, rfl, hyes, hno⟩ := (unhide HN).step (unhide HM) hwx hat hrg1 hg1
      clear hwx hwv hlx hat hrg1 hg1 hs1 HN
      by_cases hsl : s < l
      · have HY := hide (hyes hsl)
        have hd : (s : Int) < (l : Int) := by omega
        clear hyes hno hsl
        go_wp2
        go_roundw
        case rel => exact ⟨_, _, _, _, _, _, _, _, _, _, _, _, _, _, ⟨k, s, c1, _, rfl, rfl, HY⟩, rfl⟩
        case measure => rw [(unhide HY).rg.left_eq, unhide hrgm]; omega
      · have HY := hide (hno hsl)
        have hd : (l : Int) ≤ (s : Int) := by omega
        clear hyes hno hsl
        go_wp2
        go_roundw
        case rel => exact ⟨_, _, _, _, _, _, _, _, _, _, _, _, _, _, ⟨f, l, c1, _, rfl, rfl, HY⟩, rfl⟩
        case measure => rw [(unhide HY).rg.left_eq, unhide hrgm]; omega
end Go.Proofs.Ytpklckpnimmkpaa
