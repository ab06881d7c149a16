/-
  Contracts of choice.rising and recode.Choose. Conditions: at most 300 rows of at most 10 words, a target from -2^40 to 2^40.
-/
import Derived.Test.YtbcgiodgobmkaaaGreatDoorU28
namespace Go.Proofs.YtbcgiodgobmkaaaGreatDoor
open Go.RowKit Go.Sort
set_option linter.unusedVariables false
set_option linter.unusedSimpArgs false
set_option maxRecDepth 4000

set_option maxHeartbeats 4000000 in
theorem rising_any (g : Nat) (L : List Int) (k : Nat) (sv : Value) (xs : List Nat) (d : Nat) (w : World) (h : CcAt w g L k sv xs d) (hk : k ≤ 32) :
    Calls Tryz.prog 46 #[.pointer (some ⟨g, 0, none⟩)] w fun e w' => ∃ v, e = .returned v ∧ OwnZ w' w.heap.size v ((L.take k).mergeSort fun x y => decide (x ≤ y)) ∧ Below w.heap.size w w' := by
  have hk' : (k : Int) ≤ 32 := by omega
  obtain ⟨q0, q1, q2⟩ := h.at
  have hln : (L.take k).length ≤ 32 := by rw [List.length_take, h.len]; omega
  have HCL := hide (fun wx (hb : Below w.heap.size w wx) => cloneI_any ⟨g, 0, none⟩ k 32 (L.take k) wx ((h.below hb).ints hk) (by omega))
  have HQ := hide (fun wx (hb : Below w.heap.size w wx) => (h.below hb).at.1)
  clear h q1 q2
  generalize hT : L.take k = T at *
  clear hT
  go_enter Tryz.func46, Tryz.ntmps46
  go_wp2_with fail
  go_region_held3 (fun w' => w'.cell? ⟨g, 32, none⟩ = some (.int .i64 (k : Int))) (go_keep) (first
    | (go_at_call 66; refine (unhide HCL _ (Below.refl _ _).drew).mono ?_; rintro e w1 ⟨v1, rfl, ho1, hb1⟩; obtain ⟨a1, m1, c1, rfl⟩ : ∃ a m c, v1 = Value.slice a m c := (by obtain ⟨a, c, e, _⟩ := ho1.ints; exact ⟨a, _, c, e⟩); have D1 := hide (show Below w.heap.size w w1 from below0 (Below.refl _ _).drew hb1); have q0 := unhide HQ w1 (unhide D1); have HO := hide (show OwnZ w1 w.heap.size (.slice a1 m1 c1) T from ho1); clear ho1 hb1))
  have HSO := hide (sort_any w.heap.size (.slice a1 m1 c1) T w1 (unhide HO) (by omega))
  go_wp2_with (go_at_call 67; refine (unhide HSO).mono ?_; rintro e w2 ⟨rfl, ho2, hg2⟩; have HO2 := hide ho2; have HB2 := hide ((unhide D1).trans (gb_below hg2 (unhide D1).size fun k hk => (World.ownsRow.lt (unhide HO) k hk).1)); clear ho2 hg2)
  go_ret
  exact ⟨_, rfl, unhide HO2, unhide HB2⟩

/-- What is chosen behind j steps, as the program holds it: the places, the xor, its degree, the next place. -/
def ChP (rs : List RV) (t : Int) (p j : Nat) (L : List Int) (xs : List Nat) (d : Nat) (ps : List Nat) (pl : Int) : Prop :=
  j ≤ 32 ∧ L.take j = castZ ps ∧ ((j = 0 ∧ xs = [] ∧ ps = [] ∧ pl = (p : Int)) ∨
    (1 ≤ j ∧ xs = (chTo (vecsR rs) t p (j - 1)).v ∧ d = cnt xs ∧ Chn rs.length (chTo (vecsR rs) t p (j - 1)).ch ps ∧ pl = if j = 32 then -1 else nextZ (nearTo (vecsR rs) (chTo (vecsR rs) t p (j - 1)).ch xs t rs.length).1))
theorem ChP.go {rs : List RV} {t : Int} {p j : Nat} {L : List Int} {xs : List Nat} {d : Nat} {ps : List Nat} {pl : Int} (h : ChP rs t p j L xs d ps pl) (hp : p < rs.length) (hl : L.length = 32) (hpl : 0 ≤ pl) :
    ∃ b : Nat, pl = (b : Int) ∧ b < rs.length ∧ j < 32 ∧ xorL xs (rs.getD b .dflt).xs = (chTo (vecsR rs) t p j).v ∧ Chn rs.length (chTo (vecsR rs) t p j).ch (ps ++ [b]) ∧ (L.set j (b : Int)).take (j + 1) = castZ (ps ++ [b]) := by
  obtain ⟨h1, h2, h3⟩ := h
  have tk : ∀ b : Nat, j < 32 → (L.set j (b : Int)).take (j + 1) = castZ (ps ++ [b]) := fun b hj => by
    have hjl : j < (L.set j (b : Int)).length := by rw [List.length_set, hl]; exact hj
    rw [List.take_succ_eq_append_getElem hjl, List.take_set_of_le (Nat.le_refl _), h2, castZ_append, List.getElem_set_self]
    rfl
  rcases h3 with ⟨rfl, rfl, rfl, rfl⟩ | ⟨g1, rfl, g3, g4, g5⟩
  · refine ⟨p, rfl, hp, by omega, ?_, ?_, tk p (by omega)⟩
    · rw [xorL_comm, xorL_nil, ← vecsR_get hp]
      rfl
    · show Chn _ ((List.replicate (vecsR rs).length false).set p true) _
      rw [vecsR_len]
      exact chn_one hp
  · by_cases hj : j = 32
    · rw [if_pos hj] at g5; omega
    · rw [if_neg hj] at g5
      obtain ⟨_, _, k3⟩ := near_spec (vecsR rs) (chTo (vecsR rs) t p (j - 1)).ch (chTo (vecsR rs) t p (j - 1)).v t rs.length
      cases hb : (nearTo (vecsR rs) (chTo (vecsR rs) t p (j - 1)).ch (chTo (vecsR rs) t p (j - 1)).v t rs.length).1 with
      | none => rw [hb] at g5; rw [g5] at hpl; exact absurd hpl (by decide)
      | some b =>
        rw [hb] at g5 k3
        have hst : chTo (vecsR rs) t p j = ⟨(chTo (vecsR rs) t p (j - 1)).ch.set b true, xorL (chTo (vecsR rs) t p (j - 1)).v ((vecsR rs).getD b [])⟩ := by
          have : chTo (vecsR rs) t p (j - 1 + 1) = chStep (vecsR rs) t (chTo (vecsR rs) t p (j - 1)) := rfl
          rw [show j - 1 + 1 = j by omega] at this
          rw [this, step_some (by rw [vecsR_len]; exact hb)]
        refine ⟨b, g5, k3.1, by omega, ?_, ?_, tk b (by omega)⟩
        · rw [hst, vecsR_get k3.1]
        · rw [hst]
          exact g4.snoc k3.1 k3.2.1.1
theorem ChP.last {rs : List RV} {t : Int} {p j : Nat} {L : List Int} {xs : List Nat} {d : Nat} {ps : List Nat} {pl : Int} (h : ChP rs t p j L xs d ps pl) (hpl : ¬ 0 ≤ pl) :
    (L.take j).mergeSort (fun x y => decide (x ≤ y)) = castZ (placesCh (chTo (vecsR rs) t p 31).ch rs.length) := by
  obtain ⟨h1, h2, h3⟩ := h
  rcases h3 with ⟨rfl, rfl, rfl, rfl⟩ | ⟨g1, rfl, g3, g4, g5⟩
  · omega
  · have e : chTo (vecsR rs) t p (j - 1) = chTo (vecsR rs) t p 31 := by
      by_cases hj : j = 32
      · rw [hj]
      · rw [if_neg hj] at g5
        refine chTo_last (by omega) ?_
        rw [vecsR_len]
        cases hb : (nearTo (vecsR rs) (chTo (vecsR rs) t p (j - 1)).ch (chTo (vecsR rs) t p (j - 1)).v t rs.length).1 with
        | none => rfl
        | some b => rw [hb] at g5; exact absurd (show 0 ≤ pl by rw [g5]; exact Int.natCast_nonneg _) hpl
    rw [h2, g4.sort, e]
theorem ChP.len {rs : List RV} {t : Int} {p j : Nat} {L : List Int} {xs : List Nat} {d : Nat} {ps : List Nat} {pl : Int} (h : ChP rs t p j L xs d ps pl) (hv : ∀ i, ((vecsR rs).getD i []).length ≤ 10) : xs.length ≤ 10 := by
  rcases h.2.2 with ⟨_, rfl, _⟩ | ⟨_, rfl, _⟩
  · exact Nat.zero_le _
  · exact chTo_len hv _
/-- How many are chosen. -/
def cntOf (w : World) (g : Nat) : Nat := match w.cell? ⟨g, 32, none⟩ with
  | some v => (intOf v).toNat
  | none => 0
theorem CcAt.cntOf {w : World} {g : Nat} {L : List Int} {k : Nat} {sv : Value} {xs : List Nat} {d : Nat} (h : CcAt w g L k sv xs d) : cntOf w g = k := by
  unfold Go.Proofs.YtbcgiodgobmkaaaGreatDoor.cntOf
  rw [h.at.1]
  simp [intOf]
/-- The places that are chosen, rising. -/
def chooseL (rs : List RV) (b t : Int) : List Int := if rs.length = 0 then [] else castZ (placesCh (chTo (vecsR rs) t (placeN b rs.length) 31).ch rs.length)
theorem vecs_len {rs : List RV} {w : World} {a : Option Addr} {n : Nat} (hr : RowsAt w a n rs) (hs : shortR rs) : ∀ i, ((vecsR rs).getD i []).length ≤ 10 := fun i => by
  by_cases hi : i < rs.length
  · rw [vecsR_get hi, (hr.2.1 i (by rw [← hr.1]; exact hi)).1]
    exact (hs i).1
  · rw [List.getD_eq_getElem?_getD, List.getElem?_eq_none (by rw [vecsR_len]; omega)]
    exact Nat.zero_le _

set_option maxHeartbeats 4000000 in
theorem choose_any (a : Option Addr) (n c : Nat) (rs : List RV) (b t : Int) (w : World) (hr : RowsAt w a n rs) (hs : shortR rs) (hn : n ≤ 300) (hb : -9223372036854775808 ≤ b ∧ b ≤ 9223372036854775807) (ht : -1099511627776 ≤ t ∧ t ≤ 1099511627776) :
    Calls Tryz.prog 25 #[.slice a n c, .int .i64 b, .int .i64 t] w fun e w' => ∃ v, e = .returned v ∧ OwnZ w' w.heap.size v (chooseL rs b t) ∧ Below w.heap.size w w' := by
  obtain rfl := hr.1
  unfold chooseL
  by_cases h0 : rs.length = 0
  · rw [if_pos h0]
    have h0' : (rs.length : Int) = 0 := by omega
    clear hr
    go_enter Tryz.func25, Tryz.ntmps25
    go_wp2
    go_ret
    exact ⟨_, rfl, OwnZ.nil _ _, Below.refl _ _⟩
  · rw [if_neg h0]
    have h0' : ¬ (rs.length : Int) = 0 := by omega
    have hpl := (place_is b (show 0 < rs.length by omega)).2
    have HAR := hide (fun wx => around_any b rs.length (by omega) (by omega) hb wx)
    have hcc := CcAt.new w
    have hb0 : Below w.heap.size w (w.alloc (.cells (ccL (List.replicate 32 0) 0 (.slice none 0 0) 0).toArray 90)) := (Below.refl _ _).alloc (Nat.le_refl _) _
    have hcl : (ccL (List.replicate 32 0) 0 (.slice none 0 0) 0).toArray = #[.int .i64 0, .int .i64 0, .int .i64 0, .int .i64 0, .int .i64 0, .int .i64 0, .int .i64 0, .int .i64 0, .int .i64 0, .int .i64 0, .int .i64 0, .int .i64 0, .int .i64 0, .int .i64 0, .int .i64 0, .int .i64 0, .int .i64 0, .int .i64 0, .int .i64 0, .int .i64 0, .int .i64 0, .int .i64 0, .int .i64 0, .int .i64 0, .int .i64 0, .int .i64 0, .int .i64 0, .int .i64 0, .int .i64 0, .int .i64 0, .int .i64 0, .int .i64 0, .int .i64 0, .slice none 0 0, .int .i64 0] := rfl
    rw [hcl] at hcc hb0
    have HV := hide (vecs_len hr hs)
    have HS0 := hide (show ∃ L sv xs d ps, CcAt (w.alloc (.cells #[.int .i64 0, .int .i64 0, .int .i64 0, .int .i64 0, .int .i64 0, .int .i64 0, .int .i64 0, .int .i64 0, .int .i64 0, .int .i64 0, .int .i64 0, .int .i64 0, .int .i64 0, .int .i64 0, .int .i64 0, .int .i64 0, .int .i64 0, .int .i64 0, .int .i64 0, .int .i64 0, .int .i64 0, .int .i64 0, .int .i64 0, .int .i64 0, .int .i64 0, .int .i64 0, .int .i64 0, .int .i64 0, .int .i64 0, .int .i64 0, .int .i64 0, .int .i64 0, .int .i64 0, .slice none 0 0, .int .i64 0] 90)) w.heap.size L 0 sv xs d ∧ ChP rs t (placeN b rs.length) 0 L xs d ps ((placeN b rs.length : Nat) : Int) from ⟨_, _, _, _, [], hcc, by omega, rfl, .inl ⟨rfl, rfl, rfl, rfl⟩⟩)
    have HB0 := hide hb0
    have HR := hide hr
    have HSH := hide hs
    generalize placeN b rs.length = p at *
    generalize hW : w.alloc (.cells #[.int .i64 0, .int .i64 0, .int .i64 0, .int .i64 0, .int .i64 0, .int .i64 0, .int .i64 0, .int .i64 0, .int .i64 0, .int .i64 0, .int .i64 0, .int .i64 0, .int .i64 0, .int .i64 0, .int .i64 0, .int .i64 0, .int .i64 0, .int .i64 0, .int .i64 0, .int .i64 0, .int .i64 0, .int .i64 0, .int .i64 0, .int .i64 0, .int .i64 0, .int .i64 0, .int .i64 0, .int .i64 0, .int .i64 0, .int .i64 0, .int .i64 0, .int .i64 0, .int .i64 0, .slice none 0 0, .int .i64 0] 90) = W1 at *
    clear hr hs hcc hb0 hcl
    go_enter Tryz.func25, Tryz.ntmps25
    go_wp2_with (go_at_call 43; refine (unhide HAR _).mono ?_; rintro e w1 ⟨rfl, hw1⟩; obtain rfl := hw1.symm; clear hw1 HAR)
    clear hW
    go_loopw [8] (fun pl wr => ∃ z : Int, ∃ j : Nat, pl = .int .i64 z ∧ Hid (∃ L sv xs d ps, CcAt wr w.heap.size L j sv xs d ∧ ChP rs t p j L xs d ps z) ∧ Hid (Below w.heap.size w wr)) (fun _ wr => 33 - cntOf wr w.heap.size)
    case atStart => exact ⟨_, 0, rfl, HS0, HB0⟩
    case round =>
      obtain ⟨z, j, rfl, HS, HB⟩ := hrel
      clear HS0 HB0
      obtain ⟨L, sv, xs, d, ps, hC, hP⟩ := unhide HS
      clear HS
      have hx := hP.len (unhide HV)
      have hcn := hC.cntOf
      by_cases hz : 0 ≤ z
      · obtain ⟨e1, rfl, hbl, hj, he1, he2, he3⟩ := hP.go hpl hC.len hz
        have hbl' : (e1 : Int) < (rs.length : Int) := by omega
        have hR := (unhide HR).below (unhide HB)
        obtain ⟨bb, off, rfl, hcl⟩ := hR.at hbl
        obtain ⟨hc0, hc1⟩ := hcl e1 hbl
        have hrow := (unhide HR).2.1 e1 hbl
        have hsh := (unhide HSH e1).1
        generalize rs.getD e1 .dflt = r at *
        have HAD := hide (cadd_any w L j sv xs d e1 r.a r.n r.c r.xs wr hC (unhide HB) hrow hj hx hsh)
        have hy : (xorL xs r.xs).length ≤ 10 := by rw [xorL_length, hrow.1]; omega
        have HNX := hide (fun wx u (hcx : CcAt wx w.heap.size (L.set j (e1 : Int)) (j + 1) u (xorL xs r.xs) (cnt (xorL xs r.xs))) (hbx : Below w.heap.size w wx) => cnext_any w.heap.size (L.set j (e1 : Int)) (j + 1) u (xorL xs r.xs) (some ⟨bb, off, none⟩) rs.length c rs t _ (ps ++ [e1]) wx hcx ((unhide HR).below hbx) (unhide HSH) hn hy (by omega) he2 he3 ht)
        have HNP := hide (show ChP rs t p (j + 1) (L.set j (e1 : Int)) (xorL xs r.xs) (cnt (xorL xs r.xs)) (ps ++ [e1]) (if j + 1 = 32 then -1 else nextZ (nearTo (vecsR rs) (chTo (vecsR rs) t p j).ch (xorL xs r.xs) t rs.length).1) from ⟨by omega, he3, .inr ⟨by omega, by rw [he1]; rfl, rfl, he2, rfl⟩⟩)
        clear hP he1 he2 he3 hR hcl hC hrow
        generalize xorL xs r.xs = ys at *
        generalize (if j + 1 = 32 then -1 else nextZ (nearTo (vecsR rs) (chTo (vecsR rs) t p j).ch ys t rs.length).1) = z2 at *
        go_wp2_with (first
          | (go_at_call 45; refine (unhide HAD).mono ?_; rintro e w1 ⟨rfl, ⟨u, hu⟩, hb1⟩; have HC1 := hide hu; have HB1 := hide hb1; clear hu hb1)
          | (go_at_call 44; refine (unhide HNX _ u (unhide HC1) (unhide HB1)).mono ?_; rintro e w2 ⟨rfl, hb2⟩; have HC2 := hide ((unhide HC1).below hb2); have HB2 := hide (below0 (unhide HB1) hb2); clear hb2))
        go_roundw
        case rel => exact ⟨_, j + 1, rfl, hide ⟨_, _, _, _, _, unhide HC2, unhide HNP⟩, HB2⟩
        case measure =>
          rw [hcn, (unhide HC2).cntOf]
          omega
      · have HRI := hide (rising_any w.heap.size L j sv xs d wr hC hP.1)
        have HE := hide (hP.last hz)
        clear hP hC
        go_wp2_with (go_at_call 46; refine (unhide HRI).mono ?_; rintro e w2 ⟨v2, rfl, ho2, hb2⟩; have HO2 := hide ho2; have HB2 := hide (below0 (unhide HB) hb2); clear ho2 hb2)
        go_ret
        exact ⟨_, rfl, by rw [← unhide HE]; exact (unhide HO2).mono (unhide HB).size, unhide HB2⟩
end Go.Proofs.YtbcgiodgobmkaaaGreatDoor
