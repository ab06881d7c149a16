/-
  Contracts of bucketlineref03.Add, Basis, Rank and of bucketlinelaw03.awake: for rows of at most 2^20 words, in every world that holds the table of math/bits.
  Plain mathematics of what a span has, the rows being numbers: rows of which none has the lowest bit of one ahead, the xor that a choice tells, and that a row with a mark of its own behind all tells its choice. Of no program, no condition.
  What span's calls and the reference's tell of rows of words, on plain lists: the places that are kept, and the choice whose xor a row is. Of no program; words below 2^64.
-/
import Derived.Test.YtbcgiodgobmkaaaGreatDoorEF
import Derived.Test.YtbcgiodgobmkaaaGreatDoorU9
import Derived.Test.YtbcgiodgobmkaaaGreatDoorU10
namespace Go.Proofs.YtbcgiodgobmkaaaGreatDoor
open Go.RowKit
set_option linter.unusedVariables false
set_option linter.unusedSimpArgs false
set_option maxRecDepth 4000

theorem radd_any (a : Option Addr) (n c : Nat) (rs : List (List Nat)) (a' : Option Addr) (m c' : Nat) (xs : List Nat) (w : World) (h : VecsAt w a n rs) (hf : Fit 1048576 rs) (h' : RowAt w a' m xs) (hn : n ≤ 100000) (hm : m ≤ 1048576) :
    Calls Tryz.prog 84 #[.slice a n c, .slice a' m c'] w fun e w' => ∃ v vs, e = .returned (.tuple #[v, .bool (decide (0 ≤ firstI (reduceL rs xs)))]) ∧ OwnV w' w.heap.size v vs (raddL rs xs) ∧ Below w.heap.size w w' := by
  by_cases hneg : firstI (reduceL rs xs) < 0
  · rw [show decide (0 ≤ firstI (reduceL rs xs)) = false by simp; omega, show raddL rs xs = rs by unfold raddL; rw [if_pos hneg]]
    exact radd_no a n c rs a' m c' xs w h hf h' hn hm hneg
  · rw [show decide (0 ≤ firstI (reduceL rs xs)) = true by simp; omega]
    exact radd_yes a n c rs a' m c' xs w h hf h' hn hm (by omega)

set_option maxHeartbeats 1000000 in
theorem rbasis_any (a : Option Addr) (n c : Nat) (rs : List (List Nat)) (w : World) (h : VecsAt w a n rs) (hf : Fit 1048576 rs) (hn : n ≤ 100000) :
    Calls Tryz.prog 74 #[.slice a n c] w fun e w' => ∃ v vs, e = .returned v ∧ OwnV w' w.heap.size v vs (basisL rs) ∧ Below w.heap.size w w' := by
  go_enter Tryz.func74, Tryz.ntmps74
  go_wp2
  go_loopw [3, 4] (fun b i wr => ∃ k : Nat, k ≤ n ∧ i = .int .i64 k ∧ ∃ a1 c1 vs, b = .slice a1 (basisL (rs.take k)).length c1 ∧ Hid (OwnV wr w.heap.size (.slice a1 (basisL (rs.take k)).length c1) vs (basisL (rs.take k))) ∧ Hid (Below w.heap.size w wr)) (fun _ i _ => n - (intOf i).toNat)
  case atStart => exact ⟨0, Nat.zero_le _, rfl, none, 0, [], rfl, hide (OwnV.nil _ _), hide (Below.refl _ _)⟩
  case round =>
    obtain ⟨k, hk, rfl, a1, c1, vs, rfl, HV, HB⟩ := hrel
    by_cases hlt : k < n
    · have hB := unhide HB
      obtain ⟨b, off, rfl, hc⟩ := (h.below hB).at hlt
      obtain ⟨ai, ci, hcell, hrow⟩ := hc k hlt
      have hfk := hf.take k
      have hbl := basis_len hfk
      have htk : (rs.take k).length ≤ k := List.length_take_le _ _
      obtain ⟨_, _, e1, hvec⟩ := (unhide HV).vecs
      simp only [Value.slice.injEq, true_and] at e1
      obtain ⟨rfl, rfl⟩ := e1
      have hX := radd_any a1 _ c1 (basisL (rs.take k)) ai _ ci (rs.getD k []) wr hvec (basis_fit hfk) hrow (by omega) (hf.getD k).2
      rw [radd_eq (basis_fit hfk) (basis_red hfk) hrow.2.1 (hf.getD k).2] at hX
      have HX := hide hX
      have HE := hide (basis_take (show k < rs.length by rw [h.1]; exact hlt))
      clear hc hrow h HV hfk hbl htk hX hvec
      generalize rs.getD k [] = y at *
      generalize basisL (rs.take k) = bk at *
      go_wp2_with fail
      refine (unhide HX).mono ?_
      rintro e w1 ⟨v1, vs1, rfl, hV1, hb1⟩
      rw [← unhide HE] at hV1
      have hV1 := hV1.mono hB.size
      obtain ⟨a2, c2, rfl, _⟩ := hV1.vecs
      have HV1 := hide hV1
      have HB1 := hide (below0 hB hb1)
      clear hV1 hb1 HX hB HB
      go_wp2
      go_roundw
      case rel => exact ⟨k + 1, by omega, by go_num, a2, c2, vs1, rfl, HV1, HB1⟩
      case measure => simp [intOf]; omega
    · have hke : rs.take k = rs := List.take_of_length_le (by rw [h.1]; omega)
      rw [hke] at HV
      rw [hke]
      clear h hke
      go_wp2
      go_ret
      exact ⟨_, _, rfl, unhide HV, unhide HB⟩

end Go.Proofs.YtbcgiodgobmkaaaGreatDoor
namespace Go.Proofs.YtbcgiodgobmkaaaGreatDoor.Ech

/-- Rows of which none has the lowest bit of one ahead. -/
def Tri (B : List Nat) : Prop := (∀ b ∈ B, b ≠ 0) ∧ B.Pairwise fun a b => b.testBit (low a) = false
theorem Tri.nil : Tri [] := ⟨(fun _ h => by cases h), List.Pairwise.nil⟩
theorem Tri.tail {b : Nat} {B : List Nat} (h : Tri (b :: B)) : Tri B := ⟨fun a ha => h.1 a (List.mem_cons_of_mem _ ha), (List.pairwise_cons.1 h.2).2⟩
theorem Tri.head {b : Nat} {B : List Nat} (h : Tri (b :: B)) : ∀ a ∈ B, a.testBit (low b) = false := (List.pairwise_cons.1 h.2).1
theorem Tri.snoc {B : List Nat} {r : Nat} (h : Tri B) (hr : r ≠ 0) (hl : ∀ b ∈ B, r.testBit (low b) = false) : Tri (B ++ [r]) := by
  refine ⟨fun a ha => ?_, List.pairwise_append.2 ⟨h.2, by simp, fun a ha b hb => ?_⟩⟩
  · rcases List.mem_append.1 ha with ha | ha
    · exact h.1 a ha
    · rw [List.mem_singleton.1 ha]; exact hr
  · rw [List.mem_singleton.1 hb]; exact hl a ha
theorem sp_nil {x : Nat} (h : Sp [] x) : x = 0 := Sp.ind (B := []) (P := fun x => x = 0) rfl (fun b x hb _ => by cases hb) h
theorem sp_cons {b x : Nat} {B : List Nat} (h : Sp (b :: B) x) : Sp B x ∨ Sp B (b ^^^ x) := by
  refine Sp.ind (P := fun x => Sp B x ∨ Sp B (b ^^^ x)) (.inl .zero) (fun c x hc ih => ?_) h
  rcases List.mem_cons.1 hc with e | hc
  · subst e
    rcases ih with ih | ih
    · right
      rw [← Nat.xor_assoc, Nat.xor_self, Nat.zero_xor]; exact ih
    · exact .inl ih
  · rcases ih with ih | ih
    · exact .inl (.add hc ih)
    · right
      rw [xor_mid]
      exact .add hc ih
theorem sp_bit {B : List Nat} {i x : Nat} (h : ∀ b ∈ B, b.testBit i = false) (k : Sp B x) : x.testBit i = false := by
  refine Sp.ind (P := fun x => x.testBit i = false) (Nat.zero_testBit _) (fun b x hb ih => ?_) k
  rw [Nat.testBit_xor, h b hb, ih]; rfl
theorem tri_none : ∀ {B : List Nat}, Tri B → ∀ {x : Nat}, Sp B x → (∀ b ∈ B, x.testBit (low b) = false) → x = 0
  | [], _, x, k, _ => sp_nil k
  | b :: B, h, x, k, hl => by
    rcases sp_cons k with k1 | k1
    · exact tri_none h.tail k1 fun a ha => hl a (List.mem_cons_of_mem _ ha)
    · have h1 := sp_bit h.head k1
      rw [Nat.testBit_xor, low_bit (h.1 b List.mem_cons_self), hl b List.mem_cons_self] at h1
      cases h1
theorem tri_red : ∀ {B : List Nat}, Tri B → ∀ v : Nat, (∀ b ∈ B, (red B v).testBit (low b) = false) ∧ Sp B (v ^^^ red B v)
  | [], _, v => ⟨(fun _ h => by cases h), by show Sp [] (v ^^^ v); rw [Nat.xor_self]; exact .zero⟩
  | b :: B, h, v => by
    have hb := h.1 b List.mem_cons_self
    have key : ∀ v' : Nat, v'.testBit (low b) = false → Sp (b :: B) (v ^^^ v') → (∀ a ∈ b :: B, (red B v').testBit (low a) = false) ∧ Sp (b :: B) (v ^^^ red B v') := fun v' h1 h2 => by
      obtain ⟨k1, k2⟩ := tri_red h.tail v'
      have h3 := sp_bit h.head k2
      rw [Nat.testBit_xor, h1] at h3
      refine ⟨fun a ha => ?_, ?_⟩
      · rcases List.mem_cons.1 ha with e | ha
        · rw [e]; simpa using h3
        · exact k1 a ha
      · have := h2.xor (k2.mono fun a ha => List.mem_cons_of_mem _ ha)
        rwa [Nat.xor_assoc, ← Nat.xor_assoc v' v', Nat.xor_self, Nat.zero_xor] at this
    show (∀ a ∈ b :: B, (red B (if b ≠ 0 ∧ v.testBit (low b) = true then v ^^^ b else v)).testBit (low a) = false) ∧ Sp (b :: B) (v ^^^ red B (if b ≠ 0 ∧ v.testBit (low b) = true then v ^^^ b else v))
    by_cases hv : v.testBit (low b) = true
    · rw [if_pos ⟨hb, hv⟩]
      refine key _ (by rw [Nat.testBit_xor, hv, low_bit hb]; rfl) ?_
      rw [← Nat.xor_assoc, Nat.xor_self, Nat.zero_xor]
      exact .of_mem List.mem_cons_self
    · rw [if_neg (fun k => hv k.2)]
      refine key _ (by simpa using hv) ?_
      rw [Nat.xor_self]; exact .zero
theorem sp_swap {B : List Nat} {v r : Nat} (h : Sp B (v ^^^ r)) (k : Sp B v) : Sp B r := by
  have := k.xor h
  rwa [← Nat.xor_assoc, Nat.xor_self, Nat.zero_xor] at this
theorem tri_zero {B : List Nat} (h : Tri B) (v : Nat) : red B v = 0 ↔ Sp B v := by
  obtain ⟨h1, h2⟩ := tri_red h v
  constructor
  · intro e
    rw [e, Nat.xor_zero] at h2
    exact h2
  · intro k
    exact tri_none h (sp_swap h2 k) h1
/-- One row more, as it is left. -/
def addT (B : List Nat) (v : Nat) : List Nat := if red B v = 0 then B else B ++ [red B v]
theorem Tri.addT {B : List Nat} (h : Tri B) (v : Nat) : Tri (addT B v) := by
  unfold Ech.addT
  split
  · exact h
  · rename_i hr; exact h.snoc hr (tri_red h v).1
theorem sp_addT {B : List Nat} (h : Tri B) (v x : Nat) : Sp (addT B v) x ↔ Sp (B ++ [v]) x := by
  have h2 := (tri_red h v).2
  unfold addT
  split
  · rename_i hr
    have hv := (tri_zero h v).1 hr
    refine ⟨fun k => k.mono fun a ha => List.mem_append_left _ ha, fun k => k.of fun a ha => ?_⟩
    rcases List.mem_append.1 ha with ha | ha
    · exact .of_mem ha
    · rw [List.mem_singleton.1 ha]; exact hv
  · constructor
    · intro k
      refine k.of fun a ha => ?_
      rcases List.mem_append.1 ha with ha | ha
      · exact .of_mem (List.mem_append_left _ ha)
      · rw [List.mem_singleton.1 ha]
        exact sp_swap (h2.mono fun a ha => List.mem_append_left _ ha) (.of_mem (by simp))
    · intro k
      refine k.of fun a ha => ?_
      rcases List.mem_append.1 ha with ha | ha
      · exact .of_mem (List.mem_append_left _ ha)
      · rw [List.mem_singleton.1 ha]
        refine sp_swap (v := red B v) ?_ (.of_mem (by simp))
        rw [Nat.xor_comm]
        exact h2.mono fun a ha => List.mem_append_left _ ha
theorem foldl_addT : ∀ (l B : List Nat), Tri B → Tri (l.foldl addT B) ∧ ∀ x, Sp (l.foldl addT B) x ↔ Sp (B ++ l) x
  | [], B, h => ⟨h, fun x => by simp⟩
  | v :: l, B, h => by
    obtain ⟨h1, h2⟩ := foldl_addT l (addT B v) (h.addT v)
    refine ⟨h1, fun x => ?_⟩
    show Sp (l.foldl addT (addT B v)) x ↔ _
    rw [h2]
    constructor
    · intro k
      refine k.of fun a ha => ?_
      rcases List.mem_append.1 ha with ha | ha
      · exact ((sp_addT h v a).1 (.of_mem ha)).mono fun c hc => by
          rcases List.mem_append.1 hc with hc | hc
          · simp [hc]
          · rw [List.mem_singleton.1 hc]; simp
      · exact .of_mem (by simp [ha])
    · intro k
      refine k.of fun a ha => ?_
      rcases List.mem_append.1 ha with ha | ha
      · exact ((sp_addT h v a).2 (.of_mem (by simp [ha]))).mono fun c hc => List.mem_append_left _ hc
      · rcases List.mem_cons.1 ha with e | ha
        · rw [e]
          exact ((sp_addT h v v).2 (.of_mem (by simp))).mono fun c hc => List.mem_append_left _ hc
        · exact .of_mem (List.mem_append_right _ ha)

theorem low_lt {d W : Nat} (h0 : d ≠ 0) (h : d < 2 ^ W) : low d < W := by
  rcases Nat.lt_or_ge (low d) W with h1 | h1
  · exact h1
  · have h2 : d < 2 ^ low d := Nat.lt_of_lt_of_le h (Nat.pow_le_pow_right (by decide) h1)
    have := low_bit h0
    rw [Nat.testBit_lt_two_pow h2] at this
    cases this

end Go.Proofs.YtbcgiodgobmkaaaGreatDoor.Ech
namespace Go.Proofs.YtbcgiodgobmkaaaGreatDoor
open Go.RowKit
set_option linter.unusedVariables false
set_option linter.unusedSimpArgs false
set_option maxRecDepth 4000

/-- One row more, as it is left. -/
def addTL (B : List (List Nat)) (v : List Nat) : List (List Nat) := if firstI (reduceL B v) < 0 then B else B ++ [reduceL B v]
def broughtL (l : List (List Nat)) : List (List Nat) := l.foldl addTL []
theorem Fit.addT {M : Nat} {B : List (List Nat)} (h : Fit M B) {v : List Nat} (hv : smalls v) (hl : v.length ≤ M) : Fit M (addTL B v) := by
  unfold addTL
  split
  · exact h
  · intro x hx
    rcases List.mem_append.1 hx with hx | hx
    · exact h x hx
    · rw [List.mem_singleton.1 hx]; exact reduce_small h hv hl
theorem addT_val {M : Nat} {B : List (List Nat)} (h : Fit M B) {v : List Nat} (hv : smalls v) (hl : v.length ≤ M) : (addTL B v).map val = Ech.addT (B.map val) (val v) := by
  obtain ⟨h1, h2⟩ := reduce_small h hv hl
  unfold addTL Ech.addT
  rw [← reduce_val h hv]
  by_cases h0 : val (reduceL B v) = 0
  · rw [if_pos ((firstI_neg h1).2 h0), if_pos h0]
  · rw [if_neg (fun k => h0 ((firstI_neg h1).1 k)), if_neg h0]; simp
theorem addT_len (B : List (List Nat)) (v : List Nat) : (addTL B v).length ≤ B.length + 1 := by
  unfold addTL
  split
  · omega
  · simp
theorem foldl_addTL {M : Nat} : ∀ (l B : List (List Nat)), Fit M l → Fit M B → Fit M (l.foldl addTL B) ∧ (l.foldl addTL B).map val = (l.map val).foldl Ech.addT (B.map val) ∧ (l.foldl addTL B).length ≤ B.length + l.length
  | [], B, _, hB => ⟨hB, rfl, by simp⟩
  | v :: l, B, hl, hB => by
    have hv := hl v List.mem_cons_self
    obtain ⟨h1, h2, h3⟩ := foldl_addTL l (addTL B v) hl.tail (hB.addT hv.1 hv.2)
    refine ⟨h1, ?_, ?_⟩
    · show (l.foldl addTL (addTL B v)).map val = _
      rw [h2, addT_val hB hv.1 hv.2]; rfl
    · show (l.foldl addTL (addTL B v)).length ≤ _
      have := addT_len B v
      simp only [List.length_cons]
      omega
theorem brought_fit {M : Nat} {l : List (List Nat)} (h : Fit M l) : Fit M (broughtL l) := (foldl_addTL l [] h (.nil M)).1
theorem brought_val {M : Nat} {l : List (List Nat)} (h : Fit M l) : (broughtL l).map val = (l.map val).foldl Ech.addT [] := (foldl_addTL l [] h (.nil M)).2.1
theorem brought_len {M : Nat} {l : List (List Nat)} (h : Fit M l) : (broughtL l).length ≤ l.length := by
  have h1 : (l.foldl addTL []).length ≤ l.length := by simpa using (foldl_addTL l [] h (.nil M)).2.2
  exact h1
theorem brought_tri {M : Nat} {l : List (List Nat)} (h : Fit M l) : Ech.Tri ((broughtL l).map val) := by rw [brought_val h]; exact (Ech.foldl_addT _ _ .nil).1
theorem brought_sp {M : Nat} {l : List (List Nat)} (h : Fit M l) (x : Nat) : Ech.Sp ((broughtL l).map val) x ↔ Ech.Sp (l.map val) x := by rw [brought_val h]; exact (Ech.foldl_addT _ _ .nil).2 x
theorem brought_take {l : List (List Nat)} {k : Nat} (h : k < l.length) : broughtL (l.take (k + 1)) = addTL (broughtL (l.take k)) (l.getD k []) := by
  unfold broughtL
  rw [List.take_succ_eq_append_getElem h, List.foldl_append]
  simp [List.getD_eq_getElem?_getD, List.getElem?_eq_getElem h]
/-- Whether a row is in the span. -/
theorem brought_in {M : Nat} {l : List (List Nat)} (h : Fit M l) {v : List Nat} (hv : smalls v) (hl : v.length ≤ M) : firstI (reduceL (broughtL l) v) < 0 ↔ Ech.Sp (l.map val) (val v) := by
  rw [firstI_neg (reduce_small (brought_fit h) hv hl).1, reduce_val (brought_fit h) hv, Ech.tri_zero (brought_tri h), brought_sp h]
theorem basis_in_iff {M : Nat} {l : List (List Nat)} (h : Fit M l) {v : List Nat} (hv : smalls v) (hl : v.length ≤ M) : firstI (reduceL (basisL l) v) < 0 ↔ Ech.Sp (l.map val) (val v) := by
  rw [firstI_neg (reduce_small (basis_fit h) hv hl).1, reduce_val (basis_fit h) hv, Ech.red_zero (basis_red h), basis_val h, Ech.sp_basis]

/-- The places that are kept of the first k rows. -/
def keepL (rs : List (List Nat)) : Nat → List Nat
  | 0 => []
  | k + 1 => if firstI (reduceL (broughtL (rs.take k)) (rs.getD k [])) < 0 then keepL rs k else keepL rs k ++ [k]
theorem keep_len (rs : List (List Nat)) : ∀ k, (keepL rs k).length ≤ k
  | 0 => Nat.le_refl _
  | k + 1 => by
    have := keep_len rs k
    simp only [keepL]
    split
    · omega
    · simp; omega

end Go.Proofs.YtbcgiodgobmkaaaGreatDoor
