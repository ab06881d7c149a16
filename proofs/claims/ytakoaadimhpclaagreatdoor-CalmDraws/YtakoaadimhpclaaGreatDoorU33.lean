/-
  For the contract of calm.steps: marks of loops over functions; a slice of numbers in a box; what so many rounds tell. No condition.
  A region that draws its order, in the round of a loop over a function: as anywhere, where it has no defer statement. No condition.
-/
import Derived.Test.YtakoaadimhpclaaGreatDoorU32
import Derived.Test.YtakoaadimhpclaaGreatDoorU18
import Derived.RangeFuncNested
import Derived.RangeFuncBound
import Derived.RangeFuncCalls
import Derived.RangeFuncLeaves
import Derived.OrdersHeld
import Derived.OrdersIn
import Derived.TacticsIn
namespace Go.Proofs.YtakoaadimhpclaaGreatDoor
open Go.RowKit Go.Sort Go.Shelf
set_option linter.unusedVariables false
set_option linter.unusedSimpArgs false
set_option maxRecDepth 4000
attribute [local go_sem] Oper.semAt_some

/-- Marks of the loops over functions that are over. -/
def markL (Ds : List Nat) : List Deferred := Ds.map fun D => { target := .collected D, args := #[] }
/-- Their blocks. -/
def MarksAt (B : Nat) (w : World) (Ds : List Nat) : Prop := (∀ D, D ∈ Ds → B ≤ D ∧ w.heap[D]? = some (.deferred (some []))) ∧ Ds.Nodup
theorem leaves_marks {n : Nat} {fn : Func} {tmps : Array Value} {R : Ending → World → Prop} {B : Nat} {I : World → Prop}
    (hI : ∀ (w : World) (D : Nat) (o : Obj), B ≤ D → w.heap[D]? = some (.deferred (some [])) → I w → I (w.putObj D o))
    (hf : ∀ w, I w → LeavesIn Fence.wide n Tryz.prog fn tmps R [] .returning w) : ∀ (Ds : List Nat) (w : World), MarksAt B w Ds → I w → LeavesInM Fence.wide n Tryz.prog fn tmps R (markL Ds) .returning w
  | [], w, _, h => hf w h
  | D :: Ds, w, hm, h => by
    have h1 := hm.1 D List.mem_cons_self
    refine ⟨by simp, .inl ⟨D, _, rfl, run_takeDeferred h1.2, leaves_marks hI hf Ds _ ⟨fun E hE => ?_, (List.nodup_cons.1 hm.2).2⟩ (hI w D _ h1.1 h1.2 h)⟩⟩
    have h2 := hm.1 E (List.mem_cons_of_mem _ hE)
    refine ⟨h2.1, (World.putObj_heap_other fun e => ?_).trans h2.2⟩
    have := (List.nodup_cons.1 hm.2).1
    subst e
    exact this hE
/-- How far all nodes are. -/
def farL (ds : List NDV) (n tn : Nat) : List Int := (List.range n).map fun i => ((farN ds n tn i : Nat) : Int)
/-- A slice of numbers in a box, while a function of w runs: what it holds is told by Q. -/
structure StI (w : World) (g cap n bx : Nat) (Ds : List Nat) (Q : List Int → Prop) (W : World) : Prop where
  box : Boxed W bx 58 (.slice (some ⟨g, 0, none⟩) n cap)
  row : ∃ L, L.length = n ∧ OwnZ W w.heap.size (.slice (some ⟨g, 0, none⟩) n cap) L ∧ Q L
  low : Below w.heap.size w W
  marks : MarksAt w.heap.size W Ds
theorem StI.kept {w W W' : World} {g cap n bx : Nat} {Ds : List Nat} {Q : List Int → Prop} {B : Nat} {r : Option Nat} (h : StI w g cap n bx Ds Q W) (hg : W.grownBy W' r) (hB : w.heap.size ≤ B) (hr : ∀ q, r = some q → B ≤ q ∧ ∃ o : Obj, W.heap[q]? = some o ∧ o.isCells = false) (hD : ∀ D, D ∈ Ds → D < B) : StI w g cap n bx Ds Q W' := by
  have hne : ∀ q (cs : Array Value) (t : TypeId) (z : Nat × Nat), W.heap[q]? = some (.cells cs t z) → some q ≠ r := fun q cs t z hq e => by
    obtain ⟨o, ho, hc⟩ := (hr q e.symm).2
    rw [hq] at ho
    cases ho
    cases hc
  refine ⟨h.box.kept hg (hne bx _ _ _ h.box), ?_, h.low.trans ((gb_below hg h.low.size fun k hk => Nat.le_trans hB (hr k hk).1)), fun D hD' => ?_, h.marks.2⟩
  · obtain ⟨L, h1, h2, h3⟩ := h.row
    refine ⟨L, h1, World.ownsRow.kept h2 hg ?_, h3⟩
    rcases h2.2 with ⟨h0, _⟩ | ⟨g', cap', cur, e, _, hgg, _⟩
    · cases h0
    · simp only [Value.slice.injEq, Option.some.injEq, Addr.mk.injEq, and_true] at e
      obtain ⟨rfl, _, _⟩ := e
      exact .inr (hne g _ _ _ hgg)
  · have := h.marks.1 D hD'
    refine ⟨this.1, (hg.block D (Array.getElem?_eq_some_iff.1 this.2).1 fun e => ?_).trans this.2⟩
    have := (hr D e.symm).1
    have := hD D hD'
    omega
theorem StI.own {w : World} {g cap n bx B : Nat} {Ds : List Nat} {α : Type} {Q : List α → List Int → Prop} (hB : w.heap.size ≤ B) (hD : ∀ D, D ∈ Ds → D < B) : OwnFrom B (fun (pre : List α) W => StI w g cap n bx Ds (Q pre) W) :=
  fun s W W' r hs hg hr => hs.kept hg hB hr hD
/-- A cell of the row is written. -/
theorem StI.store {w W : World} {g cap n bx : Nat} {Ds : List Nat} {Q Q' : List Int → Prop} {L : List Int} (h : StI w g cap n bx Ds Q W) (i : Nat) (x : Int) (hl : L.length = n) (ho : OwnZ W w.heap.size (.slice (some ⟨g, 0, none⟩) n cap) L) (hQ : Q' (L.set i x)) (hgb : w.heap.size ≤ g) :
    StI w g cap n bx Ds Q' (W.setCell ⟨g, i, none⟩ (.int .i64 x)) := by
  obtain ⟨cur, hgg⟩ : ∃ cur, W.heap[g]? = some (.cells cur 3 (0, 0)) := by
    rcases ho.2 with ⟨h0, _⟩ | ⟨g', cap', cur, e, _, hgg, _⟩
    · cases h0
    · simp only [Value.slice.injEq, Option.some.injEq, Addr.mk.injEq, and_true] at e
      obtain ⟨rfl, _, _⟩ := e
      exact ⟨cur, hgg⟩
  refine ⟨h.box.kept (gb_setCell W g i _) fun e => ?_, ⟨L.set i x, by rw [List.length_set]; exact hl, ho.stored i x, hQ⟩, h.low.trans (gb_below (gb_setCell W g i _) h.low.size fun k hk => by rw [← Option.some.inj hk]; exact hgb), fun D hD => ?_, h.marks.2⟩
  · have e' : bx = g := Option.some.inj e
    have := h.box
    rw [e'] at this
    have := hgg.symm.trans this
    simp at this
  · have := h.marks.1 D hD
    refine ⟨this.1, ((KeepsOthers.setCell W ⟨g, i, none⟩ (.int .i64 x)).same D _ this.2 rfl)⟩
/-- What is told behind r rounds, and the steps that have come since. -/
def RelP (F : Nat → Nat) (n r : Nat) (ed : Nat → Nat → Prop) (L : List Int) : Prop :=
  L.length = n ∧ ∃ M : Nat → Nat, (∀ i, i < n → L.getD i 0 = ((M i : Nat) : Int)) ∧ (∀ i, i < n → F i ≤ M i ∧ M i ≤ 8) ∧ (∀ i, i < n → F i ≤ r → M i ≤ F i) ∧ ∀ i j, i < n → ed i j → F j ≤ r → M i ≤ F j + 1
theorem RelP.start {ds : List NDV} {n tn : Nat} {F : Nat → Nat} (hF : FarP ds n tn F) (ht : tn < n) : RelP F n 0 (fun _ _ => False) ((List.replicate n 8).set tn 0) := by
  refine ⟨by simp, fun i => if i = tn then 0 else 8, fun i hi => ?_, fun i hi => ?_, fun i hi h => ?_, fun i j _ h => h.elim⟩
  · rw [List.getD_eq_getElem?_getD, List.getElem?_set]
    by_cases e : tn = i
    · subst e
      simp [ht]
    · have e' : ¬ i = tn := fun q => e q.symm
      simp [e, e', hi]
  · have := hF.le i
    have := hF.zero
    dsimp only
    split
    · rename_i e; subst e; omega
    · omega
  · have := hF.fin i (by omega)
    dsimp only
    rw [if_pos this]
    omega
theorem RelP.step {ds : List NDV} {n tn : Nat} {F : Nat → Nat} (hF : FarP ds n tn F) {r : Nat} {ed : Nat → Nat → Prop} {L : List Int} (h : RelP F n r ed L) {i j : Nat} (hi : i < n) (hj : j < n) (hm : ((j : Nat) : Int) ∈ tosN ds i) :
    RelP F n r (fun a b => ed a b ∨ (a = i ∧ b = j)) (L.set i (min (L.getD i 0) (L.getD j 0 + 1))) := by
  obtain ⟨hl, M, h1, h2, h3, h4⟩ := h
  have he := hF.edge i hi _ hm
  rw [Int.toNat_natCast] at he
  refine ⟨by rw [List.length_set]; exact hl, fun q => if q = i then min (M i) (M j + 1) else M q, fun q hq => ?_, fun q hq => ?_, fun q hq hr => ?_, fun a b ha hab hb => ?_⟩
  · rw [List.getD_eq_getElem?_getD, List.getElem?_set]
    by_cases e : i = q
    · subst e
      rw [if_pos rfl, if_pos (by omega), h1 i hi, h1 j hj]
      dsimp only
      rw [if_pos rfl]
      show min _ _ = _
      omega
    · dsimp only
      rw [if_neg e, if_neg (fun q => e q.symm), ← h1 q hq, List.getD_eq_getElem?_getD]
  · have := h2 i hi
    have := h2 j hj
    have := h2 q hq
    dsimp only
    split
    · rename_i e; subst e; omega
    · omega
  · have := h3 q hq hr
    dsimp only
    split
    · rename_i e; subst e; omega
    · omega
  · have h0 : (if a = i then min (M i) (M j + 1) else M a) ≤ M a := by
      split
      · rename_i e; subst e; omega
      · exact Nat.le_refl _
    rcases hab with hab | ⟨rfl, rfl⟩
    · exact Nat.le_trans h0 (h4 a b ha hab hb)
    · have := h3 b hj hb
      dsimp only
      rw [if_pos rfl]
      omega
theorem RelP.round {ds : List NDV} {n tn : Nat} {F : Nat → Nat} (hF : FarP ds n tn F) (hw : WayP ds n) {r : Nat} {ed : Nat → Nat → Prop} {L : List Int} (h : RelP F n r ed L) (hall : ∀ i j : Nat, i < n → (j : Int) ∈ tosN ds i → ed i j) : RelP F n (r + 1) (fun _ _ => False) L := by
  obtain ⟨hl, M, h1, h2, h3, h4⟩ := h
  refine ⟨hl, M, h1, h2, fun i hi hr => ?_, fun i j _ h => h.elim⟩
  by_cases e : F i ≤ r
  · exact h3 i hi e
  · have h8 := h2 i hi
    by_cases e8 : F i < 8
    · have hne : i ≠ tn := fun q => by rw [q, hF.zero] at e; omega
      obtain ⟨x, hx, hx2⟩ := hF.next i hne e8
      have hx0 := (hw.2 i hi x hx).1
      have := h4 i x.toNat hi (hall i x.toNat hi (by rw [Int.toNat_of_nonneg hx0]; exact hx)) (by omega)
      omega
    · omega
theorem RelP.done {ds : List NDV} {n tn : Nat} {F : Nat → Nat} (hF : FarP ds n tn F) {ed : Nat → Nat → Prop} {L : List Int} (h : RelP F n n ed L) : L = (List.range n).map fun i => ((F i : Nat) : Int) := by
  obtain ⟨hl, M, h1, h2, h3, h4⟩ := h
  refine List.ext_getElem (by simp [hl]) fun i hi hi' => ?_
  have hin : i < n := by omega
  have e := h1 i hin
  rw [List.getD_eq_getElem?_getD, List.getElem?_eq_getElem hi] at e
  simp only [Option.getD_some] at e
  rw [e, List.getElem_map, List.getElem_range]
  have := h2 i hin
  by_cases e8 : F i < 8
  · have := hF.small i hin e8
    have := h3 i hin (by omega)
    omega
  · omega
theorem RelP.mono {F : Nat → Nat} {n r : Nat} {ed ed' : Nat → Nat → Prop} {L : List Int} (h : RelP F n r ed L) (he : ∀ i j, ed' i j → ed i j) : RelP F n r ed' L := by
  obtain ⟨hl, M, h1, h2, h3, h4⟩ := h
  exact ⟨hl, M, h1, h2, h3, fun i j hi hij => h4 i j hi (he i j hij)⟩
end Go.Proofs.YtakoaadimhpclaaGreatDoor
namespace Go.Proofs.YtakoaadimhpclaaGreatDoor
open Go.RowKit
set_option linter.unusedVariables false
set_option linter.unusedSimpArgs false
set_option maxRecDepth 4000

theorem rowsIn_wide {n : Nat} {P : Program} {row : String} {args : Array Value} {w : World} {R : Value → World → Prop} (h : Rows P row args w R) : RowsIn Fence.wide n P row args w R :=
  fun c cs _ => let ⟨v, w', r, s⟩ := h c cs; ⟨v, w', r, stepsIn_wide.2 s⟩
theorem op_round {l n : Nat} {P : Program} {o : Oper} {a : Act} {w : World} {K : Act → World → Prop} {Q : Exit → Act → World → Prop} (hd : ∀ c, o.op ≠ .defer c) (h : o.wp P a w K Q) : o.wpIn (Fence.wide.inRound l) n P a w K Q := by
  refine ⟨fun _ _ => trivial, ?_⟩
  rw [show (Fence.wide.inRound l).round = some l from rfl, Oper.semAt_some l _ o hd]
  have h' : o.upon P a K Q ((execOp a.eval o).run P w) := h
  generalize (execOp a.eval o).run P w = r at *
  cases r with
  | ok x w' =>
    cases x with
    | value v => exact h'
    | skip => exact h'
    | enter f args => exact ⟨fun e => by simp [Fence.wide] at e, CallsIn.inRound l (callsIn_wide.2 (Calls.mono h' fun e w'' he => by cases e <;> exact he))⟩
    | row r args => exact ⟨fun e => by simp [Fence.wide] at e, rowsIn_wide h'⟩
    | round l' f tmps assign body => exact h'.elim
    | _ => first | exact h'.elim | exact h'
  | halt x w' =>
    cases x <;> first | exact h' | exact h'.elim
theorem any_round {l n : Nat} {P : Program} {md : Region.Mode} {ops : Array Oper} {Q : Exit → Act → World → Prop} (hd : ∀ (i : Nat) (o : Oper), ops[i]? = some o → ∀ c, o.op ≠ .defer c) (hlo : ¬ LetsOut Q) : ∀ (fuel : Nat) (listed : Array Bool) (a : Act) (w : World), wpAny P md ops Q fuel listed a w → wpAnyIn (Fence.wide.inRound l) n P md ops Q fuel listed a w
  | 0, _, _, _, h => h
  | fuel + 1, listed, a, w, h => by
    refine ⟨h.1, fun i hi => ?_⟩
    have h1 := h.2 i hi
    unfold wpOp at h1
    unfold wpOpIn
    cases ho : ops[i]? with
    | none =>
      rw [ho] at h1
      exact any_round hd hlo fuel _ a w h1
    | some o =>
      rw [ho] at h1
      dsimp only at h1 ⊢
      split
      · rename_i hw
        rw [if_pos hw] at h1
        rcases h1 with h1 | ⟨_, h1⟩
        · exact Oper.wpIn_mono (fun a w hh => any_round hd hlo fuel _ a w hh) (op_round (hd i o ho) h1)
        · exact absurd h1 hlo
      · rename_i hw
        rw [if_neg hw] at h1
        exact ⟨fun _ _ => trivial, any_round hd hlo fuel _ _ w h1⟩
/-- Is none of these a defer statement? -/
def noDefer (ops : Array Oper) : Bool := ops.all fun o => match o.op with | .defer _ => false | _ => true
theorem region_round {l n id : Nat} {P : Program} {ops : Array Oper} {Q : Exit → Act → World → Prop} {a : Act} {w : World} {S : World → Prop} (hm : P.follows .mixedOrders = true) (hd : noDefer ops = true) (hlo : ¬ LetsOut Q)
    (h : wpAnyH P .any ops Q S ops.size (Array.replicate ops.size false) a w.drew) : (Code.region id ops true).wpIn (Fence.wide.inRound l) n P Q a w := by
  refine wpIn_region_any hm (any_round (fun i o ho c e => ?_) hlo _ _ _ _ (wpAny_of_held _ _ _ _ h))
  have hi := (Array.getElem?_eq_some_iff.1 ho)
  have := (Array.all_eq_true.1 hd) i hi.1
  rw [hi.2, e] at this
  cases this
end Go.Proofs.YtakoaadimhpclaaGreatDoor
