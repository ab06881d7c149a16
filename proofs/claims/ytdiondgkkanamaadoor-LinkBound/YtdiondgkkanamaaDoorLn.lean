/-
  Communication of one goroutine inside the walk: 'WpN', as the walk's own 'Code.wp', of frames of ordinary calls alone; a select of one case with a default as the first operation of a region. No condition.
-/
import Derived.Test.YtdiondgkkanamaaDoorChecked
import Derived.Conc.LoneSelect
namespace Go.Proofs.YtdiondgkkanamaaDoor
open Go.RowKit Go.Conc
set_option linter.unusedVariables false
set_option maxRecDepth 4000

/-- As 'Code.wp', for frames that are no early ones. -/
def WpN (P : Program) (c : Code) (Q : Exit → Act → World → Prop) (a : Act) (w : World) : Prop :=
  ∀ (b : Frame) (k : List Item) (cs : List Frame), b.kind ≠ .early → ∃ e a' w', Q e a' w' ∧ Arrives P (lone (b.at a (.code c :: k)) cs w) b k cs e a' w'
section
variable {P : Program} {Q : Exit → Act → World → Prop} {a : Act} {w : World}
theorem wpn_of {c : Code} (h : c.wp P Q a w) : WpN P c Q a w := fun b k cs _ => h b k cs
theorem wpn_seq {x y : Code} (h : WpN P x (Exit.then (WpN P y Q) Q) a w) : WpN P (.seq x y) Q a w := by
  intro b k cs hb
  obtain ⟨e, a1, w1, hq, hr⟩ := h b (.code y :: k) cs hb
  by_cases he : e = .normal
  · subst he
    obtain ⟨e2, a2, w2, hq2, hr2⟩ := hq b k cs hb
    exact ⟨e2, a2, w2, hq2, Arrives.of_steps (Steps.head step_seq hr) hr2⟩
  · have hs := Arrives.of_steps (Steps.one (step_seq (P := P) (b := b) (a := a) (k := k) (cs := cs) (w := w) (x := x) (y := y))) (Arrives.pass (x := .code y) rfl (fun _ _ => .inl he) hr)
    refine ⟨e, a1, w1, ?_, hs⟩
    cases e <;> first | exact absurd rfl he | exact hq
/-- A piece that the walk goes through, and what follows. -/
theorem wpn_seq_k {x y : Code} (h : ∀ K : Act → World → Prop, (∀ a w, WpN P y Q a w → K a w) → x.wp P (Exit.then K Q) a w) : WpN P (.seq x y) Q a w :=
  wpn_seq (wpn_of (h _ fun _ _ h => h))
/-- A call whose body is such a piece; it does not outgrow the memory. -/
theorem calls_of_wpn {f : FuncId} {fn : Func} {c : Code} {args : Array Value} {R : Ending → World → Prop}
    (hf : P.funcs[f]? = some fn) (hb : fn.body = some c) (hno : ∀ w', ¬ R .outgrown w')
    (h : WpN P c (bodyPost P fn R) { tmps := args ++ Array.replicate (fn.ntmps - args.size) undef, defers := [] } w) : Calls P f args w R := by
  refine calls_of_loneTo (fun cs => ?_) hno
  have hen : Frame.enter P f args .normal = (base f).at { tmps := args ++ Array.replicate (fn.ntmps - args.size) undef, defers := [] } [.code c] := by
    simp [Frame.enter, Frame.at, hf, hb, base]
  rw [hen]
  obtain ⟨e, a', w', hq, hr⟩ := h (base f) [] cs (by simp [base])
  match e, hq, hr with
  | .normal, ⟨hd, v, hv, hR⟩, hr => exact ⟨_, w', hr.trans (.one step_end), .returned v, _, rfl, hR, rfl, rfl, hd, rfl, fn, hf, hv⟩
  | .ret, ⟨hd, v, hv, hR⟩, ⟨_, hr⟩ => exact ⟨_, w', hr, .returned v, _, rfl, hR, rfl, rfl, hd, rfl, fn, hf, hv⟩
  | .panic chain, ⟨hd, hR⟩, ⟨_, hr⟩ => exact ⟨_, w', hr, .panicked chain, _, rfl, hR, rfl, rfl, hd, fn, hf⟩
  | .exit _, hq, _ => exact hq.elim
  | .goto _, hq, _ => exact hq.elim
  | .outgrown, hq, _ => exact absurd hq (hno _)
/-- An operation that the machine carries out in one step: it yields v. -/
def Does (P : Program) (o : Oper) (a : Act) (w : World) (v : Value) (w' : World) : Prop :=
  ∀ (b : Frame) (ops : Array Oper) (i : Nat) (rest : List Nat) (k : List Item) (cs : List Frame), b.kind ≠ .early → ops[i]? = some o → Region.wanted o (yielded ops a.tmps) = true →
    step P (lone (b.at a (.inRegion ops (i :: rest) :: k)) cs w) = .next (lone (b.at (a.put o.dst v) (.inRegion ops rest :: k)) cs w')
theorem wpn_first {id : Nat} {o : Oper} {l : List Oper} {v : Value} {w' : World} (hg : o.guard = none) (hd : Does P o a w v w')
    (h : wpList P (o :: l).toArray Q l (a.put o.dst v) w') : WpN P (.region id (o :: l).toArray false) Q a w := by
  intro b k cs hb
  have hw : Region.wanted o (yielded (o :: l).toArray a.tmps) = true := by simp [Region.wanted, hg]
  have h1 := hd b (o :: l).toArray 0 (List.range' 1 l.length) k cs hb (by simp) hw
  have h2 := wpOps_eq_wpList (P := P) (ops := (o :: l).toArray) (Q := Q) l 1 (fun j => by simp [Nat.add_comm 1 j])
  rw [← h2] at h
  obtain ⟨e, a₁, w₁, hq, harr⟩ := wp_ops _ _ _ h b k cs
  have h3 := step_region (P := P) (b := b) (a := a) (k := k) (cs := cs) (w := w) (ops := (o :: l).toArray) (id := id)
  have h4 : List.range (o :: l).toArray.size = 0 :: List.range' 1 l.length := by
    rw [List.size_toArray, List.length_cons, List.range_eq_range', List.range'_succ]
  rw [h4] at h3
  exact ⟨e, a₁, w₁, hq, .of_steps (.head h3 (.one h1)) harr⟩
section
variable {o : Oper} {c cap s r : Nat} {buf : Array Value} {z v : Value} {tm : Bool}
theorem does_send_room (hr : (execOp a.eval o).run P w = .ok (.comm #[scase c v z] false .select) w) (hc : w.heap[c]? = some (.chan cap buf false s r tm)) (hroom : buf.size < cap) :
    Does P o a w (.tuple #[goInt 0, .bool false]) (w.setChan c cap (buf.push v) false (s + 1) r tm) := by
  intro b ops i rest k cs hb ho hw
  rw [lone_eq_solo, step_lone_select_send_room (stepG_comm ho hw hb hr) hc hroom, Frame.finish_at, ho]
  rfl
theorem does_send_full (hr : (execOp a.eval o).run P w = .ok (.comm #[scase c v z] false .select) w) (hc : w.heap[c]? = some (.chan cap buf false s r tm)) (hfull : cap ≤ buf.size) :
    Does P o a w (.tuple #[goInt (-1), .bool false]) w := by
  intro b ops i rest k cs hb ho hw
  rw [lone_eq_solo, step_lone_select_send_full (stepG_comm ho hw hb hr) hc hfull, Frame.finish_at, ho]
  rfl
theorem does_recv_some (hr : (execOp a.eval o).run P w = .ok (.comm #[rcase c z] false .select) w) (hc : w.heap[c]? = some (.chan cap buf false s r tm)) (hsome : 0 < buf.size) :
    Does P o a w (.tuple #[goInt 0, .bool true, buf.getD 0 undef]) (w.setChan c cap (buf.extract 1 buf.size) false s (r + 1) tm) := by
  intro b ops i rest k cs hb ho hw
  rw [lone_eq_solo, step_lone_select_recv_buf (stepG_comm ho hw hb hr) hc hsome, Frame.finish_at, ho]
  rfl
theorem does_recv_none (hr : (execOp a.eval o).run P w = .ok (.comm #[rcase c z] false .select) w) (hc : w.heap[c]? = some (.chan cap #[] false s r tm)) :
    Does P o a w (.tuple #[goInt (-1), .bool false, z]) w := by
  intro b ops i rest k cs hb ho hw
  rw [lone_eq_solo, step_lone_select_default (stepG_comm ho hw hb hr) hc, Frame.finish_at, ho]
  rfl
end
end
end Go.Proofs.YtdiondgkkanamaaDoor
