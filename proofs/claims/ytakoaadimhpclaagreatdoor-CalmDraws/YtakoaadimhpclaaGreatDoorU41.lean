/-
  Slices of events of one's own ('OwnE'), with their draws ('EvsP'); append of events; contract of calm.turn. Condition: the draws can be read.
-/
import Derived.Test.YtakoaadimhpclaaGreatDoorU40
namespace Go.Proofs.YtakoaadimhpclaaGreatDoor
open Go.RowKit Go.Sort Go.Shelf
set_option linter.unusedVariables false
set_option linter.unusedSimpArgs false
set_option maxRecDepth 4000

def cellsE (es : List EVV) : List Value := es.flatMap EVV.cells
theorem cellsE_append (a b : List EVV) : cellsE (a ++ b) = cellsE a ++ cellsE b := by simp [cellsE]
theorem cellsE_length : ∀ es : List EVV, (cellsE es).length = es.length * 6
  | [] => rfl
  | e :: es => by
    show (e.cells ++ cellsE es).length = _
    rw [List.length_append, cellsE_length es, List.length_cons]
    show 6 + _ = _
    omega
theorem cellsE_one (es : List EVV) : ∀ u ∈ cellsE es, u.oneCell' = true := fun u hu => by
  obtain ⟨f, _, h⟩ := List.mem_flatMap.1 hu
  exact one_ev u h
theorem cellsE_rep (f : EVV) (k : Nat) : cellsE (List.replicate k f) = (List.replicate k f.cells).flatten := by
  induction k with
  | zero => rfl
  | succ k ih => rw [List.replicate_succ, List.replicate_succ, List.flatten_cons, ← ih]; rfl
/-- A slice of events of the call's own. -/
def OwnE (w : World) (B : Nat) (v : Value) (es : List EVV) : Prop := w.ownsRow B 56 6 v es.length (cellsE es)
theorem OwnE.nil (w : World) (B : Nat) : OwnE w B (.slice none 0 0) [] := World.ownsRow_nil _ _ _ _
theorem OwnE.below {w w' : World} {B : Nat} {v : Value} {es : List EVV} (h : OwnE w B v es) (hb : Below w.heap.size w w') : OwnE w' B v es := by
  refine ⟨h.1, ?_⟩
  rcases h.2 with h0 | ⟨g, cap, cur, h1, hg, hgg, r⟩
  · exact .inl h0
  · exact .inr ⟨g, cap, cur, h1, hg, (hb.block g (Array.getElem?_eq_some_iff.1 hgg).1).trans hgg, r⟩
theorem OwnE.len {w : World} {B : Nat} {v : Value} {es : List EVV} (h : OwnE w B v es) : ∃ a c, v = .slice a es.length c := by
  rcases h.2 with ⟨rfl, h0⟩ | ⟨g, cap, cur, rfl, _⟩
  · exact ⟨none, 0, by rw [h0]⟩
  · exact ⟨_, _, rfl⟩
theorem OwnE.mono {w : World} {B B' : Nat} {v : Value} {es : List EVV} (h : OwnE w B v es) (hB : B' ≤ B) : OwnE w B' v es := by
  refine ⟨h.1, ?_⟩
  rcases h.2 with h0 | ⟨g, cap, cur, h1, hb, r⟩
  · exact .inl h0
  · exact .inr ⟨g, cap, cur, h1, Nat.le_trans hB hb, r⟩
/-- append(own events, events...). -/
theorem appE_wp {o : Oper} {a : Act} {w : World} {K : Act → World → Prop} {Q : Exit → Act → World → Prop} (s x : Operand)
    (ho : o.op = .call { callee := .builtin .append, args := #[s, x], argTypes := #[46, 46] }) (B : Nat) (v : Value) (es fs : List EVV) (hs : a.eval s = v) (hown : OwnE w B v es) (ad : Addr) (m c : Nat) (hx : a.eval x = .slice (some ad) m c)
    (hm : fs.length = m) (hc : ∀ j u, (cellsE fs)[j]? = some u → w.cell? (ad.add j) = some u) (hm1 : 1 ≤ m) (hn : es.length + m ≤ 1000000) (hB : B ≤ w.heap.size)
    (h : ∀ g cap w', OwnE w' B (.slice (some ⟨g, 0, none⟩) (es.length + m) cap) (es ++ fs) → w.grownBy w' v.ownBlock → K (a.put o.dst (.slice (some ⟨g, 0, none⟩) (es.length + m) cap)) w') : o.wp Tryz.prog a w K Q := by
  obtain ⟨i0, hi, hz0, hz1, hz2⟩ := info_parts info_ev
  refine wp_append_own w s x 46 ho B 56 i0 _ 6 64 Tryz.underlying46 hi hz0 hz1 hz2 rfl (by decide) v es.length (cellsE es) hs hown ad m c (cellsE fs) hx (by rw [cellsE_length, hm]) hc (cellsE_one fs) (by unfold maxLen; omega) (by omega) hB (fun v' w' h2 h3 _ => ?_)
  have h2' : OwnE w' B v' (es ++ fs) := by
    show w'.ownsRow B 56 6 v' (es ++ fs).length (cellsE (es ++ fs))
    rw [List.length_append, cellsE_append, hm]
    exact h2
  rcases h2.2 with ⟨_, h0⟩ | ⟨g, cap, cur, rfl, _⟩
  · omega
  · exact h g cap w' h2' h3
/-- What an event is, but for where its draws lie. -/
structure EvD where
  kd : Int
  nd : Int
  n : Int
  at_ : Int
  by_ : Int
  xs : List Nat
def EVV.data (e : EVV) : EvD := ⟨e.kd, e.nd, e.n, e.at_, e.by_, e.xs⟩
/-- The draws of events are rows of the call's own. -/
def DrsP (w : World) (B : Nat) (es : List EVV) : Prop := ∀ e ∈ es, Own w B (.slice e.a e.dn e.dc) e.xs
theorem DrsP.below {w w' : World} {B : Nat} {es : List EVV} (h : DrsP w B es) (hb : Below w.heap.size w w') : DrsP w' B es := fun e he => (h e he).below hb
theorem DrsP.mono {w : World} {B B' : Nat} {es : List EVV} (h : DrsP w B es) (hB : B' ≤ B) : DrsP w B' es := fun e he => (h e he).mono hB
theorem dis_evr {w : World} {B B' : Nat} {v u : Value} {n m : Nat} {cs ds : List Value} (h : w.ownsRow B 56 6 v n cs) (k : w.ownsRow B' 53 1 u m ds) : u.ownBlock = none ∨ u.ownBlock ≠ v.ownBlock := by
  rcases k.2 with ⟨rfl, _⟩ | ⟨g', cap', cur', rfl, hb', hg', _⟩
  · exact .inl rfl
  · refine .inr fun e => ?_
    rcases h.2 with ⟨rfl, _⟩ | ⟨g, cap, cur, rfl, hb, hg, _⟩
    · cases e
    · simp only [Value.ownBlock, Option.some.injEq] at e
      subst e
      have := hg.symm.trans hg'
      simp at this
/-- What is grown is the events' own row: their draws lie as they lay. -/
theorem DrsP.grown {w w' : World} {B B' : Nat} {v : Value} {es fs : List EVV} (h : DrsP w B fs) (k : OwnE w B' v es) (hg : w.grownBy w' v.ownBlock) : DrsP w' B fs := fun e he => (h e he).kept hg (dis_evr k (h e he).2)
def evTick : EVV := ⟨1, 0, 1000, 0, 0, none, 0, 0, []⟩
def evAct (id : Int) (a : Option Addr) (n c : Nat) (xs : List Nat) : EVV := ⟨2, id, 0, 0, 0, a, n, c, xs⟩
def evDel : EVV := ⟨3, 0, 0, 0, 0, none, 0, 0, []⟩
def turnE (id : Int) (a : Option Addr) (n c : Nat) (xs : List Nat) : List EVV := [evTick, evAct id a n c xs] ++ List.replicate 8 evDel
set_option maxHeartbeats 2000000 in
theorem turn_any (id : Int) (a : Option Addr) (n c : Nat) (xs : List Nat) (w : World) :
    Calls Tryz.prog 32 #[.int .i64 id, .slice a n c] w fun e w' => ∃ g cap, e = .returned (.slice (some ⟨g, 0, none⟩) 10 cap) ∧ OwnE w' w.heap.size (.slice (some ⟨g, 0, none⟩) 10 cap) (turnE id a n c xs) ∧ Below w.heap.size w w' := by
  have hO : OwnE (w.alloc (.cells #[.int .i64 1, .int .i64 0, .int .i64 1000, .int .i64 0, .int .i64 0, .slice none 0 0, .int .i64 2, .int .i64 id, .int .i64 0, .int .i64 0, .int .i64 0, .slice a n c] 56)) w.heap.size (.slice (some ⟨w.heap.size, 0, none⟩) 2 2) [evTick, evAct id a n c xs] :=
    ⟨rfl, .inr ⟨w.heap.size, 2, _, rfl, Nat.le_refl _, heap_alloc_new w _, Nat.le_refl _, by unfold maxLen; omega, rfl, rfl⟩⟩
  obtain ⟨W1, hW1⟩ : ∃ W1, W1 = w.alloc (.cells #[.int .i64 1, .int .i64 0, .int .i64 1000, .int .i64 0, .int .i64 0, .slice none 0 0, .int .i64 2, .int .i64 id, .int .i64 0, .int .i64 0, .int .i64 0, .slice a n c] 56) := ⟨_, rfl⟩
  rw [← hW1] at hO
  have hb1 : Below w.heap.size w W1 := by rw [hW1]; exact alloc_low w _
  have hb2 := alloc_low W1 (.cells #[.int .i64 3, .int .i64 0, .int .i64 0, .int .i64 0, .int .i64 0, .slice none 0 0] 56)
  have hsz1 : w.heap.size + 1 = W1.heap.size := by rw [hW1]; exact (alloc_size _ _).symm
  have HR := hide (repE_any evDel (w.heap.size + 1) 1 (W1.alloc (.cells #[.int .i64 3, .int .i64 0, .int .i64 0, .int .i64 0, .int .i64 0, .slice none 0 0] 56)) (fun j v hj => by
    rw [hsz1, World.cell?_alloc_at _ _ _ _ rfl]
    simpa [evDel, EVV.cells] using hj))
  have HO := hide (hO.below hb2)
  have HB := hide (below0 hb1 hb2)
  have hs1 := hb1.size
  clear hO hb1 hb2 hsz1
  go_enter Tryz.func32, Tryz.ntmps32
  go_wp2_with fail
  rw [← hW1]
  clear hW1
  refine (unhide HR).mono ?_
  rintro e w2 ⟨g, rfl, ho, hb⟩
  have HO2 := hide ((unhide HO).below hb)
  have HB2 := hide (below0 (unhide HB) hb)
  have hsz := (unhide HB).size
  have hcs : ∀ j u, (cellsE (List.replicate 8 evDel))[j]? = some u → w2.cell? ((⟨g, 0, none⟩ : Addr).add j) = some u := fun j u hu => by
    refine World.ownsRow.cells ho (g := g) rfl j u ?_
    rw [cellsE_rep] at hu
    unfold repV
    rw [Nat.sub_self, List.replicate_zero, List.flatten_nil, List.append_nil]
    exact hu
  have hs2 := (unhide HB2).size
  clear hb ho HO HB HR
  go_wp2_with (at_builtin; refine wpList_plain rfl fun K hK => appE_wp _ _ rfl w.heap.size _ _ (List.replicate 8 evDel) rfl (unhide HO2) ⟨g, 0, none⟩ 8 8 rfl (by simp) hcs (by omega) (by show 2 + 8 ≤ 1000000; omega) hs2 (fun g3 cap3 w3 h3 hg3 => hK _ _ ?_)
               have HO3 := hide h3
               have HB3 := hide ((unhide HB2).trans (gb_below hg3 hs2 fun k hk => by rw [← Option.some.inj hk]; exact Nat.le_refl _))
               clear h3 hg3 hK K)
  go_ret
  exact ⟨_, _, rfl, unhide HO3, unhide HB3⟩
end Go.Proofs.YtakoaadimhpclaaGreatDoor
