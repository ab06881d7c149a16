/-
  Contract of bucketlineref28.Script: it is calm's. Condition: the config can be read.
-/
import Derived.Test.YtljkmajajcocdaaU31
import Derived.Test.YtljkmajajcocdaaU36
namespace Go.Proofs.Ytljkmajajcocdaa
open Go.RowKit Go.Sort Go.Shelf
set_option linter.unusedVariables false
set_option linter.unusedSimpArgs false
set_option maxRecDepth 4000

/-- append(own events, some events..) as a step of a walk. -/
theorem wpList_appE {w : World} {ops : Array Oper} {rest : List Oper} {o : Oper} {act : Act} {Q : Exit → Act → World → Prop} (hgd : o.guard = none) (s x : Operand)
    (ho : o.op = .call { callee := .builtin .append, args := #[s, x], argTypes := #[29, 29] }) (B : Nat) (v : Value) (es fs : List EVV) (arr : Array Value) (m : Nat) (harr : arr.toList = cellsE fs) (hm : fs.length = m) (hm1 : 1 ≤ m)
    (hs : act.eval s = v) (hx : act.eval x = .slice (some ⟨w.heap.size, 0, none⟩) m m) (h : OwnE w B v es) (hB : B ≤ w.heap.size) (hn : es.length + m ≤ 1000000)
    (hK : ∀ v' w', OwnE w' B v' (es ++ fs) → (∀ gs, DrsP w B gs → DrsP w' B gs) → Below B w w' → wpList Try.prog ops Q rest (act.put o.dst v') w') : wpList Try.prog ops Q (o :: rest) act (w.alloc (.cells arr 44)) := by
  obtain ⟨i0, hi, hz0, hz1, hz2⟩ := info_parts info_ev
  have hb : Below w.heap.size w (w.alloc (.cells arr 44)) := (Below.refl _ _).alloc (Nat.le_refl _) _
  have h1 : (w.alloc (.cells arr 44)).ownsRow B 44 6 v es.length (cellsE es) := h.below hb
  refine wpList_append_own _ hgd s x 29 ho B 44 i0 _ 6 64 Try.underlying29 hi hz0 hz1 hz2 rfl (by decide) v es.length (cellsE es) hs h1 ⟨w.heap.size, 0, none⟩ m m (cellsE fs) hx (by rw [cellsE_length, hm]) (fun j u hj => ?_)
    (cellsE_one fs) (by unfold maxLen; omega) (by omega) (Nat.le_trans hB hb.size) ?_
  · have e : (⟨w.heap.size, 0, none⟩ : Addr).add j = ⟨w.heap.size, j, none⟩ := by unfold Addr.add; split <;> simp_all
    rw [e, World.cell?_alloc_at _ _ _ _ rfl]
    rw [← harr] at hj
    simpa using hj
  · intro v' w' hown hgrow _
    refine hK v' w' ?_ (fun gs hg => (hg.below hb).grown h1 hgrow) ((hb.mono hB).grown hgrow (Nat.le_trans hB hb.size) fun k hk => (h1.lt k hk).1)
    show w'.ownsRow B 44 6 v' (es ++ fs).length (cellsE (es ++ fs))
    rw [List.length_append, cellsE_append, hm]
    exact hown
/-- What the way to a sink is. -/
theorem SinkR.q {f : CFV} {s : Nat} {L : List Nat} (h : SinkR f s L) (hc : ChkR f 0) (hs : s < f.n) (h0 : 0 < L.length) : ∃ i : Nat, WayQ f (s : Int) (i : Int) L := by
  rcases h with ⟨i, h1, h2, h3, h4, h5⟩ | ⟨rfl, _⟩
  · refine ⟨i, PathP.q ?_ h0⟩
    by_cases h8 : farN f.ds f.n i s < 8
    · refine .inl ⟨hc, by omega, by omega, by rw [Int.toNat_natCast, Int.toNat_natCast]; exact h8, ?_⟩
      rw [h3, Int.toNat_natCast, Int.toNat_natCast]
      exact if_pos h8
    · exact absurd (h3.trans (if_neg h8)) h4
  · exact absurd h0 (Nat.lt_irrefl 0)
/-- A turn that is not over. -/
def partD (id : Int) (xs : List Nat) (m : Nat) : List EvD := [⟨1, 0, 1000, 0, 0, []⟩, ⟨2, id, 0, 0, 0, xs⟩] ++ List.replicate m ⟨3, 0, 0, 0, 0, []⟩
/-- What stands while the reference's script is made. -/
structure RsI (w W : World) (v : Value) (D : List EvD) : Prop where
  out : ∃ es, OwnE W w.heap.size v es ∧ DrsP W w.heap.size es ∧ es.map EVV.data = D
  low : Below w.heap.size w W
theorem RsI.below {w W W' : World} {v : Value} {D : List EvD} (h : RsI w W v D) (hb : Below W.heap.size W W') : RsI w W' v D := by
  obtain ⟨es, h1, h2, h3⟩ := h.out
  exact ⟨⟨es, h1.below hb, h2.below hb, h3⟩, h.low.trans (hb.mono h.low.size)⟩
/-- A node's turn is begun. -/
theorem RsI.two {w W : World} {v : Value} {D : List EvD} (h : RsI w W v D) {id : Int} {a : Option Addr} {n c : Nat} {xs : List Nat} (hx : Own W w.heap.size (.slice a n c) xs)
    {ops : Array Oper} {rest : List Oper} {o : Oper} {act : Act} {Q : Exit → Act → World → Prop} (hgd : o.guard = none) (s x : Operand)
    (ho : o.op = .call { callee := .builtin .append, args := #[s, x], argTypes := #[29, 29] }) (hs : act.eval s = v) (g : Nat) (hg : W.heap.size = g) (hxe : act.eval x = .slice (some ⟨g, 0, none⟩) 2 2) (hn : D.length + 2 ≤ 1000000)
    (hK : ∀ v' w', RsI w w' v' (D ++ partD id xs 0) → wpList Try.prog ops Q rest (act.put o.dst v') w') :
    wpList Try.prog ops Q (o :: rest) act (W.alloc (.cells #[.int .i64 1, .int .i64 0, .int .i64 1000, .int .i64 0, .int .i64 0, .slice none 0 0, .int .i64 2, .int .i64 id, .int .i64 0, .int .i64 0, .int .i64 0, .slice a n c] 44)) := by
  subst hg
  obtain ⟨es, h1, h2, h3⟩ := h.out
  refine wpList_appE hgd s x ho w.heap.size v es [evTick, evAct id a n c xs] _ 2 rfl rfl (by decide) hs hxe h1 h.low.size (by rw [← h3, List.length_map] at hn; exact hn) fun v' w' k1 k2 k3 => hK v' w' ⟨⟨_, k1, fun e he => ?_, ?_⟩, h.low.trans k3⟩
  · rcases List.mem_append.1 he with he | he
    · exact k2 es h2 e he
    · refine k2 [evTick, evAct id a n c xs] (fun e he => ?_) e he
      rcases List.mem_cons.1 he with rfl | he
      · exact Own.nil _ _
      · rw [List.mem_singleton.1 he]
        exact hx
  · rw [List.map_append, h3]
    rfl
/-- A frame is handed over. -/
theorem RsI.del {w W : World} {v : Value} {D : List EvD} (h : RsI w W v D)
    {ops : Array Oper} {rest : List Oper} {o : Oper} {act : Act} {Q : Exit → Act → World → Prop} (hgd : o.guard = none) (s x : Operand)
    (ho : o.op = .call { callee := .builtin .append, args := #[s, x], argTypes := #[29, 29] }) (hs : act.eval s = v) (hxe : act.eval x = .slice (some ⟨W.heap.size, 0, none⟩) 1 1) (hn : D.length + 1 ≤ 1000000)
    (hK : ∀ v' w', RsI w w' v' (D ++ [⟨3, 0, 0, 0, 0, []⟩]) → wpList Try.prog ops Q rest (act.put o.dst v') w') :
    wpList Try.prog ops Q (o :: rest) act (W.alloc (.cells #[.int .i64 3, .int .i64 0, .int .i64 0, .int .i64 0, .int .i64 0, .slice none 0 0] 44)) := by
  obtain ⟨es, h1, h2, h3⟩ := h.out
  refine wpList_appE hgd s x ho w.heap.size v es [evDel] _ 1 rfl rfl (by decide) hs hxe h1 h.low.size (by rw [← h3, List.length_map] at hn; exact hn) fun v' w' k1 k2 k3 => hK v' w' ⟨⟨_, k1, fun e he => ?_, ?_⟩, h.low.trans k3⟩
  · rcases List.mem_append.1 he with he | he
    · exact k2 es h2 e he
    · refine k2 [evDel] (fun e he => ?_) e he
      rw [List.mem_singleton.1 he]
      exact Own.nil _ _
  · rw [List.map_append, h3]
    rfl
theorem partD_len (id : Int) (xs : List Nat) (m : Nat) : (partD id xs m).length = m + 2 := by simp [partD]
theorem partD_succ (id : Int) (xs : List Nat) (m : Nat) : partD id xs m ++ [⟨3, 0, 0, 0, 0, []⟩] = partD id xs (m + 1) := by
  unfold partD
  rw [List.append_assoc, List.replicate_succ']
theorem partD_all (id : Int) (xs : List Nat) : partD id xs 8 = turnD id xs := rfl
end Go.Proofs.Ytljkmajajcocdaa
