/-
  A decoder and a slice of rows of one's own, side by side; the walk of DecoderJust: for every input it tells true and writes nothing that was there.
-/
import Derived.Test.YteamniigiogaeaaGreatDoorOL
namespace Go.Proofs.YteamniigiogaeaaGreatDoor
open Go.RowKit Go.Sort
set_option linter.unusedVariables false
set_option maxRecDepth 4000

theorem wpList_pushL {w : World} {ops : Array Oper} {rest : List Oper} {o : Oper} {act : Act} {Q : Exit → Act → World → Prop} (hgd : o.guard = none) (s x : Operand)
    (ho : o.op = .call { callee := .builtin .append, args := #[s, x], argTypes := #[32, 32] }) (B : Nat) (v : Value) (rs : List RV) (r : RV)
    (hs : act.eval s = v) (hx : act.eval x = .slice (some ⟨w.heap.size, 0, none⟩) 1 1) (h : OwnS w B v rs) (hB : B ≤ w.heap.size) (hn : rs.length ≤ 1000000)
    (hK : ∀ g cap w', OwnS w' B (.slice (some ⟨g, 0, none⟩) (rs.length + 1) cap) (rs ++ [r]) → w.grownBy w' v.ownBlock → (v.ownBlock = some g ∨ w.heap.size ≤ g) → wpList Tryz.prog ops Q rest (act.put o.dst (.slice (some ⟨g, 0, none⟩) (rs.length + 1) cap)) w') :
    wpList Tryz.prog ops Q (o :: rest) act (w.alloc (.cells #[.slice r.a r.n r.c, .string r.s] 29)) := by
  obtain ⟨i0, hi, hz0, hz1, hz2⟩ := info_parts info_rowZ
  have hb : Below w.heap.size w (w.alloc (.cells #[.slice r.a r.n r.c, .string r.s] 29)) := (Below.refl _ _).alloc (Nat.le_refl _) _
  have h1 : (w.alloc (.cells #[.slice r.a r.n r.c, .string r.s] 29)).ownsRow B 29 2 v rs.length (cellsR rs) := h.below hb
  have hbk : (w.alloc (.cells #[.slice r.a r.n r.c, .string r.s] 29)).heap[w.heap.size]? = some (.cells #[.slice r.a r.n r.c, .string r.s] 29 (0, 0)) := bkA_new 29 w [.slice r.a r.n r.c, .string r.s]
  refine wpList_append_lies _ hgd s x 32 ho B 29 i0 (.agg #[.slice none 0 0, .string ⟨#[]⟩]) 2 40 Tryz.underlying32 hi hz0 hz1 hz2 rfl (by decide) v rs.length (cellsR rs) hs h1 ⟨w.heap.size, 0, none⟩ 1 1 [.slice r.a r.n r.c, .string r.s] hx rfl
    (World.news_of_block hbk) (fun u hu => by rcases List.mem_cons.1 hu with rfl | hu; · rfl
                                              · rw [List.mem_singleton.1 hu]; rfl) (by decide) (by unfold maxLen; omega) (by omega) (Nat.le_trans hB hb.size) _ rfl (fun g cap w' h2 h3 h4 _ => hK g cap w' ?_ (gb_trans (gb_of_below hb _) h3 (.inl rfl)) (h4.imp id fun e => by rw [e]; exact hb.size))
  show w'.ownsRow B 29 2 _ (rs ++ [r]).length (cellsR (rs ++ [r]))
  rw [List.length_append, cellsR_append]
  exact h2

/-- A decoder and rows of one's own. -/
structure JuJ (W w : World) (g : Nat) (M : Int) (s : DS) (gs : Nat) (v : Value) (rs : List RV) (t : Value) (tks : List RV) : Prop where
  dc : DcAt w g W.heap.size M s gs v rs
  own : OwnS w W.heap.size t tks
  src : RowsIn W tks
  short : shortR tks
  sep : ∀ j, v.ownBlock = some j → t.ownBlock ≠ some j
  low : Below W.heap.size W w
theorem JuJ.below {W w w' : World} {g : Nat} {M : Int} {s : DS} {gs : Nat} {v : Value} {rs : List RV} {t : Value} {tks : List RV} (h : JuJ W w g M s gs v rs t tks) (hb : Below w.heap.size w w') : JuJ W w' g M s gs v rs t tks :=
  ⟨h.dc.below hb, h.own.below hb, h.src, h.short, h.sep, below0 h.low hb⟩
/-- The slice of rows is none of the decoder's blocks. -/
theorem JuJ.out {W w : World} {g : Nat} {M : Int} {s : DS} {gs : Nat} {v : Value} {rs : List RV} {t : Value} {tks : List RV} (h : JuJ W w g M s gs v rs t tks) {j : Nat} (hj : t.ownBlock = some j) : ¬ dcF g gs v j := fun hf => by
  obtain ⟨cur, hc⟩ := h.own.blk5 hj
  rcases hf with rfl | hf
  · exact h.dc.blk.ne hc (by decide) rfl
  · cases hb : s.bg
    · obtain ⟨_, rfl, rfl⟩ := h.dc.fresh hb
      rcases hf with rfl | hf
      · exact h.dc.blk.ne hc (by decide) rfl
      · cases hf
    · rcases hf with rfl | hf
      · have h2 := (h.dc.begun hb).1.blk
        unfold Bk5 at h2
        rw [h2] at hc
        simp only [Option.some.injEq, Obj.cells.injEq] at hc
        exact absurd hc.2.1 (by decide)
      · exact h.sep j hf hj
theorem JuJ.put {W w w' : World} {g : Nat} {M : Int} {s s' : DS} {gs gs' : Nat} {v v' : Value} {rs rs' : List RV} {t : Value} {tks : List RV} (h : JuJ W w g M s gs v rs t tks) (hd : DcAt w' g W.heap.size M s' gs' v' rs') (ht : Tu (dcF g gs v) w w') (hm : Mv w gs v gs' v') : JuJ W w' g M s' gs' v' rs' t tks := by
  refine ⟨hd, h.own.tu ht (fun j hj => h.out hj), h.src, h.short, fun j hj e => ?_, h.dc.step h.low ht⟩
  rcases hm.2 with q | q
  · exact h.sep j (q ▸ hj) e
  · have h1 := q j hj
    have h2 := (World.ownsRow.lt h.own j e).2
    omega
theorem JuJ.push {W w w' : World} {g : Nat} {M : Int} {s : DS} {gs : Nat} {v : Value} {rs : List RV} {t : Value} {tks : List RV} {r : RV} {q n cap : Nat} (h : JuJ W w g M s gs v rs t tks) (ho : OwnS w' W.heap.size (.slice (some ⟨q, 0, none⟩) n cap) (tks ++ [r])) (hg : w.grownBy w' t.ownBlock) (hq : t.ownBlock = some q ∨ w.heap.size ≤ q) (hr : RowAt W r.a r.n r.xs) (hc : r.n ≤ r.c) (hs : r.n ≤ 10 ∧ r.s.size ≤ 1000) :
    JuJ W w' g M s gs v rs (.slice (some ⟨q, 0, none⟩) n cap) (tks ++ [r]) := by
  have ht := Tu.of_gb (F := fun j => t.ownBlock = some j) hg fun j _ e => e
  have hdt : DcAt w' g W.heap.size M s gs v rs := by
    refine ⟨h.dc.blk.tu ht (fun e => h.out e (.inl rfl)), h.dc.lo, fun e => ⟨(h.dc.begun e).1.tu ht (fun j hj e2 => h.out e2 (.inr hj)) (fun j cur hc e2 => ?_), (h.dc.begun e).2⟩, h.dc.fresh, h.dc.co⟩
    obtain ⟨cur2, hc2⟩ := h.own.blk5 e2
    rw [hc2] at hc
    simp only [Option.some.injEq, Obj.cells.injEq] at hc
    exact absurd hc.2.1 (by decide)
  refine ⟨hdt, ho, h.src.append (RowsIn.one hr hc), h.short.snoc hs.1 hs.2, fun j hj e => ?_, h.low.trans (ht.below h.dc.lob fun j hj e => ?_)⟩
  · have e : q = j := by simpa [Value.ownBlock] using e
    subst e
    rcases hq with hq | hq
    · exact h.sep q hj hq
    · cases hb : s.bg
      · obtain ⟨_, rfl, _⟩ := h.dc.fresh hb; cases hj
      · have := (World.ownsRow.lt (h.dc.begun hb).1.own q hj).2; omega
  · have := (World.ownsRow.lt h.own j e).1; omega

/-- A put keeps the row, or keeps nothing. -/
theorem dput_cases {M : Int} {s : DS} {p : PKV} (ob : ByteArray) (hz : s.bg = false → s = zDS) :
    (dputE M s p = 0 ∧ (dput M s p ob).L = s.L ++ [(p.r.xs, p.r.s)] ∧ (dput M s p ob).k = p.k) ∨ ((dputE M s p = 0 ∨ dputE M s p = 1 ∨ dputE M s p = 5) ∧ (dput M s p ob).L = s.L ∧ (s.L ≠ [] → (dput M s p ob).k = s.k)) := by
  cases ha : admB s p
  · rw [(dput_no ha).1, (dput_no (ob := ob) ha).2]
    exact .inr ⟨.inr (.inl rfl), rfl, fun _ => rfl⟩
  · rw [(dput_yes ha).1, (dput_yes (ob := ob) ha).2]
    have hb : (begS s p).L = s.L ∧ (begS s p).k = p.k ∧ (s.L ≠ [] → p.k = s.k) := by
      unfold begS
      cases hg : s.bg
      · rw [if_neg (by decide), hz hg]
        exact ⟨rfl, rfl, fun h => absurd rfl h⟩
      · rw [if_pos rfl]
        rw [adm_split hg, Bool.and_eq_true] at ha
        obtain ⟨_, _, e, _⟩ := decide_eq_true_iff.1 ha.2
        exact ⟨rfl, e.symm, fun _ => e⟩
    cases hd : (begS s p).dn
    · by_cases hl : (begS s p).L.length < capN M
      · by_cases hr : (rankC ((begS s p).L ++ [(p.r.xs, p.r.s)]) : Int) = (begS s p).k
        · rw [(keepS_new hd hl hr).1, (keepS_new (ob := ob) hd hl hr).2.1, ← hb.1]
          exact .inl ⟨rfl, rfl, hb.2.1⟩
        · rw [(keepS_in hd hl hr).1, (keepS_in (ob := ob) hd hl hr).2.1, ← hb.1]
          exact .inl ⟨rfl, rfl, hb.2.1⟩
      · rw [(keepS_full hd hl).1, (keepS_full (x := (p.r.xs, p.r.s)) (ob := ob) hd hl).2.1]
        exact .inr ⟨.inr (.inr rfl), hb.1, fun h => hb.2.1.trans (hb.2.2 h)⟩
    · rw [(keepS_dn hd).1, (keepS_dn (x := (p.r.xs, p.r.s)) (ob := ob) hd).2]
      exact .inr ⟨.inl rfl, hb.1, fun h => hb.2.1.trans (hb.2.2 h)⟩
/-- What is told of k: none without a row, else the decoder's. -/
def KkP (s : DS) (kk : Int) : Prop := (s.L = [] ∧ kk = 0) ∨ (s.L ≠ [] ∧ kk = s.k)
end Go.Proofs.YteamniigiogaeaaGreatDoor
