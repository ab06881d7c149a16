/-
  The script as data; what stands while it is made. No condition.
-/
import Derived.Test.YtakoaadimhpclaaGreatDoorU42
namespace Go.Proofs.YtakoaadimhpclaaGreatDoor
open Go.RowKit Go.Sort Go.Shelf
set_option linter.unusedVariables false
set_option linter.unusedSimpArgs false
set_option maxRecDepth 4000

theorem OwnZ.cap {w : World} {B : Nat} {a : Option Addr} {n c : Nat} {xs : List Int} (h : OwnZ w B (.slice a n c) xs) : n ≤ c := by
  rcases h.2 with ⟨e, _⟩ | ⟨g, cap, cur, e, _, _, hn, _⟩
  · simp only [Value.slice.injEq] at e
    omega
  · simp only [Value.slice.injEq] at e
    obtain ⟨_, rfl, rfl⟩ := e
    exact hn
theorem wayK_mem {ds : List NDV} {n tn : Nat} {F : Nat → Nat} (hF : FarP ds n tn F) (hw : WayP ds n) : ∀ k i, i < n → F i = k → k < 8 → ∀ y ∈ wayK ds F n k i, y < n
  | 0, i, hi, _, _, y, hy => by rw [List.mem_singleton.1 hy]; exact hi
  | k + 1, i, hi, hk, h8, y, hy => by
    have h := nxt_is hF hw hi (by omega) (by omega)
    rcases List.mem_cons.1 hy with rfl | hy
    · exact hi
    · exact wayK_mem hF hw k _ h.2.1 (by omega) (by omega) y hy
theorem SinkR.mem {f : CFV} {s : Nat} {L : List Nat} (h : SinkR f s L) (hc : ChkR f 0) (hs : s < f.n) : ∀ y ∈ L, y < f.n := fun y hy => by
  rcases h with ⟨i, h1, h2, h3, _⟩ | ⟨h1, _⟩
  · rw [h3] at hy
    unfold wayF at hy
    split at hy
    · rename_i h8
      have hw := (stepP_of hc).1
      exact wayK_mem (farN_is hw) hw _ s hs rfl h8 y hy
    · cases hy
  · rw [h1] at hy
    cases hy
theorem way_len {ds : List NDV} {n s j : Nat} : (wayF ds n s j).length ≤ 8 := by
  unfold wayF
  split
  · unfold wayL; rw [wayK_len]; omega
  · exact Nat.zero_le _
theorem SinkR.len {f : CFV} {s : Nat} {L : List Nat} (h : SinkR f s L) : L.length ≤ 8 := by
  rcases h with ⟨i, _, _, h3, _⟩ | ⟨h1, _⟩
  · rw [h3]; exact way_len
  · rw [h1]; exact Nat.zero_le _
/-- append as a step of a drawn region. -/
theorem appE_if {ops : Array Oper} {o : Oper} {a : Act} {w : World} {K : Act → World → Prop} {Q : Exit → Act → World → Prop} {E : Prop} (hgd : o.guard = none) (s x : Operand)
    (ho : o.op = .call { callee := .builtin .append, args := #[s, x], argTypes := #[46, 46] }) (B : Nat) (v : Value) (es fs : List EVV) (hs : a.eval s = v) (hown : OwnE w B v es) (ad : Addr) (m c : Nat) (hx : a.eval x = .slice (some ad) m c)
    (hm : fs.length = m) (hc : ∀ j u, (cellsE fs)[j]? = some u → w.cell? (ad.add j) = some u) (hm1 : 1 ≤ m) (hn : es.length + m ≤ 1000000) (hB : B ≤ w.heap.size)
    (h : ∀ g cap w', OwnE w' B (.slice (some ⟨g, 0, none⟩) (es.length + m) cap) (es ++ fs) → w.grownBy w' v.ownBlock → K (a.put o.dst (.slice (some ⟨g, 0, none⟩) (es.length + m) cap)) w') :
    if Region.wanted o (yielded ops a.tmps) = true then Oper.wp Tryz.prog o a w K Q else E := by
  rw [if_pos (by simp [Region.wanted, hgd])]
  exact appE_wp s x ho B v es fs hs hown ad m c hx hm hc hm1 hn hB h
def turnD (id : Int) (xs : List Nat) : List EvD := [⟨1, 0, 1000, 0, 0, []⟩, ⟨2, id, 0, 0, 0, xs⟩] ++ List.replicate 8 ⟨3, 0, 0, 0, 0, []⟩
theorem turnE_data (id : Int) (a : Option Addr) (n c : Nat) (xs : List Nat) : (turnE id a n c xs).map EVV.data = turnD id xs := by simp [turnE, turnD, EVV.data, evTick, evAct, evDel]
/-- What one node's turn is. -/
def sendD (ds : List NDV) (k : Int) (i : Nat) (L : List Nat) (q : Nat) : List EvD := turnD ((L.getD q 0 : Nat) : Int) (drawsF (kdN ds (L.getD q 0)) k (i : Int))
/-- So many senders of a round. -/
def sentD (ds : List NDV) (k : Int) (i : Nat) (L : List Nat) (m : Nat) : List EvD := ((List.range m).map (sendD ds k i L)).flatten
/-- So many rounds. -/
def roundsD (ds : List NDV) (k : Int) (L : List Nat) (R : Nat) : List EvD := ((List.range R).map fun i => sentD ds k i L (L.length - 1)).flatten
theorem sendD_len (ds : List NDV) (k : Int) (i : Nat) (L : List Nat) (q : Nat) : (sendD ds k i L q).length = 10 := rfl
theorem sentD_succ (ds : List NDV) (k : Int) (i : Nat) (L : List Nat) (m : Nat) : sentD ds k i L (m + 1) = sentD ds k i L m ++ sendD ds k i L m := by simp [sentD, List.range_succ]
theorem sentD_len (ds : List NDV) (k : Int) (i : Nat) (L : List Nat) : ∀ m, (sentD ds k i L m).length = 10 * m
  | 0 => rfl
  | m + 1 => by rw [sentD_succ, List.length_append, sentD_len ds k i L m, sendD_len]; omega
theorem roundsD_succ (ds : List NDV) (k : Int) (L : List Nat) (R : Nat) : roundsD ds k L (R + 1) = roundsD ds k L R ++ sentD ds k R L (L.length - 1) := by simp [roundsD, List.range_succ]
theorem roundsD_len (ds : List NDV) (k : Int) (L : List Nat) : ∀ R, (roundsD ds k L R).length = 10 * (L.length - 1) * R
  | 0 => rfl
  | R + 1 => by rw [roundsD_succ, List.length_append, roundsD_len ds k L R, sentD_len, Nat.mul_succ]
/-- The script. -/
def ScriptP (f : CFV) (rounds : Int) (D : List EvD) : Prop :=
  (¬ ChkR f 0 ∧ D = []) ∨ (ChkR f 0 ∧ ∃ s L, s < f.n ∧ kdN f.ds s = 1 ∧ SinkR f s L ∧ D = roundsD f.ds (planK f.obj.size f.size) L (min (max rounds 0) 128).toNat)
theorem ScriptP.uniq {f : CFV} {r : Int} {D E : List EvD} (h : ScriptP f r D) (k : ScriptP f r E) : D = E := by
  rcases h with ⟨h1, h2⟩ | ⟨h1, s, L, h2, h3, h4, h5⟩ <;> rcases k with ⟨k1, k2⟩ | ⟨k1, s', L', k2, k3, k4, k5⟩
  · rw [h2, k2]
  · exact absurd k1 h1
  · exact absurd h1 k1
  · obtain ⟨t, _, _, ht⟩ := src_one f.n h1.cfg.1.2.2
    have e1 := ht s h2 h3
    have e2 := ht s' k2 k3
    subst e1
    rw [e2] at k4
    rw [h5, k5, h4.uniq k4]
/-- What stands while the script is made: the events so far. -/
structure ScI (wp : World) (Bo : Nat) (Ds : List Nat) (D : List EvD) (W : World) : Prop where
  out : ∃ v es, Boxed W Bo 46 v ∧ OwnE W wp.heap.size v es ∧ DrsP W wp.heap.size es ∧ es.map EVV.data = D
  low : Below wp.heap.size wp W
  marks : MarksAt wp.heap.size W Ds
theorem ScI.kept {wp W W' : World} {Bo B : Nat} {Ds : List Nat} {D : List EvD} {r : Option Nat} (h : ScI wp Bo Ds D W) (hg : W.grownBy W' r) (hB : wp.heap.size ≤ B) (hr : ∀ q, r = some q → B ≤ q ∧ ∃ o : Obj, W.heap[q]? = some o ∧ o.isCells = false) (hD : ∀ E, E ∈ Ds → E < B) : ScI wp Bo Ds D W' := by
  have hne : ∀ q (cs : Array Value) (t : TypeId) (z : Nat × Nat), W.heap[q]? = some (.cells cs t z) → some q ≠ r := fun q cs t z hq e => by
    obtain ⟨o, ho, hc⟩ := (hr q e.symm).2
    rw [hq] at ho
    cases ho
    cases hc
  have hrow : ∀ {e : TypeId} {B' size : Nat} {v : Value} {n : Nat} {xs : List Value}, W.ownsRow B' e size v n xs → v.ownBlock = none ∨ v.ownBlock ≠ r := fun {e B' size v n xs} k => by
    rcases k.2 with ⟨rfl, _⟩ | ⟨g, cap, cur, rfl, _, hgg, _⟩
    · exact .inl rfl
    · exact .inr (hne g _ _ _ hgg)
  obtain ⟨v, es, h1, h2, h3, h4⟩ := h.out
  refine ⟨⟨v, es, h1.kept hg (hne _ _ _ _ h1), World.ownsRow.kept h2 hg (hrow h2), fun e he => (h3 e he).kept hg (hrow (h3 e he).2), h4⟩, h.low.trans (gb_below hg h.low.size fun k hk => Nat.le_trans hB (hr k hk).1), fun E hE => ?_, h.marks.2⟩
  have := h.marks.1 E hE
  refine ⟨this.1, (hg.block E (Array.getElem?_eq_some_iff.1 this.2).1 fun e => ?_).trans this.2⟩
  have := (hr E e.symm).1
  have := hD E hE
  omega
theorem ScI.own {wp : World} {Bo B : Nat} {Ds : List Nat} {α : Type} {D : α → List EvD} (hB : wp.heap.size ≤ B) (hD : ∀ E, E ∈ Ds → E < B) : OwnFrom B (fun (pre : α) W => ScI wp Bo Ds (D pre) W) := fun s W W' r hs hg hr => hs.kept hg hB hr hD
/-- Behind one node's turn. -/
theorem ScI.step {wp W W5 W6 W7 : World} {Bo : Nat} {Ds : List Nat} {D : List EvD} (h : ScI wp Bo Ds D W) {v : Value} {es : List EVV} (h1 : Boxed W Bo 46 v) (h2 : OwnE W wp.heap.size v es) (h3 : DrsP W wp.heap.size es) (h4 : es.map EVV.data = D)
    {a5 : Option Addr} {n5 c5 : Nat} {xs : List Nat} {id : Int} (h5 : Own W5 W.heap.size (.slice a5 n5 c5) xs) (b5 : Below W.heap.size W W5) (b6 : Below W5.heap.size W5 W6) {g7 n7 c7 : Nat} (h7 : OwnE W7 wp.heap.size (.slice (some ⟨g7, 0, none⟩) n7 c7) (es ++ turnE id a5 n5 c5 xs)) (hg : W6.grownBy W7 v.ownBlock) (hBo : wp.heap.size ≤ Bo) :
    KeepsOthers W (W7.setCell ⟨Bo, 0, none⟩ (.slice (some ⟨g7, 0, none⟩) n7 c7)) ∧ Below wp.heap.size W (W7.setCell ⟨Bo, 0, none⟩ (.slice (some ⟨g7, 0, none⟩) n7 c7)) ∧ ScI wp Bo Ds (D ++ turnD id xs) (W7.setCell ⟨Bo, 0, none⟩ (.slice (some ⟨g7, 0, none⟩) n7 c7)) ∧ ∀ (B : Nat) (T : TypeId) (u : Value), T ≠ 46 → T ≠ 56 → Boxed W B T u → Boxed (W7.setCell ⟨Bo, 0, none⟩ (.slice (some ⟨g7, 0, none⟩) n7 c7)) B T u := by
  have b56 : Below W.heap.size W W6 := below0 b5 b6
  have k1 : OwnE W6 wp.heap.size v es := h2.below b56
  have k2 : Boxed W6 Bo 46 v := (b56.block Bo h1.lt).trans h1
  have hne : some Bo ≠ v.ownBlock := k2.not_row (by decide) k1
  have k3 : Boxed W7 Bo 46 v := k2.kept hg hne
  have hrow : ∀ (u : Value) (xs : List Nat) (B : Nat), Own W7 B u xs → u.ownBlock = none ∨ u.ownBlock ≠ some Bo := fun u xs B k => by
    by_cases e : u.ownBlock = none
    · exact .inl e
    · exact .inr (k3.not_row (by decide) k.2).symm
  have hko6 : KeepsOthers W W6 := ⟨b56.size, fun k o hk _ => (b56.block k (Array.getElem?_eq_some_iff.1 hk).1).trans hk⟩
  have hko7 : KeepsOthers W6 W7 := KeepsOthers.of_grownBy hg fun j o e hj => by
    rcases k1.2 with ⟨rfl, _⟩ | ⟨g, cap, cur, rfl, _, hgg, _⟩
    · cases e
    · have e' : g = j := by simpa [Value.ownBlock] using e
      subst e'
      rw [hgg] at hj
      cases hj
      rfl
  have hko : KeepsOthers W (W7.setCell ⟨Bo, 0, none⟩ (.slice (some ⟨g7, 0, none⟩) n7 c7)) := (hko6.trans hko7).trans (KeepsOthers.setCell _ _ _)
  have hlow6 : Below wp.heap.size W W6 := b56.mono h.low.size
  have hlow7 : Below wp.heap.size W W7 := hlow6.trans (gb_below hg (Nat.le_trans h.low.size b56.size) fun k hk => by
    rcases k1.2 with ⟨rfl, _⟩ | ⟨g, cap, cur, rfl, hgb, _⟩
    · cases hk
    · have : g = k := by simpa [Value.ownBlock] using hk
      omega)
  have hlow : Below wp.heap.size W (W7.setCell ⟨Bo, 0, none⟩ (.slice (some ⟨g7, 0, none⟩) n7 c7)) := hlow7.setCell (p := ⟨Bo, 0, none⟩) hBo _
  refine ⟨hko, hlow, ⟨⟨.slice (some ⟨g7, 0, none⟩) n7 c7, es ++ turnE id a5 n5 c5 xs, k3.set _, ?_, fun e he => ?_, ?_⟩, h.low.trans hlow, fun E hE => ?_, h.marks.2⟩, fun B T u hT1 hT2 hB => ?_⟩
  · have := World.ownsRow.kept h7 (gb_setCell W7 Bo 0 (.slice (some ⟨g7, 0, none⟩) n7 c7)) (.inr (k3.not_row (by decide) h7).symm)
    exact this
  · have hd6 : DrsP W6 wp.heap.size (es ++ turnE id a5 n5 c5 xs) := fun e he => by
      rcases List.mem_append.1 he with he | he
      · exact (h3 e he).below b56
      · rcases List.mem_append.1 he with he | he
        · rcases List.mem_cons.1 he with rfl | he
          · exact Own.nil _ _
          · rw [List.mem_singleton.1 he]
            exact (h5.below b6).mono h.low.size
        · rw [(List.mem_replicate.1 he).2]
          exact Own.nil _ _
    have hd7 := hd6.grown k1 hg e he
    have := hd7.kept (gb_setCell W7 Bo 0 (.slice (some ⟨g7, 0, none⟩) n7 c7)) (hrow _ _ _ hd7)
    exact this
  · rw [List.map_append, h4, turnE_data]
  · have := h.marks.1 E hE
    exact ⟨this.1, hko.same E _ this.2 rfl⟩
  · have q6 : Boxed W6 B T u := (b56.block B hB.lt).trans hB
    have q7 : Boxed W7 B T u := q6.kept hg (q6.not_row hT2 k1)
    refine q7.other (fun e => ?_) _
    subst e
    have := Option.some.inj (q7.symm.trans k3)
    simp only [Obj.cells.injEq] at this
    exact hT1 this.2.1
end Go.Proofs.YtakoaadimhpclaaGreatDoor
