/-
  Contract of bucketlinelaw19.few; a relay and the reference's, both with draws, side by side ('PJ'). No condition.
-/
import Derived.Test.YtbcgiodgobmkaaaGreatDoorU44
import Derived.Test.YtbcgiodgobmkaaaGreatDoorU7
namespace Go.Proofs.YtbcgiodgobmkaaaGreatDoor
open Go.RowKit Go.Sort
set_option linter.unusedVariables false
set_option linter.unusedSimpArgs false
set_option maxRecDepth 4000

set_option maxHeartbeats 1000000 in
theorem few19_any (a : Option Addr) (n c : Nat) (ds : List DV) (w : World) (h : DeedsAt w a n ds) (hn : n ≤ 9223372036854775807) (hbig : ∀ i, (ds.getD i .dflt).p.r.n ≤ 9223372036854775807 ∧ (ds.getD i .dflt).p.r.s.size ≤ 9223372036854775807) :
    Calls Tryz.prog 5 #[.slice a n c] w fun e w' => ((e = .returned (.bool true) ∧ FewDs ds) ∨ (e = .returned (.bool false) ∧ ¬ FewDs ds)) ∧ w' = w := by
  obtain rfl := h.1
  by_cases h3 : 60 < ds.length
  · have hd : decide (60 < (ds.length : Int)) = true := by simp; omega
    clear h
    go_enter Tryz.func5, Tryz.ntmps5
    go_wp2
    go_ret
    exact ⟨.inr ⟨rfl, fun h => by have := h.1; omega⟩, rfl⟩
  · have hd : decide (60 < (ds.length : Int)) = false := by simp; omega
    go_enter Tryz.func5, Tryz.ntmps5
    go_wp2
    go_loop [3] (fun i => ∃ k : Nat, k ≤ ds.length ∧ i = .int .i64 k ∧ Hid (∀ j, j < k → (ds.getD j .dflt).p.r.n ≤ 10 ∧ (ds.getD j .dflt).p.r.s.size ≤ 1000)) (fun i => ds.length - (intOf i).toNat)
    case atStart => exact ⟨0, Nat.zero_le _, rfl, hide (fun j hj => by omega)⟩
    case round =>
      obtain ⟨k, hk, rfl, HZ⟩ := hrel
      by_cases hlt : k < ds.length
      · obtain ⟨b, off, rfl, hc⟩ := h.at hlt
        obtain ⟨-, -, -, -, -, -, hc0, hc1⟩ := hc k hlt
        have hlt' : (k : Int) < (ds.length : Int) := by omega
        have hbk := hbig k
        clear hc h
        by_cases h1 : 10 < (ds.getD k .dflt).p.r.n
        · have hd1 : decide (10 < ((ds.getD k .dflt).p.r.n : Int)) = true := by simp only [decide_eq_true_eq]; omega
          have HF : Hid (¬ FewDs ds) := hide (fun h => by have := (h.2 k).1; omega)
          clear hbig
          generalize (ds.getD k .dflt).p.r = x at *
          go_wp2
          go_ret
          exact ⟨.inr ⟨rfl, unhide HF⟩, rfl⟩
        · have hd1 : decide (10 < ((ds.getD k .dflt).p.r.n : Int)) = false := by simp only [decide_eq_false_iff_not]; omega
          by_cases h2 : 1000 < (ds.getD k .dflt).p.r.s.size
          · have hd2 : decide (1000 < ((ds.getD k .dflt).p.r.s.size : Int)) = true := by simp only [decide_eq_true_eq]; omega
            have HF : Hid (¬ FewDs ds) := hide (fun h => by have := (h.2 k).2; omega)
            clear hbig
            generalize (ds.getD k .dflt).p.r = x at *
            go_wp2
            go_ret
            exact ⟨.inr ⟨rfl, unhide HF⟩, rfl⟩
          · have hd2 : decide (1000 < ((ds.getD k .dflt).p.r.s.size : Int)) = false := by simp only [decide_eq_false_iff_not]; omega
            have HS := hide (show ∀ j, j < k + 1 → (ds.getD j .dflt).p.r.n ≤ 10 ∧ (ds.getD j .dflt).p.r.s.size ≤ 1000 from fun j hj => by
              by_cases e : j = k
              · rw [e]; omega
              · exact unhide HZ j (by omega))
            generalize (ds.getD k .dflt).p.r = x at *
            clear HZ hbig
            go_wp2
            go_round
            case rel => exact ⟨k + 1, by omega, by go_num, HS⟩
            case measure => simp [intOf]; omega
      · have HF : Hid (FewDs ds) := hide ⟨by omega, fun i => by
          by_cases hi : i < k
          · exact unhide HZ i hi
          · rw [List.getD_eq_getElem?_getD, List.getElem?_eq_none (by omega)]
            exact ⟨Nat.zero_le _, Nat.zero_le _⟩⟩
        clear h HZ hbig
        go_wp2
        go_ret
        exact ⟨.inl ⟨rfl, unhide HF⟩, rfl⟩

/-- A relay and the reference's, each with its draws: side by side. -/
structure PJ (W w : World) (g gb m : Nat) (t i : Int) (v : Value) (qs : List PKV) (z : Nat) (ib : Int) (vc : Value) (cs ps : List PKV) (gd Bd : Nat) (D : List Nat) (N : Nat) (gr : Nat) (a' : Option Addr) (c' : Nat) (M : Nat) : Prop where
  r : RlAt w g gb W.heap.size m t i v qs
  c : BkA 32 w z (rrC m t ib vc)
  own : OwnP w W.heap.size vc cs
  src : ∀ q ∈ cs, q ∈ ps
  sep : ∀ j, v.ownBlock = some j → vc.ownBlock ≠ some j
  d : DrAt w gd Bd D N
  bd : Bd ≤ w.heap.size
  f : Bk2 38 w gr (.slice a' D.length c') (.int .i64 (M : Int))
  lod : W.heap.size ≤ gd
  lor : W.heap.size ≤ gr
  loz : W.heap.size ≤ z
  low : Below W.heap.size W w
theorem PJ.below {W w w' : World} {g gb m : Nat} {t i : Int} {v : Value} {qs : List PKV} {z : Nat} {ib : Int} {vc : Value} {cs ps : List PKV} {gd Bd : Nat} {D : List Nat} {N gr : Nat} {a' : Option Addr} {c' M : Nat} (h : PJ W w g gb m t i v qs z ib vc cs ps gd Bd D N gr a' c' M) (hb : Below w.heap.size w w') : PJ W w' g gb m t i v qs z ib vc cs ps gd Bd D N gr a' c' M :=
  ⟨h.r.below hb, h.c.below hb, h.own.below hb, h.src, h.sep, h.d.below (hb.mono h.bd), Nat.le_trans h.bd hb.size, h.f.below hb, h.lod, h.lor, h.loz, below0 h.low hb⟩
/-- The program's draws have turned. -/
theorem PJ.drawD {W w w' : World} {g gb m : Nat} {t i : Int} {v : Value} {qs : List PKV} {z : Nat} {ib : Int} {vc : Value} {cs ps : List PKV} {gd Bd : Nat} {D : List Nat} {N N' gr : Nat} {a' : Option Addr} {c' M : Nat} (h : PJ W w g gb m t i v qs z ib vc cs ps gd Bd D N gr a' c' M) (hd : DrAt w' gd Bd D N') (hg : w.grownBy w' (some gd)) : PJ W w' g gb m t i v qs z ib vc cs ps gd Bd D N' gr a' c' M := by
  obtain ⟨a, n, c, hk⟩ := h.d.bk
  have ht : Tu (fun j => j = gd) w w' := Tu.of_gb hg fun j _ e => (Option.some.inj e).symm
  refine ⟨h.r.drawn hk (by decide) (by decide) (by decide) (by decide) hg, h.c.kept hg (fun e => hk.not h.c (by decide) (Option.some.inj e)), h.own.tu ht (fun j hj => ?_), h.src, h.sep, hd, Nat.le_trans h.bd hg.size, h.f.kept hg (fun e => hk.not h.f (by decide) (Option.some.inj e)), h.lod, h.lor, h.loz, h.low.trans (gb_low hg h.low.size h.lod)⟩
  obtain ⟨cur, hc⟩ := h.own.blk hj
  exact hk.not hc (by decide)
/-- The reference's draws have turned. -/
theorem PJ.drawF {W w w' : World} {g gb m : Nat} {t i : Int} {v : Value} {qs : List PKV} {z : Nat} {ib : Int} {vc : Value} {cs ps : List PKV} {gd Bd : Nat} {D : List Nat} {N gr : Nat} {a' : Option Addr} {c' M M' : Nat} (h : PJ W w g gb m t i v qs z ib vc cs ps gd Bd D N gr a' c' M) (hf : Bk2 38 w' gr (.slice a' D.length c') (.int .i64 (M' : Int))) (hg : w.grownBy w' (some gr)) : PJ W w' g gb m t i v qs z ib vc cs ps gd Bd D N gr a' c' M' := by
  have hk := h.f
  have ht : Tu (fun j => j = gr) w w' := Tu.of_gb hg fun j _ e => (Option.some.inj e).symm
  obtain ⟨a, n, c, hdk⟩ := h.d.bk
  refine ⟨h.r.drawn hk (by decide) (by decide) (by decide) (by decide) hg, h.c.kept hg (fun e => hk.not h.c (by decide) (Option.some.inj e)), h.own.tu ht (fun j hj => ?_), h.src, h.sep, h.d.kept hg (hk.not hdk (by decide)) hk, Nat.le_trans h.bd hg.size, hf, h.lod, h.lor, h.loz, h.low.trans (gb_low hg h.low.size h.lor)⟩
  obtain ⟨cur, hc⟩ := h.own.blk hj
  exact hk.not hc (by decide)
/-- The program's relay has turned. -/
theorem PJ.relay {W w w' : World} {g gb m : Nat} {t i i' : Int} {v v' : Value} {qs qs' : List PKV} {z : Nat} {ib : Int} {vc : Value} {cs ps : List PKV} {gd Bd : Nat} {D : List Nat} {N gr : Nat} {a' : Option Addr} {c' M : Nat} (h : PJ W w g gb m t i v qs z ib vc cs ps gd Bd D N gr a' c' M) (hr : RlAt w' g gb W.heap.size m t i' v' qs') (ht : Tu (rlF g gb v) w w') (hm : MvB w v v') : PJ W w' g gb m t i' v' qs' z ib vc cs ps gd Bd D N gr a' c' M := by
  refine ⟨hr, h.c.tu ht (fun hf => ?_), h.own.tu ht (fun j hj hf => ?_), h.src, fun j hj e => ?_, h.r.draws h.d ht, Nat.le_trans h.bd ht.size, (ht.block gr h.f.lt (h.r.apart h.f (by decide) (by decide) (by decide))).trans h.f, h.lod, h.lor, h.loz, h.r.step h.low ht⟩
  · rcases hf with e | e | e
    · exact h.r.blk.ne h.c (by decide) e.symm
    · exact h.r.buf.blk.ne h.c (by decide) e.symm
    · exact h.c.neP h.r.buf.own (by decide) e
  · rcases hf with e | e | e
    · exact h.r.blk.neP h.own (by decide) (e ▸ hj)
    · exact h.r.buf.blk.neP h.own (by decide) (e ▸ hj)
    · exact h.sep j e hj
  · rcases hm with q | q
    · exact h.sep j (q ▸ hj) e
    · have h1 := q j hj
      have h2 := (World.ownsRow.lt h.own j e).2
      omega
/-- The reference's relay is written: its incarnation and its packets. -/
theorem PJ.write {W w w' : World} {g gb m : Nat} {t i : Int} {v : Value} {qs : List PKV} {z : Nat} {ib ib' : Int} {vc vc' : Value} {cs cs' ps : List PKV} {gd Bd : Nat} {D : List Nat} {N gr : Nat} {a' : Option Addr} {c' M : Nat} (h : PJ W w g gb m t i v qs z ib vc cs ps gd Bd D N gr a' c' M) (hc : BkA 32 w' z (rrC m t ib' vc')) (ht : Tu (fun j => j = z) w w') (ho : OwnP w W.heap.size vc' cs') (hs : ∀ q ∈ cs', q ∈ ps) (hp : ∀ j, v.ownBlock = some j → vc'.ownBlock ≠ some j) : PJ W w' g gb m t i v qs z ib' vc' cs' ps gd Bd D N gr a' c' M := by
  obtain ⟨a, n, c, hdk⟩ := h.d.bk
  refine ⟨h.r.tu ht (fun j hj e => ?_) (fun j cur hu e => h.c.ne hu (by decide) e.symm), hc, ho.tu ht (fun j hj e => h.c.neP ho (by decide) (e ▸ hj)), hs, hp, h.d.tu ht (fun e => h.c.ne hdk (by decide) e.symm) (fun j cur hu e => h.c.ne hu (by decide) e.symm), Nat.le_trans h.bd ht.size, (ht.block gr h.f.lt (fun e => h.c.ne h.f (by decide) e.symm)).trans h.f, h.lod, h.lor, h.loz, h.low.trans (ht.below h.low.size fun j hj e => by have := h.loz; omega)⟩
  subst e
  rcases hj with e | e | e
  · exact h.r.blk.ne h.c (by decide) e.symm
  · exact h.r.buf.blk.ne h.c (by decide) e.symm
  · exact h.c.neP h.r.buf.own (by decide) e
theorem set_tu2 (w : World) (z i j : Nat) (u v : Value) : Tu (fun k => k = z) w ((w.setCell ⟨z, i, none⟩ u).setCell ⟨z, j, none⟩ v) := (tu_set w z i u).trans (tu_set _ z j v) fun _ _ e => e
theorem set_tu4 (w : World) (z : Nat) (u0 u1 u2 u3 : Value) : Tu (fun k => k = z) w ((((w.setCell ⟨z, 0, none⟩ u0).setCell ⟨z, 1, none⟩ u1).setCell ⟨z, 2, none⟩ u2).setCell ⟨z, 3, none⟩ u3) := (set_tu2 w z 0 1 u0 u1).trans (set_tu2 _ z 2 3 u2 u3) fun _ _ e => e
theorem BkA.set4 {w : World} {z : Nat} {u0 u1 u2 u3 : Value} (h : BkA 32 w z [u0, u1, u2, u3]) (v0 v1 v2 v3 : Value) : BkA 32 ((((w.setCell ⟨z, 0, none⟩ v0).setCell ⟨z, 1, none⟩ v1).setCell ⟨z, 2, none⟩ v2).setCell ⟨z, 3, none⟩ v3) z [v0, v1, v2, v3] := (((h.set 0 v0).set 1 v1).set 2 v2).set 3 v3
/-- The sep of a put: what the reference keeps lies elsewhere. -/
theorem PJ.sep' {W w w' : World} {g gb m : Nat} {t i : Int} {v : Value} {qs : List PKV} {z : Nat} {ib : Int} {vc vc' : Value} {cs cs' ps : List PKV} {gd Bd : Nat} {D : List Nat} {N gr : Nat} {a' : Option Addr} {c' M : Nat} (h : PJ W w g gb m t i v qs z ib vc cs ps gd Bd D N gr a' c' M) (hb : Below w.heap.size w w') (ho : (vc' = vc ∧ cs' = cs) ∨ OwnP w' w.heap.size vc' cs') : OwnP w' W.heap.size vc' cs' ∧ ∀ j, v.ownBlock = some j → vc'.ownBlock ≠ some j := by
  rcases ho with ⟨rfl, rfl⟩ | ho
  · exact ⟨h.own.below hb, h.sep⟩
  · refine ⟨ho.mono h.low.size, fun j hj e => ?_⟩
    have h1 := (World.ownsRow.lt ho j e).1
    have h2 := (World.ownsRow.lt h.r.buf.own j hj).2
    omega
end Go.Proofs.YtbcgiodgobmkaaaGreatDoor
