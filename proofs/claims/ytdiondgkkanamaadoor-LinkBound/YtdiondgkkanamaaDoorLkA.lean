/-
  A link in memory ('LkAt': its block, its bucket's, its queue's and the queue's channel); contracts of link.fill and link.New. No condition.
-/
import Derived.Test.YtdiondgkkanamaaDoorG3
import Derived.Test.YtdiondgkkanamaaDoorBE
import Derived.Test.YtdiondgkkanamaaDoorG4
namespace Go.Proofs.YtdiondgkkanamaaDoor
open Go.RowKit Go.Conc
set_option linter.unusedVariables false
set_option maxRecDepth 4000

/-- A link at block g, its bucket at gb, its queue at gq, the queue's channel at c: M thousandths a tick, made of q; Lv thousandths are there, L wait, lo were lost. -/
structure LkAt (w : World) (g gb gq c : Nat) (M q Lv : Int) (L : List ByteArray) (lo : Nat) : Prop where
  blk : BkA 52 w g [.int .i64 M, .int .i64 q, .pointer (some ⟨gb, 0, none⟩), .pointer (some ⟨gq, 0, none⟩)]
  bt : BtAt w gb M (1000 * wiZ q 1 256) Lv
  qu : QuAt w gq c (capN q) L lo
/-- What is the link's. -/
def lkF (g gb gq c : Nat) (j : Nat) : Prop := j = g ∨ j = gb ∨ j = gq ∨ j = c
theorem BkA.neC {T : TypeId} {w : World} {g c : Nat} {cs : List Value} {cap : Nat} {buf : Array Value} {cl : Bool} {s r : Nat} {tm : Bool} (h : BkA T w g cs) (hc : w.heap[c]? = some (.chan cap buf cl s r tm)) : g ≠ c := fun e => by
  unfold BkA at h
  rw [e, hc] at h
  cases h
theorem BkA.neB {T T' : TypeId} {w : World} {g g' : Nat} {cs cs' : List Value} (h : BkA T w g cs) (h' : BkA T' w g' cs') (hT : T ≠ T') : g ≠ g' := by
  unfold BkA at h'
  exact h.ne h' hT
theorem LkAt.lt {w : World} {g gb gq c lo : Nat} {M q Lv : Int} {L : List ByteArray} (h : LkAt w g gb gq c M q Lv L lo) : g < w.heap.size ∧ gb < w.heap.size ∧ gq < w.heap.size ∧ c < w.heap.size :=
  ⟨h.blk.lt, h.bt.blk.lt, h.qu.lt.1, h.qu.lt.2⟩
theorem LkAt.ne {w : World} {g gb gq c lo : Nat} {M q Lv : Int} {L : List ByteArray} (h : LkAt w g gb gq c M q Lv L lo) : (g ≠ gb ∧ g ≠ gq ∧ g ≠ c) ∧ (gb ≠ gq ∧ gb ≠ c) ∧ gq ≠ c := by
  obtain ⟨s, r, hc⟩ := h.qu.chn
  exact ⟨⟨h.blk.neB h.bt.blk (by decide), h.blk.neB h.qu.blk (by decide), h.blk.neC hc⟩, ⟨h.bt.blk.neB h.qu.blk (by decide), h.bt.blk.neC hc⟩, h.qu.ne⟩
theorem LkAt.tu {F : Nat → Prop} {w w' : World} {g gb gq c lo : Nat} {M q Lv : Int} {L : List ByteArray} (h : LkAt w g gb gq c M q Lv L lo) (ht : Tu F w w') (h1 : ¬ F g) (h2 : ¬ F gb) (h3 : ¬ F gq) (h4 : ¬ F c) : LkAt w' g gb gq c M q Lv L lo :=
  ⟨h.blk.tu ht h1, h.bt.tu ht h2, h.qu.tu ht h3 h4⟩
theorem LkAt.below {w w' : World} {g gb gq c lo : Nat} {M q Lv : Int} {L : List ByteArray} (h : LkAt w g gb gq c M q Lv L lo) (hb : Below w.heap.size w w') : LkAt w' g gb gq c M q Lv L lo :=
  h.tu (F := fun _ => False) (Tu.of_below hb) id id id id
theorem LkAt.belowB {B : Nat} {w w' : World} {g gb gq c lo : Nat} {M q Lv : Int} {L : List ByteArray} (h : LkAt w g gb gq c M q Lv L lo) (hb : Below B w w') (h1 : g < B) (h2 : gb < B) (h3 : gq < B) (h4 : c < B) : LkAt w' g gb gq c M q Lv L lo :=
  ⟨h.blk.belowB hb h1, ⟨h.bt.blk.belowB hb h2, h.bt.mil, h.bt.top, h.bt.lev⟩, h.qu.belowB hb h3 h4⟩
/-- Another level of the bucket. -/
theorem LkAt.lev {w w' : World} {g gb gq c lo : Nat} {M q Lv Lv' : Int} {L : List ByteArray} (h : LkAt w g gb gq c M q Lv L lo) (hb : BtAt w' gb M (1000 * wiZ q 1 256) Lv') (ht : Tu (fun j => j = gb) w w') : LkAt w' g gb gq c M q Lv' L lo :=
  ⟨h.blk.tu ht h.ne.1.1, hb, h.qu.tu ht (fun e => h.ne.2.1.1 e.symm) (fun e => h.ne.2.1.2 e.symm)⟩
/-- Other texts that wait. -/
theorem LkAt.que {w w' : World} {g gb gq c lo lo' : Nat} {M q Lv : Int} {L L' : List ByteArray} (h : LkAt w g gb gq c M q Lv L lo) (hq : QuAt w' gq c (capN q) L' lo') (ht : Tu (quF gq c) w w') : LkAt w' g gb gq c M q Lv L' lo' :=
  ⟨h.blk.tu ht (fun e => e.elim h.ne.1.2.1 h.ne.1.2.2), h.bt.tu ht (fun e => e.elim h.ne.2.1.1 h.ne.2.1.2), hq⟩
theorem lk_bt {g gb gq c : Nat} {w w' : World} (ht : Tu (fun j => j = gb) w w') : Tu (lkF g gb gq c) w w' := ht.wide fun j e => .inr (.inl e)
theorem lk_qu {g gb gq c : Nat} {w w' : World} (ht : Tu (quF gq c) w w') : Tu (lkF g gb gq c) w w' := ht.wide fun j e => .inr (.inr e)
theorem lk_trans {g gb gq c : Nat} {w w1 w2 : World} (h : Tu (lkF g gb gq c) w w1) (k : Tu (lkF g gb gq c) w1 w2) : Tu (lkF g gb gq c) w w2 := h.trans k fun _ _ e => e

set_option maxHeartbeats 2000000 in
theorem lkfill_any (g : Nat) (M q : Int) (u v : Value) (w : World) (h : BkA 52 w g [.int .i64 M, .int .i64 q, u, v]) (hM : 0 ≤ M ∧ M ≤ 1000000) :
    Calls Tryd.prog 17 #[.pointer (some ⟨g, 0, none⟩)] w fun e w' => e = .returned (.tuple #[]) ∧ ∃ gb, w.heap.size ≤ gb ∧ BkA 52 w' g [.int .i64 M, .int .i64 q, .pointer (some ⟨gb, 0, none⟩), v] ∧ BtAt w' gb M (1000 * wiZ q 1 256) (1000 * wiZ q 1 256) ∧ Tu (fun j => j = g) w w' := by
  have h0 := h.at 0 rfl
  have h1 := h.at 1 rfl
  have hN : ∀ wx, Below w.heap.size w wx → Calls Tryd.prog 27 #[.int .i64 M, .int .i64 q] wx fun e w' => ∃ gb, e = .returned (.pointer (some ⟨gb, 0, none⟩)) ∧ Hid (w.heap.size ≤ gb ∧ BkA 52 w' g [.int .i64 M, .int .i64 q, u, v] ∧ BtAt w' gb M (1000 * wiZ q 1 256) (1000 * wiZ q 1 256) ∧ Below w.heap.size w w') := by
    intro wx hx
    refine (pcnew_ex M q wx).mono ?_
    rw [wiZ_id hM.1 hM.2]
    rintro e w' ⟨gb, he, h2, h3, h4⟩
    exact ⟨gb, he, hide ⟨Nat.le_trans hx.size h2, h.below (below0 hx h4), h3, below0 hx h4⟩⟩
  have HN := hide (hN _ (Below.refl w.heap.size w).drew)
  clear hN
  have H := hide h
  clear h
  go_enter Tryd.func17, Tryd.ntmps17
  go_wp2_with fail
  go_region_law (first
    | (go_simp; go_at_call 27; refine (unhide HN).mono ?_; rintro e w1 ⟨gb, rfl, HG⟩; have k1 := (unhide HG).2.1.frz 2; have k2 := (unhide HG).2.1.at 2 rfl))
  all_goals go_wp2
  all_goals go_end0
  all_goals refine ⟨rfl, gb, (unhide HG).1, (unhide HG).2.1.set 2 _, (unhide HG).2.2.1.tu (tu_set _ _ _ _) (fun e => ?_), Tu.after (unhide HG).2.2.2 (tu_set _ _ _ _)⟩
  all_goals exact (unhide HG).2.1.neB (unhide HG).2.2.1.blk (by decide) e.symm
set_option maxHeartbeats 1000000 in
theorem lknew_any (b : Nat) (hb : b < 18446744073709551616) (q : Int) (w : World) :
    Calls Tryd.prog 8 #[.float .f64 b, .int .i64 q] w fun e w' => ∃ g gb gq c, e = .returned (.pointer (some ⟨g, 0, none⟩)) ∧ (w.heap.size ≤ g ∧ w.heap.size ≤ gb ∧ w.heap.size ≤ gq ∧ w.heap.size ≤ c) ∧ LkAt w' g gb gq c (milZ b : Nat) q (1000 * wiZ q 1 256) [] 0 ∧ Below w.heap.size w w' := by
  have hM : 0 ≤ ((milZ b : Nat) : Int) ∧ ((milZ b : Nat) : Int) ≤ 1000000 := by have := milZ_le b; omega
  have HM := hide (milli_any b hb w)
  generalize ((milZ b : Nat) : Int) = M at *
  go_enter Tryd.func8, Tryd.ntmps8
  go_wp2_with (first
    | (go_at_call 15; refine (unhide HM).mono ?_; rintro e w1 ⟨rfl, hw1⟩; obtain rfl := hw1.symm; clear hw1)
    | (go_at_call 16; refine (qunew_any q _).mono ?_; rintro e w1 ⟨gq, c, rfl, hg1, hc1, hm1, hb1⟩; have HQ := hide (And.intro hm1 (And.intro hb1 (And.intro hg1 hc1))); clear hg1 hc1 hm1 hb1)
    | (go_at_call 17; refine (lkfill_any _ M q (.pointer none) (.pointer (some ⟨gq, 0, none⟩)) _ (bkA_new 52 w1 [.int .i64 M, .int .i64 q, .pointer none, .pointer (some ⟨gq, 0, none⟩)]) hM).mono ?_; rintro e w3 ⟨rfl, gb, hg3, hk3, hb3, ht3⟩; have HK := hide (And.intro hg3 (And.intro hk3 (And.intro hb3 ht3))); clear hg3 hk3 hb3 ht3)
    | fail)
  go_ret
  obtain ⟨hm1, hb1, hg1, hc1⟩ := unhide HQ
  obtain ⟨hg3, hk3, hb3, ht3⟩ := unhide HK
  have hz : w.heap.size ≤ w1.heap.size := hb1.size
  have hal := alloc_low w1 (.cells #[.int .i64 M, .int .i64 q, .pointer none, .pointer (some ⟨gq, 0, none⟩)] 52)
  have hq1 := hm1.below hal
  refine ⟨w1.heap.size, gb, gq, c, rfl, ⟨hz, ?_, hg1, hc1⟩, ⟨hk3, hb3, hq1.tu ht3 (fun e => ?_) (fun e => ?_)⟩, tu_low (below0 hb1 hal) ht3 hz⟩
  · have := hal.size; omega
  · have := hm1.lt.1; omega
  · have := hm1.lt.2; omega
end Go.Proofs.YtdiondgkkanamaaDoor
