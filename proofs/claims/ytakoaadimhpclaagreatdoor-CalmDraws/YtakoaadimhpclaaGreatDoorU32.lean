/-
  Contracts of calm.hops and of what it gives: all steps, one by one. Condition: the nodes can be read.
-/
import Derived.Test.YtakoaadimhpclaaGreatDoorU31
import Derived.RangeFuncNested
import Derived.RangeFuncBound
import Derived.RangeFuncCalls
import Derived.RangeFuncLeaves
import Derived.Shelf.Abstract
import Derived.Shelf.RegionOpen
import Derived.WalkKit
import Derived.OwnWalkIn
import Derived.TacticsInMore
import Derived.LoopNIn
import Derived.LoopIn
namespace Go.Proofs.YtakoaadimhpclaaGreatDoor
open Go.RowKit Go.Sort Go.Shelf
set_option linter.unusedVariables false
set_option linter.unusedSimpArgs false
set_option maxRecDepth 4000
attribute [local go_sem] Oper.semAt_some

/-- A step of a way. -/
abbrev EdgeT (ds : List NDV) (n : Nat) := { e : Nat × Nat // e.1 < n ∧ e.2 < n ∧ ((e.2 : Nat) : Int) ∈ tosN ds e.1 }
/-- Which steps have come: all of the first i nodes, and the first k of the next one. -/
def CameP (ds : List NDV) (n i k : Nat) (pre : List (EdgeT ds n)) : Prop :=
  pre.length ≤ 8 * i + k ∧ (∀ i' j : Nat, i' < i → i' < n → (j : Int) ∈ tosN ds i' → ∃ x ∈ pre, x.1 = (i', j)) ∧ ∀ q, q < k → ∃ x ∈ pre, x.1 = (i, ((tosN ds i).getD q 0).toNat)
/-- May all be stepped along? -/
def StepP (ds : List NDV) (n : Nat) : Prop := WayP ds n ∧ ∀ i, i < n → (tosN ds i).length ≤ 7

set_option maxRecDepth 100000 in
set_option maxHeartbeats 4000000 in
theorem hops1_stops (n : Nat) (hn : 1 ≤ n) (Bl : Nat) (a : Option Addr) (N c : Nat) (ds : List NDV) (w0 w : World) (hb : Below w0.heap.size w0 w) (hd : NdsAt w0 a N ds) (hp : StepP ds N) (hBl : w.cell? ⟨Bl, 0, none⟩ = some (.slice a N c)) :
    SeqStopsK Fence.wide n Tryz.prog 76 #[.pointer (some ⟨Bl, 0, none⟩)] (fun x : EdgeT ds N => #[Value.int .i64 (x.1.1 : Int), Value.int .i64 (x.1.2 : Int)]) (Below w0.heap.size) (fun ys => ∀ i j : Nat, i < N → (j : Int) ∈ tosN ds i → ∃ x ∈ ys, x.1 = (i, j)) (fun _ => True) 64 w := by
  intro l J Jx W hW hJ hJx hY h0
  have hN8 := hp.1.1
  have hc0 := (hW.cell (p := ⟨Bl, 0, none⟩) (World.block_lt_of_cell? w _ hBl)).trans hBl
  have HB0 := hide (hb.trans (hW.mono hb.size))
  have HD := hide hd
  have HP := hide hp
  have HJ := hide hJ
  have HY := hide hY
  clear hd hp hJ hY hb hW hBl
  refine callsIn_of_wp Tryz.func76 rfl trivial ?_ rfl
  simp only [Tryz.ntmps76, List.size_toArray, List.length_cons, List.length_nil, Nat.reduceAdd, Nat.reduceSub, Array.replicate_succ, Array.replicate_zero, List.push_toArray, List.append_toArray, List.nil_append, List.cons_append]
  gi_wp2
  gi_loopw [9] (fun i wr => ∃ (k : Nat) (pre : List (EdgeT ds N)), k ≤ N ∧ i = .int .i64 k ∧ Hid (J pre wr) ∧ Hid (CameP ds N k 0 pre) ∧ Hid (Below w0.heap.size w0 wr) ∧ Hid (W.heap.size ≤ wr.heap.size)) (fun i _ => N - (intOf i).toNat)
  case atStart => exact ⟨0, [], Nat.zero_le _, rfl, hide h0, hide ⟨Nat.le_refl _, fun i' j h => by omega, fun q h => by omega⟩, HB0, hide (Nat.le_refl _)⟩
  case round =>
    obtain ⟨k, pre, hk, rfl, HJs, HC, HB, HS⟩ := hrel
    rename World => wr
    by_cases hlt : k < N
    · have hlt' : (k : Int) < (N : Int) := by omega
      have hd := (unhide HD).below (unhide HB)
      obtain ⟨b, off, rfl, hcl⟩ := hd.at hlt
      obtain ⟨hc1, hc2⟩ := hcl k hlt
      have hlen : (tosN ds k).length ≤ 7 := (unhide HP).2 k hlt
      have HI := hide (show IntzAt w0 (ds.getD k .dflt).a (ds.getD k .dflt).n (tosN ds k) from (unhide HD).2.1 k hlt)
      have htn : (ds.getD k .dflt).n = (tosN ds k).length := (unhide HI).1.symm
      have HE := hide (show ∀ q, q < (tosN ds k).length → ((((tosN ds k).getD q 0).toNat : Nat) : Int) = (tosN ds k).getD q 0 ∧ ((tosN ds k).getD q 0).toNat < N ∧ (tosN ds k).getD q 0 ∈ tosN ds k from fun q hq => by
        have hm : (tosN ds k).getD q 0 ∈ tosN ds k := by
          rw [List.getD_eq_getElem?_getD, List.getElem?_eq_getElem hq]
          exact List.getElem_mem hq
        have := (unhide HP).1.2 k hlt _ hm
        exact ⟨by omega, by omega, hm⟩)
      rw [htn] at hc2 HI
      clear hcl hd htn
      generalize ds.getD k .dflt = d at *
      obtain ⟨Wa, hWa⟩ : ∃ Wa, Wa = wr.alloc (.cells #[.int .i64 d.kd, .slice d.a (tosN ds k).length d.c] 83) := ⟨_, rfl⟩
      have HBa := hide (show Below wr.heap.size wr Wa from by rw [hWa]; exact alloc_low wr _)
      have HJa := hide (show J pre Wa from (unhide HJ) pre wr Wa none (unhide HJs) (by rw [hWa]; exact World.grownBy_alloc wr _ none) (fun r e => by cases e))
      have HC1 := hide (show CameP ds N k 0 pre from unhide HC)
      gi_wp2
      rw [← hWa]
      clear hWa hc1 hc2 HJs HC
      gi_loopw [17] (fun i wq => ∃ (q : Nat) (pr : List (EdgeT ds N)), q ≤ (tosN ds k).length ∧ i = .int .i64 q ∧ Hid (J pr wq) ∧ Hid (CameP ds N k q pr) ∧ Hid (Below w0.heap.size w0 wq) ∧ Hid (Wa.heap.size ≤ wq.heap.size)) (fun i _ => (tosN ds k).length - (intOf i).toNat)
      case atStart => exact ⟨0, pre, Nat.zero_le _, rfl, HJa, HC1, hide (below0 (unhide HB) (unhide HBa)), hide (Nat.le_refl _)⟩
      case round =>
        obtain ⟨q, pr, hq, rfl, HJq, HCq, HBq, HSq⟩ := hrel
        rename World => wq
        by_cases hql : q < (tosN ds k).length
        · have hql' : (q : Int) < ((tosN ds k).length : Int) := by omega
          obtain ⟨b', off', ha', hcq⟩ := ((unhide HI).below (unhide HBq)).at hql
          have hcq0 := hcq q hql
          obtain ⟨he1, he2, he3⟩ := (unhide HE) q hql
          have hx : k < N ∧ ((tosN ds k).getD q 0).toNat < N ∧ ((((tosN ds k).getD q 0).toNat : Nat) : Int) ∈ tosN ds k := ⟨hlt, he2, by rw [he1]; exact he3⟩
          obtain ⟨fn, tmps, assign, body, hy, hR⟩ := (unhide HY) pr ⟨(k, ((tosN ds k).getD q 0).toNat), hx⟩ wq (unhide HJq) (by have := (unhide HCq).1; omega)
          dsimp only at hy
          rw [he1] at hy
          rw [ha']
          have HC2 := hide (show CameP ds N k (q + 1) (pr ++ [⟨(k, ((tosN ds k).getD q 0).toNat), hx⟩]) from by
            obtain ⟨g1, g2, g3⟩ := unhide HCq
            refine ⟨by simp; omega, fun i' j hi hi2 hj => ?_, fun q' hq' => ?_⟩
            · obtain ⟨x, hx1, hx2⟩ := g2 i' j hi hi2 hj
              exact ⟨x, List.mem_append_left _ hx1, hx2⟩
            · by_cases e : q' = q
              · exact ⟨_, List.mem_append_right _ (List.mem_singleton.2 rfl), by rw [e]⟩
              · obtain ⟨x, hx1, hx2⟩ := g3 q' (by omega)
                exact ⟨x, List.mem_append_left _ hx1, hx2⟩)
          clear hcq he1 he2 he3 HJq HCq ha'
          generalize (tosN ds k).getD q 0 = t at *
          gi_wp2
          refine hR.mono ?_
          rintro e W3 (⟨rfl, hJ3, hk3⟩ | ⟨rfl, hJx3⟩)
          · have HJ3 := hide hJ3
            have HB3 := hide ((unhide HBq).trans hk3)
            have HS3 := hide (Nat.le_trans (unhide HSq) hk3.size)
            clear hJ3 hk3
            gi_wp2
            go_roundw
            case rel => exact ⟨q + 1, _, hql, by go_num, HJ3, HC2, HB3, HS3⟩
            case measure => simp [intOf]; omega
          · gi_wp2
            refine bodyPost_ret (results_none rfl _ _ _) rfl ?_
            exact ⟨⟨_, rfl⟩, .inr ⟨_, trivial, hJx3⟩⟩
        · obtain rfl : q = (tosN ds k).length := by omega
          have HC2 := hide (show CameP ds N (k + 1) 0 pr from by
            obtain ⟨g1, g2, g3⟩ := unhide HCq
            refine ⟨by omega, fun i' j hi hi2 hj => ?_, fun q' hq' => by omega⟩
            by_cases e : i' = k
            · subst e
              obtain ⟨q', hq', hq2⟩ := (mem_takeZ (xs := tosN ds i') (Nat.le_refl _) (j : Int)).1 (by rw [List.take_length]; exact hj)
              obtain ⟨x, hx1, hx2⟩ := g3 q' hq'
              exact ⟨x, hx1, by rw [hx2, hq2, Int.toNat_natCast]⟩
            · exact g2 i' j (by omega) hi2 hj)
          have HSz := hide (show W.heap.size ≤ wq.heap.size from Nat.le_trans (unhide HS) (Nat.le_trans (unhide HBa).size (unhide HSq)))
          gi_wp2
          go_roundw
          case rel => exact ⟨k + 1, pr, hlt, by go_num, HJq, HC2, HBq, HSz⟩
          case measure => simp [intOf]; omega
    · obtain rfl : k = N := by omega
      gi_wp2
      go_end0
      exact ⟨⟨_, rfl⟩, .inl ⟨pre, fun i j hi hj => (unhide HC).2.1 i j hi hi hj, unhide HJs⟩⟩
/-- What calm.hops gives. -/
theorem hops_any (a : Option Addr) (N c : Nat) (w : World) :
    Calls Tryz.prog 60 #[.slice a N c] w fun e w' => e = .returned (.func (.func 76) #[] #[.pointer (some ⟨w.heap.size, 0, none⟩)]) ∧ w' = w.alloc (.cells #[.slice a N c] 48) := by
  go_enter Tryz.func60, Tryz.ntmps60
  go_wp2
  go_ret
  exact ⟨rfl, rfl⟩
end Go.Proofs.YtakoaadimhpclaaGreatDoor
