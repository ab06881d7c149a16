/-
  Contract of bucketlinelaw17.of; the example on plain data.
-/
import Derived.Test.YtbppanebpfpioaaDoorUO
import Derived.Test.YtbppanebpfpioaaDoorUp
namespace Go.Proofs.YtbppanebpfpioaaDoor
open Go.RowKit Go.Sort
set_option linter.unusedVariables false
set_option maxRecDepth 4000

/-- A packet of four blocks, its word at block b. -/
def ofK (b x : Nat) : PKV := ⟨0, 0, 4, 1, 0, ⟨some ⟨b, 0, none⟩, 1, 1, [x], ⟨#[120]⟩⟩⟩
def ofD (x : Nat) : PD := ⟨0, 0, 4, 1, 0, [x], ⟨#[120]⟩⟩
theorem ofK_pd (b x : Nat) : (ofK b x).pd = ofD x := rfl
theorem of_res {wx : World} {tmps : Array Value} {b : Nat} {u0 u1 u2 u3 u4 u5 u6 : Value} (ht : tmps.getD 2 undef = .pointer (some ⟨b, 0, none⟩)) (hk : PkB wx b u0 u1 u2 u3 u4 u5 u6) :
    (results Tryd.f22 tmps).run Tryd.prog wx = .ok (.agg #[u0, u1, u2, u3, u4, u5, u6]) wx := by
  obtain ⟨r0, r1, r2, r3, r4, r5, r6⟩ := hk.at
  have ht' : tmps[2]?.getD undef = .pointer (some ⟨b, 0, none⟩) := by simpa using ht
  simp [results, Tryd.results22, go_sem, ht', r0, r1, r2, r3, r4, r5, r6]
set_option maxHeartbeats 1000000 in
theorem of17_any (x : Nat) (w : World) (hx : x < 18446744073709551616) :
    Calls Tryd.prog 22 #[.int .u64 (x : Int)] w fun e w' => e = .returned (ofK (w.heap.size + 1) x).val ∧ Own w' (w.heap.size + 1) (.slice (some ⟨w.heap.size + 1, 0, none⟩) 1 1) [x] ∧ Below w.heap.size w w' := by
  have hk := (pkb_new w (.int .i64 0) (.int .i64 0) (.int .i64 4) (.int .i64 1) (.int .i64 0) (.slice (some ⟨w.heap.size + 1, 0, none⟩) 1 1) (.string ⟨#[120]⟩)).below ((Below.refl _ _).alloc (Nat.le_refl _) (.cells #[.int .u64 (x : Int)] 46))
  have ho := own_lit (w.alloc (.cells #[.int .i64 0, .int .i64 0, .int .i64 4, .int .i64 1, .int .i64 0, .slice (some ⟨w.heap.size + 1, 0, none⟩) 1 1, .string ⟨#[120]⟩] 34)) x hx
  rw [alloc_size] at ho
  have hb : Below w.heap.size w ((w.alloc (.cells #[.int .i64 0, .int .i64 0, .int .i64 4, .int .i64 1, .int .i64 0, .slice (some ⟨w.heap.size + 1, 0, none⟩) 1 1, .string ⟨#[120]⟩] 34)).alloc (.cells #[.int .u64 (x : Int)] 46)) := below2 (Below.refl _ w) (Below.refl _ _)
  have HK := hide hk
  have HO := hide ho
  have HB := hide hb
  clear hk ho hb
  go_enter Tryd.func22, Tryd.ntmps22
  go_wp2
  exact bodyPost_ret (of_res rfl (unhide HK)) rfl ⟨rfl, unhide HO, unhide HB⟩
theorem ex1 : takeD 2 [] (ofD 1) = true ∧ bput 2 [] (ofD 1) = [ofD 1] := by
  have h : takeD 2 [] (ofD 1) = true := by kernel_rfl
  exact ⟨h, by unfold bput; rw [if_pos h]; rfl⟩
theorem ex2 : takeD 2 [ofD 1] (ofD 6) = true ∧ bput 2 [ofD 1] (ofD 6) = [ofD 1, ofD 6] := by
  have h : takeD 2 [ofD 1] (ofD 6) = true := by kernel_rfl
  exact ⟨h, by unfold bput; rw [if_pos h]; rfl⟩
theorem ex3 : takeD 2 [ofD 1, ofD 6] (ofD 7) = false ∧ bput 2 [ofD 1, ofD 6] (ofD 7) = [ofD 1, ofD 6] := by
  have h : takeD 2 [ofD 1, ofD 6] (ofD 7) = false := by kernel_rfl
  exact ⟨h, by unfold bput; rw [if_neg (by rw [h]; decide)]⟩
theorem ex4 : takeD 2 [ofD 1, ofD 6] (ofD 8) = true ∧ bput 2 [ofD 1, ofD 6] (ofD 8) = [ofD 1, ofD 8] := by
  have h : takeD 2 [ofD 1, ofD 6] (ofD 8) = true := by kernel_rfl
  have hg : goesTo [ofD 1, ofD 6] 2 = 1 := by kernel_rfl
  refine ⟨h, ?_⟩
  unfold bput leftD
  rw [if_pos h, if_pos (by decide), show ([ofD 1, ofD 6] : List PD).length = 2 from rfl, hg]
  rfl
end Go.Proofs.YtbppanebpfpioaaDoor
