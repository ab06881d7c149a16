/-
  Contracts of calm.modulo, Draws, Rounds; the reference's Draws and Rounds. Condition: the config can be read.
-/
import Derived.Test.YtakoaadimhpclaaGreatDoorU38
namespace Go.Proofs.YtakoaadimhpclaaGreatDoor
open Go.RowKit Go.Sort Go.Shelf
set_option linter.unusedVariables false
set_option linter.unusedSimpArgs false
set_option maxRecDepth 4000

theorem own_lit1 (w : World) (x : Nat) (hx : x < 18446744073709551616) : Own (w.alloc (.cells #[.int .u64 (x : Int)] 53)) w.heap.size (.slice (some ⟨w.heap.size, 0, none⟩) 1 1) [x] :=
  ⟨fun y hy => by rw [List.mem_singleton.1 hy]; exact hx, rfl, .inr ⟨w.heap.size, 1, _, rfl, Nat.le_refl _, heap_alloc_new w _, Nat.le_refl _, by unfold maxLen; omega, rfl, rfl⟩⟩
theorem own_lit2 (w : World) (x y : Nat) (hx : x < 18446744073709551616) (hy : y < 18446744073709551616) : Own (w.alloc (.cells #[.int .u64 (x : Int), .int .u64 (y : Int)] 53)) w.heap.size (.slice (some ⟨w.heap.size, 0, none⟩) 2 2) [x, y] :=
  ⟨fun z hz => by rcases List.mem_cons.1 hz with rfl | hz; exact hx; rw [List.mem_singleton.1 hz]; exact hy, rfl, .inr ⟨w.heap.size, 2, _, rfl, Nat.le_refl _, heap_alloc_new w _, Nat.le_refl _, by unfold maxLen; omega, rfl, rfl⟩⟩
/-- The draws by which a source sends one block. -/
def drawsD (k i : Int) : List Nat := if 1 ≤ k ∧ k ≤ 128 then [0, (i % k).toNat] else []
theorem tmod_emod (n m : Int) (hm : 0 < m) : n % m = if n.tmod m < 0 then n.tmod m + m else n.tmod m := by
  have h1 := Int.lt_tmod_of_pos n hm
  have h2 := Int.tmod_lt_of_pos n hm
  have h3 : (n.tmod m) % m = n % m := by
    have := Int.tmod_add_mul_tdiv n m
    conv => rhs; rw [← this]
    rw [Int.add_mul_emod_self_left]
  split
  · rename_i h
    rw [← h3, ← Int.add_mul_emod_self_left (n.tmod m) m 1, Int.mul_one, Int.emod_eq_of_lt (by omega) (by omega)]
  · rename_i h
    rw [← h3, Int.emod_eq_of_lt (by omega) h2]
theorem camod_any (n m : Int) (hm : 1 ≤ m ∧ m ≤ 128) (w : World) : Calls Tryz.prog 24 #[.int .i64 n, .int .i64 m] w fun e w' => e = .returned (.int .i64 (n % m)) ∧ w' = w := by
  have hnz : ¬ (m = 0) := by omega
  have h1 := Int.lt_tmod_of_pos n (show 0 < m by omega)
  have h2 := Int.tmod_lt_of_pos n (show 0 < m by omega)
  have h3 := tmod_emod n m (by omega)
  have hwr : IntKind.i64.wrap (n.tmod m) = n.tmod m := by rw [IntKind.wrap_i64]; omega
  by_cases hneg : n.tmod m < 0
  · rw [if_pos hneg] at h3
    have hwr2 : IntKind.i64.wrap (n.tmod m + m) = n.tmod m + m := by rw [IntKind.wrap_i64]; omega
    rw [h3]
    clear h3 h1 h2
    go_enter Tryz.func24, Tryz.ntmps24
    go_wp2
    go_ret
    exact ⟨rfl, rfl⟩
  · rw [if_neg hneg] at h3
    rw [h3]
    clear h3 h1 h2
    go_enter Tryz.func24, Tryz.ntmps24
    go_wp2
    go_ret
    exact ⟨rfl, rfl⟩
theorem cadraws_any (k i : Int) (w : World) : Calls Tryz.prog 9 #[.int .i64 k, .int .i64 i] w fun e w' => ∃ v, e = .returned v ∧ Own w' w.heap.size v (drawsD k i) ∧ Below w.heap.size w w' := by
  by_cases h1 : k < 1
  · have e : drawsD k i = [] := if_neg (by omega)
    rw [e]
    go_enter Tryz.func9, Tryz.ntmps9
    go_wp2
    go_ret
    exact ⟨_, rfl, Own.nil _ _, Below.refl _ _⟩
  by_cases h2 : 128 < k
  · have e : drawsD k i = [] := if_neg (by omega)
    rw [e]
    go_enter Tryz.func9, Tryz.ntmps9
    go_wp2
    go_ret
    exact ⟨_, rfl, Own.nil _ _, Below.refl _ _⟩
  have e : drawsD k i = [0, (i % k).toNat] := if_pos (by omega)
  have hm := Int.emod_nonneg i (show k ≠ 0 by omega)
  have hm2 := Int.emod_lt_of_pos i (show 0 < k by omega)
  obtain ⟨r, hr⟩ : ∃ r : Nat, i % k = (r : Int) := ⟨(i % k).toNat, by omega⟩
  rw [hr, Int.toNat_natCast] at e
  have hw : IntKind.u64.wrap (r : Int) = (r : Int) := by rw [IntKind.wrap_u64]; omega
  have HM := hide (camod_any i k (by omega) w)
  rw [hr] at HM
  rw [e]
  have HR := hide (own_lit2 w 0 r (by decide) (by omega))
  clear hm hm2 e hr
  go_enter Tryz.func9, Tryz.ntmps9
  go_wp2_with (first
    | (go_at_call 24; refine (unhide HM).mono ?_; rintro e w1 ⟨rfl, hw1⟩; obtain rfl := hw1.symm; clear hw1)
    | fail)
  go_ret
  exact ⟨_, rfl, unhide HR, alloc_low _ _⟩
/-- How many blocks. -/
def RndP (f : CFV) (k : Int) : Prop := (ChkR f 0 ∧ k = planK f.obj.size f.size) ∨ (¬ ChkR f 0 ∧ k = 0)
theorem RndP.uniq {f : CFV} {k m : Int} (h : RndP f k) (h' : RndP f m) : k = m := by
  rcases h with ⟨h1, h2⟩ | ⟨h1, h2⟩ <;> rcases h' with ⟨k1, k2⟩ | ⟨k1, k2⟩
  · rw [h2, k2]
  · exact absurd h1 k1
  · exact absurd k1 h1
  · rw [h2, k2]
set_option maxHeartbeats 1000000 in
theorem carnd_any (f : CFV) (w : World) (hf : CfIn w f) : Calls Tryz.prog 15 #[f.val] w fun e w' => ∃ k, e = .returned (.int .i64 k) ∧ RndP f k ∧ Below w.heap.size w w' := by
  have X := hide (bkA_new 51 w [.slice f.a f.n f.c, .string f.obj, .int .i64 f.size, .int .i64 f.spread, .int .i64 f.buffer, .int .i64 f.queue, .int .i64 f.cache, .float .f64 f.rate, .int .i64 f.timeout, .int .i64 f.target])
  have HB := hide (alloc_low w (.cells #[.slice f.a f.n f.c, .string f.obj, .int .i64 f.size, .int .i64 f.spread, .int .i64 f.buffer, .int .i64 f.queue, .int .i64 f.cache, .float .f64 f.rate, .int .i64 f.timeout, .int .i64 f.target] 51))
  have hld := (unhide X).load Tryz.underlying51 rfl info_cfg rfl
  have HC := hide (ntchk_any f _ (hf.below (unhide HB)) hf.caps)
  have ho := hf.obj
  clear hf
  unfold CFV.val at *
  go_enter Tryz.func15, Tryz.ntmps15
  go_wp2_with fail
  refine (unhide HC).mono ?_
  rintro e w1 ⟨en, rfl, hr, hb⟩
  have HB1 := hide (below0 (unhide HB) hb)
  have X1 := hide ((unhide X).below hb)
  have y1 := (unhide X1).at 1 rfl
  have y2 := (unhide X1).at 2 rfl
  have HR := hide hr
  clear hr hb hld HC
  by_cases h0 : en = 0
  case neg =>
    have hd : (en != 0) = true := by simp [h0]
    have HP := hide (show RndP f 0 from .inr ⟨fun p => h0 ((unhide HR).uniq p), rfl⟩)
    clear h0
    go_wp2
    go_ret
    exact ⟨_, rfl, unhide HP, unhide HB1⟩
  subst h0
  go_wp2_with (first
    | (go_at_call 35; refine (plan_any _ _ _ (by omega)).mono ?_; rintro e w2 ⟨rfl, hw2⟩; obtain rfl := hw2.symm; clear hw2)
    | fail)
  go_ret
  exact ⟨_, rfl, .inl ⟨unhide HR, rfl⟩, unhide HB1⟩
end Go.Proofs.YtakoaadimhpclaaGreatDoor
