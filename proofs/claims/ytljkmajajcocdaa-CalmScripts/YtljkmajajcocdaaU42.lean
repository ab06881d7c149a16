/-
  The walk of bucketlinelaw28.CalmPaths. Condition: the config can be read.
  WHAT IS PROVED: for every input bucketlinelaw28.CalmPaths returns true, without a panic, and each argument reads afterwards as it read before. No condition.
-/
import Derived.Test.YtljkmajajcocdaaU33
import Derived.Test.YtljkmajajcocdaaU35
import Derived.Deep.RegionHeld
import Derived.Test.YtljkmajajcocdaaU6
namespace Go.Proofs.Ytljkmajajcocdaa
open Go.RowKit Go.Sort Go.Shelf
set_option linter.unusedVariables false
set_option linter.unusedSimpArgs false
set_option maxRecDepth 4000

theorem PathP.len {f : CFV} {fr to : Int} {L : List Nat} (h : PathP f fr to L) : L.length ≤ 8 := by
  by_cases e : 0 < L.length
  · exact (h.q e).pos.2
  · omega
theorem natz_len {f : CFV} {fr to : Int} {L : List Nat} (h : PathP f fr to L) : (natZ L).length ≤ 1048576 := by
  show (List.map _ _).length ≤ _
  rw [List.length_map]
  have := h.len
  omega
set_option maxHeartbeats 8000000 in
theorem calmpaths_walk (f : CFV) (fr to : Int) (w : World) (hf : CfIn w f) :
    Calls Try.prog 4 #[f.val, .int .i64 fr, .int .i64 to] w fun e w' => e = .returned (.bool true) ∧ Below w.heap.size w w' := by
  have X := hide (bkA_new 25 w [.slice f.a f.n f.c, .string f.obj, .int .i64 f.size, .int .i64 f.spread, .int .i64 f.buffer, .int .i64 f.queue, .int .i64 f.cache, .float .f64 f.rate, .int .i64 f.timeout, .int .i64 f.target])
  have HB := hide (alloc_low w (.cells #[.slice f.a f.n f.c, .string f.obj, .int .i64 f.size, .int .i64 f.spread, .int .i64 f.buffer, .int .i64 f.queue, .int .i64 f.cache, .float .f64 f.rate, .int .i64 f.timeout, .int .i64 f.target] 25))
  have HF := hide (fun wx (hb : Below w.heap.size w wx) => hf.below hb)
  have hld := (unhide X).load Try.underlying25 rfl info_cfg rfl
  have HW := hide (few28_any f _ (hf.below (unhide HB)))
  have HPA := hide (fun wx (hb : Below w.heap.size w wx) => path_any f fr to wx (hf.below hb))
  have HPR := hide (fun wx (hb : Below w.heap.size w wx) => rpath_any f fr to wx (hf.below hb))
  clear hf
  unfold CFV.val at *
  go_enter Try.func4, Try.ntmps4
  go_wp2_with fail
  refine (unhide HW).mono ?_
  rintro e w1 ⟨⟨rfl, hn1⟩ | rfl, hb1⟩
  case inr =>
    have HB1 := hide (below0 (unhide HB) hb1)
    clear hb1 hld HW
    go_wp2_with (first
      | (go_at_call 8; refine (awake28_any _).mono ?_; rintro e w9 ⟨rfl, hb9⟩; have HB9 := hide (below0 (unhide HB1) hb9); clear hb9)
      | fail)
    go_ret
    exact ⟨rfl, unhide HB9⟩
  have HBD := hide (below0 (unhide HB) hb1).drew
  have X1 := hide ((unhide X).below hb1)
  have y0 := (unhide X1).at 0 rfl
  have y1 := (unhide X1).at 1 rfl
  have y2 := (unhide X1).at 2 rfl
  have y3 := (unhide X1).at 3 rfl
  have y4 := (unhide X1).at 4 rfl
  have y5 := (unhide X1).at 5 rfl
  have y6 := (unhide X1).at 6 rfl
  have y7 := (unhide X1).at 7 rfl
  have y8 := (unhide X1).at 8 rfl
  have y9 := (unhide X1).at 9 rfl
  have XD := hide ((unhide X1).below (Below.refl _ _).drew)
  clear hb1 hld HW
  go_wp2_with fail
  go_region_held (fun w' => w'.cell? ⟨w.heap.size, 0, none⟩ = some (.slice f.a f.n f.c) ∧ w'.cell? ⟨w.heap.size, 1, none⟩ = some (.string f.obj) ∧ w'.cell? ⟨w.heap.size, 2, none⟩ = some (.int .i64 f.size) ∧ w'.cell? ⟨w.heap.size, 3, none⟩ = some (.int .i64 f.spread) ∧ w'.cell? ⟨w.heap.size, 4, none⟩ = some (.int .i64 f.buffer) ∧ w'.cell? ⟨w.heap.size, 5, none⟩ = some (.int .i64 f.queue) ∧ w'.cell? ⟨w.heap.size, 6, none⟩ = some (.int .i64 f.cache) ∧ w'.cell? ⟨w.heap.size, 7, none⟩ = some (.float .f64 f.rate) ∧ w'.cell? ⟨w.heap.size, 8, none⟩ = some (.int .i64 f.timeout) ∧ w'.cell? ⟨w.heap.size, 9, none⟩ = some (.int .i64 f.target)) (go_keep) (first
    | (go_at_call 18; refine ((unhide HPA) w1.drew (unhide HBD)).mono ?_; rintro e w2 ⟨v, L, rfl, hp, ho, hb2⟩; have HB2 := hide (below0 (unhide HBD) hb2); have X2 := hide ((unhide XD).below hb2); have z0 := (unhide X2).at 0 rfl; have z1 := (unhide X2).at 1 rfl; have z2 := (unhide X2).at 2 rfl; have z3 := (unhide X2).at 3 rfl; have z4 := (unhide X2).at 4 rfl; have z5 := (unhide X2).at 5 rfl; have z6 := (unhide X2).at 6 rfl; have z7 := (unhide X2).at 7 rfl; have z8 := (unhide X2).at 8 rfl; have z9 := (unhide X2).at 9 rfl; obtain ⟨a, c, rfl, hz⟩ := ho.ints; have HZ := hide hz; have HP := hide hp; clear hp ho hz hb2 y0 y1 y2 y3 y4 y5 y6 y7 y8 y9)
    | (go_at_call 19; refine ((unhide HPR) w2 (unhide HB2)).mono ?_; rintro e w3 ⟨v3, L3, rfl, hp3, ho3, hb3⟩; obtain rfl := (unhide HP).uniq hp3; obtain ⟨a3, c3, rfl, hz3⟩ := ho3.ints; have HB3 := hide (below0 (unhide HB2) hb3); have X3 := hide ((unhide X2).below hb3); have u0 := (unhide X3).at 0 rfl; have u1 := (unhide X3).at 1 rfl; have u2 := (unhide X3).at 2 rfl; have u3 := (unhide X3).at 3 rfl; have u4 := (unhide X3).at 4 rfl; have u5 := (unhide X3).at 5 rfl; have u6 := (unhide X3).at 6 rfl; have u7 := (unhide X3).at 7 rfl; have u8 := (unhide X3).at 8 rfl; have u9 := (unhide X3).at 9 rfl; have HI := hide (intz_any a _ c _ a3 _ c3 (natZ L) w3 ((unhide HZ).below hb3) hz3 rfl (natz_len hp3)); clear hp3 ho3 hz3 hb3 z0 z1 z2 z3 z4 z5 z6 z7 z8 z9)
    | (go_at_call 17; refine (unhide HI).mono ?_; rintro e w4 ⟨rfl, hb4⟩; have HB4 := hide (below0 (unhide HB3) hb4); have X4 := hide ((unhide X3).below hb4); have z0 := (unhide X4).at 0 rfl; have z1 := (unhide X4).at 1 rfl; have z2 := (unhide X4).at 2 rfl; have z3 := (unhide X4).at 3 rfl; have z4 := (unhide X4).at 4 rfl; have z5 := (unhide X4).at 5 rfl; have z6 := (unhide X4).at 6 rfl; have z7 := (unhide X4).at 7 rfl; have z8 := (unhide X4).at 8 rfl; have z9 := (unhide X4).at 9 rfl; clear hb4 HI u0 u1 u2 u3 u4 u5 u6 u7 u8 u9)
    | (go_at_call 8; refine (awake28_any _).mono ?_; rintro e w9 ⟨rfl, hb9⟩; have HB9 := hide (below0 (unhide HB4) hb9); have X9 := hide ((unhide X4).below hb9); have y0 := (unhide X9).at 0 rfl; have y1 := (unhide X9).at 1 rfl; have y2 := (unhide X9).at 2 rfl; have y3 := (unhide X9).at 3 rfl; have y4 := (unhide X9).at 4 rfl; have y5 := (unhide X9).at 5 rfl; have y6 := (unhide X9).at 6 rfl; have y7 := (unhide X9).at 7 rfl; have y8 := (unhide X9).at 8 rfl; have y9 := (unhide X9).at 9 rfl; clear hb9 z0 z1 z2 z3 z4 z5 z6 z7 z8 z9)
    | fail)
  go_wp2
  go_ret
  exact ⟨rfl, unhide HB9⟩
end Go.Proofs.Ytljkmajajcocdaa
namespace Go.Proofs.Ytljkmajajcocdaa.calmPathsDone
open Go.ChangeShapes Go.WideShapes Go.ChangeAt Go.RowKit
open Go.ChangeMaps (open_string shut_string)
set_option linter.unusedVariables false
set_option linter.unusedSimpArgs false
set_option maxRecDepth 4000

set_option maxRecDepth 100000 in
theorem lifted (os : Os) (started : os.Started) (H : Type) (enc : TypeId × Value → H) :
    ReturnsInHanded {} Try.checked os 4 .any (Rows.calmPathsSpec.pre6 enc Try.prog Try.f4 Rows.calmPathsRow.domain false) (Rows.calmPathsSpec.post enc Try.prog Try.f4 false true false false) := by
  refine returnsInHanded_of_change (C := Try.checked) own started (by kernel_rfl) Try.func4
    (ChangeSpec.witness6 (enc := enc) (C := Try.checked) false ⟨#[], #[.agg #[.slice none 0 0, .string ⟨#[]⟩, .int .i64 0, .int .i64 0, .int .i64 0, .int .i64 0, .int .i64 0, .float .f64 0, .int .i64 0, .int .i64 0], .int .i64 0, .int .i64 0], []⟩ 8 (by kernel_rfl) (by kernel_rfl) (by kernel_rfl) (by kernel_rfl)) ?_
  intro W base args ds gs before hval0 hW hcnd _
  have hval : ∀ (j : Nat) t v, Try.f4.params[j]? = some t → args[j]? = some v → Value.okWide Try.prog W .any base t v := hval0
  have hW' := hW
  obtain ⟨p, q, hA0, hV, rfl, hfz, hnd⟩ := hW
  have hA : DataW.TrodAll enc Try.prog W 0 (fun _ => true) true Try.f4.params.toList args.toList ds p := hA0
  rw [Try.params4] at hA hval
  obtain ⟨v0, vs0, d0, ds0, p0, q0, hargs, rfl, rfl, h0, r0⟩ := trodAll_cons hA
  obtain ⟨v1, vs1, d1, ds1, p1, q1, rfl, rfl, rfl, h1, r1⟩ := trodAll_cons r0
  obtain ⟨v2, vs2, d2, ds2, p2, q2, rfl, rfl, rfl, h2, r2⟩ := trodAll_cons r1
  obtain ⟨rfl, rfl, rfl⟩ := trodAll_nil r2
  obtain rfl : args = #[v0, v1, v2] := by cases args; simp_all
  obtain ⟨rfl, rfl⟩ := trodVars_none hV
  have k0 := h0
  have lt0 : ∀ x ∈ p0, x.block < W.heap.size := by obtain ⟨m, hm⟩ := k0; exact DataW.trod_lt m _ _ _ hm
  obtain ⟨f0, rfl, w0⟩ := cfg_of (hval 0 25 v0 rfl rfl) h0
  obtain ⟨a1, rfl, rfl, rfl, w1⟩ := open_int Try.underlying3 (hval 1 3 v1 rfl rfl) h1
  have bd1 := bounds_i64 w1
  obtain ⟨a2, rfl, rfl, rfl, w2⟩ := open_int Try.underlying3 (hval 2 3 v2 rfl rfl) h2
  have bd2 := bounds_i64 w2
  clear hA0 hval0
  refine (calmpaths_walk f0 a1 a2 W w0).mono fun e W' ⟨he, bel⟩ => ?_
  subst he
  exact ⟨_, rfl, _, _, _, [], _, [], hW', trodAll_mk1 (shut_bool Try.underlying4 _), (trodAll_cons_mk (Below.trod laidOut (by kernel_rfl) (of_decide_eq_true (by kernel_rfl)) k0 bel lt0) (trodAll_cons_mk (shut_int Try.underlying3 w1) (trodAll_cons_mk (shut_int Try.underlying3 w2) trodAll_mk0))), rfl, bel.frame _, fun h => by cases h⟩

theorem over : Rows.calmPathsRow.holds Try.pinned (OpenSpec.ofChange Rows.calmPathsSpec) :=
  OpenClaim.holds_of_wide 4 Try.f4 rfl rfl rfl rfl rfl rfl rfl ⟨rfl, rfl, rfl, rfl, rfl⟩ rfl rfl rfl rfl rfl (by kernel_rfl) Try.func4 (by kernel_rfl)
    (of_decide_eq_true (by kernel_rfl)) (by unfold Func.isWrapper; first | (rw [if_pos (by decide +kernel)]; kernel_rfl) | (rw [if_neg (by decide +kernel)]; exact ⟨rfl, rfl⟩))
    (fun os started H enc _ => lifted os started H enc)
end Go.Proofs.Ytljkmajajcocdaa.calmPathsDone
namespace Go.Proofs.Ytljkmajajcocdaa
/-- The statement. -/
theorem calmPaths_holds : Rows.CalmPathsSaid := calmPathsDone.over
#print axioms calmPaths_holds
end Go.Proofs.Ytljkmajajcocdaa
