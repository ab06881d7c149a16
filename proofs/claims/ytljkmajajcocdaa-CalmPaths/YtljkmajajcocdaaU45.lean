/-
  The walk of bucketlinelaw28.CalmPaths. Condition: the config can be read.
-/
import Derived.Test.YtljkmajajcocdaaU41
import Derived.Test.YtljkmajajcocdaaU44
import Derived.Deep.RegionHeld
namespace Go.Proofs.Ytljkmajajcocdaa
open Go.RowKit Go.Sort Go.Shelf
set_option linter.unusedVariables false
set_option linter.unusedSimpArgs false
set_option maxRecDepth 4000

theorem PathP.len {f : CFV} {fr to : Int} {L : List Nat} (h : PathP f fr to L) : L.length ≤ 8 := by
  by_cases e : 0 < L.length
  · exact (h.q e).pos.2
  · omega
theorem natz_len {f : CFV} {fr to : Int} {L : List Nat} (h : PathP f fr to L) : (natZ L).length ≤ 1048576 := by
  show (List.map _ _).length ≤ _
  rw [List.length_map]
  have := h.len
  omega
set_option maxHeartbeats 8000000 in
theorem calmpaths_walk (f : CFV) (fr to : Int) (w : World) (hf : CfIn w f) :
    Calls Try.prog 4 #[f.val, .int .i64 fr, .int .i64 to] w fun e w' => e = .returned (.bool true) ∧ Below w.heap.size w w' := by
  have X := hide (bkA_new 25 w [.slice f.a f.n f.c, .string f.obj, .int .i64 f.size, .int .i64 f.spread, .int .i64 f.buffer, .int .i64 f.queue, .int .i64 f.cache, .float .f64 f.rate, .int .i64 f.timeout, .int .i64 f.target])
  have HB := hide (alloc_low w (.cells #[.slice f.a f.n f.c, .string f.obj, .int .i64 f.size, .int .i64 f.spread, .int .i64 f.buffer, .int .i64 f.queue, .int .i64 f.cache, .float .f64 f.rate, .int .i64 f.timeout, .int .i64 f.target] 25))
  have HF := hide (fun wx (hb : Below w.heap.size w wx) => hf.below hb)
  have hld := (unhide X).load Try.underlying25 rfl info_cfg rfl
  have HW := hide (few28_any f _ (hf.below (unhide HB)))
  have HPA := hide (fun wx (hb : Below w.heap.size w wx) => path_any f fr to wx (hf.below hb))
  have HPR := hide (fun wx (hb : Below w.heap.size w wx) => rpath_any f fr to wx (hf.below hb))
  clear hf
  unfold CFV.val at *
  go_enter Try.func4, Try.ntmps4
  go_wp2_with fail
  refine (unhide HW).mono ?_
  rintro e w1 ⟨⟨rfl, hn1⟩ | rfl, hb1⟩
  case inr =>
    have HB1 := hide (below0 (unhide HB) hb1)
    clear hb1 hld HW
    go_wp2_with (first
      | (go_at_call 8; refine (awake28_any _).mono ?_; rintro e w9 ⟨rfl, hb9⟩; have HB9 := hide (below0 (unhide HB1) hb9); clear hb9)
      | fail)
    go_ret
    exact ⟨rfl, unhide HB9⟩
  have HBD := hide (below0 (unhide HB) hb1).drew
  have X1 := hide ((unhide X).below hb1)
  have y0 := (unhide X1).at 0 rfl
  have y1 := (unhide X1).at 1 rfl
  have y2 := (unhide X1).at 2 rfl
  have y3 := (unhide X1).at 3 rfl
  have y4 := (unhide X1).at 4 rfl
  have y5 := (unhide X1).at 5 rfl
  have y6 := (unhide X1).at 6 rfl
  have y7 := (unhide X1).at 7 rfl
  have y8 := (unhide X1).at 8 rfl
  have y9 := (unhide X1).at 9 rfl
  have XD := hide ((unhide X1).below (Below.refl _ _).drew)
  clear hb1 hld HW
  go_wp2_with fail
  go_region_held (fun w' => w'.cell? ⟨w.heap.size, 0, none⟩ = some (.slice f.a f.n f.c) ∧ w'.cell? ⟨w.heap.size, 1, none⟩ = some (.string f.obj) ∧ w'.cell? ⟨w.heap.size, 2, none⟩ = some (.int .i64 f.size) ∧ w'.cell? ⟨w.heap.size, 3, none⟩ = some (.int .i64 f.spread) ∧ w'.cell? ⟨w.heap.size, 4, none⟩ = some (.int .i64 f.buffer) ∧ w'.cell? ⟨w.heap.size, 5, none⟩ = some (.int .i64 f.queue) ∧ w'.cell? ⟨w.heap.size, 6, none⟩ = some (.int .i64 f.cache) ∧ w'.cell? ⟨w.heap.size, 7, none⟩ = some (.float .f64 f.rate) ∧ w'.cell? ⟨w.heap.size, 8, none⟩ = some (.int .i64 f.timeout) ∧ w'.cell? ⟨w.heap.size, 9, none⟩ = some (.int .i64 f.target)) (go_keep) (first
    | (go_at_call 18; refine ((unhide HPA) w1.drew (unhide HBD)).mono ?_; rintro e w2 ⟨v, L, rfl, hp, ho, hb2⟩; have HB2 := hide (below0 (unhide HBD) hb2); have X2 := hide ((unhide XD).below hb2); have z0 := (unhide X2).at 0 rfl; have z1 := (unhide X2).at 1 rfl; have z2 := (unhide X2).at 2 rfl; have z3 := (unhide X2).at 3 rfl; have z4 := (unhide X2).at 4 rfl; have z5 := (unhide X2).at 5 rfl; have z6 := (unhide X2).at 6 rfl; have z7 := (unhide X2).at 7 rfl; have z8 := (unhide X2).at 8 rfl; have z9 := (unhide X2).at 9 rfl; obtain ⟨a, c, rfl, hz⟩ := ho.ints; have HZ := hide hz; have HP := hide hp; clear hp ho hz hb2 y0 y1 y2 y3 y4 y5 y6 y7 y8 y9)
    | (go_at_call 19; refine ((unhide HPR) w2 (unhide HB2)).mono ?_; rintro e w3 ⟨v3, L3, rfl, hp3, ho3, hb3⟩; obtain rfl := (unhide HP).uniq hp3; obtain ⟨a3, c3, rfl, hz3⟩ := ho3.ints; have HB3 := hide (below0 (unhide HB2) hb3); have X3 := hide ((unhide X2).below hb3); have u0 := (unhide X3).at 0 rfl; have u1 := (unhide X3).at 1 rfl; have u2 := (unhide X3).at 2 rfl; have u3 := (unhide X3).at 3 rfl; have u4 := (unhide X3).at 4 rfl; have u5 := (unhide X3).at 5 rfl; have u6 := (unhide X3).at 6 rfl; have u7 := (unhide X3).at 7 rfl; have u8 := (unhide X3).at 8 rfl; have u9 := (unhide X3).at 9 rfl; have HI := hide (intz_any a _ c _ a3 _ c3 (natZ L) w3 ((unhide HZ).below hb3) hz3 rfl (natz_len hp3)); clear hp3 ho3 hz3 hb3 z0 z1 z2 z3 z4 z5 z6 z7 z8 z9)
    | (go_at_call 17; refine (unhide HI).mono ?_; rintro e w4 ⟨rfl, hb4⟩; have HB4 := hide (below0 (unhide HB3) hb4); have X4 := hide ((unhide X3).below hb4); have z0 := (unhide X4).at 0 rfl; have z1 := (unhide X4).at 1 rfl; have z2 := (unhide X4).at 2 rfl; have z3 := (unhide X4).at 3 rfl; have z4 := (unhide X4).at 4 rfl; have z5 := (unhide X4).at 5 rfl; have z6 := (unhide X4).at 6 rfl; have z7 := (unhide X4).at 7 rfl; have z8 := (unhide X4).at 8 rfl; have z9 := (unhide X4).at 9 rfl; clear hb4 HI u0 u1 u2 u3 u4 u5 u6 u7 u8 u9)
    | (go_at_call 8; refine (awake28_any _).mono ?_; rintro e w9 ⟨rfl, hb9⟩; have HB9 := hide (below0 (unhide HB4) hb9); have X9 := hide ((unhide X4).below hb9); have y0 := (unhide X9).at 0 rfl; have y1 := (unhide X9).at 1 rfl; have y2 := (unhide X9).at 2 rfl; have y3 := (unhide X9).at 3 rfl; have y4 := (unhide X9).at 4 rfl; have y5 := (unhide X9).at 5 rfl; have y6 := (unhide X9).at 6 rfl; have y7 := (unhide X9).at 7 rfl; have y8 := (unhide X9).at 8 rfl; have y9 := (unhide X9).at 9 rfl; clear hb9 z0 z1 z2 z3 z4 z5 z6 z7 z8 z9)
    | fail)
  go_wp2
  go_ret
  exact ⟨rfl, unhide HB9⟩
end Go.Proofs.Ytljkmajajcocdaa
