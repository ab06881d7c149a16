/-
  The walk of bucketlinelaw28.CalmScripts. Condition: the config can be read.
-/
import Derived.Test.YtljkmajajcocdaaU33
import Derived.Test.YtljkmajajcocdaaU39
import Derived.Deep.RegionHeld
namespace Go.Proofs.Ytljkmajajcocdaa
open Go.RowKit Go.Sort Go.Shelf
set_option linter.unusedVariables false
set_option linter.unusedSimpArgs false
set_option maxRecDepth 4000

theorem drawsF_len (kd k i : Int) : (drawsF kd k i).length ≤ 2 := by
  unfold drawsF drawsD
  split
  · split <;> simp
  · simp
theorem draws_small (k i : Int) : (drawsD k i).length ≤ 1048576 := by
  unfold drawsD
  split <;> simp
theorem rounds_xs {ds : List NDV} {k : Int} {L : List Nat} {R : Nat} : ∀ e ∈ roundsD ds k L R, e.xs.length ≤ 2 := fun e he => by
  unfold roundsD at he
  obtain ⟨l, hl, he⟩ := List.mem_flatten.1 he
  obtain ⟨i, _, rfl⟩ := List.mem_map.1 hl
  unfold sentD at he
  obtain ⟨l2, hl2, he⟩ := List.mem_flatten.1 he
  obtain ⟨q, _, rfl⟩ := List.mem_map.1 hl2
  unfold sendD turnD at he
  rcases List.mem_append.1 he with he | he
  · rcases List.mem_cons.1 he with rfl | he
    · show 0 ≤ 2; decide
    · rw [List.mem_singleton.1 he]
      exact drawsF_len _ _ _
  · rw [(List.mem_replicate.1 he).2]
    show 0 ≤ 2; decide
theorem ScriptP.small {f : CFV} {r : Int} {D : List EvD} (h : ScriptP f r D) : D.length ≤ 1000000 ∧ ∀ e ∈ D, e.xs.length ≤ 2 := by
  rcases h with ⟨_, rfl⟩ | ⟨_, s, L, _, _, h4, rfl⟩
  · exact ⟨Nat.zero_le _, fun e he => (by cases he)⟩
  · refine ⟨?_, rounds_xs⟩
    rw [roundsD_len]
    have h : 10 * (L.length - 1) * (min (max r 0) 128).toNat ≤ 80 * 128 := Nat.mul_le_mul (by have := h4.len; omega) (by omega)
    omega
theorem drs_small {w : World} {B : Nat} {es : List EVV} (h : DrsP w B es) (hx : ∀ e ∈ es.map EVV.data, e.xs.length ≤ 2) {i : Nat} (hi : i < es.length) : (es.getD i .dflt).dn ≤ 1048576 := by
  have hm : es.getD i .dflt ∈ es := by rw [List.getD_eq_getElem?_getD, List.getElem?_eq_getElem hi]; exact List.getElem_mem _
  obtain ⟨a2, c2, e2, _⟩ := (h _ hm).row
  simp only [Value.slice.injEq] at e2
  have := hx _ (List.mem_map_of_mem hm)
  have h2 : (es.getD i .dflt).data.xs = (es.getD i .dflt).xs := rfl
  rw [h2] at this
  omega
set_option maxHeartbeats 16000000 in
theorem calmscripts_walk (f : CFV) (rounds k : Int) (w : World) (hf : CfIn w f) :
    Calls Try.prog 3 #[f.val, .int .i64 rounds, .int .i64 k] w fun e w' => e = .returned (.bool true) ∧ Below w.heap.size w w' := by
  have X := hide (bkA_new 25 w [.slice f.a f.n f.c, .string f.obj, .int .i64 f.size, .int .i64 f.spread, .int .i64 f.buffer, .int .i64 f.queue, .int .i64 f.cache, .float .f64 f.rate, .int .i64 f.timeout, .int .i64 f.target])
  have HB := hide (alloc_low w (.cells #[.slice f.a f.n f.c, .string f.obj, .int .i64 f.size, .int .i64 f.spread, .int .i64 f.buffer, .int .i64 f.queue, .int .i64 f.cache, .float .f64 f.rate, .int .i64 f.timeout, .int .i64 f.target] 25))
  have hld := (unhide X).load Try.underlying25 rfl info_cfg rfl
  have HW := hide (few28_any f _ (hf.below (unhide HB)))
  have HSA := hide (fun wx (hb : Below w.heap.size w wx) => script_any f rounds wx (hf.below hb))
  have HSR := hide (fun wx (hb : Below w.heap.size w wx) => rscript_any f rounds wx (hf.below hb))
  have HRA := hide (fun wx (hb : Below w.heap.size w wx) => carnd_any f wx (hf.below hb))
  have HRR := hide (fun wx (hb : Below w.heap.size w wx) => rrnd28_any f wx (hf.below hb))
  clear hf
  unfold CFV.val at *
  go_enter Try.func3, Try.ntmps3
  go_wp2_with fail
  refine (unhide HW).mono ?_
  rintro e w1 ⟨⟨rfl, hn1⟩ | rfl, hb1⟩
  case inr =>
    have HB1 := hide (below0 (unhide HB) hb1)
    clear hb1 hld HW
    go_wp2_with (first
      | (go_at_call 8; refine (awake28_any _).mono ?_; rintro e w9 ⟨rfl, hb9⟩; have HB9 := hide (below0 (unhide HB1) hb9); clear hb9)
      | fail)
    go_ret
    exact ⟨rfl, unhide HB9⟩
  have HBD := hide (below0 (unhide HB) hb1).drew
  have X1 := hide ((unhide X).below hb1)
  have y0 := (unhide X1).at 0 rfl
  have y1 := (unhide X1).at 1 rfl
  have y2 := (unhide X1).at 2 rfl
  have y3 := (unhide X1).at 3 rfl
  have y4 := (unhide X1).at 4 rfl
  have y5 := (unhide X1).at 5 rfl
  have y6 := (unhide X1).at 6 rfl
  have y7 := (unhide X1).at 7 rfl
  have y8 := (unhide X1).at 8 rfl
  have y9 := (unhide X1).at 9 rfl
  have XD := hide ((unhide X1).below (Below.refl _ _).drew)
  clear hb1 hld HW
  go_wp2_with fail
  go_region_held (fun w' => w'.cell? ⟨w.heap.size, 0, none⟩ = some (.slice f.a f.n f.c) ∧ w'.cell? ⟨w.heap.size, 1, none⟩ = some (.string f.obj) ∧ w'.cell? ⟨w.heap.size, 2, none⟩ = some (.int .i64 f.size) ∧ w'.cell? ⟨w.heap.size, 3, none⟩ = some (.int .i64 f.spread) ∧ w'.cell? ⟨w.heap.size, 4, none⟩ = some (.int .i64 f.buffer) ∧ w'.cell? ⟨w.heap.size, 5, none⟩ = some (.int .i64 f.queue) ∧ w'.cell? ⟨w.heap.size, 6, none⟩ = some (.int .i64 f.cache) ∧ w'.cell? ⟨w.heap.size, 7, none⟩ = some (.float .f64 f.rate) ∧ w'.cell? ⟨w.heap.size, 8, none⟩ = some (.int .i64 f.timeout) ∧ w'.cell? ⟨w.heap.size, 9, none⟩ = some (.int .i64 f.target)) (go_keep) (first
    | (go_at_call 10; refine ((unhide HSA) w1.drew (unhide HBD)).mono ?_; rintro e w2 ⟨v2, es, rfl, ho2, hd2, hs2, hb2⟩; have HB2 := hide (below0 (unhide HBD) hb2); have X2 := hide ((unhide XD).below hb2); have z0 := (unhide X2).at 0 rfl; have z1 := (unhide X2).at 1 rfl; have z2 := (unhide X2).at 2 rfl; have z3 := (unhide X2).at 3 rfl; have z4 := (unhide X2).at 4 rfl; have z5 := (unhide X2).at 5 rfl; have z6 := (unhide X2).at 6 rfl; have z7 := (unhide X2).at 7 rfl; have z8 := (unhide X2).at 8 rfl; have z9 := (unhide X2).at 9 rfl; obtain ⟨a2, c2, rfl⟩ := ho2.len; have HE2 := hide (ho2.at' hd2); have HD2 := hide hd2; have HS2 := hide hs2; clear ho2 hd2 hs2 hb2 y0 y1 y2 y3 y4 y5 y6 y7 y8 y9)
    | (go_at_call 11; refine ((unhide HSR) w2 (unhide HB2)).mono ?_; rintro e w3 ⟨v3, fs, rfl, ho3, hd3, hs3, hb3⟩; have HB3 := hide (below0 (unhide HB2) hb3); have X3 := hide ((unhide X2).below hb3); have u0 := (unhide X3).at 0 rfl; have u1 := (unhide X3).at 1 rfl; have u2 := (unhide X3).at 2 rfl; have u3 := (unhide X3).at 3 rfl; have u4 := (unhide X3).at 4 rfl; have u5 := (unhide X3).at 5 rfl; have u6 := (unhide X3).at 6 rfl; have u7 := (unhide X3).at 7 rfl; have u8 := (unhide X3).at 8 rfl; have u9 := (unhide X3).at 9 rfl; obtain ⟨a3, c3, rfl⟩ := ho3.len; have he := (unhide HS2).uniq hs3; have hlen : fs.length = es.length := by { have := congrArg List.length he; rw [List.length_map, List.length_map] at this; exact this.symm }; have hE3 := ho3.at' hd3; rw [hlen] at hE3 ⊢; have HI := hide (events_any a2 es.length c2 es a3 c3 fs w3 ((unhide HE2).below hb3) hE3 he (by have := (unhide HS2).small.1; rw [List.length_map] at this; exact this) (fun i hi => ⟨drs_small (unhide HD2) (unhide HS2).small.2 hi, drs_small hd3 hs3.small.2 (by rw [hlen]; exact hi)⟩)); clear ho3 hd3 hs3 hE3 he hlen hb3 HE2 HD2 HS2 z0 z1 z2 z3 z4 z5 z6 z7 z8 z9)
    | (go_at_call 9; refine (unhide HI).mono ?_; rintro e w4 ⟨rfl, hb4⟩; have HB4 := hide (below0 (unhide HB3) hb4); have X4 := hide ((unhide X3).below hb4); have z0 := (unhide X4).at 0 rfl; have z1 := (unhide X4).at 1 rfl; have z2 := (unhide X4).at 2 rfl; have z3 := (unhide X4).at 3 rfl; have z4 := (unhide X4).at 4 rfl; have z5 := (unhide X4).at 5 rfl; have z6 := (unhide X4).at 6 rfl; have z7 := (unhide X4).at 7 rfl; have z8 := (unhide X4).at 8 rfl; have z9 := (unhide X4).at 9 rfl; clear HI hb4 u0 u1 u2 u3 u4 u5 u6 u7 u8 u9)
    | (go_at_call 12; refine ((unhide HRA) w4 (unhide HB4)).mono ?_; rintro e w5 ⟨k5, rfl, hr5, hb5⟩; have HR5 := hide hr5; have HB5 := hide (below0 (unhide HB4) hb5); have X5 := hide ((unhide X4).below hb5); have u0 := (unhide X5).at 0 rfl; have u1 := (unhide X5).at 1 rfl; have u2 := (unhide X5).at 2 rfl; have u3 := (unhide X5).at 3 rfl; have u4 := (unhide X5).at 4 rfl; have u5 := (unhide X5).at 5 rfl; have u6 := (unhide X5).at 6 rfl; have u7 := (unhide X5).at 7 rfl; have u8 := (unhide X5).at 8 rfl; have u9 := (unhide X5).at 9 rfl; clear hr5 hb5 z0 z1 z2 z3 z4 z5 z6 z7 z8 z9)
    | (go_at_call 13; refine ((unhide HRR) w5 (unhide HB5)).mono ?_; rintro e w6 ⟨k6, rfl, hr6, hb6⟩; obtain rfl := (unhide HR5).uniq hr6; have HB6 := hide (below0 (unhide HB5) hb6); have X6 := hide ((unhide X5).below hb6); have z0 := (unhide X6).at 0 rfl; have z1 := (unhide X6).at 1 rfl; have z2 := (unhide X6).at 2 rfl; have z3 := (unhide X6).at 3 rfl; have z4 := (unhide X6).at 4 rfl; have z5 := (unhide X6).at 5 rfl; have z6 := (unhide X6).at 6 rfl; have z7 := (unhide X6).at 7 rfl; have z8 := (unhide X6).at 8 rfl; have z9 := (unhide X6).at 9 rfl; clear hr6 hb6 u0 u1 u2 u3 u4 u5 u6 u7 u8 u9)
    | (go_at_call 15; refine (cadraws_any k rounds w6).mono ?_; rintro e w7 ⟨v7, rfl, ho7, hb7⟩; have HB7 := hide (below0 (unhide HB6) hb7); have X7 := hide ((unhide X6).below hb7); have u0 := (unhide X7).at 0 rfl; have u1 := (unhide X7).at 1 rfl; have u2 := (unhide X7).at 2 rfl; have u3 := (unhide X7).at 3 rfl; have u4 := (unhide X7).at 4 rfl; have u5 := (unhide X7).at 5 rfl; have u6 := (unhide X7).at 6 rfl; have u7 := (unhide X7).at 7 rfl; have u8 := (unhide X7).at 8 rfl; have u9 := (unhide X7).at 9 rfl; obtain ⟨a7, c7, rfl, hr7⟩ := ho7.row; have HR7 := hide hr7; clear ho7 hr7 hb7 z0 z1 z2 z3 z4 z5 z6 z7 z8 z9)
    | (go_at_call 16; refine (rdraws28_any k rounds w7).mono ?_; rintro e w8 ⟨v8, rfl, ho8, hb8⟩; have HB8 := hide (below0 (unhide HB7) hb8); have X8 := hide ((unhide X7).below hb8); have z0 := (unhide X8).at 0 rfl; have z1 := (unhide X8).at 1 rfl; have z2 := (unhide X8).at 2 rfl; have z3 := (unhide X8).at 3 rfl; have z4 := (unhide X8).at 4 rfl; have z5 := (unhide X8).at 5 rfl; have z6 := (unhide X8).at 6 rfl; have z7 := (unhide X8).at 7 rfl; have z8 := (unhide X8).at 8 rfl; have z9 := (unhide X8).at 9 rfl; obtain ⟨a8, c8, rfl, hr8⟩ := ho8.row; have HWD := hide (rwords_any a7 _ c7 _ a8 _ c8 _ w8 ((unhide HR7).below hb8) hr8 (draws_small k rounds) (draws_small k rounds) rfl); clear ho8 hr8 hb8 u0 u1 u2 u3 u4 u5 u6 u7 u8 u9)
    | (go_at_call 14; refine (unhide HWD).mono ?_; rintro e w9 ⟨rfl, hb9⟩; have HB9 := hide (below0 (unhide HB8) hb9); have X9 := hide ((unhide X8).below hb9); have u0 := (unhide X9).at 0 rfl; have u1 := (unhide X9).at 1 rfl; have u2 := (unhide X9).at 2 rfl; have u3 := (unhide X9).at 3 rfl; have u4 := (unhide X9).at 4 rfl; have u5 := (unhide X9).at 5 rfl; have u6 := (unhide X9).at 6 rfl; have u7 := (unhide X9).at 7 rfl; have u8 := (unhide X9).at 8 rfl; have u9 := (unhide X9).at 9 rfl; clear HWD hb9 z0 z1 z2 z3 z4 z5 z6 z7 z8 z9)
    | (go_at_call 8; refine (awake28_any _).mono ?_; rintro e w10 ⟨rfl, hb10⟩; have HB10 := hide (below0 (unhide HB9) hb10); have X10 := hide ((unhide X9).below hb10); have z0 := (unhide X10).at 0 rfl; have z1 := (unhide X10).at 1 rfl; have z2 := (unhide X10).at 2 rfl; have z3 := (unhide X10).at 3 rfl; have z4 := (unhide X10).at 4 rfl; have z5 := (unhide X10).at 5 rfl; have z6 := (unhide X10).at 6 rfl; have z7 := (unhide X10).at 7 rfl; have z8 := (unhide X10).at 8 rfl; have z9 := (unhide X10).at 9 rfl; clear hb10 u0 u1 u2 u3 u4 u5 u6 u7 u8 u9)
    | fail)
  go_wp2
  go_ret
  exact ⟨rfl, unhide HB10⟩
end Go.Proofs.Ytljkmajajcocdaa
