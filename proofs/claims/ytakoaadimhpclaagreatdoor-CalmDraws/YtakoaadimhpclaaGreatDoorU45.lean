/-
  The config of chapter 28's example; bucketlinelaw28.few. Condition: the config can be read.
  bucketlinelaw28.awake. No condition.
-/
import Derived.Test.YtakoaadimhpclaaGreatDoorU44
import Derived.Test.YtakoaadimhpclaaGreatDoorU26
import Derived.Test.YtakoaadimhpclaaGreatDoorU1
import Derived.Test.YtakoaadimhpclaaGreatDoorU4
namespace Go.Proofs.YtakoaadimhpclaaGreatDoor
open Go.RowKit Go.Sort Go.Shelf
set_option linter.unusedVariables false
set_option linter.unusedSimpArgs false
set_option maxRecDepth 4000

/-- A source and a sink. -/
def pr28 (a x : Nat) : CFV := ⟨some ⟨a, 0, none⟩, 2, 2, [⟨1, some ⟨x, 0, none⟩, 1, 1, [1]⟩, ⟨3, none, 0, 0, []⟩], ⟨#[97, 98]⟩, 1, 0, 4, 4, 0, 4607182418800017408, 5, 1⟩
theorem pr28_in {w : World} {a x : Nat} (h : NdsAt w (some ⟨a, 0, none⟩) 2 (pr28 a x).ds) : CfIn w (pr28 a x) :=
  ⟨h, show 2 ≤ 9223372036854775807 by decide, show (2 : Nat) ≤ 9223372036854775807 by decide, show 4607182418800017408 < 18446744073709551616 by decide, fun i hi => by
    have hi' : i < 2 := hi
    obtain rfl | rfl : i = 0 ∨ i = 1 := by omega
    · exact ⟨show 1 ≤ 9223372036854775807 by decide, fun e => by have e' : some (⟨x, 0, none⟩ : Addr) = none := e; cases e'⟩
    · exact ⟨show 0 ≤ 9223372036854775807 by decide, fun _ => ⟨rfl, rfl⟩⟩, fun i hi => by
    have hi' : i < 2 := hi
    obtain rfl | rfl : i = 0 ∨ i = 1 := by omega
    · exact Nat.le_refl _
    · exact Nat.le_refl _⟩
theorem pr28_chk (a x : Nat) : ChkR (pr28 a x) 0 := by
  refine .inl ⟨⟨⟨show 1 ≤ 2 ∧ 2 ≤ 8 by decide, show (0 : Int) ≤ 0 ∧ (0 : Int) ≤ 128 by decide, show (1 : Int) ≤ 4 ∧ (4 : Int) ≤ 256 by decide, show (1 : Int) ≤ 4 ∧ (4 : Int) ≤ 256 by decide, show (0 : Int) ≤ 0 ∧ (0 : Int) ≤ 256 by decide, show (0 : Int) ≤ 5 ∧ (5 : Int) ≤ 1048576 by decide, show (1 : Int) ≤ 1 ∧ (1 : Int) ≤ 128 by decide⟩, fun i hi => ?_, rfl⟩, by kernel_rfl⟩
  have hi' : i < 2 := hi
  obtain rfl | rfl : i = 0 ∨ i = 1 := by omega
  · refine ⟨show (1 : Int) ≤ 1 ∧ (1 : Int) ≤ 3 by decide, show (1 : Int) < 2 by decide, fun j hj => ?_⟩
    have hj' : j < 1 := hj
    obtain rfl : j = 0 := by omega
    exact ⟨show (0 : Int) ≤ 1 ∧ (1 : Int) ≤ 2 - 1 by decide, show (1 : Int) ≠ 0 by decide, fun k hk => by omega⟩
  · exact ⟨show (1 : Int) ≤ 3 ∧ (3 : Int) ≤ 3 by decide, show (0 : Int) < 2 by decide, fun j hj => by have hj' : j < 0 := hj; omega⟩
theorem results_cfg28 {tmps : Array Value} {W : World} {g : Nat} {cs : List Value} (h2 : tmps.getD 0 undef = .pointer (some ⟨g, 0, none⟩)) (hq : BkA 51 W g cs) (hl : cs.length = 10) : (results Tryz.f14 tmps).run Tryz.prog W = .ok (.agg cs.toArray) W := by
  have hld := hq.load Tryz.underlying51 rfl info_cfg hl
  have h2' : tmps[0]?.getD undef = .pointer (some ⟨g, 0, none⟩) := by simpa using h2
  simp [results, Tryz.results14, asAddr, h2', hld]
set_option maxHeartbeats 2000000 in
theorem pair28_any (w : World) : Calls Tryz.prog 14 #[] w fun e w' => ∃ a x, e = .returned (pr28 a x).val ∧ NdsAt w' (some ⟨a, 0, none⟩) 2 (pr28 a x).ds ∧ Below w.heap.size w w' := by
  have HX := hide (show BkA 51 (((w.alloc (.cells #[.slice none 0 0, .string ⟨#[]⟩, .int .i64 0, .int .i64 0, .int .i64 0, .int .i64 0, .int .i64 0, .float .f64 0, .int .i64 0, .int .i64 0] 51)).alloc (.cells #[.int .i64 1] 3)).alloc (.cells #[.int .i64 1, .slice (some ⟨w.heap.size + 1, 0, none⟩) 1 1, .int .i64 3, .slice none 0 0] 83)) w.heap.size [.slice none 0 0, .string ⟨#[]⟩, .int .i64 0, .int .i64 0, .int .i64 0, .int .i64 0, .int .i64 0, .float .f64 0, .int .i64 0, .int .i64 0] from ((bkA_new 51 w [.slice none 0 0, .string ⟨#[]⟩, .int .i64 0, .int .i64 0, .int .i64 0, .int .i64 0, .int .i64 0, .float .f64 0, .int .i64 0, .int .i64 0]).below (alloc_low _ _)).below (alloc_low _ _))
  go_enter Tryz.func14, Tryz.ntmps14
  go_wp2_with (first
    | ((with_reducible refine bw_mid 51 51 info_cfg 0 5 w.heap.size 0 _ [.slice (some ⟨w.heap.size + 1 + 1, 0, none⟩) 2 2, .string ⟨#[97, 98]⟩, .int .i64 1, .int .i64 0, .int .i64 4, .int .i64 4, .int .i64 0, .float .f64 4607182418800017408, .int .i64 5, .int .i64 1] ?_ ?_ (unhide HX) rfl ?_ ?_ ?_); (focus rfl); (focus rfl); (focus exact (show 0 + 10 ≤ 10 by decide)); (focus exact (by simp [Value.oneCell'])); intro w4 hx4 ht4; have HX4 := hide hx4; have HT4 := hide ht4; clear hx4 ht4)
    | fail)
  have ht4 := unhide HT4
  have hb3 : Below w.heap.size w (((w.alloc (.cells #[.slice none 0 0, .string ⟨#[]⟩, .int .i64 0, .int .i64 0, .int .i64 0, .int .i64 0, .int .i64 0, .float .f64 0, .int .i64 0, .int .i64 0] 51)).alloc (.cells #[.int .i64 1] 3)).alloc (.cells #[.int .i64 1, .slice (some ⟨w.heap.size + 1, 0, none⟩) 1 1, .int .i64 3, .slice none 0 0] 83)) := below0 (below0 (alloc_low _ _) (alloc_low _ _)) (alloc_low _ _)
  refine bodyPost_ret (results_cfg28 rfl (unhide HX4) rfl) rfl ⟨w.heap.size + 1 + 1, w.heap.size + 1, rfl, ?_, hb3.trans (ht4.below hb3.size fun j hj e => by omega)⟩
  have A := (bkA_new 3 (w.alloc (.cells #[.slice none 0 0, .string ⟨#[]⟩, .int .i64 0, .int .i64 0, .int .i64 0, .int .i64 0, .int .i64 0, .float .f64 0, .int .i64 0, .int .i64 0] 51)) [.int .i64 1]).below (alloc_low _ (.cells #[.int .i64 1, .slice (some ⟨w.heap.size + 1, 0, none⟩) 1 1, .int .i64 3, .slice none 0 0] 83))
  have C := bkA_new 83 ((w.alloc (.cells #[.slice none 0 0, .string ⟨#[]⟩, .int .i64 0, .int .i64 0, .int .i64 0, .int .i64 0, .int .i64 0, .float .f64 0, .int .i64 0, .int .i64 0] 51)).alloc (.cells #[.int .i64 1] 3)) [.int .i64 1, .slice (some ⟨w.heap.size + 1, 0, none⟩) 1 1, .int .i64 3, .slice none 0 0]
  simp only [alloc_size] at A C
  have n1 : ¬ (w.heap.size + 1 = w.heap.size) := by omega
  have n3 : ¬ (w.heap.size + 1 + 1 = w.heap.size) := by omega
  refine ⟨rfl, fun i hi => ?_, .inr ⟨_, 0, rfl, fun i hi => ?_⟩⟩
  · obtain rfl | rfl : i = 0 ∨ i = 1 := by omega
    · exact ⟨rfl, .inr ⟨_, 0, rfl, fun j hj => by
        have hj' : j < 1 := hj
        obtain rfl : j = 0 := by omega
        exact ht4.cell (A.at 0 rfl) n1⟩⟩
    · exact ⟨rfl, .inl rfl⟩
  · obtain rfl | rfl : i = 0 ∨ i = 1 := by omega
    · exact ⟨ht4.cell (C.at 0 rfl) n3, ht4.cell (C.at 1 rfl) n3⟩
    · exact ⟨ht4.cell (C.at 2 rfl) n3, ht4.cell (C.at 3 rfl) n3⟩
end Go.Proofs.YtakoaadimhpclaaGreatDoor
namespace Go.Proofs.YtakoaadimhpclaaGreatDoor
open Go.RowKit Go.Sort Go.Shelf
set_option linter.unusedVariables false
set_option linter.unusedSimpArgs false
set_option maxRecDepth 4000

theorem draws34 : drawsD 3 4 = [0, 1] := by decide
theorem far28 (a x : Nat) : farN (pr28 a x).ds 2 1 0 = 1 := by kernel_rfl
theorem far28' (a x : Nat) : farN (pr28 a x).ds 2 0 1 = 8 := by kernel_rfl
theorem way28 (a x : Nat) : wayL (pr28 a x).ds 2 1 0 = [0, 1] := by kernel_rfl
theorem path28 {a x : Nat} {L : List Nat} (h : PathP (pr28 a x) 0 1 L) : L = [0, 1] := by
  refine h.uniq (.inl ⟨pr28_chk a x, ⟨Int.le_refl _, show (0 : Int) < 2 by decide⟩, ⟨by decide, show (1 : Int) < 2 by decide⟩, ?_, (way28 a x).symm⟩)
  show farN (pr28 a x).ds 2 1 0 < 8
  rw [far28]
  decide
theorem path28' {a x : Nat} {L : List Nat} (h : PathP (pr28 a x) 1 0 L) : L = [] := by
  refine h.uniq (.inr ⟨fun p => ?_, rfl⟩)
  have : farN (pr28 a x).ds 2 0 1 < 8 := p.2.2.2
  rw [far28'] at this
  omega
theorem rounds28 {a x : Nat} {k : Int} (h : RndP (pr28 a x) k) : k = 2 := by
  rcases h with ⟨-, h⟩ | ⟨h, -⟩
  · rw [h]; kernel_rfl
  · exact absurd (pr28_chk a x) h
theorem sink28 (a x : Nat) : SinkR (pr28 a x) 0 [0, 1] := by
  have e : wayF (pr28 a x).ds 2 0 1 = [0, 1] := by
    unfold wayF
    rw [far28, if_pos (by decide)]
    exact way28 a x
  refine .inl ⟨1, show 1 < 2 by decide, rfl, e.symm, by decide, fun j hj hk => ?_⟩
  obtain rfl : j = 0 := by omega
  have : (1 : Int) = 3 := hk
  omega
theorem script28 {a x : Nat} {D : List EvD} (h : ScriptP (pr28 a x) 2 D) : D = roundsD (pr28 a x).ds 2 [0, 1] 2 :=
  h.uniq (.inr ⟨pr28_chk a x, 0, [0, 1], show 0 < 2 by decide, rfl, sink28 a x, by kernel_rfl⟩)
theorem script28_data (a x : Nat) : (roundsD (pr28 a x).ds 2 [0, 1] 2).length = 20 ∧ ∃ e0 e1 e2 : EvD, ∃ l, roundsD (pr28 a x).ds 2 [0, 1] 2 = e0 :: e1 :: e2 :: l ∧ e0.kd = 1 ∧ e1.kd = 2 ∧ e2.kd = 3 :=
  ⟨by rw [roundsD_len]; rfl, _, _, _, _, rfl, rfl, rfl, rfl⟩
theorem script28_v {a x : Nat} {w : World} {B : Nat} {v : Value} {es : List EVV} (h : ScriptP (pr28 a x) 2 (es.map EVV.data)) (ho : OwnE w B v es) :
    ∃ g c, v = .slice (some ⟨g, 0, none⟩) 20 c ∧ ∀ W, OwnE W B v es → W.cell? ⟨g, 0, none⟩ = some (.int .i64 1) ∧ W.cell? ⟨g, 6, none⟩ = some (.int .i64 2) ∧ W.cell? ⟨g, 12, none⟩ = some (.int .i64 3) := by
  have e := script28 h
  obtain ⟨hl, e0, e1, e2, l, hd, h0, h1, h2⟩ := script28_data a x
  have hn : es.length = 20 := by rw [← hl, ← e, List.length_map]
  rw [hd] at e
  rcases es with _ | ⟨f0, _ | ⟨f1, _ | ⟨f2, fs⟩⟩⟩
  · cases hn
  · cases hn
  · cases hn
  simp only [List.map_cons, List.cons.injEq] at e
  obtain ⟨r0, r1, r2, -⟩ := e
  have k0 : f0.kd = 1 := by rw [← h0, ← r0]; rfl
  have k1 : f1.kd = 2 := by rw [← h1, ← r1]; rfl
  have k2 : f2.kd = 3 := by rw [← h2, ← r2]; rfl
  have ho' : w.ownsRow B 56 6 v (f0 :: f1 :: f2 :: fs).length (cellsE (f0 :: f1 :: f2 :: fs)) := ho
  rcases ho.2 with ⟨rfl, h0⟩ | ⟨g, cap, cur, rfl, hb, hg, hn2, hm, hsz, ht⟩
  · rw [hn] at h0; cases h0
  · refine ⟨g, cap, by rw [hn], fun W hW => ?_⟩
    have hW' : W.ownsRow B 56 6 (.slice (some ⟨g, 0, none⟩) (f0 :: f1 :: f2 :: fs).length cap) (f0 :: f1 :: f2 :: fs).length (cellsE (f0 :: f1 :: f2 :: fs)) := hW
    refine ⟨?_, ?_, ?_⟩
    · rw [hW'.cellAt 0 (by rw [hn]; omega), ← k0]; rfl
    · rw [hW'.cellAt 6 (by rw [hn]; omega), ← k1]; rfl
    · rw [hW'.cellAt 12 (by rw [hn]; omega), ← k2]; rfl
theorem own_two {w : World} {B g n c x y : Nat} (h : Own w B (.slice (some ⟨g, 0, none⟩) n c) [x, y]) : w.cell? ⟨g, 0, none⟩ = some (.int .u64 (x : Int)) ∧ w.cell? ⟨g, 1, none⟩ = some (.int .u64 (y : Int)) := by
  obtain ⟨g', cap, e, -, -, hc, -⟩ := h.at (show 0 < 2 by decide)
  cases e
  exact ⟨hc 0 (show 0 < 2 by decide), hc 1 (show 1 < 2 by decide)⟩
theorem intz_lit01 (w : World) : IntzAt (w.alloc (.cells #[.int .i64 0, .int .i64 1] 3)) (some ⟨w.heap.size, 0, none⟩) 2 [0, 1] := by
  refine ⟨rfl, .inr ⟨_, 0, rfl, fun i hi => ?_⟩⟩
  have A := bkA_new 3 w [.int .i64 0, .int .i64 1]
  obtain rfl | rfl : i = 0 ∨ i = 1 := by omega
  · exact A.at 0 rfl
  · exact A.at 1 rfl
set_option maxHeartbeats 4000000 in
theorem awake28_any (w : World) : Calls Tryz.prog 5 #[] w fun e w' => e = .returned (.bool true) ∧ Below w.heap.size w w' := by
  have FA := hide True.intro
  have FB := hide True.intro
  have FC := hide True.intro
  have FD := hide True.intro
  have FE := hide True.intro
  have FF := hide True.intro
  have FG := hide True.intro
  go_enter Tryz.func5, Tryz.ntmps5
  go_wp2_with (first
    | (clear FA; go_at_call 9; refine (cadraws_any 3 4 _).mono ?_; rintro e w1 ⟨v1, rfl, ho1, hb1⟩; rw [draws34] at ho1; obtain ⟨g1, c1, rfl, -⟩ := ho1.at (by decide); have HO1 := hide ho1; have HB1 := hide hb1; clear ho1 hb1)
    | (clear FB; go_at_call 14; refine (pair28_any _).mono ?_; rintro e w2 ⟨a2, x2, rfl, hn2, hb2⟩; have HC2 := hide (pr28_in hn2); have HB2 := hide (below0 (unhide HB1) hb2); have HO2 := hide ((unhide HO1).below hb2); clear hn2 hb2 HO1 HB1)
    | (clear FC; go_at_call 13; refine (script_any _ 2 _ (unhide HC2)).mono ?_; rintro e w3 ⟨v3, es, rfl, ho3, -, hs3, hb3⟩; obtain ⟨g3, c3, rfl, hc3⟩ := script28_v hs3 ho3; have HB3 := hide (below0 (unhide HB2) hb3); have HE3 := hide ho3; have HC3 := hide hc3; obtain ⟨d0, d1⟩ := own_two ((unhide HO2).below hb3); clear ho3 hs3 hb3 hc3 HO2 HB2 HC2)
    | (clear FD; go_at_call 14; refine (pair28_any _).mono ?_; rintro e w4 ⟨a4, x4, rfl, hn4, hb4⟩; have HC4 := hide (pr28_in hn4); have HB4 := hide (below0 (unhide HB3) hb4); have HE4 := hide ((unhide HE3).below hb4); clear hn4 hb4 HE3 HB3)
    | (clear FE; go_at_call 15; refine (carnd_any _ _ (unhide HC4)).mono ?_; rintro e w5 ⟨k5, rfl, hr5, hb5⟩; obtain rfl := rounds28 hr5; have HB5 := hide (below0 (unhide HB4) hb5); obtain ⟨l0, l1, l2⟩ := unhide HC3 _ ((unhide HE4).below hb5); clear hr5 hb5 HB4 HE4 HC3 HC4)
    | (clear FF; go_at_call 14; refine (pair28_any _).mono ?_; rintro e w6 ⟨a6, x6, rfl, hn6, hb6⟩; have HC6 := hide (pr28_in hn6); have HB6 := hide (below0 (unhide HB5) hb6); clear hn6 hb6 HB5)
    | (clear FG; go_at_call 17; refine (path_any _ 0 1 _ (unhide HC6)).mono ?_; rintro e w7 ⟨v7, L7, rfl, hp7, ho7, hb7⟩; obtain rfl := path28 hp7; obtain ⟨a7, c7, rfl, hz7⟩ := ho7.ints; have HZ7 := hide hz7; have HB7 := hide (below0 (unhide HB6) hb7); clear hp7 ho7 hz7 hb7 HB6 HC6)
    | (go_at_call 16; refine (intz_any _ _ _ _ _ _ _ [0, 1] _ ((unhide HZ7).below (alloc_low _ _)) (intz_lit01 _) rfl (by decide)).mono ?_; rintro e w8 ⟨rfl, hb8⟩; have HB8 := hide (below0 (below0 (unhide HB7) (alloc_low _ _)) hb8); clear hb8 HB7 HZ7)
    | (go_at_call 14; refine (pair28_any _).mono ?_; rintro e w9 ⟨a9, x9, rfl, hn9, hb9⟩; have HC9 := hide (pr28_in hn9); have HB9 := hide (below0 (unhide HB8) hb9); clear hn9 hb9 HB8)
    | (go_at_call 17; refine (path_any _ 1 0 _ (unhide HC9)).mono ?_; rintro e w10 ⟨v10, L10, rfl, hp10, ho10, hb10⟩; obtain rfl := path28' hp10; obtain ⟨a10, c10, rfl, -⟩ := ho10.ints; have HB10 := hide (below0 (unhide HB9) hb10); clear hp10 ho10 hb10 HB9 HC9)
    | fail)
  go_ret
  exact ⟨rfl, unhide HB10⟩
end Go.Proofs.YtakoaadimhpclaaGreatDoor
