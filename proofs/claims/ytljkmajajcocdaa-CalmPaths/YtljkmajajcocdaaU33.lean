/-
  Contract of bucketlineref01.Ints, of equal slices of at most 2^20 ints.
  bucketlinelaw28.awake. No condition.
-/
import Derived.Test.YtljkmajajcocdaaU2
import Derived.Test.YtljkmajajcocdaaU32
namespace Go.Proofs.Ytljkmajajcocdaa
open Go.RowKit
set_option linter.unusedVariables false
set_option linter.unusedSimpArgs false
set_option maxRecDepth 4000

set_option maxHeartbeats 1000000 in
theorem intz_any (a : Option Addr) (n c : Nat) (xs : List Int) (a' : Option Addr) (m c' : Nat) (ys : List Int) (w : World) (h : IntzAt w a n xs) (h' : IntzAt w a' m ys) (he : xs = ys) (hn : n ≤ 1048576) :
    Calls Try.prog 17 #[.slice a n c, .slice a' m c'] w fun e w' => e = .returned (.bool true) ∧ Below w.heap.size w w' := by
  subst he
  obtain rfl : n = xs.length := h.1.symm
  obtain rfl : m = xs.length := h'.1.symm
  go_enter Try.func17, Try.ntmps17
  go_wp2
  go_loopw [5] (fun i wr => ∃ k : Nat, k ≤ xs.length ∧ i = .int .i64 k ∧ Hid (Below w.heap.size w wr)) (fun i _ => xs.length - (intOf i).toNat)
  case atStart => exact ⟨0, Nat.zero_le _, rfl, hide (Below.refl _ _)⟩
  case round =>
    obtain ⟨k, hk, rfl, HB⟩ := hrel
    have hB := unhide HB
    by_cases hlt : k < xs.length
    · obtain ⟨b, off, rfl, hc⟩ := (h.below hB).at hlt
      have hcell := hc k hlt
      obtain ⟨b2, off2, rfl, hc2⟩ := (h'.below hB).at hlt
      have hcell2 := hc2 k hlt
      clear hc hc2 h h'
      generalize xs.getD k 0 = x at *
      go_wp2_with fail
      go_quiet (fail)
      go_wp2
      go_roundw
      case rel => exact ⟨k + 1, by omega, by go_num, hide (below_drewN (unhide HB) _)⟩
      case measure => simp [intOf]; omega
    · clear h h'
      go_wp2
      go_ret
      exact ⟨rfl, unhide HB⟩
end Go.Proofs.Ytljkmajajcocdaa
namespace Go.Proofs.Ytljkmajajcocdaa
open Go.RowKit Go.Sort Go.Shelf
set_option linter.unusedVariables false
set_option linter.unusedSimpArgs false
set_option maxRecDepth 4000

theorem draws34 : drawsD 3 4 = [0, 1] := by decide
theorem far28 (a x : Nat) : farN (pr28 a x).ds 2 1 0 = 1 := by kernel_rfl
theorem far28' (a x : Nat) : farN (pr28 a x).ds 2 0 1 = 8 := by kernel_rfl
theorem way28 (a x : Nat) : wayL (pr28 a x).ds 2 1 0 = [0, 1] := by kernel_rfl
theorem path28 {a x : Nat} {L : List Nat} (h : PathP (pr28 a x) 0 1 L) : L = [0, 1] := by
  refine h.uniq (.inl ⟨pr28_chk a x, ⟨Int.le_refl _, show (0 : Int) < 2 by decide⟩, ⟨by decide, show (1 : Int) < 2 by decide⟩, ?_, (way28 a x).symm⟩)
  show farN (pr28 a x).ds 2 1 0 < 8
  rw [far28]
  decide
theorem path28' {a x : Nat} {L : List Nat} (h : PathP (pr28 a x) 1 0 L) : L = [] := by
  refine h.uniq (.inr ⟨fun p => ?_, rfl⟩)
  have : farN (pr28 a x).ds 2 0 1 < 8 := p.2.2.2
  rw [far28'] at this
  omega
theorem rounds28 {a x : Nat} {k : Int} (h : RndP (pr28 a x) k) : k = 2 := by
  rcases h with ⟨-, h⟩ | ⟨h, -⟩
  · rw [h]; kernel_rfl
  · exact absurd (pr28_chk a x) h
theorem sink28 (a x : Nat) : SinkR (pr28 a x) 0 [0, 1] := by
  have e : wayF (pr28 a x).ds 2 0 1 = [0, 1] := by
    unfold wayF
    rw [far28, if_pos (by decide)]
    exact way28 a x
  refine .inl ⟨1, show 1 < 2 by decide, rfl, e.symm, by decide, fun j hj hk => ?_⟩
  obtain rfl : j = 0 := by omega
  have : (1 : Int) = 3 := hk
  omega
theorem script28 {a x : Nat} {D : List EvD} (h : ScriptP (pr28 a x) 2 D) : D = roundsD (pr28 a x).ds 2 [0, 1] 2 :=
  h.uniq (.inr ⟨pr28_chk a x, 0, [0, 1], show 0 < 2 by decide, rfl, sink28 a x, by kernel_rfl⟩)
theorem script28_data (a x : Nat) : (roundsD (pr28 a x).ds 2 [0, 1] 2).length = 20 ∧ ∃ e0 e1 e2 : EvD, ∃ l, roundsD (pr28 a x).ds 2 [0, 1] 2 = e0 :: e1 :: e2 :: l ∧ e0.kd = 1 ∧ e1.kd = 2 ∧ e2.kd = 3 :=
  ⟨by rw [roundsD_len]; rfl, _, _, _, _, rfl, rfl, rfl, rfl⟩
theorem script28_v {a x : Nat} {w : World} {B : Nat} {v : Value} {es : List EVV} (h : ScriptP (pr28 a x) 2 (es.map EVV.data)) (ho : OwnE w B v es) :
    ∃ g c, v = .slice (some ⟨g, 0, none⟩) 20 c ∧ ∀ W, OwnE W B v es → W.cell? ⟨g, 0, none⟩ = some (.int .i64 1) ∧ W.cell? ⟨g, 6, none⟩ = some (.int .i64 2) ∧ W.cell? ⟨g, 12, none⟩ = some (.int .i64 3) := by
  have e := script28 h
  obtain ⟨hl, e0, e1, e2, l, hd, h0, h1, h2⟩ := script28_data a x
  have hn : es.length = 20 := by rw [← hl, ← e, List.length_map]
  rw [hd] at e
  rcases es with _ | ⟨f0, _ | ⟨f1, _ | ⟨f2, fs⟩⟩⟩
  · cases hn
  · cases hn
  · cases hn
  simp only [List.map_cons, List.cons.injEq] at e
  obtain ⟨r0, r1, r2, -⟩ := e
  have k0 : f0.kd = 1 := by rw [← h0, ← r0]; rfl
  have k1 : f1.kd = 2 := by rw [← h1, ← r1]; rfl
  have k2 : f2.kd = 3 := by rw [← h2, ← r2]; rfl
  have ho' : w.ownsRow B 44 6 v (f0 :: f1 :: f2 :: fs).length (cellsE (f0 :: f1 :: f2 :: fs)) := ho
  rcases ho.2 with ⟨rfl, h0⟩ | ⟨g, cap, cur, rfl, hb, hg, hn2, hm, hsz, ht⟩
  · rw [hn] at h0; cases h0
  · refine ⟨g, cap, by rw [hn], fun W hW => ?_⟩
    have hW' : W.ownsRow B 44 6 (.slice (some ⟨g, 0, none⟩) (f0 :: f1 :: f2 :: fs).length cap) (f0 :: f1 :: f2 :: fs).length (cellsE (f0 :: f1 :: f2 :: fs)) := hW
    refine ⟨?_, ?_, ?_⟩
    · rw [hW'.cellAt 0 (by rw [hn]; omega), ← k0]; rfl
    · rw [hW'.cellAt 6 (by rw [hn]; omega), ← k1]; rfl
    · rw [hW'.cellAt 12 (by rw [hn]; omega), ← k2]; rfl
theorem own_two {w : World} {B g n c x y : Nat} (h : Own w B (.slice (some ⟨g, 0, none⟩) n c) [x, y]) : w.cell? ⟨g, 0, none⟩ = some (.int .u64 (x : Int)) ∧ w.cell? ⟨g, 1, none⟩ = some (.int .u64 (y : Int)) := by
  obtain ⟨g', cap, e, -, -, hc, -⟩ := h.at (show 0 < 2 by decide)
  cases e
  exact ⟨hc 0 (show 0 < 2 by decide), hc 1 (show 1 < 2 by decide)⟩
theorem intz_lit01 (w : World) : IntzAt (w.alloc (.cells #[.int .i64 0, .int .i64 1] 3)) (some ⟨w.heap.size, 0, none⟩) 2 [0, 1] := by
  refine ⟨rfl, .inr ⟨_, 0, rfl, fun i hi => ?_⟩⟩
  have A := bkA_new 3 w [.int .i64 0, .int .i64 1]
  obtain rfl | rfl : i = 0 ∨ i = 1 := by omega
  · exact A.at 0 rfl
  · exact A.at 1 rfl
set_option maxHeartbeats 4000000 in
theorem awake28_any (w : World) : Calls Try.prog 8 #[] w fun e w' => e = .returned (.bool true) ∧ Below w.heap.size w w' := by
  have FA := hide True.intro
  have FB := hide True.intro
  have FC := hide True.intro
  have FD := hide True.intro
  have FE := hide True.intro
  have FF := hide True.intro
  have FG := hide True.intro
  go_enter Try.func8, Try.ntmps8
  go_wp2_with (first
    | (clear FA; go_at_call 15; refine (cadraws_any 3 4 _).mono ?_; rintro e w1 ⟨v1, rfl, ho1, hb1⟩; rw [draws34] at ho1; obtain ⟨g1, c1, rfl, -⟩ := ho1.at (by decide); have HO1 := hide ho1; have HB1 := hide hb1; clear ho1 hb1)
    | (clear FB; go_at_call 22; refine (pair28_any _).mono ?_; rintro e w2 ⟨a2, x2, rfl, hn2, hb2⟩; have HC2 := hide (pr28_in hn2); have HB2 := hide (below0 (unhide HB1) hb2); have HO2 := hide ((unhide HO1).below hb2); clear hn2 hb2 HO1 HB1)
    | (clear FC; go_at_call 10; refine (script_any _ 2 _ (unhide HC2)).mono ?_; rintro e w3 ⟨v3, es, rfl, ho3, -, hs3, hb3⟩; obtain ⟨g3, c3, rfl, hc3⟩ := script28_v hs3 ho3; have HB3 := hide (below0 (unhide HB2) hb3); have HE3 := hide ho3; have HC3 := hide hc3; obtain ⟨d0, d1⟩ := own_two ((unhide HO2).below hb3); clear ho3 hs3 hb3 hc3 HO2 HB2 HC2)
    | (clear FD; go_at_call 22; refine (pair28_any _).mono ?_; rintro e w4 ⟨a4, x4, rfl, hn4, hb4⟩; have HC4 := hide (pr28_in hn4); have HB4 := hide (below0 (unhide HB3) hb4); have HE4 := hide ((unhide HE3).below hb4); clear hn4 hb4 HE3 HB3)
    | (clear FE; go_at_call 12; refine (carnd_any _ _ (unhide HC4)).mono ?_; rintro e w5 ⟨k5, rfl, hr5, hb5⟩; obtain rfl := rounds28 hr5; have HB5 := hide (below0 (unhide HB4) hb5); obtain ⟨l0, l1, l2⟩ := unhide HC3 _ ((unhide HE4).below hb5); clear hr5 hb5 HB4 HE4 HC3 HC4)
    | (clear FF; go_at_call 22; refine (pair28_any _).mono ?_; rintro e w6 ⟨a6, x6, rfl, hn6, hb6⟩; have HC6 := hide (pr28_in hn6); have HB6 := hide (below0 (unhide HB5) hb6); clear hn6 hb6 HB5)
    | (clear FG; go_at_call 18; refine (path_any _ 0 1 _ (unhide HC6)).mono ?_; rintro e w7 ⟨v7, L7, rfl, hp7, ho7, hb7⟩; obtain rfl := path28 hp7; obtain ⟨a7, c7, rfl, hz7⟩ := ho7.ints; have HZ7 := hide hz7; have HB7 := hide (below0 (unhide HB6) hb7); clear hp7 ho7 hz7 hb7 HB6 HC6)
    | (go_at_call 17; refine (intz_any _ _ _ _ _ _ _ [0, 1] _ ((unhide HZ7).below (alloc_low _ _)) (intz_lit01 _) rfl (by decide)).mono ?_; rintro e w8 ⟨rfl, hb8⟩; have HB8 := hide (below0 (below0 (unhide HB7) (alloc_low _ _)) hb8); clear hb8 HB7 HZ7)
    | (go_at_call 22; refine (pair28_any _).mono ?_; rintro e w9 ⟨a9, x9, rfl, hn9, hb9⟩; have HC9 := hide (pr28_in hn9); have HB9 := hide (below0 (unhide HB8) hb9); clear hn9 hb9 HB8)
    | (go_at_call 18; refine (path_any _ 1 0 _ (unhide HC9)).mono ?_; rintro e w10 ⟨v10, L10, rfl, hp10, ho10, hb10⟩; obtain rfl := path28' hp10; obtain ⟨a10, c10, rfl, -⟩ := ho10.ints; have HB10 := hide (below0 (unhide HB9) hb10); clear hp10 ho10 hb10 HB9 HC9)
    | fail)
  go_ret
  exact ⟨rfl, unhide HB10⟩
end Go.Proofs.Ytljkmajajcocdaa
