/-
  Contract of Decoder.Put: for every packet of at most 10 words and 1000 bytes; of a decoder that is none.
  Contracts of Decoder.Rank, Done, Object, Kept, Over: of a decoder, and of none.
  Rows that are true of blocks of one size, of full rank, tell these. No condition.
-/
import Derived.Test.YtnjdldbdkafnaaaGreatDoorOG
import Derived.Test.YtnjdldbdkafnaaaGreatDoorU37
import Derived.Test.YtnjdldbdkafnaaaGreatDoorU32
import Derived.Test.YtnjdldbdkafnaaaGreatDoorOM
namespace Go.Proofs.YtnjdldbdkafnaaaGreatDoor
open Go.RowKit Go.Sort
set_option linter.unusedVariables false
set_option linter.unusedSimpArgs false
set_option maxRecDepth 4000

/-- A decoder is as it was where a block of another type is written. -/
theorem DcAt.sets {T : TypeId} {w w' : World} {q : Nat} {cs : List Value} {g B : Nat} {M : Int} {s : DS} {gs : Nat} {v : Value} {rs : List RV} (h : DcAt w g B M s gs v rs) (hq : BkA T w q cs) (ht : Tu (fun j => j = q) w w') (hD : T ≠ 58) (hS : T ≠ 87) (hR : T ≠ 29) (hU : T ≠ 53) : DcAt w' g B M s gs v rs :=
  ⟨h.blk.tu ht (fun e => hq.ne h.blk hD e.symm), h.lo, fun e => ⟨(h.begun e).1.sets hq ht hS hR hU, (h.begun e).2⟩, h.fresh, h.co⟩
/-- What a put leaves. -/
def DputR (w w' : World) (g B : Nat) (M : Int) (s : DS) (gs : Nat) (v : Value) (p : PKV) (e : Ending) : Prop :=
  ∃ gs' v' rs' ob, e = .returned (.int .i64 (dputE M s p)) ∧ (admB s p = true → TellsP M (begS s p) (p.r.xs, p.r.s) ob) ∧ DcAt w' g B M (dput M s p ob) gs' v' rs' ∧ Tu (dcF g gs v) w w' ∧ Mv w gs v gs' v'
theorem dput_no {M : Int} {s : DS} {p : PKV} {ob : ByteArray} (h : admB s p = false) : dput M s p ob = s ∧ dputE M s p = 1 := by
  unfold dput dputE
  rw [h]; exact ⟨rfl, rfl⟩
theorem dput_yes {M : Int} {s : DS} {p : PKV} {ob : ByteArray} (h : admB s p = true) : dput M s p ob = keepS M (begS s p) (p.r.xs, p.r.s) ob ∧ dputE M s p = keepE M (begS s p) := by
  unfold dput dputE
  rw [h]; exact ⟨rfl, rfl⟩
theorem mf_run (fn : Fn) (first cap : Array Value) (w : World) : (Instr.makeFunc fn first cap).run Tryz.prog w = .ok (.func fn first cap) w := rfl

/-- Ahead of the call: the packet's box and the error's. -/
theorem put_boxes (p : PKV) (w : World) : BkA 31 ((w.alloc (.cells #[.int .i64 p.o, .int .i64 p.l, .int .i64 p.k, .int .i64 p.z, .int .i64 p.h, .slice p.r.a p.r.n p.r.c, .string p.r.s] 31)).alloc (.cells #[.int .i64 0] 40)) w.heap.size [.int .i64 p.o, .int .i64 p.l, .int .i64 p.k, .int .i64 p.z, .int .i64 p.h, .slice p.r.a p.r.n p.r.c, .string p.r.s] ∧ BkA 40 ((w.alloc (.cells #[.int .i64 p.o, .int .i64 p.l, .int .i64 p.k, .int .i64 p.z, .int .i64 p.h, .slice p.r.a p.r.n p.r.c, .string p.r.s] 31)).alloc (.cells #[.int .i64 0] 40)) (w.heap.size + 1) [.int .i64 0] ∧ Below w.heap.size w ((w.alloc (.cells #[.int .i64 p.o, .int .i64 p.l, .int .i64 p.k, .int .i64 p.z, .int .i64 p.h, .slice p.r.a p.r.n p.r.c, .string p.r.s] 31)).alloc (.cells #[.int .i64 0] 40)) := by
  refine ⟨?_, ?_, ((Below.refl _ _).alloc (Nat.le_refl _) _).alloc (by simp) _⟩
  · have h : BkA 31 (w.alloc (.cells #[.int .i64 p.o, .int .i64 p.l, .int .i64 p.k, .int .i64 p.z, .int .i64 p.h, .slice p.r.a p.r.n p.r.c, .string p.r.s] 31)) w.heap.size [.int .i64 p.o, .int .i64 p.l, .int .i64 p.k, .int .i64 p.z, .int .i64 p.h, .slice p.r.a p.r.n p.r.c, .string p.r.s] := bkA_new 31 w [.int .i64 p.o, .int .i64 p.l, .int .i64 p.k, .int .i64 p.z, .int .i64 p.h, .slice p.r.a p.r.n p.r.c, .string p.r.s]
    exact h.below (alloc_low _ _)
  · have h := bkA_new 40 (w.alloc (.cells #[.int .i64 p.o, .int .i64 p.l, .int .i64 p.k, .int .i64 p.z, .int .i64 p.h, .slice p.r.a p.r.n p.r.c, .string p.r.s] 31)) [.int .i64 0]
    rw [alloc_size] at h
    exact h
set_option maxHeartbeats 2000000 in
theorem dput_bad (g B : Nat) (M : Int) (s : DS) (gs : Nat) (v : Value) (rs : List RV) (p : PKV) (w : World) (h : DcAt w g B M s gs v rs) (hr : RowAt w p.r.a p.r.n p.r.xs) (ha : admB s p = false) :
    Calls Tryz.prog 11 #[.pointer (some ⟨g, 0, none⟩), .agg #[.int .i64 p.o, .int .i64 p.l, .int .i64 p.k, .int .i64 p.z, .int .i64 p.h, .slice p.r.a p.r.n p.r.c, .string p.r.s]] w fun e w' => DputR w w' g B M s gs v p e := by
  have hmf := mf_run
  obtain ⟨hx, he, hb0⟩ := put_boxes p w
  have HA := hide (admit_no g B M s gs v rs p _ (h.below hb0) (hr.below hb0) ha)
  have HD := hide h
  have HNO := hide (dput_no (M := M) (ob := ⟨#[]⟩) ha)
  have HAD := hide ha
  clear h hr ha
  generalize hW : (w.alloc (.cells #[.int .i64 p.o, .int .i64 p.l, .int .i64 p.k, .int .i64 p.z, .int .i64 p.h, .slice p.r.a p.r.n p.r.c, .string p.r.s] 31)).alloc (.cells #[.int .i64 0] 40) = W at *
  have q0 := hx.at 0 rfl
  have q1 := hx.at 1 rfl
  have q2 := hx.at 2 rfl
  have q3 := hx.at 3 rfl
  have q4 := hx.at 4 rfl
  have q5 := hx.at 5 rfl
  have q6 := hx.at 6 rfl
  have HE := hide he
  have HB0 := hide hb0
  clear hx he hb0
  go_enter_defers Tryz.func11, Tryz.ntmps11
  go_wp2_with (go_at_call 27; refine (unhide HA).mono ?_; rintro e w1 ⟨⟨tx, rfl⟩, hb1⟩)
  have he1 := (unhide HE).below hb1
  refine leaves_cons (f := 26) (args := #[.pointer (some ⟨w.heap.size + 1, 0, none⟩)]) (by simp) (by simp [go_sem]) ?_
  refine (catch_panicking ⟨w.heap.size + 1, 0, none⟩ 0 9 _ [] _ (he1.at 0 rfl) (he1.frz 0)).mono ?_
  rintro e u' w'' ⟨rfl, rfl, rfl⟩
  have hc := (he1.set 0 (.int .i64 1)).at 0 rfl
  show Leaves Tryz.prog Tryz.f11 _ _ [] .returning _
  refine ⟨.int .i64 1, by simp [results, Tryz.results11, go_sem, hc], ?_⟩
  have hbe : Below w.heap.size w (w1.setCell ⟨w.heap.size + 1, 0, none⟩ (.int .i64 1)) := (below0 (unhide HB0) hb1).setCell (p := ⟨w.heap.size + 1, 0, none⟩) (Nat.le_succ _) _
  refine ⟨gs, v, rs, ⟨#[]⟩, by rw [(unhide HNO).2], (fun e => by rw [unhide HAD] at e; cases e), ?_, Tu.of_below hbe, Mv.refl _ _ _⟩
  rw [(unhide HNO).1]
  exact (unhide HD).below hbe
set_option maxHeartbeats 4000000 in
theorem dput_good (g B : Nat) (M : Int) (s : DS) (gs : Nat) (v : Value) (rs : List RV) (p : PKV) (w : World) (ht : ∀ wx, Below B w wx → Tab wx) (h : DcAt w g B M s gs v rs) (hr : ∀ wx, Tu (dcF g gs v) w wx → RowAt wx p.r.a p.r.n p.r.xs) (hn : p.r.n ≤ 10) (hs : p.r.s.size ≤ 1000) (ha : admB s p = true) :
    Calls Tryz.prog 11 #[.pointer (some ⟨g, 0, none⟩), .agg #[.int .i64 p.o, .int .i64 p.l, .int .i64 p.k, .int .i64 p.z, .int .i64 p.h, .slice p.r.a p.r.n p.r.c, .string p.r.s]] w fun e w' => DputR w w' g B M s gs v p e := by
  have hmf := mf_run
  obtain ⟨hx, he, hb0⟩ := put_boxes p w
  have hdW := h.below hb0
  have HA := hide (admit_ok g B M s gs v rs p _ hdW (hr _ (Tu.of_below hb0)) ha)
  have HXO := hide (hdW.out hx (by decide) (by decide) (by decide))
  have HEO := hide (hdW.out he (by decide) (by decide) (by decide))
  have HFI := hide (adm_fit ha)
  have HYE := hide (fun ob => dput_yes (M := M) (ob := ob) ha)
  have HH := hide h
  have HT := hide ht
  have HR := hide hr
  clear h hr ha hdW ht
  generalize hW : (w.alloc (.cells #[.int .i64 p.o, .int .i64 p.l, .int .i64 p.k, .int .i64 p.z, .int .i64 p.h, .slice p.r.a p.r.n p.r.c, .string p.r.s] 31)).alloc (.cells #[.int .i64 0] 40) = W at *
  have q0 := hx.at 0 rfl
  have q1 := hx.at 1 rfl
  have q2 := hx.at 2 rfl
  have q3 := hx.at 3 rfl
  have q4 := hx.at 4 rfl
  have q5 := hx.at 5 rfl
  have q6 := hx.at 6 rfl
  have HE := hide he
  have HX := hide hx
  have HB0 := hide hb0
  clear hx he hb0
  go_enter_defers Tryz.func11, Tryz.ntmps11
  go_wp2_with fail
  refine (unhide HA).mono ?_
  rintro e w1 ⟨rfl, gs1, v1, rs1, hd1, ht1, hm1⟩
  have he1 := (unhide HE).tu ht1 (unhide HEO)
  have hx1 := (unhide HX).tu ht1 (unhide HXO)
  have htw : Tu (dcF g gs v) w w1 := Tu.after (unhide HB0) ht1
  have hmw : Mv w gs v gs1 v1 := hm1.new (unhide HB0).size
  have hrow := unhide HR w1 htw
  obtain ⟨-, -, -, -, -, -, c6, -⟩ := hd1.cells
  have ec := he1.at 0 rfl
  have ef := he1.frz 0
  have x5 := hx1.at 5 rfl
  have x6 := hx1.at 6 rfl
  have hfi := unhide HFI
  have hbB : Below B w w1 := (unhide HH).keeps htw
  have HD1 := hide hd1
  have HE1 := hide he1
  have HTW := hide htw
  have HMW := hide hmw
  clear q0 q1 q2 q3 q4 q5 q6 HA HXO HEO HE HX hx1 ht1 hm1
  cases hdn : (begS s p).dn
  · have HKP := hide (dkeep_any g B M (begS s p) gs1 v1 rs1 p.r.a p.r.n p.r.c p.r.xs p.r.s w1 (fun wx hb => unhide HT wx (hbB.trans hb)) hd1 hfi.2.2 hdn hrow hn hs hfi.2.1)
    rw [hdn] at c6
    clear hd1 he1 htw hmw hrow hfi hbB
    go_wp2_with fail
    refine (unhide HKP).mono ?_
    rintro e w2 ⟨v2, rs2, ob, rfl, hT, hd2, ht2, hm2⟩
    have heo := (unhide HD1).out (unhide HE1) (by decide) (by decide) (by decide)
    have he2 := (unhide HE1).tu ht2 heo
    have ec2 := he2.at 0 rfl
    have ef2 := he2.frz 0
    have HE2 := hide he2
    have HD2 := hide hd2
    have HTL := hide hT
    have HT2 := hide (tu_trans (unhide HTW) ht2 (unhide HMW))
    have HM2 := hide ((unhide HMW).trans hm2 (unhide HTW).size)
    clear he2 hd2 hT ht2 hm2 heo ec ef c6 x5 x6 HKP
    generalize hKE : keepE M (begS s p) = KE at *
    go_wp2
    refine leaves_cons (f := 26) (args := #[.pointer (some ⟨w.heap.size + 1, 0, none⟩)]) (by simp) (by simp [go_sem]) ?_
    refine (catch_idle ⟨w.heap.size + 1, 0, none⟩ _).mono ?_
    rintro e u' w'' ⟨rfl, rfl, rfl⟩
    have hc := ((unhide HE2).set 0 (.int .i64 KE)).at 0 rfl
    show Leaves Tryz.prog Tryz.f11 _ _ [] .returning _
    refine ⟨.int .i64 KE, by simp [results, Tryz.results11, go_sem, hc], ?_⟩
    have hts := tu_set w2 (w.heap.size + 1) 0 (.int .i64 KE)
    refine ⟨gs1, v2, rs2, ob, by rw [(unhide HYE ob).2], fun _ => unhide HTL, ?_, (unhide HT2).trans hts fun j hj e => absurd e (by omega), unhide HM2⟩
    rw [(unhide HYE ob).1]
    exact (unhide HD2).sets (unhide HE2) hts (by decide) (by decide) (by decide) (by decide)
  · rw [hdn] at c6
    have hks := fun ob => keepS_dn (M := M) (x := (p.r.xs, p.r.s)) (ob := ob) hdn
    have HKS := hide hks
    have HNW := hide (newly_not (M := M) (x := (p.r.xs, p.r.s)) hdn)
    clear hd1 he1 htw hmw hrow hfi hbB hks
    go_wp2
    refine leaves_cons (f := 26) (args := #[.pointer (some ⟨w.heap.size + 1, 0, none⟩)]) (by simp) (by simp [go_sem]) ?_
    refine (catch_idle ⟨w.heap.size + 1, 0, none⟩ _).mono ?_
    rintro e u' w'' ⟨rfl, rfl, rfl⟩
    have hc := ((unhide HE1).set 0 (.int .i64 0)).at 0 rfl
    show Leaves Tryz.prog Tryz.f11 _ _ [] .returning _
    refine ⟨.int .i64 0, by simp [results, Tryz.results11, go_sem, hc], ?_⟩
    have hts := tu_set w1 (w.heap.size + 1) 0 (.int .i64 0)
    refine ⟨gs1, v1, rs1, ⟨#[]⟩, by rw [(unhide HYE ⟨#[]⟩).2, (unhide HKS ⟨#[]⟩).2], (fun _ hq => by rw [unhide HNW] at hq; cases hq), ?_, (unhide HTW).trans hts fun j hj e => absurd e (by omega), unhide HMW⟩
    rw [(unhide HYE ⟨#[]⟩).1, (unhide HKS ⟨#[]⟩).1]
    exact (unhide HD1).sets (unhide HE1) hts (by decide) (by decide) (by decide) (by decide)
/-- Decoder.Put. -/
theorem dput_any (g B : Nat) (M : Int) (s : DS) (gs : Nat) (v : Value) (rs : List RV) (p : PKV) (w : World) (ht : ∀ wx, Below B w wx → Tab wx) (h : DcAt w g B M s gs v rs) (hr : ∀ wx, Tu (dcF g gs v) w wx → RowAt wx p.r.a p.r.n p.r.xs) (hn : p.r.n ≤ 10) (hs : p.r.s.size ≤ 1000) :
    Calls Tryz.prog 11 #[.pointer (some ⟨g, 0, none⟩), .agg #[.int .i64 p.o, .int .i64 p.l, .int .i64 p.k, .int .i64 p.z, .int .i64 p.h, .slice p.r.a p.r.n p.r.c, .string p.r.s]] w fun e w' => DputR w w' g B M s gs v p e := by
  cases ha : admB s p
  · exact dput_bad g B M s gs v rs p w h (hr w (Tu.refl _ _)) ha
  · exact dput_good g B M s gs v rs p w ht h hr hn hs ha
end Go.Proofs.YtnjdldbdkafnaaaGreatDoor
namespace Go.Proofs.YtnjdldbdkafnaaaGreatDoor
open Go.RowKit Go.Sort
set_option linter.unusedVariables false
set_option linter.unusedSimpArgs false
set_option maxRecDepth 4000

theorem DcAt.nobs {w : World} {g B : Nat} {M : Int} {s : DS} {gs : Nat} {v : Value} {rs : List RV} (h : DcAt w g B M s gs v rs) : s.ob.size ≤ 8192 := by
  cases hb : s.bg
  · rw [(h.fresh hb).1]; exact Nat.zero_le _
  · exact (h.begun hb).2.obs
theorem DcAt.len {w : World} {g B : Nat} {M : Int} {s : DS} {gs : Nat} {v : Value} {rs : List RV} (h : DcAt w g B M s gs v rs) : s.L.length = rs.length ∧ rs.length ≤ 256 := by
  refine ⟨by rw [← h.co, List.length_map], ?_⟩
  cases hb : s.bg
  · have h1 := h.co
    rw [(h.fresh hb).1] at h1
    rw [List.map_eq_nil_iff.1 h1]; exact Nat.zero_le _
  · have h1 := (h.begun hb).1
    exact Nat.le_trans h1.le h1.most
theorem dedone_any (g B : Nat) (M : Int) (s : DS) (gs : Nat) (v : Value) (rs : List RV) (w : World) (h : DcAt w g B M s gs v rs) :
    Calls Tryz.prog 13 #[.pointer (some ⟨g, 0, none⟩)] w fun e w' => e = .returned (.bool s.dn) ∧ w' = w := by
  obtain ⟨-, -, -, -, -, -, h6, -⟩ := h.cells
  clear h
  go_enter Tryz.func13, Tryz.ntmps13
  go_wp2
  go_ret
  exact ⟨rfl, rfl⟩
theorem deobj_any (g B : Nat) (M : Int) (s : DS) (gs : Nat) (v : Value) (rs : List RV) (w : World) (h : DcAt w g B M s gs v rs) :
    Calls Tryz.prog 14 #[.pointer (some ⟨g, 0, none⟩)] w fun e w' => e = .returned (.string s.ob) ∧ Below w.heap.size w w' := by
  obtain ⟨-, -, -, -, -, -, -, h7⟩ := h.cells
  have HC := hide (sclone_any s.ob w (by have := h.nobs; omega))
  clear h
  go_enter Tryz.func14, Tryz.ntmps14
  go_wp2_with (go_at_call 30; refine (unhide HC).mono ?_; rintro e w1 ⟨rfl, hb1⟩)
  go_ret
  exact ⟨rfl, hb1⟩
theorem dekept_any (g B : Nat) (M : Int) (s : DS) (gs : Nat) (v : Value) (rs : List RV) (w : World) (h : DcAt w g B M s gs v rs) :
    Calls Tryz.prog 15 #[.pointer (some ⟨g, 0, none⟩)] w fun e w' => e = .returned (.int .i64 (s.L.length : Int)) ∧ w' = w := by
  obtain ⟨-, -, -, -, -, h5, -, -⟩ := h.cells
  rw [h.len.1]
  cases hb : s.bg
  · rw [hb, show ptrD false gs = none from rfl] at h5
    obtain rfl : rs = [] := by have h1 := h.co; rw [(h.fresh hb).1] at h1; exact List.map_eq_nil_iff.1 h1
    clear h
    go_enter Tryz.func15, Tryz.ntmps15
    go_wp2_with (go_at_call 31; refine (len_nil _).mono ?_; rintro e w1 ⟨rfl, hw⟩; obtain rfl := hw.symm; clear hw)
    go_ret
    exact ⟨rfl, rfl⟩
  · rw [hb, show ptrD true gs = some ⟨gs, 0, none⟩ from rfl] at h5
    have HL := hide (len_any gs B s.k s.z (capN M) v rs s.ov w (h.begun hb).1)
    clear h
    go_enter Tryz.func15, Tryz.ntmps15
    go_wp2_with (go_at_call 31; refine (unhide HL).mono ?_; rintro e w1 ⟨rfl, hw⟩; obtain rfl := hw.symm; clear hw)
    go_ret
    exact ⟨rfl, rfl⟩
theorem derank_any (g B : Nat) (M : Int) (s : DS) (gs : Nat) (v : Value) (rs : List RV) (w : World) (ht : Tab w) (h : DcAt w g B M s gs v rs) :
    Calls Tryz.prog 12 #[.pointer (some ⟨g, 0, none⟩)] w fun e w' => e = .returned (.int .i64 (rankC s.L : Int)) ∧ Below w.heap.size w w' := by
  obtain ⟨-, -, -, -, -, h5, -, -⟩ := h.cells
  rw [← h.co, ← rankN_core]
  cases hb : s.bg
  · rw [hb, show ptrD false gs = none from rfl] at h5
    obtain rfl : rs = [] := by have h1 := h.co; rw [(h.fresh hb).1] at h1; exact List.map_eq_nil_iff.1 h1
    clear h
    go_enter Tryz.func12, Tryz.ntmps12
    go_wp2_with (go_at_call 29; refine (rank_nil _).mono ?_; rintro e w1 ⟨rfl, hw⟩; obtain rfl := hw.symm; clear hw)
    go_ret
    exact ⟨rfl, Below.refl _ _⟩
  · rw [hb, show ptrD true gs = some ⟨gs, 0, none⟩ from rfl] at h5
    have HL := hide (rank_any gs B s.k s.z (capN M) v rs s.ov w ht (h.begun hb).1)
    clear h
    generalize rankN rs = R at *
    go_enter Tryz.func12, Tryz.ntmps12
    go_wp2_with (go_at_call 29; refine (unhide HL).mono ?_; rintro e w1 ⟨rfl, hb1⟩)
    go_ret
    exact ⟨rfl, hb1⟩
theorem deover_any (g B : Nat) (M : Int) (s : DS) (gs : Nat) (v : Value) (rs : List RV) (w : World) (h : DcAt w g B M s gs v rs) :
    Calls Tryz.prog 16 #[.pointer (some ⟨g, 0, none⟩)] w fun e w' => e = .returned (.bool s.ov) ∧ w' = w := by
  obtain ⟨-, -, -, -, -, h5, -, -⟩ := h.cells
  cases hb : s.bg
  · rw [hb, show ptrD false gs = none from rfl] at h5
    have ho : s.ov = false := by rw [(h.fresh hb).1]; rfl
    rw [ho]
    clear h
    go_enter Tryz.func16, Tryz.ntmps16
    go_wp2_with (go_at_call 32; refine (over_nil _).mono ?_; rintro e w1 ⟨rfl, hw⟩; obtain rfl := hw.symm; clear hw)
    go_ret
    exact ⟨rfl, rfl⟩
  · rw [hb, show ptrD true gs = some ⟨gs, 0, none⟩ from rfl] at h5
    have HL := hide (over_any gs B s.k s.z (capN M) v rs s.ov w (h.begun hb).1)
    clear h
    generalize s.ov = ov at *
    go_enter Tryz.func16, Tryz.ntmps16
    go_wp2_with (go_at_call 32; refine (unhide HL).mono ?_; rintro e w1 ⟨rfl, hw⟩; obtain rfl := hw.symm; clear hw)
    go_ret
    exact ⟨rfl, rfl⟩
end Go.Proofs.YtnjdldbdkafnaaaGreatDoor
namespace Go.Proofs.YtnjdldbdkafnaaaGreatDoor
open Go.RowKit Go.Sort
set_option linter.unusedVariables false
set_option linter.unusedSimpArgs false
set_option maxRecDepth 4000

/-- Rows that are true of blocks of one size, of full rank: they tell these. -/
theorem obj_true {ss : List ByteArray} {m : Nat} {l : Int} {L : List (List Nat × ByteArray)} {ob : ByteArray} (h : ObjP (ss.length : Int) l L ob) (hz : 0 < sizeOfK (ss.length : Int)) (hg : ∀ x ∈ L, smalls x.1 ∧ x.2.size ≤ 1000 ∧ x.1.length ≤ 10) (hn : L.length ≤ 300) (hv : ∀ x ∈ L, validB (ss.length : Int) x.1 = true)
    (hh : ∀ x ∈ L, holdsB ss x.1 x.2 = true) (hm : ∀ x ∈ L, x.2.size = m) (hms : ∀ b, b < ss.length → (ss.getD b ByteArray.empty).size = m) (hk : rankC L = ss.length) : ob = st ((joinL ss).take l.toNat) := by
  obtain ⟨rs, kn, bs, hc, hP, ho⟩ := h
  have hmem : ∀ r ∈ rs, core r ∈ L := fun r hr => by rw [← hc]; exact List.mem_map.2 ⟨r, hr, rfl⟩
  have hgd : Good rs := fun r hr => ⟨(hg _ (hmem r hr)).1, (hg _ (hmem r hr)).2.1⟩
  have hl : ∀ r ∈ rs, r.xs.length ≤ 10 := fun r hr => (hg _ (hmem r hr)).2.2
  have hn2 : rs.length ≤ 300 := by
    have e : rs.length = L.length := by rw [← hc, List.length_map]
    exact e ▸ hn
  have hfr : Fit 1048576 (vecsL rs) := by
    have := fit_filter hgd hl (fun _ => true)
    rwa [List.filter_eq_self.2 (fun _ _ => rfl)] at this
  have hfl : (rs.filter fun r => validB (ss.length : Int) r.xs) = rs := List.filter_eq_self.2 fun r hr => hv _ (hmem r hr)
  have hrk : rankN rs = ss.length := by rw [rankN_core, hc]; exact hk
  have hr : rankV (ss.length : Int) rs = ss.length := by
    have h1 : rankV (ss.length : Int) rs = (basisL (vecsL rs)).length := by unfold rankV; rw [hfl]
    rw [h1, ← keep_rank hfr, vecsL_len]
    exact hrk
  have h2 := (dec_true hP hgd hl hn2 hz (fun r hr => hh (core r) (hmem r hr)) (fun r hr => hm (core r) (hmem r hr)) hms).2
  rw [if_pos hr] at h2
  rw [ho, h2]
end Go.Proofs.YtnjdldbdkafnaaaGreatDoor
