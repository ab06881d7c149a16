/-
  Contract of bucketlineref16.Put where the packet may not be put, and where the decoder has begun. (Written by gen_ou.py.)
-/
import Derived.Test.YteamniigiogaeaaGreatDoorOB
import Derived.Test.YteamniigiogaeaaGreatDoorM17
namespace Go.Proofs.YteamniigiogaeaaGreatDoor
open Go.RowKit Go.Sort
set_option linter.unusedVariables false
set_option maxRecDepth 4000

theorem rd_boxes (p : PKV) (cs : List Value) (w : World) : BkA 36 (((w.alloc (.cells (cs).toArray 36)).alloc (.cells #[.int .i64 p.o, .int .i64 p.l, .int .i64 p.k, .int .i64 p.z, .int .i64 p.h, .slice p.r.a p.r.n p.r.c, .string p.r.s] 31)).alloc (.cells #[.int .i64 0, .int .i64 0, .bool false, .bool false, .int .i64 0, .int .i64 0, .int .i64 0, .int .i64 0, .int .i64 0, .slice none 0 0, .string ⟨#[]⟩, .int .i64 0, .int .i64 0, .int .i64 0, .slice none 0 0, .bool false, .string ⟨#[]⟩] 36)) w.heap.size cs ∧ BkA 31 (((w.alloc (.cells (cs).toArray 36)).alloc (.cells #[.int .i64 p.o, .int .i64 p.l, .int .i64 p.k, .int .i64 p.z, .int .i64 p.h, .slice p.r.a p.r.n p.r.c, .string p.r.s] 31)).alloc (.cells #[.int .i64 0, .int .i64 0, .bool false, .bool false, .int .i64 0, .int .i64 0, .int .i64 0, .int .i64 0, .int .i64 0, .slice none 0 0, .string ⟨#[]⟩, .int .i64 0, .int .i64 0, .int .i64 0, .slice none 0 0, .bool false, .string ⟨#[]⟩] 36)) (w.heap.size + 1) [.int .i64 p.o, .int .i64 p.l, .int .i64 p.k, .int .i64 p.z, .int .i64 p.h, .slice p.r.a p.r.n p.r.c, .string p.r.s] ∧ BkA 36 (((w.alloc (.cells (cs).toArray 36)).alloc (.cells #[.int .i64 p.o, .int .i64 p.l, .int .i64 p.k, .int .i64 p.z, .int .i64 p.h, .slice p.r.a p.r.n p.r.c, .string p.r.s] 31)).alloc (.cells #[.int .i64 0, .int .i64 0, .bool false, .bool false, .int .i64 0, .int .i64 0, .int .i64 0, .int .i64 0, .int .i64 0, .slice none 0 0, .string ⟨#[]⟩, .int .i64 0, .int .i64 0, .int .i64 0, .slice none 0 0, .bool false, .string ⟨#[]⟩] 36)) (w.heap.size + 1 + 1) [.int .i64 0, .int .i64 0, .bool false, .bool false, .int .i64 0, .int .i64 0, .int .i64 0, .int .i64 0, .int .i64 0, .slice none 0 0, .string ⟨#[]⟩, .int .i64 0, .int .i64 0, .int .i64 0, .slice none 0 0, .bool false, .string ⟨#[]⟩] ∧ Below w.heap.size w (((w.alloc (.cells (cs).toArray 36)).alloc (.cells #[.int .i64 p.o, .int .i64 p.l, .int .i64 p.k, .int .i64 p.z, .int .i64 p.h, .slice p.r.a p.r.n p.r.c, .string p.r.s] 31)).alloc (.cells #[.int .i64 0, .int .i64 0, .bool false, .bool false, .int .i64 0, .int .i64 0, .int .i64 0, .int .i64 0, .int .i64 0, .slice none 0 0, .string ⟨#[]⟩, .int .i64 0, .int .i64 0, .int .i64 0, .slice none 0 0, .bool false, .string ⟨#[]⟩] 36)) := by
  have l1 := alloc_low w (.cells cs.toArray 36)
  have b1 : BkA 36 (w.alloc (.cells cs.toArray 36)) w.heap.size cs := bkA_new 36 w cs
  have z1 := alloc_size w (.cells cs.toArray 36)
  generalize w.alloc (.cells cs.toArray 36) = w1 at *
  have l2 := alloc_low w1 (.cells #[.int .i64 p.o, .int .i64 p.l, .int .i64 p.k, .int .i64 p.z, .int .i64 p.h, .slice p.r.a p.r.n p.r.c, .string p.r.s] 31)
  have b2 : BkA 31 (w1.alloc (.cells #[.int .i64 p.o, .int .i64 p.l, .int .i64 p.k, .int .i64 p.z, .int .i64 p.h, .slice p.r.a p.r.n p.r.c, .string p.r.s] 31)) w1.heap.size [.int .i64 p.o, .int .i64 p.l, .int .i64 p.k, .int .i64 p.z, .int .i64 p.h, .slice p.r.a p.r.n p.r.c, .string p.r.s] := bkA_new 31 w1 [.int .i64 p.o, .int .i64 p.l, .int .i64 p.k, .int .i64 p.z, .int .i64 p.h, .slice p.r.a p.r.n p.r.c, .string p.r.s]
  have z2 := alloc_size w1 (.cells #[.int .i64 p.o, .int .i64 p.l, .int .i64 p.k, .int .i64 p.z, .int .i64 p.h, .slice p.r.a p.r.n p.r.c, .string p.r.s] 31)
  generalize w1.alloc (.cells #[.int .i64 p.o, .int .i64 p.l, .int .i64 p.k, .int .i64 p.z, .int .i64 p.h, .slice p.r.a p.r.n p.r.c, .string p.r.s] 31) = w2 at *
  have l3 := alloc_low w2 (.cells #[.int .i64 0, .int .i64 0, .bool false, .bool false, .int .i64 0, .int .i64 0, .int .i64 0, .int .i64 0, .int .i64 0, .slice none 0 0, .string ⟨#[]⟩, .int .i64 0, .int .i64 0, .int .i64 0, .slice none 0 0, .bool false, .string ⟨#[]⟩] 36)
  have b3 : BkA 36 (w2.alloc (.cells #[.int .i64 0, .int .i64 0, .bool false, .bool false, .int .i64 0, .int .i64 0, .int .i64 0, .int .i64 0, .int .i64 0, .slice none 0 0, .string ⟨#[]⟩, .int .i64 0, .int .i64 0, .int .i64 0, .slice none 0 0, .bool false, .string ⟨#[]⟩] 36)) w2.heap.size [.int .i64 0, .int .i64 0, .bool false, .bool false, .int .i64 0, .int .i64 0, .int .i64 0, .int .i64 0, .int .i64 0, .slice none 0 0, .string ⟨#[]⟩, .int .i64 0, .int .i64 0, .int .i64 0, .slice none 0 0, .bool false, .string ⟨#[]⟩] := bkA_new 36 w2 [.int .i64 0, .int .i64 0, .bool false, .bool false, .int .i64 0, .int .i64 0, .int .i64 0, .int .i64 0, .int .i64 0, .slice none 0 0, .string ⟨#[]⟩, .int .i64 0, .int .i64 0, .int .i64 0, .slice none 0 0, .bool false, .string ⟨#[]⟩]
  refine ⟨(b1.below l2).below l3, ?_, ?_, below0 (below0 l1 l2) l3⟩
  · have := b2.below l3
    rwa [z1] at this
  · rwa [z2, z1] at b3
theorem tu_low {w w1 w2 : World} {q : Nat} (h : Below w.heap.size w w1) (ht : Tu (fun j => j = q) w1 w2) (hq : w.heap.size ≤ q) : Below w.heap.size w w2 :=
  h.trans (ht.below h.size fun j hj e => by omega)
/-- Nothing is kept. -/
theorem RfD.no {w w' : World} {B : Nat} {M : Int} {s : DS} {f : PKV} {v : Value} {ts : List RV} {p : PKV} (h : RfD w B M s f v ts) (hb : Below w.heap.size w w') (ha : admB s p = false) : RdP w w' B M s f v ts p (.returned (.tuple #[.agg (rdC M s f v).toArray, .int .i64 1])) := by
  refine ⟨⟨#[]⟩, f, v, ts, ?_, (fun e => by rw [ha] at e; cases e), ?_, hb, .inl rfl, .inl rfl⟩
  · rw [(dput_no ha).1, (dput_no (ob := ⟨#[]⟩) ha).2]
  · rw [(dput_no ha).1]; exact h.below hb
/-- Something is kept, or nothing. -/
theorem RfD.yes {w w' : World} {B : Nat} {M : Int} {s s' : DS} {f f' : PKV} {v v' : Value} {ts ts' : List RV} {p : PKV} {E : Int} {ob : ByteArray} (ha : admB s p = true) (hs : s' = keepS M (begS s p) (p.r.xs, p.r.s) ob) (hE : E = keepE M (begS s p)) (hT : TellsP M (begS s p) (p.r.xs, p.r.s) ob) (h : RfD w' B M s' f' v' ts') (hb : Below w.heap.size w w') (hv : v' = v ∨ ∀ j, v'.ownBlock = some j → w.heap.size ≤ j) (hts : ts' = ts ∨ ts' = ts ++ [p.r]) :
    RdP w w' B M s f v ts p (.returned (.tuple #[.agg (rdC M s' f' v').toArray, .int .i64 E])) := by
  refine ⟨ob, f', v', ts', ?_, fun _ => hT, ?_, hb, hv, hts⟩
  · rw [(dput_yes ha).1, (dput_yes (ob := ob) ha).2, hs, hE]
  · rw [(dput_yes ha).1, ← hs]; exact h
set_option maxHeartbeats 4000000 in
theorem rdput_bad (B : Nat) (M : Int) (s : DS) (f : PKV) (v : Value) (ts : List RV) (p : PKV) (w : World) (h : RfD w B M s f v ts) (hr : RowAt w p.r.a p.r.n p.r.xs) (hp : okB p = false) :
    Calls Tryz.prog 10 #[.agg (rdC M s f v).toArray, .agg #[.int .i64 p.o, .int .i64 p.l, .int .i64 p.k, .int .i64 p.z, .int .i64 p.h, .slice p.r.a p.r.n p.r.c, .string p.r.s]] w fun e w' => RdP w w' B M s f v ts p e := by
  obtain ⟨av, cv, hve⟩ := h.own.shape
  obtain rfl := hve
  have HH := hide h
  have HNO := hide (show admB s p = false by unfold admB; rw [hp]; rfl)
  clear h
  obtain ⟨hD, hP, hR, hb0⟩ := rd_boxes p (rdC M s f (.slice av ts.length cv)) w
  have HC := hide (rcheck_any p.o p.l p.k p.z p.h p.r.a p.r.n p.r.c p.r.xs p.r.s _ (hr.below hb0) 1 (ck_no hp))
  generalize hW : ((w.alloc (.cells (rdC M s f (.slice av ts.length cv)).toArray 36)).alloc (.cells #[.int .i64 p.o, .int .i64 p.l, .int .i64 p.k, .int .i64 p.z, .int .i64 p.h, .slice p.r.a p.r.n p.r.c, .string p.r.s] 31)).alloc (.cells #[.int .i64 0, .int .i64 0, .bool false, .bool false, .int .i64 0, .int .i64 0, .int .i64 0, .int .i64 0, .int .i64 0, .slice none 0 0, .string ⟨#[]⟩, .int .i64 0, .int .i64 0, .int .i64 0, .slice none 0 0, .bool false, .string ⟨#[]⟩] 36) = W at *
  have q0 := hP.at 0 rfl
  have q1 := hP.at 1 rfl
  have q2 := hP.at 2 rfl
  have q3 := hP.at 3 rfl
  have q4 := hP.at 4 rfl
  have q5 := hP.at 5 rfl
  have q6 := hP.at 6 rfl
  have HD := hide hD
  have HP := hide hP
  have HR := hide hR
  have HB0 := hide hb0
  clear hD hP hR hb0
  clear hr hp
  go_enter Tryz.func10, Tryz.ntmps10
  go_wp2_with (first
    | (go_at_call 19; refine (unhide HC).mono ?_; rintro e w1 ⟨rfl, hb1⟩; have HD1 := hide ((unhide HD).below hb1); have HR1 := hide ((unhide HR).below hb1); have HB1 := hide (below0 (unhide HB0) hb1); clear hb1)
    | ((with_reducible refine rd_load 2 w.heap.size (rdC M s f (.slice av ts.length cv)) ?_ (unhide HD1) rfl ?_); (focus rfl)) | ((with_reducible refine rd_store 4 24 (w.heap.size + 1 + 1) [.int .i64 0, .int .i64 0, .bool false, .bool false, .int .i64 0, .int .i64 0, .int .i64 0, .int .i64 0, .int .i64 0, .slice none 0 0, .string ⟨#[]⟩, .int .i64 0, .int .i64 0, .int .i64 0, .slice none 0 0, .bool false, .string ⟨#[]⟩] (rdC M s f (.slice av ts.length cv)) ?_ ?_ (unhide HR1) rfl rfl (rdC_one _ _ _ _ _ _) ?_); (focus rfl); (focus rfl); intro wz hRz htz; have HRZ := hide hRz; have HTZ := hide htz; clear hRz htz)
    | fail)
  refine bodyPost_ret (results_rdA rfl rfl (unhide HRZ) rfl) rfl ?_
  exact (unhide HH).no (tu_low (unhide HB1) (unhide HTZ) (by omega)) (unhide HNO)
set_option maxHeartbeats 4000000 in
theorem rdput_oth (B : Nat) (M : Int) (s : DS) (f : PKV) (v : Value) (ts : List RV) (p : PKV) (w : World) (h : RfD w B M s f v ts) (hr : RowAt w p.r.a p.r.n p.r.xs) (hp : okB p = true) (hg : s.bg = true) (ha : alikeB s p = false) :
    Calls Tryz.prog 10 #[.agg (rdC M s f v).toArray, .agg #[.int .i64 p.o, .int .i64 p.l, .int .i64 p.k, .int .i64 p.z, .int .i64 p.h, .slice p.r.a p.r.n p.r.c, .string p.r.s]] w fun e w' => RdP w w' B M s f v ts p e := by
  obtain ⟨av, cv, hve⟩ := h.own.shape
  obtain rfl := hve
  have HH := hide h
  have HNO := hide (show admB s p = false by rw [adm_split hg, hp, ha]; rfl)
  have HTB := hide (show TB false (f.o = p.o ∧ f.l = p.l ∧ f.k = p.k ∧ f.z = p.z) from ⟨(fun e => by cases e), fun q => by
    obtain ⟨e1, e2, e3, e4⟩ := h.al hg
    rw [e1, e2, e3, e4] at q
    have : alikeB s p = true := decide_eq_true ⟨q.1.symm, q.2.1.symm, q.2.2.1.symm, q.2.2.2.symm⟩
    rw [ha] at this; cases this⟩)
  clear h
  obtain ⟨hD, hP, hR, hb0⟩ := rd_boxes p (rdC M s f (.slice av ts.length cv)) w
  have HC := hide (rcheck_any p.o p.l p.k p.z p.h p.r.a p.r.n p.r.c p.r.xs p.r.s _ (hr.below hb0) 0 (ck_yes hp))
  generalize hW : ((w.alloc (.cells (rdC M s f (.slice av ts.length cv)).toArray 36)).alloc (.cells #[.int .i64 p.o, .int .i64 p.l, .int .i64 p.k, .int .i64 p.z, .int .i64 p.h, .slice p.r.a p.r.n p.r.c, .string p.r.s] 31)).alloc (.cells #[.int .i64 0, .int .i64 0, .bool false, .bool false, .int .i64 0, .int .i64 0, .int .i64 0, .int .i64 0, .int .i64 0, .slice none 0 0, .string ⟨#[]⟩, .int .i64 0, .int .i64 0, .int .i64 0, .slice none 0 0, .bool false, .string ⟨#[]⟩] 36) = W at *
  have q0 := hP.at 0 rfl
  have q1 := hP.at 1 rfl
  have q2 := hP.at 2 rfl
  have q3 := hP.at 3 rfl
  have q4 := hP.at 4 rfl
  have q5 := hP.at 5 rfl
  have q6 := hP.at 6 rfl
  have HD := hide hD
  have HP := hide hP
  have HR := hide hR
  have HB0 := hide hb0
  clear hD hP hR hb0
  have HG := hide hg
  clear hr hp ha hg
  go_enter Tryz.func10, Tryz.ntmps10
  go_wp2_with fail
  refine (unhide HC).mono ?_
  rintro e w1 ⟨rfl, hb1⟩
  have hD1 := (unhide HD).below hb1
  have hP1 := (unhide HP).below hb1
  have HD1 := hide hD1
  have HR1 := hide ((unhide HR).below hb1)
  have HB1 := hide (below0 (unhide HB0) hb1)
  clear hb1 HC HD HP HR HB0 q0 q1 q2 q3 q4 q5 q6
  have q0 := hP1.at 0 rfl
  have q1 := hP1.at 1 rfl
  have q2 := hP1.at 2 rfl
  have q3 := hP1.at 3 rfl
  have q4 := hP1.at 4 rfl
  have q5 := hP1.at 5 rfl
  have q6 := hP1.at 6 rfl
  have d2 := hD1.at 2 rfl
  rw [unhide HG] at d2
  have d4 := hD1.at 4 rfl
  have d5 := hD1.at 5 rfl
  have d6 := hD1.at 6 rfl
  have d7 := hD1.at 7 rfl
  have d8 := hD1.at 8 rfl
  have d9 := hD1.at 9 rfl
  have d10 := hD1.at 10 rfl
  clear hD1 hP1
  have HAL := hide (fun wx => ralike_any f.o f.l f.k f.z f.h f.r.a f.r.n f.r.c f.r.s p.o p.l p.k p.z p.h p.r.a p.r.n p.r.c p.r.s wx false (unhide HTB))
  go_wp2_with (first
    | (go_at_call 20; refine (unhide HAL _).mono ?_; rintro e w2 ⟨rfl, hb2⟩; have HD2 := hide ((unhide HD1).below hb2); have HR2 := hide ((unhide HR1).below hb2); have HB2 := hide (below0 (unhide HB1) hb2); clear hb2)
    | ((with_reducible refine rd_load 2 w.heap.size (rdC M s f (.slice av ts.length cv)) ?_ (unhide HD2) rfl ?_); (focus rfl)) | ((with_reducible refine rd_store 4 24 (w.heap.size + 1 + 1) [.int .i64 0, .int .i64 0, .bool false, .bool false, .int .i64 0, .int .i64 0, .int .i64 0, .int .i64 0, .int .i64 0, .slice none 0 0, .string ⟨#[]⟩, .int .i64 0, .int .i64 0, .int .i64 0, .slice none 0 0, .bool false, .string ⟨#[]⟩] (rdC M s f (.slice av ts.length cv)) ?_ ?_ (unhide HR2) rfl rfl (rdC_one _ _ _ _ _ _) ?_); (focus rfl); (focus rfl); intro wz hRz htz; have HRZ := hide hRz; have HTZ := hide htz; clear hRz htz)
    | fail)
  refine bodyPost_ret (results_rdA rfl rfl (unhide HRZ) rfl) rfl ?_
  exact (unhide HH).no (tu_low (unhide HB2) (unhide HTZ) (by omega)) (unhide HNO)
theorem tu_set5 (w : World) (g i0 i1 i2 i3 i4 : Nat) (u0 u1 u2 u3 u4 : Value) : Tu (fun j => j = g) w (((((w.setCell ⟨g, i0, none⟩ u0).setCell ⟨g, i1, none⟩ u1).setCell ⟨g, i2, none⟩ u2).setCell ⟨g, i3, none⟩ u3).setCell ⟨g, i4, none⟩ u4) :=
  ((((tu_set _ _ _ _).trans (tu_set _ _ _ _) fun _ _ e => e).trans (tu_set _ _ _ _) fun _ _ e => e).trans (tu_set _ _ _ _) fun _ _ e => e).trans (tu_set _ _ _ _) fun _ _ e => e
theorem rdecode_full (a : Option Addr) (n c : Nat) (us : List RV) (w : World) (hA : RowsAt w a n us) (hI : RowsIn w us) (hS : shortR us) (hn : n ≤ 300) (k z : Int) (hkz : (1 ≤ k ∧ k ≤ 128) ∧ 1 ≤ z ∧ z ≤ 64) (hv : ∀ x ∈ us.map core, fitB k z x = true) (hk : (rankC (us.map core) : Int) = k) :
    Calls Tryz.prog 24 #[.int .i64 k, .slice a n c] w fun e w' => ∃ a1 m1 c1 ss, e = .returned (.tuple #[.slice a1 m1 c1, .bool true]) ∧ TextsAt w' a1 m1 ss ∧ m1 ≤ 1048576 ∧ (joinL ss).length = k.toNat * z.toNat ∧ (∀ l : Int, ObjP k l (us.map core) (st ((joinL ss).take l.toNat))) ∧ Below w.heap.size w w' := by
  obtain ⟨K, rfl⟩ : ∃ K : Nat, k = (K : Int) := ⟨k.toNat, by omega⟩
  obtain ⟨m, rfl⟩ : ∃ m : Nat, z = (m : Int) := ⟨z.toNat, by omega⟩
  have hg := good_of hA hS
  have hl := len_of hA hS
  have hn2 : us.length ≤ 300 := by rw [hA.1]; exact hn
  obtain ⟨kn, bs, hP⟩ := peel_is (k := (K : Int)) hg
  have hvv : ∀ r ∈ us, validB (K : Int) r.xs = true ∧ r.s.size = m := fun r hr => by
    have := hv (core r) (List.mem_map.2 ⟨r, hr, rfl⟩)
    unfold fitB at this
    rw [Bool.and_eq_true, Bool.and_eq_true] at this
    have h2 := decide_eq_true_iff.1 this.2
    exact ⟨this.1.1, Int.ofNat.inj h2⟩
  have hz : 0 < sizeOfK (K : Int) := by
    unfold sizeOfK
    rw [if_neg (by omega)]
    omega
  obtain ⟨h1, h2, h3⟩ := full_told hP hg hl hn2 hz (fun r hr => (hvv r hr).1) (fun r hr => (hvv r hr).2) (Int.ofNat.inj hk)
  refine (rdecode_any (K : Int) a n c us kn bs hP w hA (CapR.of hI) hS hn).mono ?_
  rintro e w' ⟨a1, m1, c1, rfl, ho, hb⟩
  rw [h1]
  obtain ⟨e1, e2⟩ := ho.at'
  rw [← e1] at e2
  exact ⟨a1, m1, c1, _, rfl, e2, by omega, by rw [joinL_same h3, h2, Int.toNat_natCast, Int.toNat_natCast], fun l => ⟨us, kn, bs, rfl, hP, rfl⟩, hb⟩
theorem rjoin_ok (a : Option Addr) (l c : Nat) (ss : List ByteArray) (n : Int) (w : World) (h : TextsAt w a l ss) (hl : l ≤ 1048576) (hj : (joinL ss).length ≤ 1073741824) (h0 : 0 ≤ n) (h1 : n ≤ ((joinL ss).length : Int)) :
    Calls Tryz.prog 25 #[.slice a l c, .int .i64 n] w fun e w' => e = .returned (.tuple #[.string (st ((joinL ss).take n.toNat)), .int .i64 0]) ∧ w' = w :=
  (rjoin_any a l c ss n w h hl hj).mono fun e w' ⟨he, hw⟩ => ⟨by rw [he, if_neg (by omega)], hw⟩
end Go.Proofs.YteamniigiogaeaaGreatDoor
