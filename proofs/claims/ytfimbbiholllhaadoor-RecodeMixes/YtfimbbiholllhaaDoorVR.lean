/-
  Walk of RecodeMixes: for every input it tells true.
-/
import Derived.Test.YtfimbbiholllhaaDoorVQ
import Derived.Test.YtfimbbiholllhaaDoorPs
namespace Go.Proofs.YtfimbbiholllhaaDoor
open Go.RowKit Go.Sort
set_option linter.unusedVariables false
set_option maxRecDepth 4000

set_option maxHeartbeats 4000000 in
theorem mixes_walk (a : Option Addr) (n c : Nat) (ps : List PKV) (a' : Option Addr) (m c' : Nat) (ws : List Int) (w : World) (ht : Tab w) (h : PksAt w a n ps) (hn : n ≤ 9223372036854775807) (hcap : ∀ i, i < ps.length → (ps.getD i .dflt).r.n ≤ (ps.getD i .dflt).r.c) (hbig : ∀ i, (ps.getD i .dflt).r.n ≤ 9223372036854775807 ∧ (ps.getD i .dflt).r.s.size ≤ 9223372036854775807) (hw : IntzAt w a' m ws) (hm : m ≤ 9223372036854775807) :
    Calls Tryd.prog 5 #[.slice a n c, .slice a' m c'] w fun e w' => e = .returned (.bool true) ∧ Below w.heap.size w w' := by
  have HAW := hide (fun (w1 : World) (hb : Below w.heap.size w w1) => awake_any w1 (ht.below hb))
  have HF := hide (fewP_any a n c ps w h hn hbig)
  by_cases hf : FewK ps
  · by_cases hm3 : 300 < m
    · have hm4 : (300 : Int) < (m : Int) := by omega
      clear h hw hbig hcap
      go_enter Tryd.func5, Tryd.ntmps5
      go_wp2_with (first
        | (go_at_call 16; refine (unhide HF).mono ?_; rintro e w1 ⟨he, hw1⟩; obtain rfl := hw1.symm; obtain rfl := retI_yes he hf; clear hw1 he HF)
        | (go_at_call 10; refine (unhide HAW _ (Below.refl _ _)).mono ?_; rintro e w2 ⟨rfl, hb2⟩; have HB2 := hide hb2; clear hb2))
      go_ret
      exact ⟨rfl, unhide HB2⟩
    · have hm4 : ¬ (300 : Int) < (m : Int) := by omega
      have hn3 : n ≤ 300 := by rw [← h.1]; have := hf.1; omega
      have hk : KsIn w ps := fun p hp => by
        obtain ⟨i, hi, rfl⟩ := List.mem_iff_getElem.1 hp
        have h1 := h.2.1 i (by rw [← h.1]; exact hi)
        have h2 := hcap i hi
        rw [List.getD_eq_getElem?_getD, List.getElem?_eq_getElem hi] at h1 h2
        exact ⟨h1, h2⟩
      have HD := hide (mix18_any a n c ps a' m c' ws w ht h hk hf.2 hw hn3 (by omega))
      have HR := hide (fun wx (hb : Below w.heap.size w wx) => rmix18_any a n c ps a' m c' ws wx (h.below hb) (hk.below hb) hf.2 (hw.below hb) hn3 (by omega))
      have HL := hide (show ∀ q : PKV, q.pd = (mixD (ps.map PKV.pd) ws).getD zPK.pd → q.r.xs.length ≤ 10 from fun q hq => by
        have e : q.r.xs = q.pd.xs := rfl
        rw [e, hq]
        cases ho : mixD (ps.map PKV.pd) ws with
        | none => exact Nat.zero_le _
        | some d =>
          show d.xs.length ≤ 10
          have h2 : mixD (ps.map PKV.pd) ws = mixL ((selL .dflt ps ws).map PKV.pd) := by rw [selL_map]; rfl
          rw [h2] at ho
          by_cases hpos : 0 < (selL .dflt ps ws).length
          · rw [mix_case hpos] at ho
            split at ho
            · obtain rfl := Option.some.inj ho
              exact vecs_short (KsIn.rows (hk.sub fun p hp => selL_mem hp)) (shortP_rows fun p hp => shortP_mem hf.2 (selL_mem hp))
            · cases ho
          · have h0 : selL .dflt ps ws = [] := List.eq_nil_of_length_eq_zero (by omega)
            rw [h0] at ho
            cases ho)
      clear h hw hbig hcap hk
      generalize mixD (ps.map PKV.pd) ws = o at *
      go_enter Tryd.func5, Tryd.ntmps5
      go_wp2_with (first
        | (go_at_call 16; refine (unhide HF).mono ?_; rintro e w1 ⟨he, hw1⟩; obtain rfl := hw1.symm; obtain rfl := retI_yes he hf; clear hw1 he HF)
        | (go_at_call 17; refine (unhide HD).mono ?_; rintro e w2 hM; obtain ⟨hb2, q, rfl, hq, hr⟩ := hM.pk; have HQ := hide hq; have HRQ := hide hr; have HB2 := hide (hb2.alloc hb2.size (.cells #[.int .i64 q.o, .int .i64 q.l, .int .i64 q.k, .int .i64 q.z, .int .i64 q.h, .slice q.r.a q.r.n q.r.c, .string q.r.s] 38)); have HK2 := hide (pkb_new w2 (.int .i64 q.o) (.int .i64 q.l) (.int .i64 q.k) (.int .i64 q.z) (.int .i64 q.h) (.slice q.r.a q.r.n q.r.c) (.string q.r.s)); unfold PKV.val; clear hb2 hq hr hM HD)
        | (go_at_call 18; generalize hw3 : w2.alloc (.cells #[.int .i64 q.o, .int .i64 q.l, .int .i64 q.k, .int .i64 q.z, .int .i64 q.h, .slice q.r.a q.r.n q.r.c, .string q.r.s] 38) = w3 at *; refine (unhide HR _ (unhide HB2)).mono ?_; rintro e w4 hM; obtain ⟨hb4, p, rfl, hp, hr⟩ := hM.pk; have HP := hide hp; have hb5 := (Below.refl w4.heap.size w4).alloc (Nat.le_refl _) (.cells #[.int .i64 p.o, .int .i64 p.l, .int .i64 p.k, .int .i64 p.z, .int .i64 p.h, .slice p.r.a p.r.n p.r.c, .string p.r.s] 38); have hk5 := ((unhide HK2).below hb4).below hb5; have hk6 := pkb_new w4 (.int .i64 p.o) (.int .i64 p.l) (.int .i64 p.k) (.int .i64 p.z) (.int .i64 p.h) (.slice p.r.a p.r.n p.r.c) (.string p.r.s); obtain ⟨x0, x1, x2, x3, x4, x5, x6⟩ := hk5.at; obtain ⟨y0, y1, y2, y3, y4, y5, y6⟩ := hk6.at; have HB5 := hide (below0 (below0 (unhide HB2) hb4) hb5); have HP5 := hide (hr.below hb5); have HQ5 := hide (show RowAt (w4.alloc (.cells #[.int .i64 p.o, .int .i64 p.l, .int .i64 p.k, .int .i64 p.z, .int .i64 p.h, .slice p.r.a p.r.n p.r.c, .string p.r.s] 38)) q.r.a q.r.n q.r.xs from (((unhide HRQ).below (by rw [← hw3]; exact (Below.refl _ _).alloc (Nat.le_refl _) _)).below hb4).below hb5); unfold PKV.val; clear hb4 hp hr hM hb5 hk5 hk6 hw3 HR)
        | (go_at_call 19; generalize w4.alloc (.cells #[.int .i64 p.o, .int .i64 p.l, .int .i64 p.k, .int .i64 p.z, .int .i64 p.h, .slice p.r.a p.r.n p.r.c, .string p.r.s] 38) = w5 at *; refine (rpsame_is q p w5 (unhide HQ5) (unhide HP5) (by rw [← (unhide HQ5).1]; have := unhide HL q (unhide HQ); omega) (by rw [← (unhide HP5).1]; have := unhide HL p (unhide HP); omega)).mono ?_; rw [sameD_refl ((unhide HQ).trans (unhide HP).symm)]; rintro e w6 ⟨rfl, hb6⟩; have HB6 := hide (below0 (unhide HB5) hb6); clear hb6)
        | (go_at_call 10; refine (unhide HAW _ (unhide HB6)).mono ?_; rintro e w7 ⟨rfl, hb7⟩; have HB7 := hide (below0 (unhide HB6) hb7); clear hb7))
      go_ret
      exact ⟨rfl, unhide HB7⟩
  · clear h hw hbig hcap
    go_enter Tryd.func5, Tryd.ntmps5
    go_wp2_with (first
      | (go_at_call 16; refine (unhide HF).mono ?_; rintro e w1 ⟨he, hw1⟩; obtain rfl := hw1.symm; obtain rfl := retI_no he hf; clear hw1 he HF)
      | (go_at_call 10; refine (unhide HAW _ (Below.refl _ _)).mono ?_; rintro e w2 ⟨rfl, hb2⟩; have HB2 := hide hb2; clear hb2))
    go_ret
    exact ⟨rfl, unhide HB2⟩
end Go.Proofs.YtfimbbiholllhaaDoor
