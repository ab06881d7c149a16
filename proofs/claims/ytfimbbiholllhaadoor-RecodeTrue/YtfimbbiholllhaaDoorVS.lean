/-
  Walk of RecodeTrue: for every input it tells true.
-/
import Derived.Test.YtfimbbiholllhaaDoorVR
import Derived.Test.YtfimbbiholllhaaDoorM12
namespace Go.Proofs.YtfimbbiholllhaaDoor
open Go.RowKit Go.Sort
set_option linter.unusedVariables false
set_option maxRecDepth 4000

/-- The greatest of 0 and the hops of the first k. -/
def mostK (ps : List PKV) (k : Nat) : Int := (ps.take k).foldl (fun a p => max a p.h) 0
theorem mostK_succ {ps : List PKV} {k : Nat} (h : k < ps.length) : mostK ps (k + 1) = max (mostK ps k) (ps.getD k .dflt).h := by
  unfold mostK
  rw [take_snocV ps k h, List.foldl_append]
  rfl
theorem most_fold : ∀ (Q : List PKV) (a : Int), a ≤ Q.foldl (fun a q => max a q.h) a ∧ (∀ p ∈ Q, p.h ≤ Q.foldl (fun a q => max a q.h) a) ∧ ∀ b, a ≤ b → (∀ p ∈ Q, p.h ≤ b) → Q.foldl (fun a q => max a q.h) a ≤ b
  | [], a => ⟨Int.le_refl _, (fun p hp => by cases hp), fun b h _ => h⟩
  | q :: Q, a => by
    obtain ⟨h1, h2, h3⟩ := most_fold Q (max a q.h)
    rw [List.foldl_cons]
    refine ⟨by omega, fun p hp => ?_, fun b hb hp => h3 b (by have := hp q List.mem_cons_self; omega) fun p hq => hp p (List.mem_cons_of_mem _ hq)⟩
    rcases List.mem_cons.1 hp with e | e
    · rw [e]; omega
    · exact h2 p e
/-- May they be, and are they true of the blocks? -/
def goodK (bs : List ByteArray) (ps : List PKV) : Prop := ∀ p ∈ ps, okD p.pd = true ∧ holdsB bs p.r.xs p.r.s = true
theorem goodK_most {bs : List ByteArray} {ps : List PKV} {k : Nat} (h : goodK bs (ps.take k)) : 0 ≤ mostK ps k ∧ mostK ps k ≤ 15 := by
  obtain ⟨h1, _, h3⟩ := most_fold (ps.take k) 0
  refine ⟨h1, h3 15 (by omega) fun p hp => ?_⟩
  obtain ⟨⟨_, _, _, hh⟩, _⟩ := okD_iff.1 (h p hp).1
  exact hh.2
theorem goodK_mix {bs : List ByteArray} {ps : List PKV} {ws : List Int} {d : PD} (h : goodK bs ps) (hd : mixD (ps.map PKV.pd) ws = some d) : okD d = true ∧ holdsB bs d.xs d.s = true ∧ 1 ≤ d.h ∧ d.h ≤ mostK ps ps.length + 1 := by
  have h2 : mixD (ps.map PKV.pd) ws = mixL ((selL .dflt ps ws).map PKV.pd) := by rw [selL_map]; rfl
  rw [h2] at hd
  have hsub : ∀ p ∈ selL .dflt ps ws, p ∈ ps := fun p hp => selL_mem hp
  cases hu : selL .dflt ps ws with
  | nil => rw [hu] at hd; cases hd
  | cons q Q =>
    rw [hu] at hd hsub
    have hq := hsub q List.mem_cons_self
    have hd2 := hd
    rw [List.map_cons] at hd2
    obtain ⟨k1, k2⟩ := mix_ok (q := q.pd) (Q := Q.map PKV.pd) (fun p hp => by
      rw [← List.map_cons] at hp
      obtain ⟨x, hx, rfl⟩ := List.mem_map.1 hp
      exact (h x (hsub x hx)).1) hd2
    have hge : 0 ≤ hopX (q.pd :: Q.map PKV.pd) := by
      have := hop_ge (q := q.pd) (Q := Q.map PKV.pd) (p := q.pd) List.mem_cons_self
      obtain ⟨⟨_, _, _, hh⟩, _⟩ := okD_iff.1 (h q hq).1
      have h5 : 0 ≤ q.pd.h := hh.1
      omega
    have hle : hopX (q.pd :: Q.map PKV.pd) ≤ mostK ps ps.length := hop_le fun p hp => by
      rw [← List.map_cons] at hp
      obtain ⟨x, hx, rfl⟩ := List.mem_map.1 hp
      unfold mostK
      rw [List.take_length]
      exact (most_fold ps 0).2.1 x (hsub x hx)
    refine ⟨k1, ?_, by omega, by omega⟩
    rw [mix_case (by simp)] at hd
    split at hd
    · obtain rfl := Option.some.inj hd
      refine holds_all bs (rowsK (q :: Q)) fun r hr => ?_
      obtain ⟨x, hx, rfl⟩ := List.mem_map.1 hr
      exact (h x (hsub x hx)).2
    · cases hd

set_option maxHeartbeats 16000000 in
theorem rtrue_walk (ab : Option Addr) (nb cb : Nat) (bs : List ByteArray) (a : Option Addr) (n c : Nat) (ps : List PKV) (a' : Option Addr) (m c' : Nat) (ws : List Int) (w : World) (ht : Tab w) (hT : TextsAt w ab nb bs) (hnb : nb ≤ 9223372036854775807) (h : PksAt w a n ps) (hn : n ≤ 9223372036854775807) (hcap : ∀ i, i < ps.length → (ps.getD i .dflt).r.n ≤ (ps.getD i .dflt).r.c) (hbig : ∀ i, (ps.getD i .dflt).r.n ≤ 9223372036854775807 ∧ (ps.getD i .dflt).r.s.size ≤ 9223372036854775807) (hw : IntzAt w a' m ws) (hm : m ≤ 9223372036854775807) :
    Calls Tryd.prog 6 #[.slice ab nb cb, .slice a n c, .slice a' m c'] w fun e w' => e = .returned (.bool true) ∧ Below w.heap.size w w' := by
  have HAW := hide (fun (w1 : World) (hb : Below w.heap.size w w1) => awake_any w1 (ht.below hb))
  have HF := hide (fewP_any a n c ps w h hn hbig)
  by_cases hf : FewK ps
  · by_cases hm3 : 300 < m
    · have hm4 : (300 : Int) < (m : Int) := by omega
      clear h hw hbig hcap hT
      go_enter Tryd.func6, Tryd.ntmps6
      go_wp2_with (first
        | (go_at_call 16; refine (unhide HF).mono ?_; rintro e w1 ⟨he, hw1⟩; obtain rfl := hw1.symm; obtain rfl := retI_yes he hf; clear hw1 he HF)
        | (go_at_call 10; refine (unhide HAW _ (Below.refl _ _)).mono ?_; rintro e w2 ⟨rfl, hb2⟩; have HB2 := hide hb2; clear hb2))
      go_ret
      exact ⟨rfl, unhide HB2⟩
    · have hm4 : ¬ (300 : Int) < (m : Int) := by omega
      by_cases hb8 : 128 < nb
      · have hb9 : (128 : Int) < (nb : Int) := by omega
        clear h hw hbig hcap hT
        go_enter Tryd.func6, Tryd.ntmps6
        go_wp2_with (first
          | (go_at_call 16; refine (unhide HF).mono ?_; rintro e w1 ⟨he, hw1⟩; obtain rfl := hw1.symm; obtain rfl := retI_yes he hf; clear hw1 he HF)
          | (go_at_call 10; refine (unhide HAW _ (Below.refl _ _)).mono ?_; rintro e w2 ⟨rfl, hb2⟩; have HB2 := hide hb2; clear hb2))
        go_ret
        exact ⟨rfl, unhide HB2⟩
      · have hb9 : ¬ (128 : Int) < (nb : Int) := by omega
        have hn3 : n ≤ 300 := by rw [← h.1]; have := hf.1; omega
        have hk : KsIn w ps := fun p hp => by
          obtain ⟨i, hi, rfl⟩ := List.mem_iff_getElem.1 hp
          have h1 := h.2.1 i (by rw [← h.1]; exact hi)
          have h2 := hcap i hi
          rw [List.getD_eq_getElem?_getD, List.getElem?_eq_getElem hi] at h1 h2
          exact ⟨h1, h2⟩
        obtain rfl := h.1
        obtain rfl := hT.1
        have HP := hide h
        have HTX := hide hT
        have HMX := hide (fun wx (hb : Below w.heap.size w wx) => mix18_any a ps.length c ps a' m c' ws wx (ht.below hb) (h.below hb) (hk.below hb) hf.2 (hw.below hb) hn3 (by omega))
        have HFW := hide hf
        have hmaxr := max_runZ
        have HSH := hide hf.2
        clear h hw hbig hcap hT hk
        go_enter Tryd.func6, Tryd.ntmps6
        go_wp2_with (first
          | (go_at_call 16; refine (unhide HF).mono ?_; rintro e w1 ⟨he, hw1⟩; obtain rfl := hw1.symm; obtain rfl := retI_yes he hf; clear hw1 he HF))
        go_loop [7] (fun i => ∃ k : Nat, k ≤ bs.length ∧ i = .int .i64 k ∧ Hid (∀ s ∈ bs.take k, s.size ≤ 64)) (fun i => bs.length - (intOf i).toNat)
        case atStart => exact ⟨0, Nat.zero_le _, rfl, hide (fun s hs => by rw [List.take_zero] at hs; cases hs)⟩
        case round =>
          obtain ⟨k, hk, rfl, HS⟩ := hrel
          by_cases hlt : k < bs.length
          · obtain ⟨b, off, rfl, hcl⟩ := (unhide HTX).at hlt
            have hcell := hcl k hlt
            have hlt' : (k : Int) < (bs.length : Int) := by omega
            have HTK := hide (show bs.take (k + 1) = bs.take k ++ [bs.getD k ByteArray.empty] from by rw [List.take_succ_eq_append_getElem hlt]; simp [List.getD_eq_getElem?_getD, List.getElem?_eq_getElem hlt])
            clear hcl
            generalize bs.getD k ByteArray.empty = s at *
            by_cases hs : 64 < s.size
            · have hs' : (64 : Int) < (s.size : Int) := by omega
              go_wp2_with (first
                | (go_at_call 10; refine (unhide HAW _ (Below.refl _ _)).mono ?_; rintro e w2 ⟨rfl, hb2⟩; have HB2 := hide hb2; clear hb2))
              go_ret
              exact ⟨rfl, unhide HB2⟩
            · have hs' : ¬ (64 : Int) < (s.size : Int) := by omega
              go_wp2
              go_round
              case rel => exact ⟨k + 1, by omega, by go_num, hide (by rw [unhide HTK]; intro x hx; rcases List.mem_append.1 hx with hx | hx; · exact unhide HS x hx
                                                                      · rw [List.mem_singleton.1 hx]; omega)⟩
              case measure => simp [intOf]; omega
          · have hke : bs.take k = bs := List.take_of_length_le (by omega)
            rw [hke] at HS
            have HSB := hide (show shorts bs from fun s hs => by have := unhide HS s hs; omega)
            clear HS hke
            go_wp2
            go_loopw [8, 9] (fun mo i wr => ∃ j : Nat, j ≤ ps.length ∧ i = .int .i64 j ∧ mo = .int .i64 (mostK ps j) ∧ Hid (goodK bs (ps.take j)) ∧ Hid (Below w.heap.size w wr)) (fun _ i _ => ps.length - (intOf i).toNat)
            case atStart => exact ⟨0, Nat.zero_le _, rfl, rfl, hide (fun p hp => by rw [List.take_zero] at hp; cases hp), hide (Below.refl _ _)⟩
            case round =>
              obtain ⟨j, hj, rfl, rfl, HG, HB⟩ := hrel
              by_cases hlt2 : j < ps.length
              · have hR := (unhide HP).below (unhide HB)
                obtain ⟨b, off, rfl, hcl⟩ := hR.at hlt2
                obtain ⟨c0, c1, c2, c3, c4, c5, c6⟩ := hcl j hlt2
                have hrow := hR.2.1 j hlt2
                have hsh := unhide HSH j
                have hlt' : (j : Int) < (ps.length : Int) := by omega
                have HMS := hide (mostK_succ hlt2)
                have HTK := hide (take_snocV ps j hlt2)
                have HBX := hide (fun wx (hbx : Below wr.heap.size wr wx) => (hcl j hlt2).below hbx)
                clear hcl hR
                generalize ps.getD j .dflt = p at *
                have HCK := hide (fun en hen => rcheck_any p.o p.l p.k p.z p.h p.r.a p.r.n p.r.c p.r.xs p.r.s wr hrow en hen)
                have HHD := hide (fun wx (hbx : Below wr.heap.size wr wx) => rholds_any ab bs.length cb bs p.r.a p.r.n p.r.c p.r.xs p.r.s wx (((unhide HTX).below (unhide HB)).below hbx) (unhide HSB) (by omega) (hrow.below hbx) (by omega) (by omega))
                clear hrow
                cases hok : okD p.pd
                · have HC := hide (unhide HCK 1 (ckD_no hok))
                  clear HCK
                  go_wp2_with (first
                    | (go_at_call 20; refine (unhide HC).mono ?_; rintro e w2 ⟨rfl, hb2⟩; have HB2 := hide (below0 (unhide HB) hb2); clear hb2)
                    | (go_at_call 10; refine (unhide HAW _ (unhide HB2)).mono ?_; rintro e w3 ⟨rfl, hb3⟩; have HB3 := hide (below0 (unhide HB2) hb3); clear hb3))
                  go_ret
                  exact ⟨rfl, unhide HB3⟩
                · have HC := hide (unhide HCK 0 (ckD_yes hok))
                  clear HCK
                  cases hho : holdsB bs p.r.xs p.r.s
                  · rw [hho] at HHD
                    go_wp2_with (first
                      | (go_at_call 20; refine (unhide HC).mono ?_; rintro e w2 ⟨rfl, hb2⟩; have HW2 := hide hb2; obtain ⟨d0, d1, d2, d3, d4, d5, d6⟩ := unhide HBX w2 hb2; have HB2 := hide (below0 (unhide HB) hb2); clear hb2)
                      | (go_at_call 21; refine (unhide HHD _ (unhide HW2)).mono ?_; rintro e w3 ⟨rfl, hb3⟩; have HB3 := hide (below0 (unhide HB2) hb3); clear hb3)
                      | (go_at_call 10; refine (unhide HAW _ (unhide HB3)).mono ?_; rintro e w4 ⟨rfl, hb4⟩; have HB4 := hide (below0 (unhide HB3) hb4); clear hb4))
                    go_ret
                    exact ⟨rfl, unhide HB4⟩
                  · rw [hho] at HHD
                    go_wp2_with (first
                      | (go_at_call 20; refine (unhide HC).mono ?_; rintro e w2 ⟨rfl, hb2⟩; have HW2 := hide hb2; obtain ⟨d0, d1, d2, d3, d4, d5, d6⟩ := unhide HBX w2 hb2; have HB2 := hide (below0 (unhide HB) hb2); clear hb2)
                      | (go_at_call 21; refine (unhide HHD _ (unhide HW2)).mono ?_; rintro e w3 ⟨rfl, hb3⟩; have hb5 := (unhide HW2).trans (hb3.mono (unhide HW2).size); obtain ⟨e0, e1, e2, e3, e4, e5, e6⟩ := unhide HBX w3 hb5; have HB3 := hide (below0 (unhide HB2) hb3); clear hb3 hb5))
                    go_roundw
                    case rel =>
                      refine ⟨j + 1, by omega, by go_num, by rw [unhide HMS], hide ?_, HB3⟩
                      rw [unhide HTK]
                      intro x hx
                      rcases List.mem_append.1 hx with hx | hx
                      · exact unhide HG x hx
                      · rw [List.mem_singleton.1 hx]; exact ⟨hok, hho⟩
                    case measure => simp [intOf]; omega
              · obtain rfl : j = ps.length := by omega
                have hmo := goodK_most (unhide HG)
                rw [List.take_length] at HG
                have HMR := hide (unhide HMX wr (unhide HB))
                have HGM := hide (fun d hd => goodK_mix (ws := ws) (d := d) (unhide HG) hd)
                clear HMX HG
                generalize mostK ps ps.length = M at *
                generalize mixD (ps.map PKV.pd) ws = o at *
                cases o with
                | none =>
                  have HSM := hide (fun wx => rpsame_is zPK zPK wx (row_none _) (row_none _) (by decide) (by decide))
                  rw [sameD_refl (rfl : zPK.pd = zPK.pd)] at HSM
                  go_wp2_with (first
                    | (go_at_call 17; refine (unhide HMR).mono ?_; rintro e w2 hM; obtain ⟨hb2, rfl⟩ := hM; unfold zeroV; have HB2 := hide ((below0 (unhide HB) hb2).alloc (below0 (unhide HB) hb2).size (.cells #[.int .i64 0, .int .i64 0, .int .i64 0, .int .i64 0, .int .i64 0, .slice none 0 0, .string ⟨#[]⟩] 38)); obtain ⟨x0, x1, x2, x3, x4, x5, x6⟩ := (pkb_new w2 (.int .i64 0) (.int .i64 0) (.int .i64 0) (.int .i64 0) (.int .i64 0) (.slice none 0 0) (.string ⟨#[]⟩)).at; clear hb2)
                    | (go_at_call 19; refine (unhide HSM _).mono ?_; rintro e w3 ⟨rfl, hb3⟩; have HB3 := hide (below0 (unhide HB2) hb3); clear hb3)
                    | (go_at_call 10; refine (unhide HAW _ (unhide HB3)).mono ?_; rintro e w4 ⟨rfl, hb4⟩; have HB4 := hide (below0 (unhide HB3) hb4); clear hb4))
                  go_ret
                  exact ⟨rfl, unhide HB4⟩
                | some d =>
                  obtain ⟨g1, g2, g3, g4⟩ := unhide HGM d rfl
                  have HG1 := hide g1
                  have HG2 := hide g2
                  clear HGM g1 g2
                  have HTB := hide (fun wx (hbx : Below w.heap.size w wx) => (unhide HTX).below hbx)
                  go_wp2_with (first
                    | (go_at_call 17; refine (unhide HMR).mono ?_; rintro e w2 hM; obtain ⟨hb2, q, rfl, rfl, ho2⟩ := hM; unfold PKV.val; have hr2 : RowAt w2 q.r.a q.r.n q.r.xs := (by obtain ⟨_, _, e2, hr⟩ := ho2.row; simp only [Value.slice.injEq] at e2; obtain ⟨rfl, h2, rfl⟩ := e2; rw [h2]; exact hr); have hk3 := pkb_new w2 (.int .i64 q.o) (.int .i64 q.l) (.int .i64 q.k) (.int .i64 q.z) (.int .i64 q.h) (.slice q.r.a q.r.n q.r.c) (.string q.r.s); have hb3 := (Below.refl w2.heap.size w2).alloc (Nat.le_refl _) (.cells #[.int .i64 q.o, .int .i64 q.l, .int .i64 q.k, .int .i64 q.z, .int .i64 q.h, .slice q.r.a q.r.n q.r.c, .string q.r.s] 38); have HB3 := hide (below0 (below0 (unhide HB) hb2) hb3); have HR3 := hide (hr2.below hb3); have HK3 := hide hk3; obtain ⟨x0, x1, x2, x3, x4, x5, x6⟩ := hk3.at; have g3' : 1 ≤ q.h := g3; have g4' : q.h ≤ M + 1 := g4; have hq15 : q.h ≤ 15 := (by obtain ⟨⟨_, _, _, hh⟩, _⟩ := okD_iff.1 (unhide HG1); exact hh.2); clear hb2 ho2 hr2 hk3 hb3)
                    | (go_at_call 20; generalize w2.alloc (.cells #[.int .i64 q.o, .int .i64 q.l, .int .i64 q.k, .int .i64 q.z, .int .i64 q.h, .slice q.r.a q.r.n q.r.c, .string q.r.s] 38) = w3 at *; refine (rcheck_any q.o q.l q.k q.z q.h q.r.a q.r.n q.r.c q.r.xs q.r.s w3 (unhide HR3) 0 (ckD_yes (p := q) (unhide HG1))).mono ?_; rintro e w4 ⟨rfl, hb4⟩; have HB4 := hide (below0 (unhide HB3) hb4); have HR4 := hide ((unhide HR3).below hb4); have hk4 := (unhide HK3).below hb4; obtain ⟨y0, y1, y2, y3, y4, y5, y6⟩ := hk4.at; have HK4 := hide hk4; clear hb4 hk4)
                    | (go_at_call 21; refine (rholds_any ab bs.length cb bs q.r.a q.r.n q.r.c q.r.xs q.r.s w4 (unhide HTB _ (unhide HB4)) (unhide HSB) (by omega) (unhide HR4) (by rw [← (unhide HR4).1]; have h5 := okD_len (unhide HG1); show q.pd.xs.length ≤ _; omega) (by obtain ⟨_, _, h6, _, _, h7⟩ := okD_valid (unhide HG1); have h8 : (q.r.s.size : Int) = q.z := h6; have h9 : q.z ≤ 64 := h7; omega)).mono ?_; rw [show holdsB bs q.r.xs q.r.s = true from unhide HG2]; rintro e w5 ⟨rfl, hb5⟩; have HB5 := hide (below0 (unhide HB4) hb5); obtain ⟨z0, z1, z2, z3, z4, z5, z6⟩ := ((unhide HK4).below hb5).at; clear hb5)
                    | (go_at_call 10; refine (unhide HAW _ (unhide HB5)).mono ?_; rintro e w6 ⟨rfl, hb6⟩; have HB6 := hide (below0 (unhide HB5) hb6); clear hb6))
                  go_ret
                  exact ⟨rfl, unhide HB6⟩
  · clear h hw hbig hcap hT
    go_enter Tryd.func6, Tryd.ntmps6
    go_wp2_with (first
      | (go_at_call 16; refine (unhide HF).mono ?_; rintro e w1 ⟨he, hw1⟩; obtain rfl := hw1.symm; obtain rfl := retI_no he hf; clear hw1 he HF)
      | (go_at_call 10; refine (unhide HAW _ (Below.refl _ _)).mono ?_; rintro e w2 ⟨rfl, hb2⟩; have HB2 := hide hb2; clear hb2))
    go_ret
    exact ⟨rfl, unhide HB2⟩
end Go.Proofs.YtfimbbiholllhaaDoor
