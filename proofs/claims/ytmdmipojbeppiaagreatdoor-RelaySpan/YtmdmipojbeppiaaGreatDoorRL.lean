/-
  The walk of RelaySpan: for every input it tells true and writes nothing that was there.
-/
import Derived.Test.YtmdmipojbeppiaaGreatDoorM25
import Derived.Test.YtmdmipojbeppiaaGreatDoorM24
namespace Go.Proofs.YtmdmipojbeppiaaGreatDoor
open Go.RowKit Go.Sort
set_option linter.unusedVariables false
set_option maxRecDepth 4000

theorem bput_sub {m : Nat} {L : List PD} {p d : PD} (h : d ∈ bput m L p) : d ∈ L ∨ d = p := by
  unfold bput at h
  split at h
  · rcases List.mem_append.1 h with h | h
    · exact .inl (left_sub d h)
    · exact .inr (List.mem_singleton.1 h)
  · exact .inl h
/-- What is kept is among what came in. -/
def SubK (qs ps : List PKV) : Prop := ∀ d ∈ qs.map PKV.pd, d ∈ ps.map PKV.pd
theorem SubK.put {m : Nat} {qs qs2 ps : List PKV} {p : PKV} (h : SubK qs ps) (hp : p ∈ ps) (he : qs2.map PKV.pd = bput m (qs.map PKV.pd) p.pd) : SubK qs2 ps := fun d hd => by
  rw [he] at hd
  rcases bput_sub hd with h1 | h1
  · exact h d h1
  · rw [h1]; exact List.mem_map_of_mem hp
theorem vecs_fit {w : World} {ps : List PKV} (h : KsIn w ps) (hs : shortP ps) : Fit 1048576 (vecsD (ps.map PKV.pd)) := fun b hb => by
  unfold vecsD at hb
  rw [List.map_map] at hb
  obtain ⟨p, hp, rfl⟩ := List.mem_map.1 hb
  have h1 := (h p hp).1
  have h2 := shortP_mem hs hp
  refine ⟨h1.2.1, ?_⟩
  have h3 : p.r.xs.length = p.r.n := h1.1
  show p.r.xs.length ≤ _
  omega
/-- What is emitted of packets that came in. -/
theorem emit_span {w : World} {m : Nat} {ps qs : List PKV} {D : List Nat} {N : Nat} {t : Int} {d : PD} (h : KsIn w ps) (hs : shortP ps) (hq : SubK qs ps) (hi : BInv m (qs.map PKV.pd)) (he : emitO (qs.map PKV.pd) D N t = some d) :
    okD d = true ∧ 1 ≤ d.h ∧ (smalls d.xs → d.xs.length ≤ 1048576 → firstI (reduceL (basisL (vecsD (ps.map PKV.pd))) d.xs) < 0) := by
  obtain ⟨ws, hm⟩ := emitO_mix he
  obtain ⟨k1, k2⟩ := mixD_ok hi.ok hm
  refine ⟨k1, k2, fun hsm hl => ?_⟩
  rw [basis_in_iff (vecs_fit h hs) hsm hl]
  refine mixD_span (fun p hp => ⟨?_, hi.sm p hp⟩) hm
  unfold vecsD
  exact List.mem_map_of_mem (hq p hp)
set_option maxHeartbeats 16000000 in
theorem rlspan_walk (M T : Int) (a : Option Addr) (n c : Nat) (ps : List PKV) (a' : Option Addr) (m c' : Nat) (D : List Nat) (w : World) (ht : Tab w) (h : PksAt w a n ps) (hn : n ≤ 9223372036854775807) (hcap : ∀ i, i < ps.length → (ps.getD i .dflt).r.n ≤ (ps.getD i .dflt).r.c) (hbig : ∀ i, (ps.getD i .dflt).r.n ≤ 9223372036854775807 ∧ (ps.getD i .dflt).r.s.size ≤ 9223372036854775807) (hw : RowAt w a' m D) :
    Calls Tryz.prog 4 #[.agg #[.int .i64 M, .int .i64 T], .slice a n c, .slice a' m c'] w fun e w' => e = .returned (.bool true) ∧ Below w.heap.size w w' := by
  obtain rfl := h.1
  have hb0 : Below w.heap.size w (w.alloc (.cells #[.int .i64 M, .int .i64 T] 23)) := (Below.refl _ _).alloc (Nat.le_refl _) _
  have hbx : BkA 23 (w.alloc (.cells #[.int .i64 M, .int .i64 T] 23)) w.heap.size [.int .i64 M, .int .i64 T] := bkA_new 23 w _
  generalize hWW : w.alloc (.cells #[.int .i64 M, .int .i64 T] 23) = W at *
  have hk : KsIn W ps := fun p hp => by
    obtain ⟨i, hi, rfl⟩ := List.mem_iff_getElem.1 hp
    have h1 := (h.below hb0).2.1 i hi
    have h2 := hcap i hi
    rw [List.getD_eq_getElem?_getD, List.getElem?_eq_getElem hi] at h1 h2
    exact ⟨h1, h2⟩
  have HAW := hide (fun (w1 : World) (hb : Below W.heap.size W w1) => awake_any w1 ((ht.below hb0).below hb))
  have HF := hide (fewP_any a ps.length c ps W (h.below hb0) hn hbig)
  have HT := hide (ht.below hb0)
  have Hh := hide (h.below hb0)
  have HD := hide (hw.below hb0)
  have HK := hide hk
  have HB0 := hide hb0
  have m0 := hbx.at 0 rfl
  have m1 := hbx.at 1 rfl
  clear h ht hbig hcap hw hb0 hbx hk
  by_cases hf : FewK ps
  · by_cases hm3 : 300 < m
    · have hm4 : (300 : Int) < (m : Int) := by omega
      go_enter Tryz.func4, Tryz.ntmps4
      go_wp2_with (first
        | (go_at_call 23; refine (unhide HF).mono ?_; rintro e w1 ⟨he, hw1⟩; obtain rfl := hw1.symm; obtain rfl := retI_yes he hf; clear hw1 he HF)
        | (go_at_call 9; refine (unhide HAW _ (Below.refl _ _)).mono ?_; rintro e w2 ⟨rfl, hb2⟩; have HB2 := hide hb2; clear hb2))
      go_ret
      exact ⟨rfl, below0 (unhide HB0) (unhide HB2)⟩
    · have hm4 : ¬ (300 : Int) < (m : Int) := by omega
      have hl : ps.length ≤ 60 := hf.1
      have HS := hide hf.2
      go_enter Tryz.func4, Tryz.ntmps4
      go_wp2_with (first
        | (go_at_call 23; refine (unhide HF).mono ?_; rintro e w1 ⟨he, hw1⟩; obtain rfl := hw1.symm; obtain rfl := retI_yes he hf; clear hw1 he HF)
        | (go_at_call 10; refine (rlnew_any M T _).mono ?_; rintro e w1 ⟨g, gb, rfl, hr1, hb1⟩; have HR1 := hide hr1; have HB1 := hide hb1; clear hr1 hb1))
      clear hf
      have htt := clamp_in T
      generalize clampT T = t at *
      go_loopw [8] (fun i wr => ∃ (j : Nat) (v : Value) (qs : List PKV), j ≤ ps.length ∧ i = .int .i64 j ∧ Hid (RlAt wr g gb W.heap.size (capN M) t 0 v qs) ∧ Hid (SubK qs ps) ∧ Hid (Below W.heap.size W wr)) (fun i _ => ps.length - (intOf i).toNat)
      case atStart => exact ⟨0, _, _, Nat.zero_le _, rfl, HR1, hide (fun d hd => by cases hd), HB1⟩
      case round =>
        obtain ⟨j, v, qs, hj, rfl, HR, HSB, HB⟩ := hrel
        clear HR1 HB1
        by_cases hlt : j < ps.length
        · obtain ⟨b, off, rfl, ⟨q0, q1, q2, q3, q4, q5, q6⟩, -⟩ := (unhide Hh).oldk (unhide HB) hlt
          have hlt' : (j : Int) < (ps.length : Int) := by omega
          have hrW := (unhide Hh).2.1 j hlt
          have hsz := unhide HS j
          have HME : Hid (ps.getD j .dflt ∈ ps) := hide (by rw [List.getD_eq_getElem?_getD, List.getElem?_eq_getElem hlt]; exact List.getElem_mem hlt)
          generalize ps.getD j .dflt = p at *
          have HP := hide (rlput_in (unhide HT) (unhide HR) (unhide HB) p hrW hsz.1 hsz.2)
          clear hrW hsz
          go_wp2_with fail
          refine (unhide HP).mono ?_
          rintro e w2 ⟨rfl, v2, qs2, hr2, hpd, ht2, -⟩
          have HB2 := hide ((unhide HR).step (unhide HB) ht2)
          have HR2 := hide hr2
          have HS2 := hide ((unhide HSB).put (unhide HME) hpd)
          clear hr2 ht2 hpd HP HR HB q0 q1 q2 q3 q4 q5 q6 HSB
          generalize takeD (capN M) (qs.map PKV.pd) p.pd = TK at *
          go_wp2
          go_roundw
          case rel => exact ⟨j + 1, _, _, by omega, by go_num, HR2, HS2, HB2⟩
          case measure => simp [intOf]; omega
        · have HNW := hide (new_any a' m c' D wr ((unhide HD).below (unhide HB)) (by omega))
          go_wp2_with fail
          refine (unhide HNW).mono ?_
          rintro e w2 ⟨gd, rfl, hg2, hd2, hb2⟩
          have hB2 := below0 (unhide HB) hb2
          have hr2 := (unhide HR).below hb2
          have HE0 := rlemit_any g gb W.heap.size (capN M) t 0 v qs gd w2.heap.size D 0 w2 ((unhide HT).below hB2) hr2 hd2 (Nat.le_refl _) (by decide) htt
          have HES := hide (fun d hd => emit_span (N := 0) (D := D) (t := t) (d := d) (unhide HK) (unhide HS) (unhide HSB) hr2.buf.inv hd)
          have HG2 := hide (Nat.le_trans (unhide HB).size hg2)
          have HB2 := hide hB2
          generalize emitO (qs.map PKV.pd) D 0 t = o at *
          have HE := hide HE0
          clear HE0 hg2 hd2 hb2 hB2 hr2 HNW HR HSB
          go_wp2_with fail
          refine (unhide HE).mono ?_
          rintro e w3 ⟨he, -, hg3⟩
          have hB3 : Below W.heap.size W w3 := (unhide HB2).trans (gb_low hg3 (unhide HB2).size (unhide HG2))
          obtain ⟨q, rfl, hq, hr⟩ := he.row
          have hb4 := (Below.refl w3.heap.size w3).alloc (Nat.le_refl _) (.cells #[.int .i64 q.o, .int .i64 q.l, .int .i64 q.k, .int .i64 q.z, .int .i64 q.h, .slice q.r.a q.r.n q.r.c, .string q.r.s] 42)
          have hk4 := pkb_new w3 (.int .i64 q.o) (.int .i64 q.l) (.int .i64 q.k) (.int .i64 q.z) (.int .i64 q.h) (.slice q.r.a q.r.n q.r.c) (.string q.r.s)
          obtain ⟨x0, x1, x2, x3, x4, x5, x6⟩ := hk4.at
          have HK4 := hide hk4
          have HB4 := hide (below0 hB3 hb4)
          have HR4 := hide (hr.below hb4)
          unfold PKV.val
          clear he hg3 hB3 hb4 hk4 HE
          cases o with
          | none =>
            simp only [Option.isSome_none]
            have HSM := rpsame_is q zPK
            rw [sameD_refl (show q.pd = zPK.pd from hq)] at HSM
            have HQN : Hid (q.r.n ≤ 1000) := hide (by have h1 := hr.1; have h2 : q.r.xs = [] := congrArg PD.xs hq; rw [h2] at h1; simp at h1; omega)
            have HSS := hide (fun wx (hq : RowAt wx q.r.a q.r.n q.r.xs) (hn : q.r.n ≤ 1000) => HSM wx hq (row_none wx) (by omega) (by decide))
            clear hq hr HSM HES
            go_wp2_with (first
              | (go_at_call 15; generalize hw4 : w3.alloc (.cells #[.int .i64 q.o, .int .i64 q.l, .int .i64 q.k, .int .i64 q.z, .int .i64 q.h, .slice q.r.a q.r.n q.r.c, .string q.r.s] 42) = w4 at *; refine (unhide HSS _ (unhide HR4) (unhide HQN)).mono ?_; rintro e w6 ⟨rfl, hb6⟩; have HB6 := hide (below0 (unhide HB4) hb6); clear hb6 hw4)
              | (go_at_call 9; refine (unhide HAW _ (unhide HB6)).mono ?_; rintro e w7 ⟨rfl, hb7⟩; have HB7 := hide (below0 (unhide HB6) hb7); clear hb7))
            go_ret
            exact ⟨rfl, below0 (unhide HB0) (unhide HB7)⟩
          | some d =>
            simp only [Option.isSome_some]
            obtain ⟨s1, s2, s3⟩ := unhide HES d rfl
            have hqd : q.pd = d := hq
            subst hqd
            have HOK := hide s1
            have s2' : 1 ≤ q.h := s2
            have hql : q.r.n ≤ 1048576 := by have h5 := okD_len s1; have h6 : q.r.xs.length ≤ 2 := h5; have h7 := hr.1; omega
            have hdec : decide (firstI (reduceL (basisL (vecsD (ps.map PKV.pd))) q.r.xs) < 0) = true := decide_eq_true (s3 hr.2.1 (by have h7 := hr.1; show q.r.xs.length ≤ _; omega))
            have HFT := hide (vecs_fit (unhide HK) (unhide HS))
            have HVL : Hid ((vecsD (ps.map PKV.pd)).length = ps.length) := hide (by unfold vecsD; rw [List.length_map, List.length_map])
            have HV := hide (fun wx (hb : Below W.heap.size W wx) => rpvecs_any a ps.length c ps wx ((unhide Hh).below hb) (by omega))
            have HVV : Hid (∀ wx v1 B1, Below W.heap.size W wx → OwnW wx B1 v1 (ps.map PKV.r) → ∃ a1 c1, v1 = .slice a1 ps.length c1 ∧ VecsAt wx a1 ps.length (vecsD (ps.map PKV.pd))) := hide fun wx v1 B1 hbb hoo => by
              obtain ⟨a1, c1, e, hv⟩ := hoo.vecs (rowsOf ((unhide HK).below hbb))
              rw [List.length_map] at e hv
              rw [vecsOf] at hv
              exact ⟨a1, c1, e, hv⟩
            have HBS := hide (fun wx a1 c1 (hv : VecsAt wx a1 ps.length (vecsD (ps.map PKV.pd))) => rbasis_any a1 ps.length c1 (vecsD (ps.map PKV.pd)) wx hv (unhide HFT) (by omega))
            have HBL : Hid ((basisL (vecsD (ps.map PKV.pd))).length ≤ 1048576) := hide (by have h1 := basis_len (unhide HFT); rw [unhide HVL] at h1; omega)
            have HBF := hide (basis_fit (unhide HFT))
            have HIN0 := fun wx a1 c1 (hv : VecsAt wx a1 (basisL (vecsD (ps.map PKV.pd))).length (basisL (vecsD (ps.map PKV.pd)))) (hrw : RowAt wx q.r.a q.r.n q.r.xs) => rin_any a1 (basisL (vecsD (ps.map PKV.pd))).length c1 (basisL (vecsD (ps.map PKV.pd))) q.r.a q.r.n q.r.c q.r.xs wx hv (unhide HBF) hrw (unhide HBL) hql
            simp only [hdec] at HIN0
            have HIN := hide HIN0
            clear HIN0 hdec hr s1 s2 s3 HES HFT HBF HBL HVL
            generalize basisL (vecsD (ps.map PKV.pd)) = bl at *
            generalize vecsD (ps.map PKV.pd) = vl at *
            go_wp2_with fail
            generalize hw4 : w3.alloc (.cells #[.int .i64 q.o, .int .i64 q.l, .int .i64 q.k, .int .i64 q.z, .int .i64 q.h, .slice q.r.a q.r.n q.r.c, .string q.r.s] 42) = w4 at *
            clear hw4
            go_region_held3 (fun w' => w'.cell? ⟨w3.heap.size, 0, none⟩ = some (.int .i64 q.o) ∧ w'.cell? ⟨w3.heap.size, 1, none⟩ = some (.int .i64 q.l) ∧ w'.cell? ⟨w3.heap.size, 2, none⟩ = some (.int .i64 q.k) ∧ w'.cell? ⟨w3.heap.size, 3, none⟩ = some (.int .i64 q.z) ∧ w'.cell? ⟨w3.heap.size, 4, none⟩ = some (.int .i64 q.h) ∧ w'.cell? ⟨w3.heap.size, 5, none⟩ = some (.slice q.r.a q.r.n q.r.c) ∧ w'.cell? ⟨w3.heap.size, 6, none⟩ = some (.string q.r.s)) (go_keep) (first
              | (go_at_call 26; refine (unhide HV _ (below0 (unhide HB4) (Below.refl _ _).drew)).mono ?_; rintro e y1 ⟨v1, rfl, ho1, hb1⟩; have hB5 := below0 (below0 (unhide HB4) (Below.refl _ _).drew) hb1; obtain ⟨a1, c1, rfl, hv1⟩ := unhide HVV y1 v1 _ hB5 ho1; have HV1 := hide hv1; have HB5 := hide hB5; have hk5 := ((unhide HK4).below (Below.refl _ _).drew).below hb1; have HK5 := hide hk5; have HR5 := hide (((unhide HR4).below (Below.refl _ _).drew).below hb1); obtain ⟨f0, f1, f2, f3, f4, f5, f6⟩ := hk5.at; clear ho1 hb1 hB5 hv1 hk5)
              | (go_at_call 25; refine (unhide HBS _ _ _ (unhide HV1)).mono ?_; rintro e y2 ⟨v2, vs2, rfl, ho2, hb2⟩; obtain ⟨a2, c2, rfl, hv2⟩ := ho2.vecs; have HV2 := hide hv2; have HB6 := hide (below0 (unhide HB5) hb2); have hk6 := (unhide HK5).below hb2; have HK6 := hide hk6; have HR6 := hide ((unhide HR5).below hb2); obtain ⟨i0, i1, i2, i3, i4, i5, i6⟩ := hk6.at; clear ho2 hb2 hv2 hk6)
              | (go_at_call 24; refine (unhide HIN _ _ _ (unhide HV2) (unhide HR6)).mono ?_; rintro e y3 ⟨rfl, hb3⟩; have HB7 := hide (below0 (unhide HB6) hb3); have hk7 := (unhide HK6).below hb3; have HK7 := hide hk7; have HR7 := hide ((unhide HR6).below hb3); obtain ⟨k0, k1, k2, k3, k4, k5, k6⟩ := hk7.at; clear hb3 hk7)
              | (go_at_call 27; refine (rcheck_any q.o q.l q.k q.z q.h q.r.a q.r.n q.r.c q.r.xs q.r.s _ (unhide HR7) 0 (ckD_yes (p := q) (unhide HOK))).mono ?_; rintro e y4 ⟨rfl, hb4⟩; have HB8 := hide (below0 (unhide HB7) hb4); have hk8 := (unhide HK7).below hb4; have HK8 := hide hk8; obtain ⟨l0, l1, l2, l3, l4, l5, l6⟩ := hk8.at; clear hb4 hk8)
              | (go_at_call 9; refine (unhide HAW _ (unhide HB8)).mono ?_; rintro e y5 ⟨rfl, hb5⟩; have HB9 := hide (below0 (unhide HB8) hb5); obtain ⟨n0, n1, n2, n3, n4, n5, n6⟩ := ((unhide HK8).below hb5).at; clear hb5))
            go_wp2
            go_ret
            exact ⟨rfl, below0 (unhide HB0) (unhide HB9)⟩
  · go_enter Tryz.func4, Tryz.ntmps4
    go_wp2_with (first
      | (go_at_call 23; refine (unhide HF).mono ?_; rintro e w1 ⟨he, hw1⟩; obtain rfl := hw1.symm; obtain rfl := retI_no he hf; clear hw1 he HF)
      | (go_at_call 9; refine (unhide HAW _ (Below.refl _ _)).mono ?_; rintro e w2 ⟨rfl, hb2⟩; have HB2 := hide hb2; clear hb2))
    go_ret
    exact ⟨rfl, below0 (unhide HB0) (unhide HB2)⟩
end Go.Proofs.YtmdmipojbeppiaaGreatDoor
