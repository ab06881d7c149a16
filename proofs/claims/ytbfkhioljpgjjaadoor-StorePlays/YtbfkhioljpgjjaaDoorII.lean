/-
  The walk of StoreMore: for every input it tells true and writes nothing that was there.
-/
import Derived.Test.YtbfkhioljpgjjaaDoorIH
namespace Go.Proofs.YtbfkhioljpgjjaaDoor
open Go.RowKit Go.Sort
set_option linter.unusedVariables false
set_option maxRecDepth 4000

theorem capN_mono (M N : Int) (h : M ≤ N) : capN M ≤ capN N := by unfold capN; omega
theorem put_more {k z : Int} {ma mb : Nat} {La Lb : List (List Nat × ByteArray)} {oa ob : Bool} (x : List Nat × ByteArray) (hm : ma ≤ mb) (hL : La = Lb.take ma) (hb : Lb.length ≤ mb) (ho : ob = true → oa = true) :
    putL k z ma La x = (putL k z mb Lb x).take ma ∧ (putO k z mb Lb ob x = true → putO k z ma La oa x = true) := by
  subst hL
  have hl : (Lb.take ma).length = min ma Lb.length := List.length_take
  by_cases hf : fitB k z x = true
  · by_cases h1 : Lb.length < ma
    · have ha : (Lb.take ma).length < ma := by omega
      obtain ⟨_, p2, p3⟩ := put_in (m := ma) (L := Lb.take ma) hf ha
      obtain ⟨_, q2, q3⟩ := put_in (m := mb) (L := Lb) hf (by omega)
      refine ⟨?_, by rw [p3, q3]; exact ho⟩
      rw [p2, q2, List.take_of_length_le (Nat.le_of_lt h1), List.take_of_length_le (by rw [List.length_append, List.length_singleton]; omega)]
    · have ha : ¬ (Lb.take ma).length < ma := by omega
      obtain ⟨_, p2, p3⟩ := put_full (m := ma) (L := Lb.take ma) hf ha
      refine ⟨?_, fun _ => p3 _⟩
      rw [p2]
      unfold putL
      split
      · rw [List.take_append_of_le_length (by omega)]
      · rfl
  · have hf : fitB k z x = false := by simpa using hf
    obtain ⟨_, p2, p3⟩ := put_no (m := ma) (L := Lb.take ma) hf
    obtain ⟨_, q2, q3⟩ := put_no (m := mb) (L := Lb) hf
    exact ⟨by rw [p2, q2], by rw [p3, q3]; exact ho⟩
theorem rankC_more : ∀ (U L : List (List Nat × ByteArray)), rankC L ≤ rankC (L ++ U)
  | [], L => by rw [List.append_nil]; exact Nat.le_refl _
  | x :: U, L => by
    have h1 := rankC_more U (L ++ [x])
    rw [List.append_assoc] at h1
    have h2 := rankC_snoc L x
    refine Nat.le_trans ?_ h1
    omega
theorem rankC_take (L : List (List Nat × ByteArray)) (n : Nat) : rankC (L.take n) ≤ rankC L := by
  conv => rhs; rw [← List.take_append_drop n L]
  exact rankC_more _ _
/-- Two stores side by side, the second with more room. -/
structure TwoP (W w : World) (ga gb B : Nat) (k z : Int) (ma mb : Nat) (va vb : Value) (ta tb : List RV) (oa ob : Bool) : Prop where
  a : StAt w ga B k z ma va ta oa
  b : StAt w gb B k z mb vb tb ob
  ne : ga ≠ gb
  sep : ∀ j, va.ownBlock = some j → vb.ownBlock ≠ some j
  cut : ta.map core = (tb.map core).take ma
  le : ma ≤ mb
  ov : ob = true → oa = true
  low : Below B W w
theorem TwoP.below {W w w' : World} {ga gb B : Nat} {k z : Int} {ma mb : Nat} {va vb : Value} {ta tb : List RV} {oa ob : Bool} (h : TwoP W w ga gb B k z ma mb va vb ta tb oa ob) (hb : Below w.heap.size w w') : TwoP W w' ga gb B k z ma mb va vb ta tb oa ob :=
  ⟨h.a.below hb, h.b.below hb, h.ne, h.sep, h.cut, h.le, h.ov, h.low.trans (hb.mono h.a.lob)⟩
/-- The first was put into. -/
theorem TwoP.first {W w w1 : World} {ga gb B : Nat} {k z : Int} {ma mb : Nat} {va vb v1 : Value} {ta tb : List RV} {oa ob : Bool} (h : TwoP W w ga gb B k z ma mb va vb ta tb oa ob) (ht : Tu (stF ga va) w w1) (hv : v1.ownBlock = va.ownBlock ∨ ∀ j, v1.ownBlock = some j → w.heap.size ≤ j) :
    StAt w1 gb B k z mb vb tb ob ∧ (∀ j, v1.ownBlock = some j → vb.ownBlock ≠ some j) ∧ Below B W w1 := by
  refine ⟨h.b.other h.a (fun e => h.ne e.symm) (fun j hj e => h.sep j e hj) ht, fun j hj e => ?_, h.a.step h.low ht⟩
  rcases hv with hv | hv
  · exact h.sep j (hv ▸ hj) e
  · have h1 := hv j hj
    have h2 := (World.ownsRow.lt h.b.own j e).2
    omega
/-- .. and then the second. -/
theorem two_then {W w1 w2 : World} {ga gb B : Nat} {k z : Int} {ma mb : Nat} {v1 vb v2 : Value} {t1 tb t2 : List RV} {o1 ob o2 : Bool} (ha : StAt w1 ga B k z ma v1 t1 o1) (hb : StAt w1 gb B k z mb vb tb ob) (hne : ga ≠ gb) (hs : ∀ j, v1.ownBlock = some j → vb.ownBlock ≠ some j) (hl : Below B W w1)
    (h2 : StAt w2 gb B k z mb v2 t2 o2) (ht : Tu (stF gb vb) w1 w2) (hv : v2.ownBlock = vb.ownBlock ∨ ∀ j, v2.ownBlock = some j → w1.heap.size ≤ j) (hc : t1.map core = (t2.map core).take ma) (hle : ma ≤ mb) (ho : o2 = true → o1 = true) :
    TwoP W w2 ga gb B k z ma mb v1 v2 t1 t2 o1 o2 := by
  refine ⟨ha.other hb hne hs ht, h2, hne, fun j hj e => ?_, hc, hle, ho, hb.step hl ht⟩
  rcases hv with hv | hv
  · exact hs j hj (hv ▸ e)
  · have h1 := hv j e
    have h3 := (World.ownsRow.lt ha.own j hj).2
    omega

set_option maxHeartbeats 8000000 in
theorem stmore_walk (K Z M : Int) (a : Option Addr) (n c : Nat) (rs : List RV) (mo : Int) (w : World) (ht : Tab w) (h : RowsAt w a n rs) (hn : n ≤ 9223372036854775807) (hbig : ∀ i, (rs.getD i .dflt).n ≤ 9223372036854775807 ∧ (rs.getD i .dflt).s.size ≤ 9223372036854775807) :
    Calls Tryd.prog 7 #[.agg #[.int .i64 K, .int .i64 Z, .int .i64 M], .slice a n c, .int .i64 mo] w fun e w' => e = .returned (.bool true) ∧ Below w.heap.size w w' := by
  have hb0 := alloc_low w (.cells #[.int .i64 K, .int .i64 Z, .int .i64 M] 23)
  have hz := sz_new w K Z M
  have hsw := alloc_size w (.cells #[.int .i64 K, .int .i64 Z, .int .i64 M] 23)
  have HAW := hide (fun (w1 : World) (hb : Below w.heap.size w w1) => awake_any w1 (ht.below hb))
  have HT := hide ht
  generalize hW : w.alloc (.cells #[.int .i64 K, .int .i64 Z, .int .i64 M] 23) = W at *
  have HF := hide (fewR_any a n c rs W (h.below hb0) hn hbig)
  have Hh := hide (h.below hb0)
  have HB0 := hide hb0
  have HSZ := hide (fun wx (hb : Below W.heap.size W wx) => hz.belowB hb (by omega))
  obtain ⟨z0, z1, z2⟩ := hz
  clear h hb0 hbig ht hsw
  go_enter Tryd.func7, Tryd.ntmps7
  go_wp2_with fail
  refine (unhide HF).mono ?_
  rintro e w0 ⟨hf, hw⟩
  obtain rfl := hw.symm
  clear hw HF
  rcases hf with ⟨rfl, hf⟩ | ⟨rfl, hf⟩
  case inr =>
    clear hf
    go_wp2_with (go_at_call 9; refine (unhide HAW _ (unhide HB0)).mono ?_; rintro e w1 ⟨rfl, hb1⟩)
    go_ret
    exact ⟨rfl, below0 (unhide HB0) hb1⟩
  have Hf := hide hf.2
  clear hf
  by_cases h6 : 80 < n
  · have hd : decide ((80 : Int) < (n : Int)) = true := by rw [decide_eq_true_iff]; omega
    go_wp2_with (go_at_call 9; refine (unhide HAW _ (unhide HB0)).mono ?_; rintro e w1 ⟨rfl, hb1⟩)
    go_ret
    exact ⟨rfl, below0 (unhide HB0) hb1⟩
  have hd : decide ((80 : Int) < (n : Int)) = false := by rw [decide_eq_false_iff_not]; omega
  by_cases h7 : M < 0
  · have hd1 : decide (M < 0) = true := decide_eq_true h7
    go_wp2_with (go_at_call 9; refine (unhide HAW _ (unhide HB0)).mono ?_; rintro e w1 ⟨rfl, hb1⟩)
    go_ret
    exact ⟨rfl, below0 (unhide HB0) hb1⟩
  have hd1 : decide (M < 0) = false := decide_eq_false h7
  by_cases h8 : 256 < M
  · have hd2 : decide (256 < M) = true := decide_eq_true h8
    go_wp2_with (go_at_call 9; refine (unhide HAW _ (unhide HB0)).mono ?_; rintro e w1 ⟨rfl, hb1⟩)
    go_ret
    exact ⟨rfl, below0 (unhide HB0) hb1⟩
  have hd2 : decide (256 < M) = false := decide_eq_false h8
  by_cases h9 : mo < 0
  · have hd3 : decide (mo < 0) = true := decide_eq_true h9
    go_wp2_with (go_at_call 9; refine (unhide HAW _ (unhide HB0)).mono ?_; rintro e w1 ⟨rfl, hb1⟩)
    go_ret
    exact ⟨rfl, below0 (unhide HB0) hb1⟩
  have hd3 : decide (mo < 0) = false := decide_eq_false h9
  by_cases h10 : 256 < mo
  · have hd4 : decide (256 < mo) = true := decide_eq_true h10
    go_wp2_with (go_at_call 9; refine (unhide HAW _ (unhide HB0)).mono ?_; rintro e w1 ⟨rfl, hb1⟩)
    go_ret
    exact ⟨rfl, below0 (unhide HB0) hb1⟩
  have hd4 : decide (256 < mo) = false := decide_eq_false h10
  have hw1 : wrap64 (M + mo) = M + mo := by unfold wrap64; omega
  have hw2 : IntKind.i64.wrap (M + mo) = M + mo := by rw [IntKind.wrap_i64]; omega
  have HNA := hide (stnew_any K Z M W.drew)
  have HF1 : Hid True := hide trivial
  go_wp2_with fail
  go_region_held3 (fun w' => w'.cell? ⟨w.heap.size, 0, none⟩ = some (.int .i64 K) ∧ w'.cell? ⟨w.heap.size, 1, none⟩ = some (.int .i64 Z) ∧ w'.cell? ⟨w.heap.size, 2, none⟩ = some (.int .i64 M)) (go_keep) (first
    | (go_at_call 10; clear HF1; refine (unhide HNA).mono ?_; rintro e w1 ⟨rfl, hs1, hb1⟩; have D1 := hide (show Below W.heap.size W w1 from below0 (Below.refl _ _).drew hb1); have HS1 := hide (show StAt w1 W.heap.size W.heap.size K Z (capN M) (.slice none 0 0) [] false from hs1); obtain ⟨y0, y1, y2⟩ := unhide HSZ w1 (unhide D1); clear hs1 hb1)
    | (go_at_call 10; refine (stnew_any K Z (M + mo) w1).mono ?_; rintro e w2 ⟨rfl, hs2, hb2⟩; have D2 := hide (show Below W.heap.size W w2 from below0 (unhide D1) hb2); have HS2 := hide hs2; have HSA := hide ((unhide HS1).below hb2); obtain ⟨x0, x1, x2⟩ := unhide HSZ w2 (unhide D2); clear hs2 hb2)
    | fail)
  have hg12 : W.heap.size < w1.heap.size := (unhide HS1).lt
  have hz2 := (unhide D1).size
  have hzz := (unhide D2).size
  have J := hide (show TwoP W w2 W.heap.size w1.heap.size W.heap.size K Z (capN M) (capN (M + mo)) (.slice none 0 0) (.slice none 0 0) [] [] false false from
    ⟨unhide HSA, (unhide HS2).mono hz2, by omega, (fun j hj => by cases hj), by simp, capN_mono _ _ (by omega), id, unhide D2⟩)
  generalize w1.heap.size = gb at *
  clear HS1 HS2 HSA D1 D2 HNA hz2 hzz z0 z1 z2 y0 y1 y2 x0 x1 x2 HSZ hw1 hw2
  go_wp2
  go_loopw [9] (fun i wr => ∃ (j : Nat) (va vb : Value) (ta tb : List RV) (oa ob : Bool), j ≤ n ∧ i = .int .i64 j ∧ Hid (TwoP W wr W.heap.size gb W.heap.size K Z (capN M) (capN (M + mo)) va vb ta tb oa ob)) (fun i _ => n - (intOf i).toNat)
  case atStart => exact ⟨0, _, _, _, _, _, _, Nat.zero_le _, rfl, J⟩
  case round =>
    obtain ⟨j, va, vb, ta, tb, oa, ob, hj, rfl, HJ⟩ := hrel
    clear J
    by_cases hlt : j < n
    · have hRa := unhide Hh
      obtain ⟨b, off, rfl, -⟩ := hRa.at hlt
      have hrow := hRa.2.1 j hlt
      have hsh := unhide Hf j
      have hlt' : (j : Int) < (n : Int) := by omega
      have HCL := hide (fun wx (hb : Below W.heap.size W wx) => (show wx.cell? ⟨b, off + j * 2, none⟩ = some (.slice (rs.getD j .dflt).a (rs.getD j .dflt).n (rs.getD j .dflt).c) ∧ wx.cell? ⟨b, off + j * 2 + 1, none⟩ = some (.string (rs.getD j .dflt).s) from by
        obtain ⟨b', off', e', hc'⟩ := (hRa.below hb).at hlt
        simp only [Option.some.injEq, Addr.mk.injEq, and_true] at e'
        obtain ⟨rfl, rfl⟩ := e'
        exact hc' j hlt))
      generalize rs.getD j .dflt = r at *
      have HRO := hide (fun wx (hb : Below W.heap.size W wx) => hrow.below hb)
      have hJ := unhide HJ
      have HP := hide (put_any _ _ K Z (capN M) va ta oa r.a r.n r.c r.xs r.s wr hJ.a (unhide HRO _ hJ.low) hsh.1 hsh.2)
      obtain ⟨hc0, hc1⟩ := unhide HCL _ hJ.low
      clear hRa hrow hJ
      go_wp2_with fail
      refine (unhide HP).mono ?_
      rintro e w2 ⟨rfl, v2, t2, hs2, hk2, ht2, hv2⟩
      obtain ⟨hb2, hsep2, hl2⟩ := (unhide HJ).first ht2 hv2
      have HP2 := hide (put_any _ _ K Z (capN (M + mo)) vb tb ob r.a r.n r.c r.xs r.s w2 hb2 (unhide HRO _ hl2) hsh.1 hsh.2)
      obtain ⟨hd0, hd1⟩ := unhide HCL _ hl2
      have HK2 := hide hk2
      have HA2 := hide hs2
      have HB2 := hide hb2
      have HSEP := hide hsep2
      have HL2 := hide hl2
      clear hs2 hk2 ht2 hv2 hb2 hsep2 hl2 HP hc0 hc1
      go_wp2_with fail
      refine (unhide HP2).mono ?_
      rintro e w3 ⟨rfl, v3, t3, hs3, hk3, ht3, hv3⟩
      have hJ := unhide HJ
      obtain ⟨hcut, hov⟩ := put_more (k := K) (z := Z) (r.xs, r.s) hJ.le hJ.cut (by rw [List.length_map]; exact hJ.b.le) hJ.ov
      rw [← unhide HK2, ← hk3] at hcut
      have HJ3 := hide (two_then (unhide HA2) (unhide HB2) hJ.ne (unhide HSEP) (unhide HL2) hs3 ht3 hv3 hcut hJ.le hov)
      clear hs3 hk3 ht3 hv3 hJ hcut hov HP2 HK2 HA2 HB2 HSEP HL2 hd0 hd1 HJ HCL HRO
      generalize putO K Z (capN M) (ta.map core) oa (r.xs, r.s) = oa3 at *
      generalize putO K Z (capN (M + mo)) (tb.map core) ob (r.xs, r.s) = ob3 at *
      go_wp2
      go_roundw
      case rel => exact ⟨j + 1, v2, v3, t2, t3, oa3, ob3, by omega, by go_num, HJ3⟩
      case measure => simp [intOf]; omega
    · have hJ := unhide HJ
      have HR1 := hide (rows_any _ _ K Z (capN M) va ta oa wr hJ.a)
      have hla := hJ.a.le
      have hma := hJ.a.most
      have hlb := hJ.b.le
      have hmb := hJ.b.most
      have hcut := hJ.cut
      have HCUT := hide hcut
      have hlen : ta.length = min (capN M) tb.length := by
        have := congrArg List.length hcut
        rwa [List.length_map, List.length_take, List.length_map] at this
      have hlab : ta.length ≤ tb.length := by omega
      have HLEN := hide hlen
      have hrk : rankN ta ≤ rankN tb := by rw [rankN_core, rankN_core, hcut]; exact rankC_take _ _
      have hov := hJ.ov
      clear hJ hcut hlen
      go_wp2_with fail
      refine (unhide HR1).mono ?_
      rintro e w2 ⟨g2, c2, us2, rfl, ho2, hr2, he2, hb2⟩
      have hJ2 := (unhide HJ).below hb2
      have HR2 := hide (rows_any _ _ K Z (capN (M + mo)) vb tb ob w2 hJ2.b)
      obtain ⟨hA2, hI2, hSh2, hn2, -⟩ := OutP.at ho2 hr2 he2 (unhide HJ).a.rows.rows (unhide HJ).a.short
      have HA2 := hide hA2
      have HSH2 := hide hSh2
      have HE2 := hide he2
      have HJ2 := hide hJ2
      clear ho2 hr2 he2 hb2 hA2 hI2 hSh2 hn2 HJ HR1 hJ2
      go_wp2_with fail
      refine (unhide HR2).mono ?_
      rintro e w3 ⟨g3, c3, us3, rfl, ho3, hr3, he3, hb3⟩
      have hJ3 := (unhide HJ2).below hb3
      obtain ⟨hA3, hI3, hSh3, hn3, hc3⟩ := OutP.at ho3 hr3 he3 (unhide HJ2).b.rows.rows (unhide HJ2).b.short
      have hsl := slice_hi g3 0 tb.length c3 ta.length (by omega)
      have hco : us2.map core = (us3.take ta.length).map core := by
        rw [List.map_take, he3, unhide HE2, unhide HCUT]
        conv => rhs; rw [unhide HLEN]
        rw [List.take_eq_take_min, List.length_map]
      have HAL := hide (rall_any (some ⟨g2, 0, none⟩) ta.length c2 us2 (some ⟨g3, 0, none⟩) ta.length c3 (us3.take ta.length) w3 ((unhide HA2).below hb3) (hA3.take ta.length (by omega)) hco (unhide HSH2) (by omega))
      have HTA := hide (fun wx (hb : Below w3.heap.size w3 wx) => (unhide HT).below (below0 (unhide HB0) (hJ3.below hb).low))
      have HOA := hide (fun wx (hb : Below w3.heap.size w3 wx) => over_any _ _ K Z (capN M) va ta oa wx (hJ3.below hb).a)
      have HOB := hide (fun wx (hb : Below w3.heap.size w3 wx) => over_any _ _ K Z (capN (M + mo)) vb tb ob wx (hJ3.below hb).b)
      have HKA := hide (fun wx (hb : Below w3.heap.size w3 wx) => rank_any _ _ K Z (capN M) va ta oa wx (unhide HTA wx hb) (hJ3.below hb).a)
      have HKB := hide (fun wx (hb : Below w3.heap.size w3 wx) => rank_any _ _ K Z (capN (M + mo)) vb tb ob wx (unhide HTA wx hb) (hJ3.below hb).b)
      have HL3 := hide (below0 (unhide HB0) hJ3.low)
      have q1 : decide ((ta.length : Int) ≤ (tb.length : Int)) = true := by rw [decide_eq_true_iff]; omega
      have q2 : decide ((rankN ta : Int) ≤ (rankN tb : Int)) = true := by rw [decide_eq_true_iff]; omega
      generalize rankN ta = RA at *
      generalize rankN tb = RB at *
      clear ho3 hr3 he3 hb3 hA3 hI3 hSh3 hn3 hco hJ3 HJ2 HR2 HA2 HSH2 HE2 HCUT HLEN
      have HF2 : Hid True := hide trivial
      cases ob
      case false =>
        go_wp2_with (first
          | (go_at_call 16; refine (unhide HAL).mono ?_; rintro e w4 ⟨rfl, hb4⟩; have HB4 := hide hb4; clear hb4)
          | (go_at_call 15; refine (unhide HOB _ (unhide HB4)).mono ?_; rintro e w9 ⟨rfl, hw⟩; obtain rfl := hw.symm; clear hw)
          | (go_at_call 18; clear HF2; refine (unhide HKA _ (unhide HB4)).mono ?_; rintro e w5 ⟨rfl, hb5⟩; have HB5 := hide (below0 (unhide HB4) hb5); clear hb5)
          | (go_at_call 18; refine (unhide HKB _ (unhide HB5)).mono ?_; rintro e w6 ⟨rfl, hb6⟩; have HB6 := hide (below0 (unhide HB5) hb6); clear hb6)
          | (go_at_call 9; refine (unhide HAW _ (below0 (unhide HL3) (unhide HB6))).mono ?_; rintro e w7 ⟨rfl, hb7⟩; have HB7 := hide (below0 (below0 (unhide HL3) (unhide HB6)) hb7); clear hb7))
        go_ret
        exact ⟨rfl, unhide HB7⟩
      case true =>
        obtain rfl := hov rfl
        have HF3 : Hid True := hide trivial
        go_wp2_with (first
          | (go_at_call 16; refine (unhide HAL).mono ?_; rintro e w4 ⟨rfl, hb4⟩; have HB4 := hide hb4; clear hb4)
          | (go_at_call 15; clear HF3; refine (unhide HOB _ (unhide HB4)).mono ?_; rintro e w9 ⟨rfl, hw⟩; obtain rfl := hw.symm; clear hw)
          | (go_at_call 15; refine (unhide HOA _ (unhide HB4)).mono ?_; rintro e w9 ⟨rfl, hw⟩; obtain rfl := hw.symm; clear hw)
          | (go_at_call 18; clear HF2; refine (unhide HKA _ (unhide HB4)).mono ?_; rintro e w5 ⟨rfl, hb5⟩; have HB5 := hide (below0 (unhide HB4) hb5); clear hb5)
          | (go_at_call 18; refine (unhide HKB _ (unhide HB5)).mono ?_; rintro e w6 ⟨rfl, hb6⟩; have HB6 := hide (below0 (unhide HB5) hb6); clear hb6)
          | (go_at_call 9; refine (unhide HAW _ (below0 (unhide HL3) (unhide HB6))).mono ?_; rintro e w7 ⟨rfl, hb7⟩; have HB7 := hide (below0 (below0 (unhide HL3) (unhide HB6)) hb7); clear hb7))
        go_ret
        exact ⟨rfl, unhide HB7⟩
end Go.Proofs.YtbfkhioljpgjjaaDoor
