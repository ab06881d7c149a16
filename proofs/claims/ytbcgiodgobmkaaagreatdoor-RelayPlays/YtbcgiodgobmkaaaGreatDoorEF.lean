/-
  Contract of bucketlineref03.Add where it brings something: walked in six ways, laid by gen_ee.py.
-/
import Derived.Test.YtbcgiodgobmkaaaGreatDoorU12
namespace Go.Proofs.YtbcgiodgobmkaaaGreatDoor
open Go.RowKit Go.Sort
set_option linter.unusedVariables false
set_option linter.unusedSimpArgs false
set_option maxRecDepth 4000

/-- What the reference has put out behind k rows. -/
def outL (r : List Nat) (C : List (List Nat)) (p k : Nat) : List (List Nat) := if p < k then insAt r p (C.take k) else C.take k
theorem outL_zero (r : List Nat) (C : List (List Nat)) (p : Nat) : outL r C p 0 = [] := by simp [outL]
theorem outL_len (r : List Nat) (C : List (List Nat)) (p k : Nat) : (outL r C p k).length ≤ k + 1 := by
  have h1 : (C.take k).length ≤ k := List.length_take_le _ _
  unfold outL
  split
  · unfold insAt
    simp only [List.length_append, List.length_cons, List.length_take, List.length_drop]
    omega
  · omega
theorem outL_behind (r : List Nat) (C : List (List Nat)) (p k : Nat) (hk : k < C.length) (hp : p < k) : outL r C p k ++ [C.getD k []] = outL r C p (k + 1) := by
  unfold outL
  rw [if_pos hp, if_pos (by omega), ← take_snoc C k hk]
  unfold insAt
  have hl : (C.take k).length = k := by rw [List.length_take]; omega
  rw [List.take_append_of_le_length (by omega), List.drop_append_of_le_length (by omega)]
  simp
theorem outL_ahead (r : List Nat) (C : List (List Nat)) (p k : Nat) (hk : k < C.length) (hp : k < p) : outL r C p k ++ [C.getD k []] = outL r C p (k + 1) := by
  unfold outL
  rw [if_neg (by omega), if_neg (by omega), take_snoc C k hk]
theorem outL_at (r : List Nat) (C : List (List Nat)) (k : Nat) (hk : k < C.length) : (outL r C k k ++ [r]) ++ [C.getD k []] = outL r C k (k + 1) := by
  unfold outL
  rw [if_neg (by omega), if_pos (by omega), ← take_snoc C k hk]
  unfold insAt
  have hl : (C.take k).length = k := by rw [List.length_take]; omega
  have e1 : (C.take k).take k = C.take k := List.take_of_length_le (by omega)
  have e2 : (C.take k).drop k = [] := List.drop_of_length_le (by omega)
  rw [List.take_append_of_le_length (by omega), List.drop_append_of_le_length (by omega), e1, e2]
  simp
theorem outL_all (r : List Nat) (C : List (List Nat)) (p : Nat) (hp : p < C.length) : outL r C p C.length = insAt r p C := by
  unfold outL
  rw [if_pos hp, List.take_length]
theorem outL_last (r : List Nat) (C : List (List Nat)) : outL r C C.length C.length ++ [r] = insAt r C.length C := by
  unfold outL insAt
  rw [if_neg (by omega), List.take_length]
  simp
def St (w : World) (B1 : Nat) (rv : Value) (r : List Nat) (C : List (List Nat)) (p k : Nat) (bp : Bool) (wr : World) (v : Value) (vs : List Value) (L : List (List Nat)) : Prop :=
  bp = decide (p < k) ∧ L = outL r C p k ∧ OwnV wr (if p < k then w.heap.size else B1) v vs L ∧ Own wr w.heap.size rv r ∧ Below w.heap.size w wr ∧ B1 ≤ wr.heap.size ∧ w.heap.size ≤ B1 ∧ ∀ b, rv.ownBlock = some b → b < B1
theorem dis_low {w : World} {B1 B : Nat} {v rv : Value} {vs : List Value} {rs : List (List Nat)} {r : List Nat} (h : OwnV w B1 v vs rs) (k : Own w B rv r) (hb : ∀ b, rv.ownBlock = some b → b < B1) : ∀ u ∈ vs, Dis u rv := by
  intro u hu
  obtain ⟨i, hi, rfl⟩ := List.getElem_of_mem hu
  by_cases hn : rv.ownBlock = none
  · exact Dis.symm (.inl hn)
  · right
    intro e
    obtain ⟨b, hbb⟩ := Option.ne_none_iff_exists'.1 hn
    have h1 := hb b hbb
    have h2 := ((h.rows i _ (List.getElem?_eq_getElem hi)).lt (by rw [e]; exact hbb)).1
    omega

set_option maxHeartbeats 8000000 in
theorem radd_yes (a : Option Addr) (n c : Nat) (rs : List (List Nat)) (a' : Option Addr) (m c' : Nat) (xs : List Nat) (w : World) (h : VecsAt w a n rs) (hf : Fit 1048576 rs) (h' : RowAt w a' m xs) (hn : n ≤ 100000) (hm : m ≤ 1048576) (hpos : 0 ≤ firstI (reduceL rs xs)) :
    Calls Tryz.prog 84 #[.slice a n c, .slice a' m c'] w fun e w' => ∃ v vs, e = .returned (.tuple #[v, .bool true]) ∧ OwnV w' w.heap.size v vs (raddL rs xs) ∧ Below w.heap.size w w' := by
  obtain rfl : n = rs.length := h.1.symm
  have HR := hide (rreduce_any a _ c rs a' m c' xs w h hf h' (by omega) hm)
  obtain ⟨hrs, hrl⟩ := reduce_small hf h'.2.1 (by rw [h'.1]; exact hm)
  have hfl := firstI_le hrs
  have HI : raddL rs xs = insAt (reduceL rs xs) (idxL (firstI (reduceL rs xs)) rs) (rs.map fun b => stepL b (reduceL rs xs)) := by
    unfold raddL
    rw [if_neg (by omega)]
  rw [HI]
  clear HI h'
  generalize reduceL rs xs = r at *
  have HF := hide (fun (w1 : World) (ar : Option Addr) (cr : Nat) (hr : RowAt w1 ar r.length r) => rfirst_any ar r.length cr r w1 hr hrl)
  have hdn : decide (0 ≤ firstI r) = true := by simp; omega
  have hdn2 : decide (firstI r < 0) = false := by simp; omega
  have HST : Hid (∀ y, stepL y r = if getI y (firstI r) = true then xorL y r else y) := fun _ => rfl
  have hcl : (rs.map fun b => stepL b r).length = rs.length := by simp
  have HCG : Hid (∀ k, k < rs.length → (rs.map fun b => stepL b r).getD k [] = stepL (rs.getD k []) r) := fun k hk => by simp [List.getD_eq_getElem?_getD, List.getElem?_eq_getElem hk]
  have hple := idxL_le (firstI r) rs
  have HLOW := hide (idxL_low (firstI r) rs)
  have HAT := hide (idxL_at (firstI r) rs)
  have hfm : firstI r ≤ 9223372036854775807 := by omega
  generalize idxL (firstI r) rs = p at *
  generalize hCe : (rs.map fun b => stepL b r) = C at *
  have HCL := hide hcl
  clear hCe hcl
  generalize firstI r = f at *
  go_enter Tryz.func84, Tryz.ntmps84
  go_wp2_with fail
  refine (unhide HR).mono ?_
  rintro e w1 ⟨v, rfl, ho, hb⟩
  obtain ⟨ar, cr, rfl, hr⟩ := ho.row
  have HF1 := hide (unhide HF w1 ar cr hr)
  have H0 : Hid (St w w1.heap.size (.slice ar r.length cr) r C p 0 false w1 (.slice none 0 0) [] []) := hide ⟨by simp, (outL_zero r C p).symm, OwnV.nil _ _, ho, hb, Nat.le_refl _, hb.size, fun b hb => (ho.lt hb).2⟩
  generalize w1.heap.size = B1 at *
  clear HF hr ho HR hb
  go_wp2_with fail
  refine (unhide HF1).mono ?_
  rintro e w2 ⟨rfl, hw⟩
  obtain rfl := hw.symm
  clear HF1
  go_wp2
  go_loopw [8, 9, 10] (fun o pl i wr => ∃ k : Nat, k ≤ rs.length ∧ i = .int .i64 k ∧ ∃ bp, pl = .bool bp ∧ ∃ a1 c1 vs L, o = .slice a1 (List.length L) c1 ∧ Hid (St w B1 (.slice ar r.length cr) r C p k bp wr (.slice a1 (List.length L) c1) vs L)) (fun _ _ i _ => rs.length - (intOf i).toNat)
  case atStart => exact ⟨0, Nat.zero_le _, rfl, false, by simp, none, 0, [], [], rfl, H0⟩
  case round =>
    obtain ⟨k, hk, rfl, bp, rfl, a1, c1, vs, L, rfl, HS⟩ := hrel
    obtain ⟨hbp, hL, hV, hR, hB, hB1, hB1', hlow⟩ := unhide HS
    have hLl := outL_len r C p k
    rw [← hL] at hLl
    have HL := hide hL
    clear H0 HS hL
    have hrR : RowAt wr ar r.length r := by
      obtain ⟨_, _, e2, hr2⟩ := hR.row
      simp only [Value.slice.injEq, true_and] at e2
      rw [e2.1]; exact hr2
    by_cases hlt : k < rs.length
    · obtain ⟨b, off, rfl, hc⟩ := (h.below hB).at hlt
      obtain ⟨ai, ci, hcell, hrow⟩ := hc k hlt
      have hlk := (hf.getD k).2
      have HROW := hide hrow
      have HSY := hide (unhide HST (rs.getD k []))
      have HCK := hide (unhide HCG k hlt)
      have HLOWK := hide (unhide HLOW k)
      have HATK : Hid (k = p → f < firstI (rs.getD k [])) := hide (fun e => by subst e; exact unhide HAT hlt)
      clear hc hrow h HST HCG HLOW HAT
      generalize rs.getD k [] = y at *
      have HDV := hide (fun (w' : World) (bv : Value) (ys : List Nat) (ho : Own w' wr.heap.size bv ys) => hV.dis_new ho)
      have HDR := hide (fun (w' : World) (bv : Value) (ys : List Nat) (ho : Own w' wr.heap.size bv ys) => dis_range hR ho)
      by_cases hpk : p < k
      · rw [if_pos hpk] at hV
        obtain rfl : bp = true := by rw [hbp]; simpa using hpk
        have HLN := hide (outL_behind r C p k (by rw [unhide HCL]; exact hlt) hpk)
        rw [unhide HCK, ← unhide HL] at HLN
        clear hbp
        by_cases hget : getI y f = true
        · have hst := unhide HSY
          rw [if_pos hget] at hst
          have HSTE := hide hst
          clear hst
          go_wp2_with (first | (at_builtin; refine wpList_append_nil rfl _ _ rfl ai y.length ci y rfl rfl (unhide HROW) hlk ?_; intro bv w3 hob hb3; obtain ⟨ab, cb, rfl, hrb⟩ := hob.row; have hrR3 := hrR.below hb3; have hV3 := hV.below hb3; have hR3 := hR.below hb3; have hB3 := below0 hB hb3; have hz3 := hb3.size; clear hb3))
          have hG := rget_any ab y.length cb y f w3 hrb hlk hfm
          rw [hget] at hG
          refine hG.mono ?_
          rintro e w' ⟨rfl, hw⟩
          obtain rfl := hw.symm
          clear hG
          go_wp2_with fail
          refine (rxor_any ab y.length cb y ar r.length cr r w3 hrb hrR3 hlk hrl).mono ?_
          rintro e w6 ⟨bv6, rfl, ho6, hb6⟩
          rw [← unhide HSTE] at ho6
          obtain ⟨a6, c6, rfl, _⟩ := ho6.row
          have hV6 := hV3.below hb6
          have hR6 := hR3.below hb6
          have hB6 := below0 hB3 hb6
          have hz6 := hb6.size
          have ho6 := ho6.mono hz3
          clear hb6
          clear hrb hrR3 hV3 hR3 hB3 hob
          have hwz : wr.heap.size ≤ w6.heap.size := Nat.le_trans hz3 hz6
          go_wp2_with (first | (at_builtin; refine wpList_push rfl _ _ rfl w.heap.size (.slice a1 L.length c1) vs L (.slice a6 (stepL y r).length c6) (stepL y r) rfl rfl hV6 hB6.size (ho6.mono hB.size) (unhide HDV _ _ _ ho6) (by omega) ?_; intro s7 w7 hV7 hg7))
          have hB7 := hB6.trans (gb_below hg7 hB6.size (fun k hk => (hV6.top.lt k hk).1))
          have hR7 := hR6.kept hg7 (dis_types hV6.top hR6)
          have hz7 : B1 ≤ w7.heap.size := Nat.le_trans hB1 (Nat.le_trans hwz hg7.size)
          obtain ⟨LN, hLN⟩ : ∃ LN, LN = L ++ [stepL y r] := ⟨_, rfl⟩
          rw [← hLN] at hV7
          obtain ⟨a7, c7, rfl⟩ := hV7.shape
          have hLN2 := hLN.trans (unhide HLN)
          have HN : Hid (St w B1 (.slice ar r.length cr) r C p (k + 1) true w7 (.slice a7 LN.length c7) _ LN) := hide ⟨by simp; omega, hLN2, by rw [if_pos (by omega)]; exact hV7, hR7, hB7, hz7, hB1', hlow⟩
          clear hV7 hR7 hB7 hLN hLN2 hg7 HSTE hget HLN HDV HDR HSY HCK HROW
          go_wp2
          go_roundw
          case rel => exact ⟨k + 1, by omega, by go_num, true, rfl, a7, c7, _, LN, rfl, HN⟩
          case measure => simp [intOf]; omega
        · have hst := unhide HSY
          rw [if_neg hget] at hst
          have hget : getI y f = false := by simpa using hget
          have HSTE := hide hst
          clear hst
          go_wp2_with (first | (at_builtin; refine wpList_append_nil rfl _ _ rfl ai y.length ci y rfl rfl (unhide HROW) hlk ?_; intro bv w3 hob hb3; obtain ⟨ab, cb, rfl, hrb⟩ := hob.row; have hrR3 := hrR.below hb3; have hV3 := hV.below hb3; have hR3 := hR.below hb3; have hB3 := below0 hB hb3; have hz3 := hb3.size; clear hb3))
          have hG := rget_any ab y.length cb y f w3 hrb hlk hfm
          rw [hget] at hG
          refine hG.mono ?_
          rintro e w' ⟨rfl, hw⟩
          obtain rfl := hw.symm
          clear hG
          have hwz : wr.heap.size ≤ w3.heap.size := hz3
          go_wp2_with (first | (at_builtin; refine wpList_push rfl _ _ rfl w.heap.size (.slice a1 L.length c1) vs L (.slice ab y.length cb) y rfl rfl hV3 hB3.size (hob.mono hB.size) (unhide HDV _ _ _ hob) (by omega) ?_; intro s7 w7 hV7 hg7))
          have hB7 := hB3.trans (gb_below hg7 hB3.size (fun k hk => (hV3.top.lt k hk).1))
          have hR7 := hR3.kept hg7 (dis_types hV3.top hR3)
          have hz7 : B1 ≤ w7.heap.size := Nat.le_trans hB1 (Nat.le_trans hwz hg7.size)
          obtain ⟨LN, hLN⟩ : ∃ LN, LN = L ++ [stepL y r] := ⟨_, rfl⟩
          have hLN0 := hLN
          rw [unhide HSTE] at hLN0
          rw [← hLN0] at hV7
          clear hLN0
          obtain ⟨a7, c7, rfl⟩ := hV7.shape
          have hLN2 := hLN.trans (unhide HLN)
          have HN : Hid (St w B1 (.slice ar r.length cr) r C p (k + 1) true w7 (.slice a7 LN.length c7) _ LN) := hide ⟨by simp; omega, hLN2, by rw [if_pos (by omega)]; exact hV7, hR7, hB7, hz7, hB1', hlow⟩
          clear hV7 hR7 hB7 hLN hLN2 hg7 HSTE hget HLN HDV HDR HSY HCK HROW
          go_wp2
          go_roundw
          case rel => exact ⟨k + 1, by omega, by go_num, true, rfl, a7, c7, _, LN, rfl, HN⟩
          case measure => simp [intOf]; omega
      · rw [if_neg hpk] at hV
        obtain rfl : bp = false := by rw [hbp]; simpa using hpk
        by_cases hkp : k = p
        · have hfy := unhide HATK hkp
          have HLN := hide (outL_at r C k (by rw [unhide HCL]; exact hlt))
          rw [unhide HCK] at HLN
          have HL2 := unhide HL
          rw [← hkp] at HL2
          rw [← HL2] at HLN
          have hdr := dis_low hV hR hlow
          have hVB := hV.mono hB1'
          have hdn3 : decide (f < firstI y) = true := by simpa using hfy
          clear hbp HL2 hV
          by_cases hget : getI y f = true
          · have hst := unhide HSY
            rw [if_pos hget] at hst
            have HSTE := hide hst
            clear hst
            have HKP := hide hkp
            clear hkp
            go_wp2_with (first | (at_builtin; refine wpList_append_nil rfl _ _ rfl ai y.length ci y rfl rfl (unhide HROW) hlk ?_; intro bv w3 hob hb3; obtain ⟨ab, cb, rfl, hrb⟩ := hob.row; have hrR3 := hrR.below hb3; have hV3 := hVB.below hb3; have hR3 := hR.below hb3; have hB3 := below0 hB hb3; have hz3 := hb3.size; clear hb3))
            refine (rfirst_any ab y.length cb y w3 hrb hlk).mono ?_
            rintro e w' ⟨rfl, hw⟩
            obtain rfl := hw.symm
            go_wp2_with (first | (at_builtin; refine wpList_push rfl _ _ rfl w.heap.size (.slice a1 L.length c1) vs L (.slice ar r.length cr) r rfl rfl hV3 hB3.size hR3 hdr (by omega) ?_; intro s4 w4 hV4 hg4; have hB4 := hB3.trans (gb_below hg4 hB3.size (fun k hk => (hV3.top.lt k hk).1)); have hob4 := hob.kept hg4 (dis_types hV3.top hob); have hR4 := hR3.kept hg4 (dis_types hV3.top hR3); obtain ⟨_, _, e4, hrb4⟩ := hob4.row; obtain ⟨_, _, e5, hrR4⟩ := hR4.row; simp only [Value.slice.injEq, true_and] at e4 e5; obtain ⟨rfl, rfl⟩ := e4; obtain ⟨rfl, rfl⟩ := e5; obtain ⟨LM, hLM⟩ : ∃ LM, LM = L ++ [r] := ⟨_, rfl⟩; rw [← hLM] at hV4; have HLM := hide hLM; obtain ⟨a4, c4, rfl⟩ := hV4.shape; have hz4 := Nat.le_trans hz3 hg4.size; clear hLM hg4))
            have hG := rget_any ab y.length cb y f w4 hrb4 hlk hfm
            rw [hget] at hG
            refine hG.mono ?_
            rintro e w' ⟨rfl, hw⟩
            obtain rfl := hw.symm
            clear hG
            go_wp2_with fail
            refine (rxor_any ab y.length cb y ar r.length cr r w4 hrb4 hrR4 hlk hrl).mono ?_
            rintro e w6 ⟨bv6, rfl, ho6, hb6⟩
            rw [← unhide HSTE] at ho6
            obtain ⟨a6, c6, rfl, _⟩ := ho6.row
            have hV6 := hV4.below hb6
            have hR6 := hR4.below hb6
            have hB6 := below0 hB4 hb6
            have hz6 := hb6.size
            have ho6 := ho6.mono hz4
            clear hb6
            clear hrb4 hrR4 hV4 hR4 hB4 hob4 hrb hrR3 hV3 hR3 hB3 hob
            have hwz : wr.heap.size ≤ w6.heap.size := Nat.le_trans hz4 hz6
            go_wp2_with (first | (at_builtin; refine wpList_push rfl _ _ rfl w.heap.size (.slice a4 LM.length c4) (vs ++ [.slice ar r.length cr]) LM (.slice a6 (stepL y r).length c6) (stepL y r) rfl rfl hV6 hB6.size (ho6.mono hB.size) ((fun u hu => by rcases List.mem_append.1 hu with hu | hu; exact unhide HDV _ _ _ ho6 u hu; rw [List.mem_singleton.1 hu]; exact unhide HDR _ _ _ ho6)) (by rw [unhide HLM, List.length_append, List.length_singleton]; omega) ?_; intro s7 w7 hV7 hg7))
            have hB7 := hB6.trans (gb_below hg7 hB6.size (fun k hk => (hV6.top.lt k hk).1))
            have hR7 := hR6.kept hg7 (dis_types hV6.top hR6)
            have hz7 : B1 ≤ w7.heap.size := Nat.le_trans hB1 (Nat.le_trans hwz hg7.size)
            obtain ⟨LN, hLN⟩ : ∃ LN, LN = LM ++ [stepL y r] := ⟨_, rfl⟩
            rw [← hLN] at hV7
            obtain ⟨a7, c7, rfl⟩ := hV7.shape
            rw [unhide HLM] at hLN
            have hLN2 := hLN.trans (unhide HLN)
            rw [unhide HKP] at hLN2
            have HN : Hid (St w B1 (.slice ar r.length cr) r C p (k + 1) true w7 (.slice a7 LN.length c7) _ LN) := hide ⟨by have := unhide HKP; simp; omega, by rw [unhide HKP]; exact hLN2, by rw [if_pos (by have := unhide HKP; omega)]; exact hV7, hR7, hB7, hz7, hB1', hlow⟩
            clear hV7 hR7 hB7 hLN hLN2 hg7 HSTE hget HLN HDV HDR HSY HCK HROW
            go_wp2
            go_roundw
            case rel => exact ⟨k + 1, by omega, by go_num, true, rfl, a7, c7, _, LN, rfl, HN⟩
            case measure => simp [intOf]; omega
          · have hst := unhide HSY
            rw [if_neg hget] at hst
            have hget : getI y f = false := by simpa using hget
            have HSTE := hide hst
            clear hst
            have HKP := hide hkp
            clear hkp
            go_wp2_with (first | (at_builtin; refine wpList_append_nil rfl _ _ rfl ai y.length ci y rfl rfl (unhide HROW) hlk ?_; intro bv w3 hob hb3; obtain ⟨ab, cb, rfl, hrb⟩ := hob.row; have hrR3 := hrR.below hb3; have hV3 := hVB.below hb3; have hR3 := hR.below hb3; have hB3 := below0 hB hb3; have hz3 := hb3.size; clear hb3))
            refine (rfirst_any ab y.length cb y w3 hrb hlk).mono ?_
            rintro e w' ⟨rfl, hw⟩
            obtain rfl := hw.symm
            go_wp2_with (first | (at_builtin; refine wpList_push rfl _ _ rfl w.heap.size (.slice a1 L.length c1) vs L (.slice ar r.length cr) r rfl rfl hV3 hB3.size hR3 hdr (by omega) ?_; intro s4 w4 hV4 hg4; have hB4 := hB3.trans (gb_below hg4 hB3.size (fun k hk => (hV3.top.lt k hk).1)); have hob4 := hob.kept hg4 (dis_types hV3.top hob); have hR4 := hR3.kept hg4 (dis_types hV3.top hR3); obtain ⟨_, _, e4, hrb4⟩ := hob4.row; obtain ⟨_, _, e5, hrR4⟩ := hR4.row; simp only [Value.slice.injEq, true_and] at e4 e5; obtain ⟨rfl, rfl⟩ := e4; obtain ⟨rfl, rfl⟩ := e5; obtain ⟨LM, hLM⟩ : ∃ LM, LM = L ++ [r] := ⟨_, rfl⟩; rw [← hLM] at hV4; have HLM := hide hLM; obtain ⟨a4, c4, rfl⟩ := hV4.shape; have hz4 := Nat.le_trans hz3 hg4.size; clear hLM hg4))
            have hG := rget_any ab y.length cb y f w4 hrb4 hlk hfm
            rw [hget] at hG
            refine hG.mono ?_
            rintro e w' ⟨rfl, hw⟩
            obtain rfl := hw.symm
            clear hG
            clear hrb hrR3 hV3 hR3 hB3 hob
            have hwz : wr.heap.size ≤ w4.heap.size := hz4
            go_wp2_with (first | (at_builtin; refine wpList_push rfl _ _ rfl w.heap.size (.slice a4 LM.length c4) (vs ++ [.slice ar r.length cr]) LM (.slice ab y.length cb) y rfl rfl hV4 hB4.size (hob4.mono hB.size) ((fun u hu => by rcases List.mem_append.1 hu with hu | hu; exact unhide HDV _ _ _ hob4 u hu; rw [List.mem_singleton.1 hu]; exact unhide HDR _ _ _ hob4)) (by rw [unhide HLM, List.length_append, List.length_singleton]; omega) ?_; intro s7 w7 hV7 hg7))
            have hB7 := hB4.trans (gb_below hg7 hB4.size (fun k hk => (hV4.top.lt k hk).1))
            have hR7 := hR4.kept hg7 (dis_types hV4.top hR4)
            have hz7 : B1 ≤ w7.heap.size := Nat.le_trans hB1 (Nat.le_trans hwz hg7.size)
            obtain ⟨LN, hLN⟩ : ∃ LN, LN = LM ++ [stepL y r] := ⟨_, rfl⟩
            have hLN0 := hLN
            rw [unhide HSTE] at hLN0
            rw [← hLN0] at hV7
            clear hLN0
            obtain ⟨a7, c7, rfl⟩ := hV7.shape
            rw [unhide HLM] at hLN
            have hLN2 := hLN.trans (unhide HLN)
            rw [unhide HKP] at hLN2
            have HN : Hid (St w B1 (.slice ar r.length cr) r C p (k + 1) true w7 (.slice a7 LN.length c7) _ LN) := hide ⟨by have := unhide HKP; simp; omega, by rw [unhide HKP]; exact hLN2, by rw [if_pos (by have := unhide HKP; omega)]; exact hV7, hR7, hB7, hz7, hB1', hlow⟩
            clear hV7 hR7 hB7 hLN hLN2 hg7 HSTE hget HLN HDV HDR HSY HCK HROW
            go_wp2
            go_roundw
            case rel => exact ⟨k + 1, by omega, by go_num, true, rfl, a7, c7, _, LN, rfl, HN⟩
            case measure => simp [intOf]; omega
        · have hfy := unhide HLOWK (by omega)
          have hdn3 : decide (f < firstI y) = false := by simpa using hfy
          have HLN := hide (outL_ahead r C p k (by rw [unhide HCL]; exact hlt) (by omega))
          rw [unhide HCK, ← unhide HL] at HLN
          clear hbp
          by_cases hget : getI y f = true
          · have hst := unhide HSY
            rw [if_pos hget] at hst
            have HSTE := hide hst
            clear hst
            go_wp2_with (first | (at_builtin; refine wpList_append_nil rfl _ _ rfl ai y.length ci y rfl rfl (unhide HROW) hlk ?_; intro bv w3 hob hb3; obtain ⟨ab, cb, rfl, hrb⟩ := hob.row; have hrR3 := hrR.below hb3; have hV3 := hV.below hb3; have hR3 := hR.below hb3; have hB3 := below0 hB hb3; have hz3 := hb3.size; clear hb3))
            refine (rfirst_any ab y.length cb y w3 hrb hlk).mono ?_
            rintro e w' ⟨rfl, hw⟩
            obtain rfl := hw.symm
            go_wp2_with fail
            have hG := rget_any ab y.length cb y f w3 hrb hlk hfm
            rw [hget] at hG
            refine hG.mono ?_
            rintro e w' ⟨rfl, hw⟩
            obtain rfl := hw.symm
            clear hG
            go_wp2_with fail
            refine (rxor_any ab y.length cb y ar r.length cr r w3 hrb hrR3 hlk hrl).mono ?_
            rintro e w6 ⟨bv6, rfl, ho6, hb6⟩
            rw [← unhide HSTE] at ho6
            obtain ⟨a6, c6, rfl, _⟩ := ho6.row
            have hV6 := hV3.below hb6
            have hR6 := hR3.below hb6
            have hB6 := below0 hB3 hb6
            have hz6 := hb6.size
            have ho6 := ho6.mono hz3
            clear hb6
            clear hrb hrR3 hV3 hR3 hB3 hob
            have hwz : wr.heap.size ≤ w6.heap.size := Nat.le_trans hz3 hz6
            go_wp2_with (first | (at_builtin; refine wpList_push rfl _ _ rfl B1 (.slice a1 L.length c1) vs L (.slice a6 (stepL y r).length c6) (stepL y r) rfl rfl hV6 (Nat.le_trans hB1 hwz) (ho6.mono hB1) (unhide HDV _ _ _ ho6) (by omega) ?_; intro s7 w7 hV7 hg7))
            have hB7 := hB6.trans (gb_below hg7 hB6.size (fun k hk => Nat.le_trans hB1' (hV6.top.lt k hk).1))
            have hR7 := hR6.kept hg7 (dis_types hV6.top hR6)
            have hz7 : B1 ≤ w7.heap.size := Nat.le_trans hB1 (Nat.le_trans hwz hg7.size)
            obtain ⟨LN, hLN⟩ : ∃ LN, LN = L ++ [stepL y r] := ⟨_, rfl⟩
            rw [← hLN] at hV7
            obtain ⟨a7, c7, rfl⟩ := hV7.shape
            have hLN2 := hLN.trans (unhide HLN)
            have HN : Hid (St w B1 (.slice ar r.length cr) r C p (k + 1) false w7 (.slice a7 LN.length c7) _ LN) := hide ⟨by simp; omega, hLN2, by rw [if_neg (by omega)]; exact hV7, hR7, hB7, hz7, hB1', hlow⟩
            clear hV7 hR7 hB7 hLN hLN2 hg7 HSTE hget HLN HDV HDR HSY HCK HROW
            go_wp2
            go_roundw
            case rel => exact ⟨k + 1, by omega, by go_num, false, rfl, a7, c7, _, LN, rfl, HN⟩
            case measure => simp [intOf]; omega
          · have hst := unhide HSY
            rw [if_neg hget] at hst
            have hget : getI y f = false := by simpa using hget
            have HSTE := hide hst
            clear hst
            go_wp2_with (first | (at_builtin; refine wpList_append_nil rfl _ _ rfl ai y.length ci y rfl rfl (unhide HROW) hlk ?_; intro bv w3 hob hb3; obtain ⟨ab, cb, rfl, hrb⟩ := hob.row; have hrR3 := hrR.below hb3; have hV3 := hV.below hb3; have hR3 := hR.below hb3; have hB3 := below0 hB hb3; have hz3 := hb3.size; clear hb3))
            refine (rfirst_any ab y.length cb y w3 hrb hlk).mono ?_
            rintro e w' ⟨rfl, hw⟩
            obtain rfl := hw.symm
            go_wp2_with fail
            have hG := rget_any ab y.length cb y f w3 hrb hlk hfm
            rw [hget] at hG
            refine hG.mono ?_
            rintro e w' ⟨rfl, hw⟩
            obtain rfl := hw.symm
            clear hG
            have hwz : wr.heap.size ≤ w3.heap.size := hz3
            go_wp2_with (first | (at_builtin; refine wpList_push rfl _ _ rfl B1 (.slice a1 L.length c1) vs L (.slice ab y.length cb) y rfl rfl hV3 (Nat.le_trans hB1 hwz) (hob.mono hB1) (unhide HDV _ _ _ hob) (by omega) ?_; intro s7 w7 hV7 hg7))
            have hB7 := hB3.trans (gb_below hg7 hB3.size (fun k hk => Nat.le_trans hB1' (hV3.top.lt k hk).1))
            have hR7 := hR3.kept hg7 (dis_types hV3.top hR3)
            have hz7 : B1 ≤ w7.heap.size := Nat.le_trans hB1 (Nat.le_trans hwz hg7.size)
            obtain ⟨LN, hLN⟩ : ∃ LN, LN = L ++ [stepL y r] := ⟨_, rfl⟩
            have hLN0 := hLN
            rw [unhide HSTE] at hLN0
            rw [← hLN0] at hV7
            clear hLN0
            obtain ⟨a7, c7, rfl⟩ := hV7.shape
            have hLN2 := hLN.trans (unhide HLN)
            have HN : Hid (St w B1 (.slice ar r.length cr) r C p (k + 1) false w7 (.slice a7 LN.length c7) _ LN) := hide ⟨by simp; omega, hLN2, by rw [if_neg (by omega)]; exact hV7, hR7, hB7, hz7, hB1', hlow⟩
            clear hV7 hR7 hB7 hLN hLN2 hg7 HSTE hget HLN HDV HDR HSY HCK HROW
            go_wp2
            go_roundw
            case rel => exact ⟨k + 1, by omega, by go_num, false, rfl, a7, c7, _, LN, rfl, HN⟩
            case measure => simp [intOf]; omega
    · obtain rfl : k = rs.length := by omega
      by_cases hpk : p < rs.length
      · rw [if_pos hpk] at hV
        obtain rfl : bp = true := by rw [hbp]; simpa using hpk
        have hfin := outL_all r C p (by rw [unhide HCL]; exact hpk)
        rw [unhide HCL, ← unhide HL] at hfin
        have HFI := hide hfin
        have HVV := hide hV
        have HBB := hide hB
        clear h hbp hlow hfin hV hB hR hrR
        go_wp2
        go_ret2
        exact ⟨_, _, rfl, by rw [← unhide HFI]; exact unhide HVV, unhide HBB⟩
      · rw [if_neg hpk] at hV
        obtain rfl : bp = false := by rw [hbp]; simpa using hpk
        have hpe : p = rs.length := by omega
        have hfin := outL_last r C
        rw [unhide HCL] at hfin
        have HL2 := unhide HL
        rw [hpe] at HL2
        rw [← HL2] at hfin
        have HFI := hide hfin
        have HPE := hide hpe
        have hdr := dis_low hV hR hlow
        have hVB := hV.mono hB1'
        clear h hbp hlow hfin hV HL2 hpe hrR
        go_wp2_with (first
          | (at_builtin; refine wpList_push rfl _ _ rfl w.heap.size (.slice a1 L.length c1) vs L (.slice ar r.length cr) r rfl rfl hVB hB.size hR hdr (by omega) ?_; intro s4 w4 hV4 hg4; have hB4 := hB.trans (gb_below hg4 hB.size (fun k hk => (hVB.top.lt k hk).1)); obtain ⟨LM, hLM⟩ : ∃ LM, LM = L ++ [r] := ⟨_, rfl⟩; rw [← hLM] at hV4; have HLM := hide hLM; clear hLM; obtain ⟨a4, c4, rfl⟩ := hV4.shape; have HV4 := hide hV4; have HB4 := hide hB4; clear hV4 hg4 hB4 hVB hB hR hdr))
        go_ret2
        exact ⟨_, _, rfl, by rw [unhide HPE, ← unhide HFI, ← unhide HLM]; exact unhide HV4, unhide HB4⟩
end Go.Proofs.YtbcgiodgobmkaaaGreatDoor
