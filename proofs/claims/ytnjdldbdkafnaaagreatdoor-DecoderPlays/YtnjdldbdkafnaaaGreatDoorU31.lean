/-
  Contracts of Express, the program's and the reference's, in one form; of bucketlinelaw04.awake; the walks of the laws SpanKeeps and SpanExpresses: for every input, in every world that holds the table of math/bits, each tells true and writes nothing that was there.
  Contracts of gauss.keep, gauss.Rank, bucketlineref14.Rank.
  Contracts of the method blocks of gauss.solver, with either way; gauss.Solve.
  Contract of the method blocks of gauss.solver with the way peeled.
-/
import Derived.Test.YtnjdldbdkafnaaaGreatDoorKF
import Derived.Test.YtnjdldbdkafnaaaGreatDoorKI
import Derived.Test.YtnjdldbdkafnaaaGreatDoorU28
namespace Go.Proofs.YtnjdldbdkafnaaaGreatDoor
open Go.RowKit Go.Sort
set_option linter.unusedVariables false
set_option linter.unusedSimpArgs false
set_option maxRecDepth 4000

theorem express_any (a : Option Addr) (n c : Nat) (rs : List (List Nat)) (a' : Option Addr) (m c' : Nat) (xs : List Nat) (w : World) (ht : Tab w) (h : VecsAt w a n rs) (hf : Fit 1048576 rs) (h' : RowAt w a' m xs) (hn : n ≤ 100000) (hm : m ≤ 1048576) :
    Calls Tryz.prog 99 #[.slice a n c, .slice a' m c'] w fun e w' => ∃ v, e = .returned (.tuple #[v, .bool (!freshB rs xs)]) ∧ OwnI w' w.heap.size v (exL rs xs) ∧ Below w.heap.size w w' := by
  by_cases hy : firstI (reduceL (broughtL rs) xs) < 0
  · have e1 : exL rs xs = exprL rs xs := by unfold exL; rw [if_pos hy]
    have e2 : freshB rs xs = false := by unfold freshB; rw [decide_eq_true hy]; rfl
    rw [e1, e2]
    exact express_yes a n c rs a' m c' xs w ht h hf h' hn hm hy
  · have e1 : exL rs xs = [] := by unfold exL; rw [if_neg hy]
    have e2 : freshB rs xs = true := by unfold freshB; rw [decide_eq_false hy]; rfl
    rw [e1, e2]
    refine (express_no a n c rs a' m c' xs w ht h hf h' hn hm hy).mono ?_
    rintro e w' ⟨rfl, hb⟩
    exact ⟨_, rfl, OwnI.nil _ _, hb⟩
theorem rexpress_any (a : Option Addr) (n c : Nat) (rs : List (List Nat)) (a' : Option Addr) (m c' : Nat) (xs : List Nat) (w : World) (h : VecsAt w a n rs) (hf : Fit 1000 rs) (h' : RowAt w a' m xs) (hn : n ≤ 100000) (hm : m ≤ 1000) :
    Calls Tryz.prog 59 #[.slice a n c, .slice a' m c'] w fun e w' => ∃ v, e = .returned (.tuple #[v, .bool (!freshB rs xs)]) ∧ OwnI w' w.heap.size v (exL rs xs) ∧ Below w.heap.size w w' := by
  have hW1 := width_le rs 1000 (fun i => (hf.getD i).2) rs.length
  have hWg := width_ge rs rs.length
  have hfW : Fit (max (widthL rs rs.length) m) rs := fun b hb => ⟨(hf b hb).1, by
    obtain ⟨i, hi, rfl⟩ := List.getElem_of_mem hb
    have := hWg i hi
    rw [List.getD_eq_getElem?_getD, List.getElem?_eq_getElem hi, Option.getD_some] at this
    omega⟩
  have hs := express_same hfW (by omega) (by rw [h.1]; exact hn) h'.2.1 (by rw [h'.1]; omega)
  have := rexpress_walk a n c rs a' m c' xs w h hf h' hn hm
  rw [hs.1, hs.2] at this
  exact this

end Go.Proofs.YtnjdldbdkafnaaaGreatDoor
namespace Go.Proofs.YtnjdldbdkafnaaaGreatDoor
open Go.RowKit Go.Sort
set_option linter.unusedVariables false
set_option linter.unusedSimpArgs false
set_option maxRecDepth 4000

theorem getD_core (ts : List RV) (i : Nat) : (ts.map core).getD i zC = core (ts.getD i .dflt) := by
  rw [List.getD_eq_getElem?_getD, List.getElem?_map, List.getD_eq_getElem?_getD]
  cases ts[i]? <;> rfl
theorem vecsL_core (ts : List RV) : vecsL ts = vecsC (ts.map core) := by
  unfold vecsL vecsC
  rw [List.map_map]; rfl
theorem atR_core (ts : List RV) (ps : List Nat) : (atR ts ps).map core = atC (ts.map core) ps := by
  unfold atR atC
  rw [List.map_map]
  exact List.map_congr_left fun i _ => (getD_core ts i).symm
theorem textsR_core (ts : List RV) (ps : List Nat) : textsR (atR ts ps) = textsC (ts.map core) ps := by
  unfold textsR atR textsC
  rw [List.map_map]
  refine List.map_congr_left fun i _ => ?_
  rw [getD_core]; rfl
/-- The rows that are kept. -/
def keptR (ts : List RV) : List RV := atR ts (keepL (vecsL ts) ts.length)
theorem keptR_core (ts : List RV) : (keptR ts).map core = keptC (ts.map core) := by
  unfold keptR keptC
  rw [atR_core, vecsL_core, List.length_map]
theorem keptR_len (ts : List RV) : (keptR ts).length = (keepL (vecsL ts) ts.length).length := by simp [keptR, atR]
theorem keptR_le (ts : List RV) : (keptR ts).length ≤ ts.length := by rw [keptR_len]; exact keep_len _ _
theorem keep_in (ts : List RV) : ∀ i ∈ keepL (vecsL ts) ts.length, i < ts.length := keep_lt _ _
theorem OwnI.at' {w : World} {B : Nat} {a : Option Addr} {n c : Nat} {xs : List Nat} (h : OwnI w B (.slice a n c) xs) : n = xs.length ∧ IntsAt w a n xs := by
  obtain ⟨a', c', e, h'⟩ := h.ints
  simp only [Value.slice.injEq] at e
  obtain ⟨rfl, rfl, rfl⟩ := e
  exact ⟨rfl, h'⟩

set_option maxHeartbeats 1000000 in
theorem gkeep_any (a : Option Addr) (n c : Nat) (ts : List RV) (w : World) (ht : Tab w) (h : RowsAt w a n ts) (hr : RowsIn w ts) (hs : shortR ts) (hn : n ≤ 100000) :
    Calls Tryz.prog 98 #[.slice a n c] w fun e w' => ∃ a1 c1, e = .returned (.slice a1 (keptR ts).length c1) ∧ OwnS w' w.heap.size (.slice a1 (keptR ts).length c1) (keptR ts) ∧ Below w.heap.size w w' := by
  obtain rfl := h.1
  have HV := hide (gvecs_any a ts.length c ts w h (by omega))
  have HK := hide (fun (w1 : World) (a1 : Option Addr) (c1 : Nat) (hb : Below w.heap.size w w1) (hv : VecsAt w1 a1 ts.length (vecsL ts)) => keep_any a1 ts.length c1 (vecsL ts) w1 (ht.below hb) hv (fit_of hr hs) hn)
  have HA := hide (fun (w1 : World) (ap : Option Addr) (np cp : Nat) (hb : Below w.heap.size w w1) (hp : IntsAt w1 ap np (keepL (vecsL ts) ts.length)) (hnp : np ≤ 1048576) => at_any a ts.length c ts ap np cp (keepL (vecsL ts) ts.length) w1 (h.below hb) hp (keep_in ts) (by omega) hnp)
  have HKL := hide (keep_len (vecsL ts) ts.length)
  have HR := hide hr
  clear h hr hs ht
  go_enter Tryz.func98, Tryz.ntmps98
  go_wp2_with fail
  refine (unhide HV).mono ?_
  rintro e w1 ⟨v1, rfl, ho1, hb1⟩
  obtain ⟨a1, c1, rfl, hv1⟩ := ho1.vecs ((unhide HR).below hb1)
  have HK1 := unhide HK w1 a1 c1 hb1 hv1
  rw [vecsL_len] at HK1
  have HK1 := hide HK1
  have HB1 := hide hb1
  clear ho1 hb1 hv1 HV HK
  go_wp2_with fail
  refine (unhide HK1).mono ?_
  rintro e w2 ⟨v2, rfl, ho2, hb2⟩
  obtain ⟨a2, c2, rfl, hi2⟩ := ho2.ints
  have HB2 := hide (below0 (unhide HB1) hb2)
  have HA2 := hide (unhide HA w2 a2 _ c2 (unhide HB2) hi2 (by have := unhide HKL; omega))
  clear ho2 hb2 hi2 HK1 HA HB1
  go_wp2_with fail
  refine (unhide HA2).mono ?_
  rintro e w3 ⟨v3, rfl, ho3, hb3⟩
  obtain ⟨a3, c3, rfl⟩ := ho3.shape
  have HO3 := hide (ho3.mono (unhide HB2).size)
  have HB3 := hide (below0 (unhide HB2) hb3)
  clear ho3 hb3 HA2 HB2
  go_wp2
  go_ret
  exact ⟨a3, c3, rfl, unhide HO3, unhide HB3⟩

end Go.Proofs.YtnjdldbdkafnaaaGreatDoor
namespace Go.Proofs.YtnjdldbdkafnaaaGreatDoor
open Go.RowKit Go.Sort
set_option linter.unusedVariables false
set_option linter.unusedSimpArgs false
set_option maxRecDepth 4000

theorem ex_sub (rs : List (List Nat)) (xs : List Nat) : (∀ i ∈ exL rs xs, i < rs.length) ∧ (exL rs xs).length ≤ rs.length := by
  have hkl := keep_len rs rs.length
  unfold exL
  split
  · unfold exprL
    exact ⟨chosen_lt (Nat.le_refl _), Nat.le_trans (chosen_len _ _ _) hkl⟩
  · exact ⟨(fun i hi => by cases hi), Nat.zero_le _⟩
/-- What a way gives: rows of one's own, with their bits and texts. -/
def WayR (w w' : World) (L : List (List Nat × ByteArray)) (a1 : Option Addr) (m1 c1 : Nat) (us : List RV) : Prop :=
  OwnS w' w.heap.size (.slice a1 m1 c1) us ∧ RowsIn w' us ∧ shortR us ∧ us.length ≤ 1000 ∧ us.map core = L ∧ Below w.heap.size w w'
theorem block_text (K : Nat) (us : List RV) (b : Nat) : st (sumL (textsR (atR (keptR us) (exL (vecsL (keptR us)) (unitL (K : Int) (b : Int)))))) = blockC (K : Int) (us.map core) b := by
  unfold blockC
  rw [textsR_core, keptR_core, vecsL_core, keptR_core]

end Go.Proofs.YtnjdldbdkafnaaaGreatDoor
namespace Go.Proofs.YtnjdldbdkafnaaaGreatDoor
open Go.RowKit Go.Sort
set_option linter.unusedVariables false
set_option linter.unusedSimpArgs false
set_option maxRecDepth 4000

set_option maxHeartbeats 4000000 in
theorem blocks_peeled (k : Int) (a : Option Addr) (n c : Nat) (L : List (List Nat × ByteArray)) (w : World) (ht : Tab w)
    (hw : ∀ w1, Below w.heap.size w w1 → Calls Tryz.prog 83 #[.int .i64 k, .slice a n c] w1 fun e w' => ∃ a1 m1 c1 us, e = .returned (.slice a1 m1 c1) ∧ WayR w1 w' L a1 m1 c1 us) :
    Calls Tryz.prog 84 #[.agg #[.int .i64 k, .func (.func 83) #[] #[]], .slice a n c] w fun e w' => ∃ a1 m1 c1, e = .returned (.tuple #[.slice a1 m1 c1, .bool (okC k L)]) ∧ OwnT w' w.heap.size (.slice a1 m1 c1) (solveC k L) ∧ Below w.heap.size w w' := by
  have hb0 : Below w.heap.size w (w.alloc (.cells #[.int .i64 k, .func (.func 83) #[] #[]] 113)) := (Below.refl _ _).alloc (Nat.le_refl _) _
  have hx : BoxAt (w.alloc (.cells #[.int .i64 k, .func (.func 83) #[] #[]] 113)) w.heap.size (.int .i64 k) (.func (.func 83) #[] #[]) := by constructor <;> simp
  have HBX := hide (fun w2 (hb : Below (w.alloc (.cells #[.int .i64 k, .func (.func 83) #[] #[]] 113)).heap.size (w.alloc (.cells #[.int .i64 k, .func (.func 83) #[] #[]] 113)) w2) => hx.below hb)
  have HB0 := hide hb0
  have HW := hide (hw _ hb0)
  have HZ := hide (size_any k)
  have HTB := hide (fun (w1 : World) (hb : Below w.heap.size w w1) => ht.below hb)
  clear hw hb0 hx ht
  by_cases hz : sizeOfK k = 0
  · have hok : okC k L = false := by unfold okC; rw [hz]; rfl
    have hso : solveC k L = [] := by unfold solveC; rw [hok]; rfl
    rw [hz] at HZ
    go_enter Tryz.func84, Tryz.ntmps84
    go_wp2_with (go_at_call 93; refine (unhide HZ _).mono ?_; rintro e w' ⟨rfl, hw'⟩; obtain rfl := hw'.symm; clear hw')
    go_ret2
    rw [hok, hso]
    exact ⟨none, 0, 0, rfl, OwnT.nil _ _, unhide HB0⟩
  have HSZ := hide (show 0 < sizeOfK k by omega)
  obtain ⟨h1k, hk128⟩ := (size_room (k := k) (by omega)).2
  obtain ⟨K, rfl⟩ : ∃ K : Nat, k = (K : Int) := ⟨k.toNat, (Int.toNat_of_nonneg (by omega)).symm⟩
  obtain ⟨z, hze⟩ : ∃ z, sizeOfK (K : Int) = z := ⟨_, rfl⟩
  rw [hze] at HZ hz
  have hzne : ((z : Int) == 0) = false := by rw [beq_eq_false_iff_ne]; omega
  clear hze
  go_enter Tryz.func84, Tryz.ntmps84
  go_wp2_with fail
  refine (unhide HZ _).mono ?_
  rintro e w' ⟨rfl, hw'⟩
  obtain rfl := hw'.symm
  clear hw' HZ
  go_wp2_with fail
  refine (unhide HW).mono ?_
  rintro e w1 ⟨a1, m1, c1, us, rfl, ho1, hi1, hs1, hl1, hL, hb1⟩
  have hB1 := below0 (unhide HB0) hb1
  obtain ⟨hx0, hx1⟩ := unhide HBX w1 hb1
  have HGK := hide (gkeep_any a1 m1 c1 us w1 (unhide HTB w1 hB1) (ho1.at' hi1).1 hi1 hs1 (by have := (ho1.at' hi1).2.1; omega))
  have HKI := hide (fun (w2 : World) (hb : Below w1.heap.size w1 w2) => (hi1.below hb).atR (keep_in us))
  have HKS := hide (short_atR hs1 (keepL (vecsL us) us.length))
  have HKN := hide (keptR_le us)
  have HB1 := hide hB1
  have HBX1 := hide (fun (w2 : World) (hb : Below w1.heap.size w1 w2) => (BoxAt.below ⟨hx0, hx1⟩ hb : BoxAt w2 w.heap.size (.int .i64 (K : Int)) (.func (.func 83) #[] #[])))
  have hokE : okC (K : Int) L = decide ((K : Int) ≤ ((keptR us).length : Int)) := by
    unfold okC
    rw [decide_eq_true (unhide HSZ), Bool.true_and, keptR_len, vecsL_core, hL, ← hL, List.length_map]
  have HOK := hide hokE
  have HTX := hide (fun b => block_text K us b)
  rw [hL] at HTX
  change Hid (∀ (w2 : World), Below w1.heap.size w1 w2 → RowsIn w2 (keptR us)) at HKI
  change Hid (shortR (keptR us)) at HKS
  clear HW ho1 hi1 hs1 hL hb1 hB1 hokE HBX HB0
  generalize keptR us = ks at *
  go_wp2_with fail
  refine (unhide HGK).mono ?_
  rintro e w2 ⟨a2, c2, rfl, ho2, hb2⟩
  obtain ⟨hx0, hx1⟩ := unhide HBX1 w2 hb2
  have hi2 := unhide HKI w2 hb2
  have HR2 := hide (ho2.at' hi2).1
  have HI2 := hide hi2
  have HB2 := hide (below0 (unhide HB1) hb2)
  have HBX2 := hide (fun (w3 : World) (hb : Below w2.heap.size w2 w3) => (BoxAt.below ⟨hx0, hx1⟩ hb : BoxAt w3 w.heap.size (.int .i64 (K : Int)) (.func (.func 83) #[] #[])))
  clear HGK ho2 hi2 hb2 HKI HB1 HBX1
  by_cases hlt : ks.length < K
  · have hok : okC (K : Int) L = false := by rw [unhide HOK, decide_eq_false_iff_not]; omega
    have hso : solveC (K : Int) L = [] := by unfold solveC; rw [hok]; rfl
    have hd : decide ((ks.length : Int) < (K : Int)) = true := by rw [decide_eq_true_iff]; omega
    go_wp2
    go_ret2
    rw [hok, hso]
    exact ⟨none, 0, 0, rfl, OwnT.nil _ _, unhide HB2⟩
  have hok : okC (K : Int) L = true := by rw [unhide HOK, decide_eq_true_iff]; omega
  have hso : solveC (K : Int) L = (List.range K).map (blockC (K : Int) L) := by unfold solveC; rw [hok, if_pos rfl, Int.toNat_natCast]
  have hd : decide ((ks.length : Int) < (K : Int)) = false := by rw [decide_eq_false_iff_not]; omega
  have hlk : ks.length ≤ 1000 := by have := unhide HKN; omega
  have HV := hide (gvecs_any a2 ks.length c2 ks w2 (unhide HR2) (by omega))
  clear HOK HKN
  go_wp2_with fail
  refine (unhide HV).mono ?_
  rintro e w3 ⟨v3, rfl, ho3, hb3⟩
  obtain ⟨a3, c3, rfl, hv3⟩ := ho3.vecs ((unhide HI2).below hb3)
  obtain ⟨hx0, hx1⟩ := unhide HBX2 w3 hb3
  have HV3 := hide hv3
  have HI3 := hide ((unhide HI2).below hb3)
  have HR3 := hide ((unhide HR2).below hb3)
  have HB3 := hide (below0 (unhide HB2) hb3)
  have HFT := hide (fit_of (unhide HI3) (unhide HKS))
  have HBX3 := hide (fun (w4 : World) (hb : Below w3.heap.size w3 w4) => (BoxAt.below ⟨hx0, hx1⟩ hb : BoxAt w4 w.heap.size (.int .i64 (K : Int)) (.func (.func 83) #[] #[])))
  have hmk := make_texts K (by omega)
  obtain ⟨SS, hSS⟩ : ∃ SS, SS = (List.range K).map (blockC (K : Int) L) := ⟨_, rfl⟩
  have HSL : Hid (SS.length = K) := hide (by rw [hSS]; simp)
  have HSG : Hid (∀ b, b < K → SS.getD b ByteArray.empty = blockC (K : Int) L b) := hide (fun b hb => by rw [hSS, List.getD_eq_getElem?_getD, List.getElem?_map, List.getElem?_range hb]; rfl)
  rw [← hSS] at hso
  have HOK := hide hok
  have HSO := hide hso
  clear hok hso
  have HM := hide (made_texts w3 K (by omega) (filT SS 0) (by rw [filT_zero, unhide HSL]))
  have HBM : Hid (Below w3.heap.size w3 (w3.alloc (.cells (madeCells #[.string ByteArray.empty] K) 9))) := hide ((Below.refl _ _).alloc (Nat.le_refl _) _)
  clear HV ho3 hb3 hv3 HI2 HR2 HB2 HBX2 hSS
  go_wp2
  go_loopw [35] (fun i wr => ∃ j : Nat, j ≤ K ∧ i = .int .i64 j ∧ Hid (OwnT wr w3.heap.size (.slice (some ⟨w3.heap.size, 0, none⟩) K K) (filT SS j)) ∧ Hid (Below w3.heap.size w3 wr)) (fun i _ => K - (intOf i).toNat)
  case atStart => exact ⟨0, Nat.zero_le _, rfl, HM, HBM⟩
  case round =>
    obtain ⟨j, hj, rfl, HI, HB⟩ := hrel
    clear HM HBM hx0 hx1
    by_cases hlt2 : j < K
    · have hB := unhide HB
      obtain ⟨hx0, hx1⟩ := unhide HBX3 wr hB
      have hlt' : (j : Int) < (K : Int) := by omega
      have HU := hide (unit_any (K : Int) (j : Int) wr (by omega))
      have HEX := hide (fun (w4 : World) (a4 : Option Addr) (m4 c4 : Nat) (hb : Below wr.heap.size wr w4) (h4 : RowAt w4 a4 m4 (unitL (K : Int) (j : Int))) (hm4 : m4 ≤ 1048576) => express_any a3 ks.length c3 (vecsL ks) a4 m4 c4 (unitL (K : Int) (j : Int)) w4 (unhide HTB w4 (below0 (unhide HB3) (below0 hB hb))) ((unhide HV3).below (below0 hB hb)) (unhide HFT) h4 (by omega) hm4)
      have hes := ex_sub (vecsL ks) (unitL (K : Int) (j : Int))
      rw [vecsL_len] at hes
      have HDA := hide (fun (w5 : World) (a5 : Option Addr) (m5 c5 : Nat) (hb : Below wr.heap.size wr w5) (h5 : IntsAt w5 a5 m5 (exL (vecsL ks) (unitL (K : Int) (j : Int)))) => data_any a2 ks.length c2 ks a5 m5 c5 _ w5 ((unhide HR3).below (below0 hB hb)) ((unhide HI3).below (below0 hB hb)) (unhide HKS) h5 hes.1 (by omega) (by have := h5.1; omega))
      rw [unhide HTX j] at HDA
      have hul : (unitL (K : Int) (j : Int)).length ≤ 1048576 := by rw [unit_len hlt']; have := sizeOfK_le (K : Int); omega
      have hS := filT_succ SS j (by have := unhide HSL; omega)
      rw [unhide HSG j hlt2] at hS
      have hfl : (filT SS j).length = K := by rw [filT_length _ _ (by have := unhide HSL; omega), unhide HSL]
      have HST := hide (fun (w6 : World) (hb : Below wr.heap.size wr w6) => by
        have hI := (unhide HI).below hb
        obtain ⟨g2, cap2, e2, _, _, hcg2, hfg2⟩ := hI.at (by omega)
        simp only [Value.slice.injEq, Option.some.injEq, Addr.mk.injEq, and_true] at e2
        obtain ⟨rfl, -, -⟩ := e2
        have hs2 := hI.stored j (blockC (K : Int) L j)
        rw [hS] at hs2
        exact And.intro (hcg2 j (by omega)) (And.intro (hfg2 j) (And.intro hs2 ((below0 hB hb).setCell (p := ⟨w3.heap.size, j, none⟩) (Nat.le_refl _) (.string (blockC (K : Int) L j))))))
      clear hB hes hS hfl HI
      generalize (filT SS j).getD j ByteArray.empty = zz at *
      generalize blockC (K : Int) L j = TX at *
      generalize exL (vecsL ks) (unitL (K : Int) (j : Int)) = PS at *
      generalize unitL (K : Int) (j : Int) = UU at *
      go_wp2_with fail
      refine (unhide HU).mono ?_
      rintro e w4 ⟨v4, rfl, ho4, hb4⟩
      obtain ⟨a4, c4, rfl, hr4⟩ := ho4.row
      have HEX4 := hide (unhide HEX w4 a4 _ c4 hb4 hr4 hul)
      have HB4 := hide hb4
      clear ho4 hb4 hr4 HU HEX
      go_wp2_with fail
      refine (unhide HEX4).mono ?_
      rintro e w5 ⟨v5, rfl, ho5, hb5⟩
      obtain ⟨a5, c5, rfl, hi5⟩ := ho5.ints
      have hB5 := below0 (unhide HB4) hb5
      have HD5 := hide (unhide HDA w5 a5 _ c5 hB5 hi5)
      have HB5 := hide hB5
      clear ho5 hb5 hi5 hB5 HEX4 HDA HB4
      go_wp2_with fail
      refine (unhide HD5).mono ?_
      rintro e w6 ⟨rfl, hb6⟩
      obtain ⟨hcell, hfz, hs2, hB2⟩ := unhide HST w6 (below0 (unhide HB5) hb6)
      have HS := hide hs2
      have HB6 := hide hB2
      clear hb6 hs2 hB2 HST HD5 HB5
      go_wp2
      go_roundw
      case rel => exact ⟨j + 1, by omega, by go_num, HS, HB6⟩
      case measure => simp [intOf]; omega
    · obtain rfl : j = K := by omega
      have hlt' : ¬ (j : Int) < (j : Int) := by omega
      rw [show filT SS j = SS by have := filT_all SS; rwa [unhide HSL] at this] at HI
      go_wp2
      go_ret2
      rw [unhide HOK, unhide HSO]
      exact ⟨_, _, _, rfl, (unhide HI).mono (unhide HB3).size, below0 (unhide HB3) (unhide HB)⟩
end Go.Proofs.YtnjdldbdkafnaaaGreatDoor
