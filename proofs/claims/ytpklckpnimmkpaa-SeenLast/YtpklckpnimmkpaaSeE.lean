/-
  Contracts of seen.keep, Clear, Fresh, of a cache that is there and of none. Conditions: fewer than 2^40 came.
-/
import Derived.Test.YtpklckpnimmkpaaSeD
namespace Go.Proofs.Ytpklckpnimmkpaa
open Go.RowKit Go.Sort Go.Maps
set_option linter.unusedVariables false
set_option maxRecDepth 4000

theorem put32 {w : World} {b n nx x : Nat} {D : DataW Unit} (h : OwnM w b n D) (hn : n ≤ 1048576) (hx : x < 4294967296) (hnx : nx ≤ 1099511627776) :
    ∃ w', (Instr.mapUpdate 58 (.map (some b)) (.int .u32 (x : Int)) (.int .i64 (nx : Int))).run Try.prog w = .ok () w' ∧ OwnM w' b (n + 1) (D.put (.int .u32 (x : Int)) (.lit (.int .i64 (nx : Int)))) ∧ w.mapTurned w' b :=
  World.ownsMap.store h law32 Try.underlying58 (by unfold maxLen; omega) (key32 hx) (plainElem_int Try.underlying3 (WalkArith.wf_i64 (by omega)))
theorem del32 {w : World} {b n x : Nat} {D : DataW Unit} (h : OwnM w b n D) (hx : x < 4294967296) :
    ∃ w', (∀ ty, (Builtin.delete_ #[58, 29] ty #[.map (some b), .int .u32 (x : Int)]).run Try.prog w = .ok (.tuple #[]) w') ∧ OwnM w' b n (D.del (.int .u32 (x : Int))) ∧ w.mapTurned w' b := by
  obtain ⟨w', hrun, r⟩ := World.ownsMap.drop h law32 Try.underlying58 (key32 hx) 0
  exact ⟨w', fun ty => hrun, r⟩
theorem clear32 {w : World} {b n : Nat} {D : DataW Unit} (h : OwnM w b n D) :
    ∃ w', (∀ ty, (Builtin.clear_ #[58] ty #[.map (some b)]).run Try.prog w = .ok (.tuple #[]) w') ∧ OwnM w' b 0 (.map []) ∧ w.mapTurned w' b := by
  obtain ⟨es, clock, hb, F, _, _⟩ := h
  have hl := (Array.getElem?_eq_some_iff.1 hb).1
  refine ⟨{ w with heap := w.heap.setIfInBounds b (.map #[] clock) }, fun ty => ?_, ⟨#[], clock, by simp [hl], ⟨by simp, ⟨fun x hx => by simp at hx, by simp, by simp⟩, fun x hx => by simp at hx⟩, Nat.le_refl _, rfl⟩, ⟨es, clock, #[], clock, hb, rfl⟩⟩
  simp [Builtin.clear_, run_underlying Try.underlying58, MapKept.run_getObj_map hb, MapKept.run_setObj_map _ hb, Result.andThen]
/-- A key that is there is a key. -/
theorem has32 {w : World} {b n y : Nat} {D : DataW Unit} (h : OwnM w b n D) (hh : Maps.has D (.int .u32 (y : Int)) = true) : y < 4294967296 := by
  obtain ⟨es, clock, hb, F, _, rfl⟩ := h
  rw [has_eq, List.any_eq_true] at hh
  obtain ⟨p, hp, e⟩ := hh
  obtain ⟨v, hv⟩ := fit_keys F p (mem_sorted.1 hp)
  rw [WideAt.sameKey_eq e] at hv
  obtain ⟨x, _, e2, hw⟩ := Maps.keyOf_int_inv Try.underlying29 hv
  simp only [Lit.int.injEq, true_and] at e2
  subst e2
  have := bounds_u32 hw
  omega
theorem caF_trans {w w1 w2 : World} {g b : Nat} (h : Tu (caF g b) w w1) (k : Tu (caF g b) w1 w2) : Tu (caF g b) w w2 := h.trans k fun _ _ h => h
theorem Tu.wide' {F G : Nat → Prop} {w w' : World} (h : Tu F w w') (hs : ∀ j, F j → G j) : Tu G w w' := ⟨h.os, h.tape, h.output, h.size, fun k hk hn => h.block k hk fun hf => hn (hs k hf)⟩
/-- A print is put behind the others. -/
theorem keep_tail {w : World} {g b m n nx N x : Nat} {D : DataW Unit} {es : List (Nat × Nat)} (hk : BkA 60 w g [.int .i64 (m : Int), .map (some b), .int .i64 (nx : Int)]) (ho : OwnM w b n D) (hM : MpL D nx es)
    (hx : x < 4294967296) (hx' : x ∉ es.map Prod.fst) (hl : es.length < m) (hm : m ≤ 256) (hN : nx ≤ N) (hN' : N < 1099511627776) :
    ∃ w4, (Instr.mapUpdate 58 (.map (some b)) (.int .u32 (x : Int)) (.int .i64 (nx : Int))).run Try.prog w.drew = .ok () w4 ∧ BkA 60 w4 g [.int .i64 (m : Int), .map (some b), .int .i64 (nx : Int)] ∧
      CaAt (w4.setCell ⟨g, 2, none⟩ (.int .i64 ((nx + 1 : Nat) : Int))) g b m (N + 1) (es.map Prod.fst ++ [x]) ∧ Tu (caF g b) w (w4.setCell ⟨g, 2, none⟩ (.int .i64 ((nx + 1 : Nat) : Int))) := by
  have ho1 : OwnM w.drew b es.length D := by have := (ho.tu (F := fun _ => False) (tu_drew _ w) id).exact; rw [hM.size] at this; exact this
  have hgb : g ≠ b := fun e => ho.nocells _ _ _ (e ▸ hk)
  obtain ⟨w4, hrun, ho4, ht4⟩ := put32 ho1 (by omega) hx (nx := nx) (by omega)
  have ht := tu_map ht4
  have hk4 : BkA 60 w4 g [.int .i64 (m : Int), .map (some b), .int .i64 (nx : Int)] := (show BkA 60 w.drew g _ from hk).tu ht hgb
  have hM4 := hM.put ho.tidy hx'
  refine ⟨w4, hrun, hk4, ⟨⟨nx + 1, es ++ [(x, nx)], _, by omega, hk4.set 2 _, ?_, hM4, by simp⟩, by simp; omega, hm⟩, ?_⟩
  · have := ho4.tu (tu_set w4 g 2 (.int .i64 ((nx + 1 : Nat) : Int))) (fun e => hgb e.symm)
    simpa using this
  · exact (caF_trans (tu_drew _ w) (ht.wide' fun j e => .inr e)).trans (tu_set w4 g 2 _) fun j _ e => .inl e

set_option maxHeartbeats 1000000 in
theorem sekeep_any (g b m N x : Nat) (L : List Nat) (w : World) (h : CaAt w g b m N L) (hx : x < 4294967296) (hxL : x ∉ L) (hN : N < 1099511627776) :
    Calls Try.prog 30 #[.pointer (some ⟨g, 0, none⟩), .int .u32 (x : Int)] w fun e w' => e = .returned (.tuple #[]) ∧ CaAt w' g b m (N + 1) (seenL m L x) ∧ Tu (caF g b) w w' := by
  obtain ⟨nx, es, D, hn, hk, ho, hM, hL⟩ := h.it
  have hlen := h.len
  have hmost := h.most
  have k0 := hk.at 0 rfl
  have k1 := hk.at 1 rfl
  have k2 := hk.at 2 rfl
  have hLl : L.length = es.length := by rw [hL, List.length_map]
  by_cases hm0 : m = 0
  · subst hm0
    have HF := hide (show CaAt w g b 0 (N + 1) (seenL 0 L x) from h.mono (Nat.le_succ _))
    clear h hk ho hM hL hlen hmost hLl
    go_enter Try.func30, Try.ntmps30
    go_wp2
    exact bodyPost_ret (v := .tuple #[]) (by simp [results, Try.results30, go_sem]) rfl ⟨rfl, unhide HF, Tu.refl _ _⟩
  · have hd0 : ((m : Int) == 0) = false := by simp; omega
    have hl := World.ownsMap.len (OwnM.tu (F := fun _ => False) ho (tu_drew _ w) id) Try.underlying58 3
    rw [hM.size, ← hLl] at hl
    by_cases hfull : L.length = m
    · have hne : L ≠ [] := fun e => hm0 (by rw [← hfull, e]; rfl)
      rw [hfull] at hl
      have HL := hide (show seenL m L x = L.tail ++ [x] by unfold seenL; rw [if_neg hm0, if_pos hfull])
      match es, hM, hL, hLl with
      | [], _, hL, _ => exact absurd hL hne
      | (y, s) :: r, hM, hL, hLl =>
        have hyL : L.headD 0 = y := by rw [hL]; rfl
        have htl : L.tail = r.map Prod.fst := by rw [hL]; rfl
        have hxr : x ∉ r.map Prod.fst := fun hh => hxL (by rw [hL]; exact List.mem_cons_of_mem _ hh)
        have HCA := hide (h.tu (F := fun _ => False) ((tu_drew _ w).trans (tu_drew _ w.drew) fun _ _ h => h) id id)
        have hyl : y < 4294967296 := by
          have h1 := hM.has y
          rw [show hasD (((y, s) :: r).map Prod.fst) y = true from by simp [hasD]] at h1
          exact has32 ho h1
        have HO := hide ho
        have HK := hide hk
        have HM := hide (hM.del ho.tidy)
        rw [htl] at HL
        have HX := hide hxr
        have HRL := hide (show r.length < m by simp only [List.length_cons] at hLl; omega)
        have HNE := hide hne
        have HYL := hide hyL
        clear h hk ho hM hL hlen hfull hLl hxL hyL htl hxr hm0
        go_enter Try.func30, Try.ntmps30
        go_wp2_with fail
        go_region_held (fun w' => w'.cell? ⟨g, 0, none⟩ = some (.int .i64 (m : Int)) ∧ w'.cell? ⟨g, 1, none⟩ = some (.map (some b))) (go_keep) (fail)
        go_wp2_with fail
        go_region_held (fun w' => w'.cell? ⟨g, 1, none⟩ = some (.map (some b))) (go_keep) (first
          | (go_at_call 40; refine (seoldest_any g b m N L _ (unhide HCA) (unhide HNE)).mono ?_; rintro e w2 ⟨rfl, hb2⟩; rw [unhide HYL]; obtain ⟨w3, hdel, ho3, ht3⟩ := del32 (OwnM.tu (F := fun _ => False) (unhide HO) (Tu.of_below (show Below w.heap.size w w2 from ((Below.refl _ _).drew.drew).trans hb2)) id) hyl; have HK2 := hide ((unhide HK).below (show Below w.heap.size w w2 from ((Below.refl _ _).drew.drew).trans hb2)); have q1 := (unhide HK2).at 1 rfl; have HO3 := hide ho3; have HT3 := hide (show Tu (caF g b) w w3 from Tu.after (show Below w.heap.size w w2 from ((Below.refl _ _).drew.drew).trans hb2) ((tu_map ht3).wide' fun j e => .inr e)); have HK3 := hide (show BkA 60 w3 g _ from (unhide HK2).tu (tu_map ht3) (fun e => (unhide HO).nocells _ _ _ (e ▸ unhide HK))); have y1 := (unhide HK3).at 1 rfl; clear hb2 ho3 ht3))
        have y2 := (unhide HK3).at 2 rfl
        obtain ⟨w4, hup, hk4, hC4, hT4⟩ := keep_tail (unhide HK3) (unhide HO3) (unhide HM) hx (unhide HX) (unhide HRL) hmost hn hN
        have z1 := hk4.at 1 rfl
        have z2 := hk4.at 2 rfl
        have z3 := hk4.frz 2
        have HC4 := hide hC4
        have HT4 := hide (caF_trans (unhide HT3) hT4)
        clear hC4 hT4 hk4 HK3 HO3 HM HT3
        go_wp2_with fail
        go_region_held (fun w' => w'.cell? ⟨g, 1, none⟩ = some (.map (some b)) ∧ w'.cell? ⟨g, 2, none⟩ = some (.int .i64 (nx : Int))) (go_keep) (fail)
        go_wp2
        go_end0
        refine ⟨rfl, ?_, unhide HT4⟩
        rw [unhide HL]
        exact unhide HC4
    · have HL := hide (show seenL m L x = es.map Prod.fst ++ [x] by unfold seenL; rw [if_neg hm0, if_neg hfull, hL])
      have hd1 : ((L.length : Int) == (m : Int)) = false := by simp; omega
      obtain ⟨w4, hup, hk4, hC4, hT4⟩ := keep_tail (w := w.drew) hk (ho.tu (F := fun _ => False) (tu_drew _ w) id) hM hx (by rw [← hL]; exact hxL) (by omega) hmost hn hN
      have z1 := hk4.at 1 rfl
      have z2 := hk4.at 2 rfl
      have z3 := hk4.frz 2
      have HC4 := hide hC4
      have HT4 := hide (caF_trans (tu_drew _ w) hT4)
      generalize seenL m L x = SL at *
      generalize L.length = q at *
      clear h hk ho hM hL hlen hfull hLl hxL hm0 hC4 hT4 hk4
      go_enter Try.func30, Try.ntmps30
      go_wp2_with fail
      go_region_held (fun w' => w'.cell? ⟨g, 0, none⟩ = some (.int .i64 (m : Int)) ∧ w'.cell? ⟨g, 1, none⟩ = some (.map (some b))) (go_keep) (fail)
      go_wp2_with fail
      go_region_held (fun w' => w'.cell? ⟨g, 1, none⟩ = some (.map (some b)) ∧ w'.cell? ⟨g, 2, none⟩ = some (.int .i64 (nx : Int))) (go_keep) (fail)
      go_wp2
      go_end0
      refine ⟨rfl, ?_, unhide HT4⟩
      rw [unhide HL]
      exact unhide HC4

theorem seclear_nil (w : World) : Calls Try.prog 21 #[.pointer none] w fun e w' => e = .returned (.tuple #[]) ∧ w' = w := by
  go_enter Try.func21, Try.ntmps21
  go_wp2
  exact bodyPost_ret (v := .tuple #[]) (by simp [results, Try.results21, go_sem]) rfl ⟨rfl, rfl⟩
theorem seclear_any (g b m N : Nat) (L : List Nat) (w : World) (h : CaAt w g b m N L) :
    Calls Try.prog 21 #[.pointer (some ⟨g, 0, none⟩)] w fun e w' => e = .returned (.tuple #[]) ∧ CaAt w' g b m 0 [] ∧ Tu (caF g b) w w' := by
  obtain ⟨nx, es, D, hn, hk, ho, hM, hL⟩ := h.it
  have hgb := h.ne
  have hmost := h.most
  have k1 := hk.at 1 rfl
  obtain ⟨w1, hclr, ho1, ht1⟩ := clear32 ho
  have hk1 := hk.tu (tu_map ht1) hgb
  have q2 := hk1.at 2 rfl
  have q3 := hk1.frz 2
  have HK := hide hk1
  have HO := hide ho1
  have HT := hide (tu_map ht1)
  clear h hk ho hM hL ho1 ht1 hk1
  go_enter Try.func21, Try.ntmps21
  go_wp2
  go_end0
  refine ⟨rfl, ⟨⟨0, [], _, Nat.le_refl _, (unhide HK).set 2 _, (unhide HO).tu (tu_set w1 g 2 _) (fun e => hgb e.symm), MpL.empty, rfl⟩, Nat.zero_le _, hmost⟩, ?_⟩
  exact ((unhide HT).wide' fun j e => .inr e).trans (tu_set w1 g 2 _) fun j _ e => .inl e
theorem sefresh_nil (p : PKV) (w : World) : Calls Try.prog 18 #[.pointer none, p.val] w fun e w' => e = .returned (.bool false) ∧ Below w.heap.size w w' := by
  have hb := below_new w (.cells #[.int .i64 p.o, .int .i64 p.l, .int .i64 p.k, .int .i64 p.z, .int .i64 p.h, .slice p.r.a p.r.n p.r.c, .string p.r.s] 26)
  unfold PKV.val
  go_enter Try.func18, Try.ntmps18
  go_wp2
  go_ret
  exact ⟨rfl, hb⟩
theorem fresh_no {L : List Nat} {p : PD} (h : okD p = false) (m : Nat) : freshD L p = false ∧ cameL m L p = L := by
  have h1 : freshD L p = false := by unfold freshD; rw [h]; rfl
  exact ⟨h1, by unfold cameL; rw [h1]; rfl⟩
theorem fresh_old {L : List Nat} {p : PD} (h : hasD L (prD p) = true) (m : Nat) : freshD L p = false ∧ cameL m L p = L := by
  have h1 : freshD L p = false := by unfold freshD; rw [h]; simp
  exact ⟨h1, by unfold cameL; rw [h1]; rfl⟩
theorem fresh_yes {L : List Nat} {p : PD} (h : okD p = true) (h' : hasD L (prD p) = false) (m : Nat) : freshD L p = true ∧ cameL m L p = seenL m L (prD p) := by
  have h1 : freshD L p = true := by unfold freshD; rw [h, h']; rfl
  exact ⟨h1, by unfold cameL; rw [h1]; rfl⟩
set_option maxHeartbeats 1000000 in
theorem sefresh_any (g b m N : Nat) (L : List Nat) (p : PKV) (w : World) (h : CaAt w g b m N L) (hr : RowAt w p.r.a p.r.n p.r.xs) (hN : N < 1099511627776) :
    Calls Try.prog 18 #[.pointer (some ⟨g, 0, none⟩), p.val] w fun e w' => e = .returned (.bool (freshD L p.pd)) ∧ CaAt w' g b m (N + 1) (cameL m L p.pd) ∧ Tu (caF g b) w w' := by
  have hb0 : Below w.heap.size w (w.alloc (.cells #[.int .i64 p.o, .int .i64 p.l, .int .i64 p.k, .int .i64 p.z, .int .i64 p.h, .slice p.r.a p.r.n p.r.c, .string p.r.s] 26)) := below_new w _
  have HB0 := hide hb0
  have HK0 := hide (bkA_new 26 w [.int .i64 p.o, .int .i64 p.l, .int .i64 p.k, .int .i64 p.z, .int .i64 p.h, .slice p.r.a p.r.n p.r.c, .string p.r.s])
  have HCA := hide (fun w1 (hb : Below w.heap.size w w1) => h.below hb)
  have HR := hide (fun w1 (hb : Below w.heap.size w w1) => hr.below hb)
  have HCK := hide (fun en hen w1 (hb : Below w.heap.size w w1) => check_any p.o p.l p.k p.z p.h p.r.a p.r.n p.r.c p.r.xs p.r.s w1 (hr.below hb) en hen)
  have HH := hide (fun w1 (hb : Below w.heap.size w w1) => sehas_any g b m N L p w1 (h.below hb) (hr.below hb))
  have HP := hide (fun w1 (hb : Below w.heap.size w w1) => pr_any p w1 (hr.below hb))
  have HQ := hide (fun (h3 : hasD L (prD p.pd) = false) w1 (hb : Below w.heap.size w w1) => sekeep_any g b m N (prD p.pd) L w1 (h.below hb) (prD_lt _) (hasD_no.1 h3) hN)
  cases hok : okD p.pd
  · have HC := hide (unhide HCK 1 (ckD_no hok) _ hb0)
    rw [(fresh_no hok m).1, (fresh_no hok m).2]
    unfold PKV.val
    clear h hr hok HCK HH HP HQ HR hb0
    go_enter Try.func18, Try.ntmps18
    go_wp2_with (first | (go_at_call 25; refine (unhide HC).mono ?_; rintro e w1 ⟨rfl, hb1⟩; have HB1 := hide (below0 (unhide HB0) hb1); clear hb1) | fail)
    go_ret
    exact ⟨rfl, (unhide HCA _ (unhide HB1)).mono (Nat.le_succ _), Tu.of_below (unhide HB1)⟩
  · have HC := hide (unhide HCK 0 (ckD_yes hok) _ hb0)
    cases hh : hasD L (prD p.pd)
    · rw [(fresh_yes hok hh m).1, (fresh_yes hok hh m).2]
      rw [hh] at HH
      have HQ := hide (unhide HQ hh)
      generalize seenL m L (prD p.pd) = SL at *
      generalize prD p.pd = X at *
      unfold PKV.val at HH HP ⊢
      clear h hr hok hh HCK HR hb0
      go_enter Try.func18, Try.ntmps18
      go_wp2_with (first
        | (go_at_call 25; refine (unhide HC).mono ?_; rintro e w1 ⟨rfl, hb1⟩; have HB1 := hide (below0 (unhide HB0) hb1); have K1 := (unhide HK0).below hb1; have HK1 := hide K1; have q0 := K1.at 0 rfl; have q1 := K1.at 1 rfl; have q2 := K1.at 2 rfl; have q3 := K1.at 3 rfl; have q4 := K1.at 4 rfl; have q5 := K1.at 5 rfl; have q6 := K1.at 6 rfl; clear hb1 K1)
        | (go_at_call 16; refine (unhide HH _ (unhide HB1)).mono ?_; rintro e w2 ⟨rfl, hb2⟩; have HB2 := hide (below0 (unhide HB1) hb2); have K2 := (unhide HK1).below hb2; have r0 := K2.at 0 rfl; have r1 := K2.at 1 rfl; have r2 := K2.at 2 rfl; have r3 := K2.at 3 rfl; have r4 := K2.at 4 rfl; have r5 := K2.at 5 rfl; have r6 := K2.at 6 rfl; clear hb2 K2 q0 q1 q2 q3 q4 q5 q6)
        | (go_at_call 10; refine (unhide HP _ (unhide HB2)).mono ?_; rintro e w3 ⟨rfl, hb3⟩; have HB3 := hide (below0 (unhide HB2) hb3); clear hb3)
        | (go_at_call 30; refine (unhide HQ _ (unhide HB3)).mono ?_; rintro e w4 ⟨rfl, hc4, ht4⟩; have HC4 := hide hc4; have HT4 := hide (show Tu (caF g b) w w4 from Tu.after (unhide HB3) ht4); clear hc4 ht4)
        | fail)
      go_ret
      exact ⟨rfl, unhide HC4, unhide HT4⟩
    · rw [(fresh_old hh m).1, (fresh_old hh m).2]
      rw [hh] at HH
      unfold PKV.val at HH ⊢
      clear h hr hok hh HCK HP HQ HR hb0
      go_enter Try.func18, Try.ntmps18
      go_wp2_with (first
        | (go_at_call 25; refine (unhide HC).mono ?_; rintro e w1 ⟨rfl, hb1⟩; have HB1 := hide (below0 (unhide HB0) hb1); have K1 := (unhide HK0).below hb1; have q0 := K1.at 0 rfl; have q1 := K1.at 1 rfl; have q2 := K1.at 2 rfl; have q3 := K1.at 3 rfl; have q4 := K1.at 4 rfl; have q5 := K1.at 5 rfl; have q6 := K1.at 6 rfl; clear hb1 K1)
        | (go_at_call 16; refine (unhide HH _ (unhide HB1)).mono ?_; rintro e w2 ⟨rfl, hb2⟩; have HB2 := hide (below0 (unhide HB1) hb2); clear hb2 q0 q1 q2 q3 q4 q5 q6)
        | fail)
      go_ret
      exact ⟨rfl, (unhide HCA _ (unhide HB2)).mono (Nat.le_succ _), Tu.of_below (unhide HB2)⟩
end Go.Proofs.Ytpklckpnimmkpaa
