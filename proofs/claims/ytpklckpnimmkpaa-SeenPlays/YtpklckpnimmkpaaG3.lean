/-
  Contracts of seen.Print and bucketlineref23.Print: for every packet.
  Contracts of seen.New, Len, Has, oldest, keep, Clear, Fresh, of a cache that is there and of none; bucketlinelaw's worlds carry it by 'Tu (caF g b)'. Conditions: fewer than 2^40 came.
  Contracts of seen.oldest (whatever the order of the map), keep, Clear. Conditions: fewer than 2^40 came.
  Contracts of seen.keep, Clear, Fresh, of a cache that is there and of none. Conditions: fewer than 2^40 came.
-/
import Derived.Test.YtpklckpnimmkpaaSeA
import Derived.Test.YtpklckpnimmkpaaPE
import Derived.Test.YtpklckpnimmkpaaCA
import Derived.Deep.RegionHeld
import Derived.Deep.RegionHeld3
import Derived.Deep.CutRange
import Derived.BigQuiet
import Derived.OpenShut
import Derived.ChangeShapes
namespace Go.Proofs.Ytpklckpnimmkpaa
open Go.RowKit Go.Sort
set_option linter.unusedVariables false
set_option maxRecDepth 4000

theorem check0 {o l k z h : Int} {xs : List Nat} {n : Nat} (h1 : CheckP o l k z h xs n) : CheckP o l k z 0 xs n :=
  ⟨⟨h1.1.1, h1.1.2.1, h1.1.2.2.1, by decide, by decide⟩, h1.2⟩
theorem enc_small {o l k z h : Int} {xs : List Nat} {s : ByteArray} (h1 : CheckP o l k z h xs s.size) : (st (encL o l k z h xs (tx s))).size ≤ 1048576 := by
  have h2 := valid_len h1.2.1
  have h3 : s.size ≤ 64 := by have := h1.2.2.2; have := h1.1.1.2.2; omega
  rw [st_len]
  unfold encL
  simp only [List.length_append, putL4, putL1, be_length, beV_length, tx_length]
  omega
theorem sum_enc (o l k z h : Int) (xs : List Nat) (s : ByteArray) : sumS (st (encL o l k z h xs (tx s))) = sumN (encL o l k z h xs (tx s)) := by
  unfold sumS
  rw [tx_st (encL_bytes _ _ _ _ _ _ _ (tx_bytes s))]

set_option maxHeartbeats 1000000 in
theorem pr_any (p : PKV) (w : World) (hr : RowAt w p.r.a p.r.n p.r.xs) :
    Calls Try.prog 10 #[p.val] w fun e w' => e = .returned (.int .u32 ((prD p.pd : Nat) : Int)) ∧ Below w.heap.size w w' := by
  obtain ⟨o, l, k, z, h, ⟨a, n, c, xs, s⟩⟩ := p
  have B0 := hide (below_new w (.cells #[.int .i64 o, .int .i64 l, .int .i64 k, .int .i64 z, .int .i64 h, .slice a n c, .string s] 26))
  have K0 := hide (bkA_new 26 w [.int .i64 o, .int .i64 l, .int .i64 k, .int .i64 z, .int .i64 h, .slice a n c, .string s])
  have HR := hide hr
  unfold PKV.val
  cases hk : okD (PKV.pd ⟨o, l, k, z, h, ⟨a, n, c, xs, s⟩⟩)
  · have HC := hide (check_any o l k z h a n c xs s _ (row_alloc hr (.cells #[.int .i64 o, .int .i64 l, .int .i64 k, .int .i64 z, .int .i64 h, .slice a n c, .string s] 26)) 1 (ckD_no hk))
    rw [prD_no hk]
    clear hr hk HR K0
    go_enter Try.func10, Try.ntmps10
    go_wp2_with fail
    refine (unhide HC).mono ?_
    rintro e w1 ⟨rfl, hb1⟩
    have B1 := hide (below0 (unhide B0) hb1)
    clear hb1 HC B0
    go_wp2
    go_ret
    exact ⟨rfl, unhide B1⟩
  · have hc : CheckP o l k z h xs s.size := okD_iff.1 hk
    have hc0 := check0 hc
    have HC := hide (check_any o l k z h a n c xs s _ (row_alloc hr (.cells #[.int .i64 o, .int .i64 l, .int .i64 k, .int .i64 z, .int .i64 h, .slice a n c, .string s] 26)) 0 (ckD_yes hk))
    have HE := hide (fun w' (hr' : RowAt w' a n xs) => enc_yes o l k z 0 a n c xs s w' hr' hc0)
    have HS := hide (fun w' => csum_any (st (encL o l k z 0 xs (tx s))) w' (enc_small hc0))
    have HN := hide (show sumS (st (encL o l k z 0 xs (tx s))) = prD (PKV.pd ⟨o, l, k, z, h, ⟨a, n, c, xs, s⟩⟩) from by rw [prD_yes hk, sum_enc]; rfl)
    generalize prD (PKV.pd ⟨o, l, k, z, h, ⟨a, n, c, xs, s⟩⟩) = X at *
    generalize sumS (st (encL o l k z 0 xs (tx s))) = Y at *
    generalize st (encL o l k z 0 xs (tx s)) = T at *
    clear hr hk hc hc0
    go_enter Try.func10, Try.ntmps10
    go_wp2_with fail
    refine (unhide HC).mono ?_
    rintro e w1 ⟨rfl, hb1⟩
    have B1 := hide (below0 (unhide B0) hb1)
    have K1 := (unhide K0).below hb1
    have q0 := K1.at 0 rfl
    have q1 := K1.at 1 rfl
    have q2 := K1.at 2 rfl
    have q3 := K1.at 3 rfl
    have q4 := K1.at 4 rfl
    have q5 := K1.at 5 rfl
    have q6 := K1.at 6 rfl
    have q7 := K1.frz 4
    have BS := hide (tu_low (unhide B1) (tu_set w1 w.heap.size 4 (.int .i64 0)) (Nat.le_refl _))
    have RS := hide ((unhide HR).below (unhide BS))
    clear hb1 HC B0 K0 HR B1 K1
    go_wp2_with (first
      | (go_at_call 26; refine (unhide HE _ (unhide RS)).mono ?_; rintro e w3 ⟨rfl, hb3⟩; have B3 := hide (below0 (unhide BS) hb3); clear hb3)
      | (go_at_call 27; refine (unhide HS _).mono ?_; rintro e w4 ⟨rfl, hw4⟩; obtain rfl := hw4.symm; clear hw4)
      | fail)
    go_ret
    exact ⟨ret_int (by rw [unhide HN]), unhide B3⟩
set_option maxHeartbeats 1000000 in
theorem rpr_any (p : PKV) (w : World) (hr : RowAt w p.r.a p.r.n p.r.xs) :
    Calls Try.prog 11 #[p.val] w fun e w' => e = .returned (.int .u32 ((prD p.pd : Nat) : Int)) ∧ Below w.heap.size w w' := by
  obtain ⟨o, l, k, z, h, ⟨a, n, c, xs, s⟩⟩ := p
  have B0 := hide (below_new w (.cells #[.int .i64 o, .int .i64 l, .int .i64 k, .int .i64 z, .int .i64 h, .slice a n c, .string s] 26))
  have K0 := hide (bkA_new 26 w [.int .i64 o, .int .i64 l, .int .i64 k, .int .i64 z, .int .i64 h, .slice a n c, .string s])
  have HR := hide hr
  unfold PKV.val
  cases hk : okD (PKV.pd ⟨o, l, k, z, h, ⟨a, n, c, xs, s⟩⟩)
  · have HC := hide (rcheck_any o l k z h a n c xs s _ (row_alloc hr (.cells #[.int .i64 o, .int .i64 l, .int .i64 k, .int .i64 z, .int .i64 h, .slice a n c, .string s] 26)) 1 (ckD_no hk))
    rw [prD_no hk]
    clear hr hk HR K0
    go_enter Try.func11, Try.ntmps11
    go_wp2_with fail
    refine (unhide HC).mono ?_
    rintro e w1 ⟨rfl, hb1⟩
    have B1 := hide (below0 (unhide B0) hb1)
    clear hb1 HC B0
    go_wp2
    go_ret
    exact ⟨rfl, unhide B1⟩
  · have hc : CheckP o l k z h xs s.size := okD_iff.1 hk
    have hc0 := check0 hc
    have HC := hide (rcheck_any o l k z h a n c xs s _ (row_alloc hr (.cells #[.int .i64 o, .int .i64 l, .int .i64 k, .int .i64 z, .int .i64 h, .slice a n c, .string s] 26)) 0 (ckD_yes hk))
    have HE := hide (fun w' (hr' : RowAt w' a n xs) => renc_yes o l k z 0 a n c xs s w' hr' hc0)
    have HS := hide (fun w' => rsum_any (st (encL o l k z 0 xs (tx s))) w' (enc_small hc0))
    have HN := hide (show sumS (st (encL o l k z 0 xs (tx s))) = prD (PKV.pd ⟨o, l, k, z, h, ⟨a, n, c, xs, s⟩⟩) from by rw [prD_yes hk, sum_enc]; rfl)
    generalize prD (PKV.pd ⟨o, l, k, z, h, ⟨a, n, c, xs, s⟩⟩) = X at *
    generalize sumS (st (encL o l k z 0 xs (tx s))) = Y at *
    generalize st (encL o l k z 0 xs (tx s)) = T at *
    clear hr hk hc hc0
    go_enter Try.func11, Try.ntmps11
    go_wp2_with fail
    refine (unhide HC).mono ?_
    rintro e w1 ⟨rfl, hb1⟩
    have B1 := hide (below0 (unhide B0) hb1)
    have K1 := (unhide K0).below hb1
    have q0 := K1.at 0 rfl
    have q1 := K1.at 1 rfl
    have q2 := K1.at 2 rfl
    have q3 := K1.at 3 rfl
    have q4 := K1.at 4 rfl
    have q5 := K1.at 5 rfl
    have q6 := K1.at 6 rfl
    have q7 := K1.frz 4
    have BS := hide (tu_low (unhide B1) (tu_set w1 w.heap.size 4 (.int .i64 0)) (Nat.le_refl _))
    have RS := hide ((unhide HR).below (unhide BS))
    clear hb1 HC B0 K0 HR B1 K1
    go_wp2_with (first
      | (go_at_call 28; refine (unhide HE _ (unhide RS)).mono ?_; rintro e w3 ⟨rfl, hb3⟩; have B3 := hide (below0 (unhide BS) hb3); clear hb3)
      | (go_at_call 29; refine (unhide HS _).mono ?_; rintro e w4 ⟨rfl, hw4⟩; obtain rfl := hw4.symm; clear hw4)
      | fail)
    go_ret
    exact ⟨ret_int (by rw [unhide HN]), unhide B3⟩
end Go.Proofs.Ytpklckpnimmkpaa
namespace Go.Proofs.Ytpklckpnimmkpaa
open Go.RowKit Go.Sort Go.Maps
set_option linter.unusedVariables false
set_option maxRecDepth 4000

theorem look32 {w : World} {b n nx : Nat} {D : DataW Unit} {es : List (Nat × Nat)} (h : OwnM w b n D) (hM : MpL D nx es) {x : Nat} (hx : x < 4294967296) :
    ∃ c : Int, (Instr.lookup 58 (.map (some b)) (.int .u32 (x : Int)) true).run Try.prog w = .ok (.tuple #[.int .i64 c, .bool (hasD (es.map Prod.fst) x)]) w := by
  obtain ⟨v, ps, hrun, hv⟩ := World.ownsMap.look_ok h law32 Try.underlying58 (zero_i w) (zd := .lit (.int .i64 0)) (zp := []) (plainElem_int Try.underlying3 (by decide)) (key32 hx)
  obtain ⟨c, rfl, _⟩ := plainElem_int_inv Try.underlying3 hv
  exact ⟨c, by rw [hrun, hM.has]⟩
theorem tu_drew (F : Nat → Prop) (w : World) : Tu F w w.drew := ⟨rfl, rfl, rfl, Nat.le_refl _, fun _ _ _ => rfl⟩

theorem senew_any (n : Int) (w : World) :
    Calls Try.prog 13 #[.int .i64 n] w fun e w' => ∃ g b, e = .returned (.pointer (some ⟨g, 0, none⟩)) ∧ w.heap.size ≤ g ∧ w.heap.size ≤ b ∧ CaAt w' g b (capN n) 0 [] ∧ Below w.heap.size w w' := by
  have h1 := max_run n
  have h2 := cap_run n
  have h3 := @run_makeMap Try.prog
  have hm := capN_le n
  generalize capN n = m at *
  go_enter Try.func13, Try.ntmps13
  go_wp2
  go_ret
  have hb : Below w.heap.size w ((w.alloc (.map #[] 0)).alloc (.cells #[.int .i64 (m : Int), .map (some w.heap.size), .int .i64 0] 60)) :=
    ((Below.refl _ _).alloc (Nat.le_refl _) _).trans (((Below.refl _ _).alloc (Nat.le_refl _) _).mono (by simp))
  refine ⟨_, w.heap.size, rfl, by simp, Nat.le_refl _, ⟨⟨0, [], .map [], Nat.le_refl _, ?_, ?_, MpL.empty, rfl⟩, Nat.zero_le _, hm⟩, hb⟩
  · have := bkA_new 60 (w.alloc (.map #[] 0)) [.int .i64 (m : Int), .map (some w.heap.size), .int .i64 0]
    simpa using this
  · exact World.ownsMap.alloc (World.ownsMap_made w Try.prog 29 (plainElem Try.prog 3)) _
theorem selen_any (g b m N : Nat) (L : List Nat) (w : World) (h : CaAt w g b m N L) : Calls Try.prog 19 #[.pointer (some ⟨g, 0, none⟩)] w fun e w' => e = .returned (.int .i64 (L.length : Int)) ∧ w' = w := by
  obtain ⟨nx, es, D, hn, hk, ho, hM, hL⟩ := h.it
  have h1 := hk.at 1 rfl
  have hl := World.ownsMap.len ho Try.underlying58 3
  have hz : Maps.size D = L.length := by rw [hM.size, hL, List.length_map]
  rw [hz] at hl
  generalize L.length = n at *
  clear hk ho h hM hL hz
  go_enter Try.func19, Try.ntmps19
  go_wp2
  go_ret
  exact ⟨rfl, rfl⟩
theorem selen_nil (w : World) : Calls Try.prog 19 #[.pointer none] w fun e w' => e = .returned (.int .i64 0) ∧ w' = w := by
  go_enter Try.func19, Try.ntmps19
  go_wp2
  go_ret
  exact ⟨rfl, rfl⟩
theorem sehas_nil (p : PKV) (w : World) : Calls Try.prog 16 #[.pointer none, p.val] w fun e w' => e = .returned (.bool false) ∧ Below w.heap.size w w' := by
  have hb := below_new w (.cells #[.int .i64 p.o, .int .i64 p.l, .int .i64 p.k, .int .i64 p.z, .int .i64 p.h, .slice p.r.a p.r.n p.r.c, .string p.r.s] 26)
  unfold PKV.val
  go_enter Try.func16, Try.ntmps16
  go_wp2
  go_ret
  exact ⟨rfl, hb⟩
set_option maxHeartbeats 1000000 in
theorem sehas_any (g b m N : Nat) (L : List Nat) (p : PKV) (w : World) (h : CaAt w g b m N L) (hr : RowAt w p.r.a p.r.n p.r.xs) :
    Calls Try.prog 16 #[.pointer (some ⟨g, 0, none⟩), p.val] w fun e w' => e = .returned (.bool (hasD L (prD p.pd))) ∧ Below w.heap.size w w' := by
  have hb0 : Below w.heap.size w (w.alloc (.cells #[.int .i64 p.o, .int .i64 p.l, .int .i64 p.k, .int .i64 p.z, .int .i64 p.h, .slice p.r.a p.r.n p.r.c, .string p.r.s] 26)) := below_new w _
  have K0 := bkA_new 26 w [.int .i64 p.o, .int .i64 p.l, .int .i64 p.k, .int .i64 p.z, .int .i64 p.h, .slice p.r.a p.r.n p.r.c, .string p.r.s]
  have hr0 := hr.below hb0
  obtain ⟨nx, es, D, hn, hk, ho, hM, hL⟩ := (h.below hb0).it
  unfold PKV.val
  generalize hW : w.alloc (.cells #[.int .i64 p.o, .int .i64 p.l, .int .i64 p.k, .int .i64 p.z, .int .i64 p.h, .slice p.r.a p.r.n p.r.c, .string p.r.s] 26) = W at *
  have hK1 := hk.at 1 rfl
  have q0 := K0.at 0 rfl
  have q1 := K0.at 1 rfl
  have q2 := K0.at 2 rfl
  have q3 := K0.at 3 rfl
  have q4 := K0.at 4 rfl
  have q5 := K0.at 5 rfl
  have q6 := K0.at 6 rfl
  have HP := hide (pr_any p W.drew hr0)
  have HL := hide (fun w1 (hb : Below W.drew.heap.size W.drew w1) => look32 (OwnM.tu (F := fun _ => False) ho (Tu.of_below (show Below W.heap.size W w1 from (Below.refl _ _).drew.trans hb)) id) hM (prD_lt p.pd))
  have HC := hide (fun w1 (hb : Below W.drew.heap.size W.drew w1) => show _ ∧ _ from ⟨hk.below (show Below W.heap.size W w1 from (Below.refl _ _).drew.trans hb), K0.below (show Below W.heap.size W w1 from (Below.refl _ _).drew.trans hb)⟩)
  have HB := hide hb0
  rw [← hL] at HL
  generalize prD p.pd = X at *
  generalize hasD L X = bb at *
  unfold PKV.val at HP
  clear hr hr0 hk ho hM hL hb0 K0 h
  go_enter Try.func16, Try.ntmps16
  go_wp2_with fail
  go_region_held (fun w' => w'.cell? ⟨g, 1, none⟩ = some (.map (some b)) ∧ w'.cell? ⟨w.heap.size, 0, none⟩ = some (.int .i64 p.o) ∧ w'.cell? ⟨w.heap.size, 1, none⟩ = some (.int .i64 p.l) ∧ w'.cell? ⟨w.heap.size, 2, none⟩ = some (.int .i64 p.k) ∧ w'.cell? ⟨w.heap.size, 3, none⟩ = some (.int .i64 p.z) ∧ w'.cell? ⟨w.heap.size, 4, none⟩ = some (.int .i64 p.h) ∧ w'.cell? ⟨w.heap.size, 5, none⟩ = some (.slice p.r.a p.r.n p.r.c) ∧ w'.cell? ⟨w.heap.size, 6, none⟩ = some (.string p.r.s)) (go_keep) (first
    | (go_at_call 10; refine (unhide HP).mono ?_; rintro e w1 ⟨rfl, hb1⟩; obtain ⟨cc, hlk⟩ := unhide HL w1 hb1; obtain ⟨hk1, hx1⟩ := unhide HC w1 hb1; have y1 := hk1.at 1 rfl; have z0 := hx1.at 0 rfl; have z1 := hx1.at 1 rfl; have z2 := hx1.at 2 rfl; have z3 := hx1.at 3 rfl; have z4 := hx1.at 4 rfl; have z5 := hx1.at 5 rfl; have z6 := hx1.at 6 rfl; have HB1 := hide (show Below w.heap.size w w1 from below0 (unhide HB) ((Below.refl _ _).drew.trans hb1)); clear hb1 hk1 hx1))
  go_wp2
  go_ret
  exact ⟨rfl, unhide HB1⟩
end Go.Proofs.Ytpklckpnimmkpaa
namespace Go.Proofs.Ytpklckpnimmkpaa
open Go.RowKit Go.Sort Go.Maps Go.ChangeShapes
set_option linter.unusedVariables false
set_option maxRecDepth 4000

/-- What a range over the map has found so far: f is the eldest of those that have come, l when it came; at first l is nx. -/
structure OlS (w wr : World) (b n nx : Nat) (es : List (Nat × Nat)) (D : DataW Unit) (left : Lit → Bool) (c f l : Nat) : Prop where
  rg : wr.ranges Try.prog 29 (plainElem Try.prog 3) b w.heap.size n D left c
  bel : Below w.heap.size w wr
  low : ∀ p ∈ es, left (.int .u32 (p.1 : Int)) = false → l ≤ p.2
  one : (f, l) ∈ es ∨ l = nx
theorem OlS.step {w wr w1 : World} {b n nx c c1 f l : Nat} {es : List (Nat × Nat)} {D : DataW Unit} {left : Lit → Bool} {x v : Int} (h : OlS w wr b n nx es D left c f l) (hM : MpL D nx es)
    (hwx : (Lit.int .u32 x).wf = true) (hat : ∀ zd, D.atKey (.int .u32 x) zd = .lit (.int .i64 v))
    (hrg : w1.ranges Try.prog 29 (plainElem Try.prog 3) b w.heap.size n D (fun z => left z && !z.sameKey (.int .u32 x)) c1) (hg : wr.grownBy w1 (some w.heap.size)) :
    ∃ k s : Nat, x = (k : Int) ∧ v = (s : Int) ∧ (s < l → OlS w w1 b n nx es D (fun z => left z && !z.sameKey (.int .u32 x)) c1 k s) ∧ (¬ s < l → OlS w w1 b n nx es D (fun z => left z && !z.sameKey (.int .u32 x)) c1 f l) := by
  have hx := bounds_u32 hwx
  obtain ⟨k, rfl⟩ : ∃ k : Nat, x = (k : Int) := ⟨x.toNat, by omega⟩
  have hh := has_true_of_atKey hat
  rw [hM.has, hasD_iff] at hh
  obtain ⟨⟨k', s⟩, hp, e⟩ := List.mem_map.1 hh
  obtain rfl : k' = k := e
  have h1 := hM.at' _ hp (.lit (.int .i64 0))
  rw [hat] at h1
  have hv : v = (s : Int) := by simpa using h1
  have hb1 : Below w.heap.size w w1 := h.bel.trans (gb_below hg h.bel.size fun j hj => by cases hj; exact Nat.le_refl _)
  have hlow : ∀ p ∈ es, (left (.int .u32 (p.1 : Int)) && !(Lit.int .u32 (p.1 : Int)).sameKey (.int .u32 (k' : Int))) = false → left (.int .u32 (p.1 : Int)) = false ∨ p.2 = s := fun p hp' hf => by
    rw [same32] at hf
    by_cases e : p.1 = k'
    · have h2 := hM.at' p hp' (.lit (.int .i64 0))
      rw [e, hat, hv] at h2
      right
      have : (s : Int) = (p.2 : Int) := by simpa using h2
      omega
    · left; simpa [e] using hf
  refine ⟨k', s, rfl, hv, fun hlt => ⟨hrg, hb1, fun p hp' hf => ?_, .inl hp⟩, fun hlt => ⟨hrg, hb1, fun p hp' hf => ?_, h.one⟩⟩
  · rcases hlow p hp' hf with h3 | h3
    · have := h.low p hp' h3; omega
    · omega
  · rcases hlow p hp' hf with h3 | h3
    · exact h.low p hp' h3
    · omega
theorem OlS.done {w wr : World} {b n nx c f l : Nat} {es : List (Nat × Nat)} {D : DataW Unit} {left : Lit → Bool} (h : OlS w wr b n nx es D left c f l) (hM : MpL D nx es) (hl : ∀ kl, left kl = false) (hne : es ≠ []) : f = (es.map Prod.fst).headD 0 := by
  match es, hne with
  | (k0, s0) :: r, _ =>
    have h1 := h.low (k0, s0) List.mem_cons_self (hl _)
    have h2 := hM.low (k0, s0) List.mem_cons_self
    have h3 := (List.pairwise_cons.1 hM.rise).1
    show f = k0
    rcases h.one with h4 | h4
    · rcases List.mem_cons.1 h4 with h5 | h5
      · exact (Prod.mk.inj h5).1
      · have := h3 _ h5
        simp only at this h1
        omega
    · simp only at h1 h2; omega

set_option maxHeartbeats 1000000 in
theorem seoldest_any (g b m N : Nat) (L : List Nat) (w : World) (h : CaAt w g b m N L) (hne : L ≠ []) :
    Calls Try.prog 40 #[.pointer (some ⟨g, 0, none⟩)] w fun e w' => e = .returned (.int .u32 ((L.headD 0 : Nat) : Int)) ∧ Below w.heap.size w w' := by
  obtain ⟨nx, es, D, hn, hk, ho, hM, hL⟩ := h.it
  have h1 := hk.at 1 rfl
  have h2 := hk.at 2 rfl
  have HO := hide (OwnM.tu (F := fun _ => False) ho (tu_drew _ w) id)
  have HM := hide hM
  have hes : es ≠ [] := fun e => hne (by rw [hL, e]; rfl)
  have HE := hide hes
  have HS := hide (show ∀ w0, w0.ranges Try.prog 29 (plainElem Try.prog 3) b w.heap.size L.length D (Maps.has D) (Maps.size D) → w.drew.grownBy w0 none → OlS w w0 b L.length nx es D (Maps.has D) (Maps.size D) 0 nx from
    fun w0 hrg hg => ⟨hrg, (Below.refl _ _).drew.trans (gb_below hg (Nat.le_refl _) fun j hj => by cases hj), fun p hp hf => by rw [hM.has, hasD_no] at hf; exact absurd (List.mem_map.2 ⟨p, hp, rfl⟩) hf, .inr rfl⟩)
  rw [hL] at HO HS ⊢
  generalize (es.map Prod.fst).length = n at *
  clear hk ho hM hL hes h hne
  go_enter Try.func40, Try.ntmps40
  go_wp2_with fail
  go_region_held (fun w' => w'.cell? ⟨g, 2, none⟩ = some (.int .i64 (nx : Int))) (go_keep) (fail)
  go_wp2_with (first | (at_range; refine wpList_range_own _ rfl _ 58 rfl 29 3 law32 Try.underlying58 _ b n D rfl (unhide HO) ?_; intro w0 hrg0 hg0 hs0; have HN0 := hide (unhide HS w0 hrg0 hg0); clear hrg0 hg0 hs0 HS HO))
  go_frame
  go_loopw [3, 4] (fun t u wr => ∃ (f l c : Nat) (left : Lit → Bool), t = .int .u32 (f : Int) ∧ u = .int .i64 (l : Int) ∧ Hid (OlS w wr b n nx es D left c f l)) (fun _ _ wr => wr.rangeLeft b w.heap.size)
  case atStart => exact ⟨0, nx, _, _, rfl, rfl, HN0⟩
  case round =>
    obtain ⟨f, l, c, left, rfl, rfl, HN⟩ := hrel
    clear HN0 h1 h2
    have hrgm := hide (unhide HN).rg.left_eq
    go_wp2_with (first | (at_next; refine wpList_next_ranges_ii _ rfl _ rfl 29 3 .u32 .i64 law32 Try.underlying29 Try.underlying3 b w.heap.size n D left c rfl (unhide HN).rg ?_ ?_))
    · intro _ hl
      have HD := hide ((unhide HN).done (unhide HM) hl (unhide HE))
      have HB := hide (unhide HN).bel
      clear HN hl hrgm
      go_wp2
      go_ret
      exact ⟨ret_int (by rw [unhide HD]), unhide HB⟩
    · intro x v w1 c1 hwx hwv hlx hat hrg1 hlt hg1 hs1 hen
      obtain ⟨k, s, rfl, rfl, hyes, hno⟩ := (unhide HN).step (unhide HM) hwx hat hrg1 hg1
      clear hwx hwv hlx hat hrg1 hg1 hs1 HN
      by_cases hsl : s < l
      · have HY := hide (hyes hsl)
        have hd : (s : Int) < (l : Int) := by omega
        clear hyes hno hsl
        go_wp2
        go_roundw
        case rel => exact ⟨_, _, _, _, _, _, _, _, _, _, _, _, _, _, ⟨k, s, c1, _, rfl, rfl, HY⟩, rfl⟩
        case measure => rw [(unhide HY).rg.left_eq, unhide hrgm]; omega
      · have HY := hide (hno hsl)
        have hd : (l : Int) ≤ (s : Int) := by omega
        clear hyes hno hsl
        go_wp2
        go_roundw
        case rel => exact ⟨_, _, _, _, _, _, _, _, _, _, _, _, _, _, ⟨f, l, c1, _, rfl, rfl, HY⟩, rfl⟩
        case measure => rw [(unhide HY).rg.left_eq, unhide hrgm]; omega
end Go.Proofs.Ytpklckpnimmkpaa
namespace Go.Proofs.Ytpklckpnimmkpaa
open Go.RowKit Go.Sort Go.Maps
set_option linter.unusedVariables false
set_option maxRecDepth 4000

theorem put32 {w : World} {b n nx x : Nat} {D : DataW Unit} (h : OwnM w b n D) (hn : n ≤ 1048576) (hx : x < 4294967296) (hnx : nx ≤ 1099511627776) :
    ∃ w', (Instr.mapUpdate 58 (.map (some b)) (.int .u32 (x : Int)) (.int .i64 (nx : Int))).run Try.prog w = .ok () w' ∧ OwnM w' b (n + 1) (D.put (.int .u32 (x : Int)) (.lit (.int .i64 (nx : Int)))) ∧ w.mapTurned w' b :=
  World.ownsMap.store h law32 Try.underlying58 (by unfold maxLen; omega) (key32 hx) (plainElem_int Try.underlying3 (WalkArith.wf_i64 (by omega)))
theorem del32 {w : World} {b n x : Nat} {D : DataW Unit} (h : OwnM w b n D) (hx : x < 4294967296) :
    ∃ w', (∀ ty, (Builtin.delete_ #[58, 29] ty #[.map (some b), .int .u32 (x : Int)]).run Try.prog w = .ok (.tuple #[]) w') ∧ OwnM w' b n (D.del (.int .u32 (x : Int))) ∧ w.mapTurned w' b := by
  obtain ⟨w', hrun, r⟩ := World.ownsMap.drop h law32 Try.underlying58 (key32 hx) 0
  exact ⟨w', fun ty => hrun, r⟩
theorem clear32 {w : World} {b n : Nat} {D : DataW Unit} (h : OwnM w b n D) :
    ∃ w', (∀ ty, (Builtin.clear_ #[58] ty #[.map (some b)]).run Try.prog w = .ok (.tuple #[]) w') ∧ OwnM w' b 0 (.map []) ∧ w.mapTurned w' b := by
  obtain ⟨es, clock, hb, F, _, _⟩ := h
  have hl := (Array.getElem?_eq_some_iff.1 hb).1
  refine ⟨{ w with heap := w.heap.setIfInBounds b (.map #[] clock) }, fun ty => ?_, ⟨#[], clock, by simp [hl], ⟨by simp, ⟨fun x hx => by simp at hx, by simp, by simp⟩, fun x hx => by simp at hx⟩, Nat.le_refl _, rfl⟩, ⟨es, clock, #[], clock, hb, rfl⟩⟩
  simp [Builtin.clear_, run_underlying Try.underlying58, MapKept.run_getObj_map hb, MapKept.run_setObj_map _ hb, Result.andThen]
/-- A key that is there is a key. -/
theorem has32 {w : World} {b n y : Nat} {D : DataW Unit} (h : OwnM w b n D) (hh : Maps.has D (.int .u32 (y : Int)) = true) : y < 4294967296 := by
  obtain ⟨es, clock, hb, F, _, rfl⟩ := h
  rw [has_eq, List.any_eq_true] at hh
  obtain ⟨p, hp, e⟩ := hh
  obtain ⟨v, hv⟩ := fit_keys F p (mem_sorted.1 hp)
  rw [WideAt.sameKey_eq e] at hv
  obtain ⟨x, _, e2, hw⟩ := Maps.keyOf_int_inv Try.underlying29 hv
  simp only [Lit.int.injEq, true_and] at e2
  subst e2
  have := bounds_u32 hw
  omega
theorem caF_trans {w w1 w2 : World} {g b : Nat} (h : Tu (caF g b) w w1) (k : Tu (caF g b) w1 w2) : Tu (caF g b) w w2 := h.trans k fun _ _ h => h
theorem Tu.wide' {F G : Nat → Prop} {w w' : World} (h : Tu F w w') (hs : ∀ j, F j → G j) : Tu G w w' := ⟨h.os, h.tape, h.output, h.size, fun k hk hn => h.block k hk fun hf => hn (hs k hf)⟩
/-- A print is put behind the others. -/
theorem keep_tail {w : World} {g b m n nx N x : Nat} {D : DataW Unit} {es : List (Nat × Nat)} (hk : BkA 60 w g [.int .i64 (m : Int), .map (some b), .int .i64 (nx : Int)]) (ho : OwnM w b n D) (hM : MpL D nx es)
    (hx : x < 4294967296) (hx' : x ∉ es.map Prod.fst) (hl : es.length < m) (hm : m ≤ 256) (hN : nx ≤ N) (hN' : N < 1099511627776) :
    ∃ w4, (Instr.mapUpdate 58 (.map (some b)) (.int .u32 (x : Int)) (.int .i64 (nx : Int))).run Try.prog w.drew = .ok () w4 ∧ BkA 60 w4 g [.int .i64 (m : Int), .map (some b), .int .i64 (nx : Int)] ∧
      CaAt (w4.setCell ⟨g, 2, none⟩ (.int .i64 ((nx + 1 : Nat) : Int))) g b m (N + 1) (es.map Prod.fst ++ [x]) ∧ Tu (caF g b) w (w4.setCell ⟨g, 2, none⟩ (.int .i64 ((nx + 1 : Nat) : Int))) := by
  have ho1 : OwnM w.drew b es.length D := by have := (ho.tu (F := fun _ => False) (tu_drew _ w) id).exact; rw [hM.size] at this; exact this
  have hgb : g ≠ b := fun e => ho.nocells _ _ _ (e ▸ hk)
  obtain ⟨w4, hrun, ho4, ht4⟩ := put32 ho1 (by omega) hx (nx := nx) (by omega)
  have ht := tu_map ht4
  have hk4 : BkA 60 w4 g [.int .i64 (m : Int), .map (some b), .int .i64 (nx : Int)] := (show BkA 60 w.drew g _ from hk).tu ht hgb
  have hM4 := hM.put ho.tidy hx'
  refine ⟨w4, hrun, hk4, ⟨⟨nx + 1, es ++ [(x, nx)], _, by omega, hk4.set 2 _, ?_, hM4, by simp⟩, by simp; omega, hm⟩, ?_⟩
  · have := ho4.tu (tu_set w4 g 2 (.int .i64 ((nx + 1 : Nat) : Int))) (fun e => hgb e.symm)
    simpa using this
  · exact (caF_trans (tu_drew _ w) (ht.wide' fun j e => .inr e)).trans (tu_set w4 g 2 _) fun j _ e => .inl e

set_option maxHeartbeats 1000000 in
theorem sekeep_any (g b m N x : Nat) (L : List Nat) (w : World) (h : CaAt w g b m N L) (hx : x < 4294967296) (hxL : x ∉ L) (hN : N < 1099511627776) :
    Calls Try.prog 30 #[.pointer (some ⟨g, 0, none⟩), .int .u32 (x : Int)] w fun e w' => e = .returned (.tuple #[]) ∧ CaAt w' g b m (N + 1) (seenL m L x) ∧ Tu (caF g b) w w' := by
  obtain ⟨nx, es, D, hn, hk, ho, hM, hL⟩ := h.it
  have hlen := h.len
  have hmost := h.most
  have k0 := hk.at 0 rfl
  have k1 := hk.at 1 rfl
  have k2 := hk.at 2 rfl
  have hLl : L.length = es.length := by rw [hL, List.length_map]
  by_cases hm0 : m = 0
  · subst hm0
    have HF := hide (show CaAt w g b 0 (N + 1) (seenL 0 L x) from h.mono (Nat.le_succ _))
    clear h hk ho hM hL hlen hmost hLl
    go_enter Try.func30, Try.ntmps30
    go_wp2
    exact bodyPost_ret (v := .tuple #[]) (by simp [results, Try.results30, go_sem]) rfl ⟨rfl, unhide HF, Tu.refl _ _⟩
  · have hd0 : ((m : Int) == 0) = false := by simp; omega
    have hl := World.ownsMap.len (OwnM.tu (F := fun _ => False) ho (tu_drew _ w) id) Try.underlying58 3
    rw [hM.size, ← hLl] at hl
    by_cases hfull : L.length = m
    · have hne : L ≠ [] := fun e => hm0 (by rw [← hfull, e]; rfl)
      rw [hfull] at hl
      have HL := hide (show seenL m L x = L.tail ++ [x] by unfold seenL; rw [if_neg hm0, if_pos hfull])
      match es, hM, hL, hLl with
      | [], _, hL, _ => exact absurd hL hne
      | (y, s) :: r, hM, hL, hLl =>
        have hyL : L.headD 0 = y := by rw [hL]; rfl
        have htl : L.tail = r.map Prod.fst := by rw [hL]; rfl
        have hxr : x ∉ r.map Prod.fst := fun hh => hxL (by rw [hL]; exact List.mem_cons_of_mem _ hh)
        have HCA := hide (h.tu (F := fun _ => False) ((tu_drew _ w).trans (tu_drew _ w.drew) fun _ _ h => h) id id)
        have hyl : y < 4294967296 := by
          have h1 := hM.has y
          rw [show hasD (((y, s) :: r).map Prod.fst) y = true from by simp [hasD]] at h1
          exact has32 ho h1
        have HO := hide ho
        have HK := hide hk
        have HM := hide (hM.del ho.tidy)
        rw [htl] at HL
        have HX := hide hxr
        have HRL := hide (show r.length < m by simp only [List.length_cons] at hLl; omega)
        have HNE := hide hne
        have HYL := hide hyL
        clear h hk ho hM hL hlen hfull hLl hxL hyL htl hxr hm0
        go_enter Try.func30, Try.ntmps30
        go_wp2_with fail
        go_region_held (fun w' => w'.cell? ⟨g, 0, none⟩ = some (.int .i64 (m : Int)) ∧ w'.cell? ⟨g, 1, none⟩ = some (.map (some b))) (go_keep) (fail)
        go_wp2_with fail
        go_region_held (fun w' => w'.cell? ⟨g, 1, none⟩ = some (.map (some b))) (go_keep) (first
          | (go_at_call 40; refine (seoldest_any g b m N L _ (unhide HCA) (unhide HNE)).mono ?_; rintro e w2 ⟨rfl, hb2⟩; rw [unhide HYL]; obtain ⟨w3, hdel, ho3, ht3⟩ := del32 (OwnM.tu (F := fun _ => False) (unhide HO) (Tu.of_below (show Below w.heap.size w w2 from ((Below.refl _ _).drew.drew).trans hb2)) id) hyl; have HK2 := hide ((unhide HK).below (show Below w.heap.size w w2 from ((Below.refl _ _).drew.drew).trans hb2)); have q1 := (unhide HK2).at 1 rfl; have HO3 := hide ho3; have HT3 := hide (show Tu (caF g b) w w3 from Tu.after (show Below w.heap.size w w2 from ((Below.refl _ _).drew.drew).trans hb2) ((tu_map ht3).wide' fun j e => .inr e)); have HK3 := hide (show BkA 60 w3 g _ from (unhide HK2).tu (tu_map ht3) (fun e => (unhide HO).nocells _ _ _ (e ▸ unhide HK))); have y1 := (unhide HK3).at 1 rfl; clear hb2 ho3 ht3))
        have y2 := (unhide HK3).at 2 rfl
        obtain ⟨w4, hup, hk4, hC4, hT4⟩ := keep_tail (unhide HK3) (unhide HO3) (unhide HM) hx (unhide HX) (unhide HRL) hmost hn hN
        have z1 := hk4.at 1 rfl
        have z2 := hk4.at 2 rfl
        have z3 := hk4.frz 2
        have HC4 := hide hC4
        have HT4 := hide (caF_trans (unhide HT3) hT4)
        clear hC4 hT4 hk4 HK3 HO3 HM HT3
        go_wp2_with fail
        go_region_held (fun w' => w'.cell? ⟨g, 1, none⟩ = some (.map (some b)) ∧ w'.cell? ⟨g, 2, none⟩ = some (.int .i64 (nx : Int))) (go_keep) (fail)
        go_wp2
        go_end0
        refine ⟨rfl, ?_, unhide HT4⟩
        rw [unhide HL]
        exact unhide HC4
    · have HL := hide (show seenL m L x = es.map Prod.fst ++ [x] by unfold seenL; rw [if_neg hm0, if_neg hfull, hL])
      have hd1 : ((L.length : Int) == (m : Int)) = false := by simp; omega
      obtain ⟨w4, hup, hk4, hC4, hT4⟩ := keep_tail (w := w.drew) hk (ho.tu (F := fun _ => False) (tu_drew _ w) id) hM hx (by rw [← hL]; exact hxL) (by omega) hmost hn hN
      have z1 := hk4.at 1 rfl
      have z2 := hk4.at 2 rfl
      have z3 := hk4.frz 2
      have HC4 := hide hC4
      have HT4 := hide (caF_trans (tu_drew _ w) hT4)
      generalize seenL m L x = SL at *
      generalize L.length = q at *
      clear h hk ho hM hL hlen hfull hLl hxL hm0 hC4 hT4 hk4
      go_enter Try.func30, Try.ntmps30
      go_wp2_with fail
      go_region_held (fun w' => w'.cell? ⟨g, 0, none⟩ = some (.int .i64 (m : Int)) ∧ w'.cell? ⟨g, 1, none⟩ = some (.map (some b))) (go_keep) (fail)
      go_wp2_with fail
      go_region_held (fun w' => w'.cell? ⟨g, 1, none⟩ = some (.map (some b)) ∧ w'.cell? ⟨g, 2, none⟩ = some (.int .i64 (nx : Int))) (go_keep) (fail)
      go_wp2
      go_end0
      refine ⟨rfl, ?_, unhide HT4⟩
      rw [unhide HL]
      exact unhide HC4

theorem seclear_nil (w : World) : Calls Try.prog 21 #[.pointer none] w fun e w' => e = .returned (.tuple #[]) ∧ w' = w := by
  go_enter Try.func21, Try.ntmps21
  go_wp2
  exact bodyPost_ret (v := .tuple #[]) (by simp [results, Try.results21, go_sem]) rfl ⟨rfl, rfl⟩
theorem seclear_any (g b m N : Nat) (L : List Nat) (w : World) (h : CaAt w g b m N L) :
    Calls Try.prog 21 #[.pointer (some ⟨g, 0, none⟩)] w fun e w' => e = .returned (.tuple #[]) ∧ CaAt w' g b m 0 [] ∧ Tu (caF g b) w w' := by
  obtain ⟨nx, es, D, hn, hk, ho, hM, hL⟩ := h.it
  have hgb := h.ne
  have hmost := h.most
  have k1 := hk.at 1 rfl
  obtain ⟨w1, hclr, ho1, ht1⟩ := clear32 ho
  have hk1 := hk.tu (tu_map ht1) hgb
  have q2 := hk1.at 2 rfl
  have q3 := hk1.frz 2
  have HK := hide hk1
  have HO := hide ho1
  have HT := hide (tu_map ht1)
  clear h hk ho hM hL ho1 ht1 hk1
  go_enter Try.func21, Try.ntmps21
  go_wp2
  go_end0
  refine ⟨rfl, ⟨⟨0, [], _, Nat.le_refl _, (unhide HK).set 2 _, (unhide HO).tu (tu_set w1 g 2 _) (fun e => hgb e.symm), MpL.empty, rfl⟩, Nat.zero_le _, hmost⟩, ?_⟩
  exact ((unhide HT).wide' fun j e => .inr e).trans (tu_set w1 g 2 _) fun j _ e => .inl e
theorem sefresh_nil (p : PKV) (w : World) : Calls Try.prog 18 #[.pointer none, p.val] w fun e w' => e = .returned (.bool false) ∧ Below w.heap.size w w' := by
  have hb := below_new w (.cells #[.int .i64 p.o, .int .i64 p.l, .int .i64 p.k, .int .i64 p.z, .int .i64 p.h, .slice p.r.a p.r.n p.r.c, .string p.r.s] 26)
  unfold PKV.val
  go_enter Try.func18, Try.ntmps18
  go_wp2
  go_ret
  exact ⟨rfl, hb⟩
theorem fresh_no {L : List Nat} {p : PD} (h : okD p = false) (m : Nat) : freshD L p = false ∧ cameL m L p = L := by
  have h1 : freshD L p = false := by unfold freshD; rw [h]; rfl
  exact ⟨h1, by unfold cameL; rw [h1]; rfl⟩
theorem fresh_old {L : List Nat} {p : PD} (h : hasD L (prD p) = true) (m : Nat) : freshD L p = false ∧ cameL m L p = L := by
  have h1 : freshD L p = false := by unfold freshD; rw [h]; simp
  exact ⟨h1, by unfold cameL; rw [h1]; rfl⟩
theorem fresh_yes {L : List Nat} {p : PD} (h : okD p = true) (h' : hasD L (prD p) = false) (m : Nat) : freshD L p = true ∧ cameL m L p = seenL m L (prD p) := by
  have h1 : freshD L p = true := by unfold freshD; rw [h, h']; rfl
  exact ⟨h1, by unfold cameL; rw [h1]; rfl⟩
set_option maxHeartbeats 1000000 in
theorem sefresh_any (g b m N : Nat) (L : List Nat) (p : PKV) (w : World) (h : CaAt w g b m N L) (hr : RowAt w p.r.a p.r.n p.r.xs) (hN : N < 1099511627776) :
    Calls Try.prog 18 #[.pointer (some ⟨g, 0, none⟩), p.val] w fun e w' => e = .returned (.bool (freshD L p.pd)) ∧ CaAt w' g b m (N + 1) (cameL m L p.pd) ∧ Tu (caF g b) w w' := by
  have hb0 : Below w.heap.size w (w.alloc (.cells #[.int .i64 p.o, .int .i64 p.l, .int .i64 p.k, .int .i64 p.z, .int .i64 p.h, .slice p.r.a p.r.n p.r.c, .string p.r.s] 26)) := below_new w _
  have HB0 := hide hb0
  have HK0 := hide (bkA_new 26 w [.int .i64 p.o, .int .i64 p.l, .int .i64 p.k, .int .i64 p.z, .int .i64 p.h, .slice p.r.a p.r.n p.r.c, .string p.r.s])
  have HCA := hide (fun w1 (hb : Below w.heap.size w w1) => h.below hb)
  have HR := hide (fun w1 (hb : Below w.heap.size w w1) => hr.below hb)
  have HCK := hide (fun en hen w1 (hb : Below w.heap.size w w1) => check_any p.o p.l p.k p.z p.h p.r.a p.r.n p.r.c p.r.xs p.r.s w1 (hr.below hb) en hen)
  have HH := hide (fun w1 (hb : Below w.heap.size w w1) => sehas_any g b m N L p w1 (h.below hb) (hr.below hb))
  have HP := hide (fun w1 (hb : Below w.heap.size w w1) => pr_any p w1 (hr.below hb))
  have HQ := hide (fun (h3 : hasD L (prD p.pd) = false) w1 (hb : Below w.heap.size w w1) => sekeep_any g b m N (prD p.pd) L w1 (h.below hb) (prD_lt _) (hasD_no.1 h3) hN)
  cases hok : okD p.pd
  · have HC := hide (unhide HCK 1 (ckD_no hok) _ hb0)
    rw [(fresh_no hok m).1, (fresh_no hok m).2]
    unfold PKV.val
    clear h hr hok HCK HH HP HQ HR hb0
    go_enter Try.func18, Try.ntmps18
    go_wp2_with (first | (go_at_call 25; refine (unhide HC).mono ?_; rintro e w1 ⟨rfl, hb1⟩; have HB1 := hide (below0 (unhide HB0) hb1); clear hb1) | fail)
    go_ret
    exact ⟨rfl, (unhide HCA _ (unhide HB1)).mono (Nat.le_succ _), Tu.of_below (unhide HB1)⟩
  · have HC := hide (unhide HCK 0 (ckD_yes hok) _ hb0)
    cases hh : hasD L (prD p.pd)
    · rw [(fresh_yes hok hh m).1, (fresh_yes hok hh m).2]
      rw [hh] at HH
      have HQ := hide (unhide HQ hh)
      generalize seenL m L (prD p.pd) = SL at *
      generalize prD p.pd = X at *
      unfold PKV.val at HH HP ⊢
      clear h hr hok hh HCK HR hb0
      go_enter Try.func18, Try.ntmps18
      go_wp2_with (first
        | (go_at_call 25; refine (unhide HC).mono ?_; rintro e w1 ⟨rfl, hb1⟩; have HB1 := hide (below0 (unhide HB0) hb1); have K1 := (unhide HK0).below hb1; have HK1 := hide K1; have q0 := K1.at 0 rfl; have q1 := K1.at 1 rfl; have q2 := K1.at 2 rfl; have q3 := K1.at 3 rfl; have q4 := K1.at 4 rfl; have q5 := K1.at 5 rfl; have q6 := K1.at 6 rfl; clear hb1 K1)
        | (go_at_call 16; refine (unhide HH _ (unhide HB1)).mono ?_; rintro e w2 ⟨rfl, hb2⟩; have HB2 := hide (below0 (unhide HB1) hb2); have K2 := (unhide HK1).below hb2; have r0 := K2.at 0 rfl; have r1 := K2.at 1 rfl; have r2 := K2.at 2 rfl; have r3 := K2.at 3 rfl; have r4 := K2.at 4 rfl; have r5 := K2.at 5 rfl; have r6 := K2.at 6 rfl; clear hb2 K2 q0 q1 q2 q3 q4 q5 q6)
        | (go_at_call 10; refine (unhide HP _ (unhide HB2)).mono ?_; rintro e w3 ⟨rfl, hb3⟩; have HB3 := hide (below0 (unhide HB2) hb3); clear hb3)
        | (go_at_call 30; refine (unhide HQ _ (unhide HB3)).mono ?_; rintro e w4 ⟨rfl, hc4, ht4⟩; have HC4 := hide hc4; have HT4 := hide (show Tu (caF g b) w w4 from Tu.after (unhide HB3) ht4); clear hc4 ht4)
        | fail)
      go_ret
      exact ⟨rfl, unhide HC4, unhide HT4⟩
    · rw [(fresh_old hh m).1, (fresh_old hh m).2]
      rw [hh] at HH
      unfold PKV.val at HH ⊢
      clear h hr hok hh HCK HP HQ HR hb0
      go_enter Try.func18, Try.ntmps18
      go_wp2_with (first
        | (go_at_call 25; refine (unhide HC).mono ?_; rintro e w1 ⟨rfl, hb1⟩; have HB1 := hide (below0 (unhide HB0) hb1); have K1 := (unhide HK0).below hb1; have q0 := K1.at 0 rfl; have q1 := K1.at 1 rfl; have q2 := K1.at 2 rfl; have q3 := K1.at 3 rfl; have q4 := K1.at 4 rfl; have q5 := K1.at 5 rfl; have q6 := K1.at 6 rfl; clear hb1 K1)
        | (go_at_call 16; refine (unhide HH _ (unhide HB1)).mono ?_; rintro e w2 ⟨rfl, hb2⟩; have HB2 := hide (below0 (unhide HB1) hb2); clear hb2 q0 q1 q2 q3 q4 q5 q6)
        | fail)
      go_ret
      exact ⟨rfl, (unhide HCA _ (unhide HB2)).mono (Nat.le_succ _), Tu.of_below (unhide HB2)⟩
end Go.Proofs.Ytpklckpnimmkpaa
