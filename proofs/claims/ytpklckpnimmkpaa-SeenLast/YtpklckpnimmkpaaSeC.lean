/-
  Contracts of seen.New, Len, Has, oldest, keep, Clear, Fresh, of a cache that is there and of none; bucketlinelaw's worlds carry it by 'Tu (caF g b)'. Conditions: fewer than 2^40 came.
-/
import Derived.Test.YtpklckpnimmkpaaSeB
import Derived.Deep.RegionHeld
import Derived.Deep.RegionHeld3
import Derived.Deep.CutRange
import Derived.BigQuiet
namespace Go.Proofs.Ytpklckpnimmkpaa
open Go.RowKit Go.Sort Go.Maps
set_option linter.unusedVariables false
set_option maxRecDepth 4000

theorem look32 {w : World} {b n nx : Nat} {D : DataW Unit} {es : List (Nat × Nat)} (h : OwnM w b n D) (hM : MpL D nx es) {x : Nat} (hx : x < 4294967296) :
    ∃ c : Int, (Instr.lookup 58 (.map (some b)) (.int .u32 (x : Int)) true).run Try.prog w = .ok (.tuple #[.int .i64 c, .bool (hasD (es.map Prod.fst) x)]) w := by
  obtain ⟨v, ps, hrun, hv⟩ := World.ownsMap.look_ok h law32 Try.underlying58 (zero_i w) (zd := .lit (.int .i64 0)) (zp := []) (plainElem_int Try.underlying3 (by decide)) (key32 hx)
  obtain ⟨c, rfl, _⟩ := plainElem_int_inv Try.underlying3 hv
  exact ⟨c, by rw [hrun, hM.has]⟩
theorem tu_drew (F : Nat → Prop) (w : World) : Tu F w w.drew := ⟨rfl, rfl, rfl, Nat.le_refl _, fun _ _ _ => rfl⟩

theorem senew_any (n : Int) (w : World) :
    Calls Try.prog 13 #[.int .i64 n] w fun e w' => ∃ g b, e = .returned (.pointer (some ⟨g, 0, none⟩)) ∧ w.heap.size ≤ g ∧ w.heap.size ≤ b ∧ CaAt w' g b (capN n) 0 [] ∧ Below w.heap.size w w' := by
  have h1 := max_run n
  have h2 := cap_run n
  have h3 := @run_makeMap Try.prog
  have hm := capN_le n
  generalize capN n = m at *
  go_enter Try.func13, Try.ntmps13
  go_wp2
  go_ret
  have hb : Below w.heap.size w ((w.alloc (.map #[] 0)).alloc (.cells #[.int .i64 (m : Int), .map (some w.heap.size), .int .i64 0] 60)) :=
    ((Below.refl _ _).alloc (Nat.le_refl _) _).trans (((Below.refl _ _).alloc (Nat.le_refl _) _).mono (by simp))
  refine ⟨_, w.heap.size, rfl, by simp, Nat.le_refl _, ⟨⟨0, [], .map [], Nat.le_refl _, ?_, ?_, MpL.empty, rfl⟩, Nat.zero_le _, hm⟩, hb⟩
  · have := bkA_new 60 (w.alloc (.map #[] 0)) [.int .i64 (m : Int), .map (some w.heap.size), .int .i64 0]
    simpa using this
  · exact World.ownsMap.alloc (World.ownsMap_made w Try.prog 29 (plainElem Try.prog 3)) _
theorem selen_any (g b m N : Nat) (L : List Nat) (w : World) (h : CaAt w g b m N L) : Calls Try.prog 19 #[.pointer (some ⟨g, 0, none⟩)] w fun e w' => e = .returned (.int .i64 (L.length : Int)) ∧ w' = w := by
  obtain ⟨nx, es, D, hn, hk, ho, hM, hL⟩ := h.it
  have h1 := hk.at 1 rfl
  have hl := World.ownsMap.len ho Try.underlying58 3
  have hz : Maps.size D = L.length := by rw [hM.size, hL, List.length_map]
  rw [hz] at hl
  generalize L.length = n at *
  clear hk ho h hM hL hz
  go_enter Try.func19, Try.ntmps19
  go_wp2
  go_ret
  exact ⟨rfl, rfl⟩
theorem selen_nil (w : World) : Calls Try.prog 19 #[.pointer none] w fun e w' => e = .returned (.int .i64 0) ∧ w' = w := by
  go_enter Try.func19, Try.ntmps19
  go_wp2
  go_ret
  exact ⟨rfl, rfl⟩
theorem sehas_nil (p : PKV) (w : World) : Calls Try.prog 16 #[.pointer none, p.val] w fun e w' => e = .returned (.bool false) ∧ Below w.heap.size w w' := by
  have hb := below_new w (.cells #[.int .i64 p.o, .int .i64 p.l, .int .i64 p.k, .int .i64 p.z, .int .i64 p.h, .slice p.r.a p.r.n p.r.c, .string p.r.s] 26)
  unfold PKV.val
  go_enter Try.func16, Try.ntmps16
  go_wp2
  go_ret
  exact ⟨rfl, hb⟩
set_option maxHeartbeats 1000000 in
theorem sehas_any (g b m N : Nat) (L : List Nat) (p : PKV) (w : World) (h : CaAt w g b m N L) (hr : RowAt w p.r.a p.r.n p.r.xs) :
    Calls Try.prog 16 #[.pointer (some ⟨g, 0, none⟩), p.val] w fun e w' => e = .returned (.bool (hasD L (prD p.pd))) ∧ Below w.heap.size w w' := by
  have hb0 : Below w.heap.size w (w.alloc (.cells #[.int .i64 p.o, .int .i64 p.l, .int .i64 p.k, .int .i64 p.z, .int .i64 p.h, .slice p.r.a p.r.n p.r.c, .string p.r.s] 26)) := below_new w _
  have K0 := bkA_new 26 w [.int .i64 p.o, .int .i64 p.l, .int .i64 p.k, .int .i64 p.z, .int .i64 p.h, .slice p.r.a p.r.n p.r.c, .string p.r.s]
  have hr0 := hr.below hb0
  obtain ⟨nx, es, D, hn, hk, ho, hM, hL⟩ := (h.below hb0).it
  unfold PKV.val
  generalize hW : w.alloc (.cells #[.int .i64 p.o, .int .i64 p.l, .int .i64 p.k, .int .i64 p.z, .int .i64 p.h, .slice p.r.a p.r.n p.r.c, .string p.r.s] 26) = W at *
  have hK1 := hk.at 1 rfl
  have q0 := K0.at 0 rfl
  have q1 := K0.at 1 rfl
  have q2 := K0.at 2 rfl
  have q3 := K0.at 3 rfl
  have q4 := K0.at 4 rfl
  have q5 := K0.at 5 rfl
  have q6 := K0.at 6 rfl
  have HP := hide (pr_any p W.drew hr0)
  have HL := hide (fun w1 (hb : Below W.drew.heap.size W.drew w1) => look32 (OwnM.tu (F := fun _ => False) ho (Tu.of_below (show Below W.heap.size W w1 from (Below.refl _ _).drew.trans hb)) id) hM (prD_lt p.pd))
  have HC := hide (fun w1 (hb : Below W.drew.heap.size W.drew w1) => show _ ∧ _ from ⟨hk.below (show Below W.heap.size W w1 from (Below.refl _ _).drew.trans hb), K0.below (show Below W.heap.size W w1 from (Below.refl _ _).drew.trans hb)⟩)
  have HB := hide hb0
  rw [← hL] at HL
  generalize prD p.pd = X at *
  generalize hasD L X = bb at *
  unfold PKV.val at HP
  clear hr hr0 hk ho hM hL hb0 K0 h
  go_enter Try.func16, Try.ntmps16
  go_wp2_with fail
  go_region_held (fun w' => w'.cell? ⟨g, 1, none⟩ = some (.map (some b)) ∧ w'.cell? ⟨w.heap.size, 0, none⟩ = some (.int .i64 p.o) ∧ w'.cell? ⟨w.heap.size, 1, none⟩ = some (.int .i64 p.l) ∧ w'.cell? ⟨w.heap.size, 2, none⟩ = some (.int .i64 p.k) ∧ w'.cell? ⟨w.heap.size, 3, none⟩ = some (.int .i64 p.z) ∧ w'.cell? ⟨w.heap.size, 4, none⟩ = some (.int .i64 p.h) ∧ w'.cell? ⟨w.heap.size, 5, none⟩ = some (.slice p.r.a p.r.n p.r.c) ∧ w'.cell? ⟨w.heap.size, 6, none⟩ = some (.string p.r.s)) (go_keep) (first
    | (go_at_call 10; refine (unhide HP).mono ?_; rintro e w1 ⟨rfl, hb1⟩; obtain ⟨cc, hlk⟩ := unhide HL w1 hb1; obtain ⟨hk1, hx1⟩ := unhide HC w1 hb1; have y1 := hk1.at 1 rfl; have z0 := hx1.at 0 rfl; have z1 := hx1.at 1 rfl; have z2 := hx1.at 2 rfl; have z3 := hx1.at 3 rfl; have z4 := hx1.at 4 rfl; have z5 := hx1.at 5 rfl; have z6 := hx1.at 6 rfl; have HB1 := hide (show Below w.heap.size w w1 from below0 (unhide HB) ((Below.refl _ _).drew.trans hb1)); clear hb1 hk1 hx1))
  go_wp2
  go_ret
  exact ⟨rfl, unhide HB1⟩
end Go.Proofs.Ytpklckpnimmkpaa
