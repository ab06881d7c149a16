/-
  Contracts of recode.bare, alike, farthest, mixed. Conditions: at most 300 packets whose rows have at most 10 words and 1000 bytes.
  Contract of recode.mixed; what Mix makes, case by case ('mix_case'). Conditions: at most 300 packets whose rows have at most 10 words and 1000 bytes.
  What chapter 18's Choose and Mix make of all that a relay keeps is 'emitD'. No condition.
-/
import Derived.Test.YtbcgiodgobmkaaaGreatDoorU32
import Derived.Test.YtbcgiodgobmkaaaGreatDoorU27
import Derived.Test.YtbcgiodgobmkaaaGreatDoorU17
import Derived.Test.YtbcgiodgobmkaaaGreatDoorU23
import Derived.Test.YtbcgiodgobmkaaaGreatDoorU26
import Derived.Test.YtbcgiodgobmkaaaGreatDoorVJ
namespace Go.Proofs.YtbcgiodgobmkaaaGreatDoor
open Go.RowKit Go.Sort
set_option linter.unusedVariables false
set_option linter.unusedSimpArgs false
set_option maxRecDepth 4000

theorem bare_res {X : World} {tmps : Array Value} {g : Nat} {o l k z h : Int} {a : Option Addr} {n c : Nat} {s : ByteArray} (ht : tmps.getD 2 undef = .pointer (some ⟨g, 0, none⟩)) (hk : PkB X g (.int .i64 o) (.int .i64 l) (.int .i64 k) (.int .i64 z) (.int .i64 h) (.slice a n c) (.string s)) :
    (results Tryz.f53 tmps).run Tryz.prog X = .ok (.agg #[.int .i64 o, .int .i64 l, .int .i64 k, .int .i64 z, .int .i64 h, .slice a n c, .string s]) X := by
  obtain ⟨r0, r1, r2, r3, r4, r5, r6⟩ := hk.at
  have ht' : tmps[2]?.getD undef = .pointer (some ⟨g, 0, none⟩) := by simpa using ht
  simp [results, Tryz.results53, go_sem, ht', r0, r1, r2, r3, r4, r5, r6]
set_option maxHeartbeats 2000000 in
theorem bare_any (o l k z hp : Int) (a : Option Addr) (n c : Nat) (s : ByteArray) (w : World) :
    Calls Tryz.prog 53 #[.agg #[.int .i64 o, .int .i64 l, .int .i64 k, .int .i64 z, .int .i64 hp, .slice a n c, .string s]] w fun e w' => e = .returned (.agg #[.int .i64 o, .int .i64 l, .int .i64 k, .int .i64 z, .int .i64 0, .slice none 0 0, .string ⟨#[]⟩]) ∧ Below w.heap.size w w' := by
  have hx1 := (pkb_new w (.int .i64 o) (.int .i64 l) (.int .i64 k) (.int .i64 z) (.int .i64 hp) (.slice a n c) (.string s)).below ((Below.refl _ _).alloc (Nat.le_refl _) (.cells #[.int .i64 0, .int .i64 0, .int .i64 0, .int .i64 0, .int .i64 0, .slice none 0 0, .string ⟨#[]⟩] 42))
  have hx2 := pkb_new (w.alloc (.cells #[.int .i64 o, .int .i64 l, .int .i64 k, .int .i64 z, .int .i64 hp, .slice a n c, .string s] 42)) (.int .i64 0) (.int .i64 0) (.int .i64 0) (.int .i64 0) (.int .i64 0) (.slice none 0 0) (.string ⟨#[]⟩)
  rw [alloc_size] at hx2
  have hb0 : Below w.heap.size w ((w.alloc (.cells #[.int .i64 o, .int .i64 l, .int .i64 k, .int .i64 z, .int .i64 hp, .slice a n c, .string s] 42)).alloc (.cells #[.int .i64 0, .int .i64 0, .int .i64 0, .int .i64 0, .int .i64 0, .slice none 0 0, .string ⟨#[]⟩] 42)) := below2 (Below.refl _ w) (Below.refl _ _)
  generalize hW : (w.alloc (.cells #[.int .i64 o, .int .i64 l, .int .i64 k, .int .i64 z, .int .i64 hp, .slice a n c, .string s] 42)).alloc (.cells #[.int .i64 0, .int .i64 0, .int .i64 0, .int .i64 0, .int .i64 0, .slice none 0 0, .string ⟨#[]⟩] 42) = W at *
  obtain ⟨q0, q1, q2, q3, q4, q5, q6⟩ := hx1.at
  obtain ⟨y0, y1, y2, y3, y4, y5, y6⟩ := hx2.at
  have gz := hx2.frz
  have HX2 := hide hx2
  have HB0 := hide hb0
  clear hx1 hx2 hb0
  go_enter Tryz.func53, Tryz.ntmps53
  go_wp2
  exact bodyPost_ret (bare_res (g := w.heap.size + 1) (X := set7 W (w.heap.size + 1) (.int .i64 o) (.int .i64 l) (.int .i64 k) (.int .i64 z) (.int .i64 0) (.slice none 0 0) (.string ⟨#[]⟩)) rfl ((unhide HX2).sets _ _ _ _ _ _ _)) rfl ⟨rfl, below7 (unhide HB0) (Nat.le_succ _) _ _ _ _ _ _ _⟩

/-- Are all of one object, cut in one way? -/
def allK (ps : List PKV) : Bool := ps.all fun p => alkD (ps.getD 0 .dflt).pd p.pd
theorem bare_same (q p : PKV) : TB (alkD q.pd p.pd) (SameP p.o p.l p.k p.z 0 [] ⟨#[]⟩ q.o q.l q.k q.z 0 [] ⟨#[]⟩) := by
  unfold TB alkD SameP
  rw [decide_eq_true_iff]
  show (q.o = p.o ∧ q.l = p.l ∧ q.k = p.k ∧ q.z = p.z) ↔ _
  constructor
  · rintro ⟨h1, h2, h3, h4⟩
    exact ⟨⟨⟨h1.symm, h2.symm, h3.symm, h4.symm, rfl⟩, rfl⟩, rfl⟩
  · intro h
    exact ⟨h.1.1.1.symm, h.1.1.2.1.symm, h.1.1.2.2.1.symm, h.1.1.2.2.2.1.symm⟩
theorem take_snocV (ps : List PKV) (k : Nat) (hk : k < ps.length) : ps.take (k + 1) = ps.take k ++ [ps.getD k .dflt] := by
  rw [List.take_succ_eq_append_getElem hk]
  simp [List.getD_eq_getElem?_getD, List.getElem?_eq_getElem hk]

set_option maxHeartbeats 4000000 in
theorem alike18_any (a : Option Addr) (n c : Nat) (ps : List PKV) (w : World) (ht : Tab w) (h : PksAt w a n ps) (h0 : 0 < n) (hn : n ≤ 1048576) :
    Calls Tryz.prog 49 #[.slice a n c] w fun e w' => e = .returned (.bool (allK ps)) ∧ Below w.heap.size w w' := by
  obtain rfl := h.1
  obtain ⟨b, off, rfl, hcl⟩ := h.at h0
  obtain ⟨c0, c1, c2, c3, c4, c5, c6⟩ := hcl 0 h0
  simp only [Nat.zero_mul, Nat.add_zero] at c0 c1 c2 c3 c4 c5 c6
  have h0' : (0 : Int) < (ps.length : Int) := by omega
  have Hh := hide h
  have HT := hide ht
  unfold allK
  generalize ps.getD 0 .dflt = q at *
  have HBR := hide (bare_any q.o q.l q.k q.z q.h q.r.a q.r.n q.r.c q.r.s w)
  clear h hcl ht
  go_enter Tryz.func49, Tryz.ntmps49
  go_wp2_with (go_at_call 53; refine (unhide HBR).mono ?_; rintro e w1 ⟨rfl, hb1⟩; have HB1 := hide hb1; clear hb1)
  have hpk := pkb_new w1 (.int .i64 q.o) (.int .i64 q.l) (.int .i64 q.k) (.int .i64 q.z) (.int .i64 0) (.slice none 0 0) (.string ⟨#[]⟩)
  have hb2 : Below w1.heap.size w1 (w1.alloc (.cells #[.int .i64 q.o, .int .i64 q.l, .int .i64 q.k, .int .i64 q.z, .int .i64 0, .slice none 0 0, .string ⟨#[]⟩] 42)) := (Below.refl _ _).alloc (Nat.le_refl _) _
  generalize hW : w1.alloc (.cells #[.int .i64 q.o, .int .i64 q.l, .int .i64 q.k, .int .i64 q.z, .int .i64 0, .slice none 0 0, .string ⟨#[]⟩] 42) = W at *
  have HPK := hide hpk
  have HBW := hide (below0 (unhide HB1) hb2)
  clear hpk hb2 hW HB1 HBR c0 c1 c2 c3 c4 c5 c6
  go_loopw [12] (fun i wr => ∃ m : Nat, m ≤ ps.length ∧ i = .int .i64 m ∧ Hid (∀ p ∈ ps.take m, alkD q.pd p.pd = true) ∧ Hid (Below W.heap.size W wr)) (fun i _ => ps.length - (intOf i).toNat)
  case atStart => exact ⟨0, Nat.zero_le _, rfl, hide (fun p hp => by rw [List.take_zero] at hp; cases hp), hide (Below.refl _ _)⟩
  case round =>
    obtain ⟨m, hm, rfl, HA, HB⟩ := hrel
    by_cases hlt : m < ps.length
    · have hbw := (unhide HBW).trans ((unhide HB).mono (unhide HBW).size)
      obtain ⟨b', off', e, hcl⟩ := ((unhide Hh).below hbw).at hlt
      simp only [Option.some.injEq, Addr.mk.injEq, and_true] at e
      obtain ⟨rfl, rfl⟩ := e
      obtain ⟨c0, c1, c2, c3, c4, c5, c6⟩ := hcl m hlt
      have hlt' : (m : Int) < (ps.length : Int) := by omega
      have HTK := hide (take_snocV ps m hlt)
      have HMM := hide (show ps.getD m .dflt ∈ ps from by rw [List.getD_eq_getElem?_getD, List.getElem?_eq_getElem hlt]; exact List.getElem_mem hlt)
      clear hcl
      generalize ps.getD m .dflt = p at *
      have hpp := pkb_new wr (.int .i64 p.o) (.int .i64 p.l) (.int .i64 p.k) (.int .i64 p.z) (.int .i64 p.h) (.slice p.r.a p.r.n p.r.c) (.string p.r.s)
      have hb3 : Below wr.heap.size wr (wr.alloc (.cells #[.int .i64 p.o, .int .i64 p.l, .int .i64 p.k, .int .i64 p.z, .int .i64 p.h, .slice p.r.a p.r.n p.r.c, .string p.r.s] 42)) := (Below.refl _ _).alloc (Nat.le_refl _) _
      have hqq := ((unhide HPK).below (unhide HB)).below hb3
      generalize hW2 : wr.alloc (.cells #[.int .i64 p.o, .int .i64 p.l, .int .i64 p.k, .int .i64 p.z, .int .i64 p.h, .slice p.r.a p.r.n p.r.c, .string p.r.s] 42) = w2 at *
      have htw := (unhide HT).below (below0 hbw hb3)
      have cB := quietB (W := w2) (fun w' hbx => bare_any p.o p.l p.k p.z p.h p.r.a p.r.n p.r.c p.r.s w')
      have cS := quietB (W := w2) (fun w' hbx => psame_any p.o p.l p.k p.z 0 none 0 0 [] ⟨#[]⟩ q.o q.l q.k q.z 0 none 0 0 [] ⟨#[]⟩ w' (htw.below hbx) (row_none _) (row_none _) (by omega) (by omega) (alkD q.pd p.pd) (bare_same q p))
      obtain ⟨x0, x1, x2, x3, x4, x5, x6⟩ := hpp.at
      obtain ⟨y0, y1, y2, y3, y4, y5, y6⟩ := hqq.at
      have k0 := cell_regrown x0
      have k1 := cell_regrown x1
      have k2 := cell_regrown x2
      have k3 := cell_regrown x3
      have k4 := cell_regrown x4
      have k5 := cell_regrown x5
      have k6 := cell_regrown x6
      have l0 := cell_regrown y0
      have l1 := cell_regrown y1
      have l2 := cell_regrown y2
      have l3 := cell_regrown y3
      have l4 := cell_regrown y4
      have l5 := cell_regrown y5
      have l6 := cell_regrown y6
      have HB3 := hide (below0 (unhide HB) hb3)
      clear hpp hqq hb3 htw hbw x0 x1 x2 x3 x4 x5 x6 y0 y1 y2 y3 y4 y5 y6
      cases hv : alkD q.pd p.pd
      · rw [hv] at cS
        have HE : Hid ((ps.all fun p => alkD q.pd p.pd) = false) := hide (by rw [List.all_eq_false]; exact ⟨p, unhide HMM, by rw [hv]; decide⟩)
        clear HTK HMM HA hv
        go_wp2_with fail
        refine wp_region_quiet_below (by kernel_rfl) (by kernel_rfl) ?_
        repeat (with_reducible refine wpQuiet_step (fun K hK => ?_); go_simp; first | (with_reducible refine hK _ ?_; clear hK K) | (apply Exists.intro; apply And.intro; (intro _; first | (go_at_call 53; exact cB _ _) | (go_at_call 69; exact cS _ _)); with_reducible refine hK _ ?_; clear hK K))
        refine wpQuiet_nil ?_
        intro _ hw'
        obtain ⟨⟨dq, osq⟩, hw''⟩ := hw'
        subst hw''
        have HBR := hide (below0 (unhide HB3) (below_regrown w2 dq osq))
        clear cB cS k0 k1 k2 k3 k4 k5 k6 l0 l1 l2 l3 l4 l5 l6
        generalize grow (redrawn w2 dq) osq = w3 at *
        go_wp2
        go_ret
        exact ⟨by rw [unhide HE]; rfl, (unhide HBW).trans ((unhide HBR).mono (unhide HBW).size)⟩
      · rw [hv] at cS
        have HE : Hid (∀ p ∈ ps.take (m + 1), alkD q.pd p.pd = true) := hide (fun x hx => by
          rw [unhide HTK, List.mem_append, List.mem_singleton] at hx
          rcases hx with hx | rfl
          · exact unhide HA x hx
          · exact hv)
        clear HTK HMM HA hv
        go_wp2_with fail
        refine wp_region_quiet_below (by kernel_rfl) (by kernel_rfl) ?_
        repeat (with_reducible refine wpQuiet_step (fun K hK => ?_); go_simp; first | (with_reducible refine hK _ ?_; clear hK K) | (apply Exists.intro; apply And.intro; (intro _; first | (go_at_call 53; exact cB _ _) | (go_at_call 69; exact cS _ _)); with_reducible refine hK _ ?_; clear hK K))
        refine wpQuiet_nil ?_
        intro _ hw'
        obtain ⟨⟨dq, osq⟩, hw''⟩ := hw'
        subst hw''
        have HBR := hide (below0 (unhide HB3) (below_regrown w2 dq osq))
        clear cB cS k0 k1 k2 k3 k4 k5 k6 l0 l1 l2 l3 l4 l5 l6
        generalize grow (redrawn w2 dq) osq = w3 at *
        go_wp2
        go_roundw
        case rel => exact ⟨m + 1, by omega, by go_num, HE, HBR⟩
        case measure => simp [intOf]; omega
    · have hke : ps.take m = ps := List.take_of_length_le (by omega)
      rw [hke] at HA
      have HE : Hid ((ps.all fun p => alkD q.pd p.pd) = true) := hide (List.all_eq_true.2 (unhide HA))
      go_wp2
      go_ret
      exact ⟨by rw [unhide HE]; rfl, (unhide HBW).trans ((unhide HB).mono (unhide HBW).size)⟩

/-- The greatest of the hops of the first m, from the first one's on. -/
def hopT (ps : List PKV) (m : Nat) : Int := (ps.take m).foldl (fun a p => max a p.h) (ps.getD 0 .dflt).h
theorem hopT_succ {ps : List PKV} {m : Nat} (h : m < ps.length) : hopT ps (m + 1) = max (hopT ps m) (ps.getD m .dflt).h := by
  unfold hopT
  rw [take_snocV ps m h, List.foldl_append]
  rfl
theorem hopT_all {ps : List PKV} (h : 0 < ps.length) : hopT ps ps.length = hopX (ps.map PKV.pd) := by
  cases ps with
  | nil => simp at h
  | cons p Q =>
    unfold hopT
    rw [List.take_length]
    show (p :: Q).foldl _ p.h = (Q.map PKV.pd).foldl _ p.h
    rw [List.foldl_cons, List.foldl_map, Int.max_self]
    rfl
set_option maxHeartbeats 4000000 in
theorem farthest_any (a : Option Addr) (n c : Nat) (ps : List PKV) (w : World) (h : PksAt w a n ps) (h0 : 0 < n) (hn : n ≤ 1048576) :
    Calls Tryz.prog 50 #[.slice a n c] w fun e w' => e = .returned (.int .i64 (hopX (ps.map PKV.pd))) ∧ Below w.heap.size w w' := by
  obtain rfl := h.1
  obtain ⟨b, off, rfl, hcl⟩ := h.at h0
  obtain ⟨c0, c1, c2, c3, c4, c5, c6⟩ := hcl 0 h0
  simp only [Nat.zero_mul, Nat.add_zero] at c0 c1 c2 c3 c4 c5 c6
  have h0' : (0 : Int) < (ps.length : Int) := by omega
  have Hh := hide h
  have HE := hide (hopT_all h0)
  have HH0 := hide (show (ps.getD 0 .dflt).h = hopT ps 0 from rfl)
  have hmax := max_runZ
  generalize ps.getD 0 .dflt = q at *
  clear h hcl
  go_enter Tryz.func50, Tryz.ntmps50
  go_wp2
  go_loopw [3, 12] (fun hv i wr => ∃ m : Nat, m ≤ ps.length ∧ i = .int .i64 m ∧ hv = .int .i64 (hopT ps m) ∧ Hid (Below w.heap.size w wr)) (fun _ i _ => ps.length - (intOf i).toNat)
  case atStart => exact ⟨0, Nat.zero_le _, rfl, by rw [unhide HH0], hide (Below.refl _ _)⟩
  case round =>
    obtain ⟨m, hm, rfl, rfl, HB⟩ := hrel
    clear c0 c1 c2 c3 c4 c5 c6 HH0
    by_cases hlt : m < ps.length
    · obtain ⟨b', off', e, hcl⟩ := ((unhide Hh).below (unhide HB)).at hlt
      simp only [Option.some.injEq, Addr.mk.injEq, and_true] at e
      obtain ⟨rfl, rfl⟩ := e
      obtain ⟨c0, c1, c2, c3, c4, c5, c6⟩ := hcl m hlt
      have hlt' : (m : Int) < (ps.length : Int) := by omega
      have HS := hide (hopT_succ hlt)
      clear hcl
      generalize ps.getD m .dflt = p at *
      have HB3 := hide (show Below w.heap.size w (wr.alloc (.cells #[.int .i64 p.o, .int .i64 p.l, .int .i64 p.k, .int .i64 p.z, .int .i64 p.h, .slice p.r.a p.r.n p.r.c, .string p.r.s] 42)) from below0 (unhide HB) ((Below.refl _ _).alloc (Nat.le_refl _) _))
      go_wp2
      go_roundw
      case rel => exact ⟨m + 1, by omega, by go_num, by rw [unhide HS], HB3⟩
      case measure => simp [intOf]; omega
    · obtain rfl : m = ps.length := by omega
      rw [unhide HE]
      go_wp2
      go_ret
      exact ⟨rfl, unhide HB⟩
end Go.Proofs.YtbcgiodgobmkaaaGreatDoor
namespace Go.Proofs.YtbcgiodgobmkaaaGreatDoor
open Go.RowKit Go.Sort
set_option linter.unusedVariables false
set_option linter.unusedSimpArgs false
set_option maxRecDepth 4000

def rowsK (ps : List PKV) : List RV := ps.map PKV.r
theorem rowsK_len (ps : List PKV) : (rowsK ps).length = ps.length := by simp [rowsK]
theorem rowsK_get {ps : List PKV} {i : Nat} (hi : i < ps.length) : (rowsK ps).getD i .dflt = (ps.getD i .dflt).r := by
  unfold rowsK
  rw [List.getD_eq_getElem?_getD, List.getElem?_map, List.getElem?_eq_getElem hi, List.getD_eq_getElem?_getD, List.getElem?_eq_getElem hi]
  rfl
theorem KsIn.rows {w : World} {ps : List PKV} (h : KsIn w ps) : RowsIn w (rowsK ps) := fun r hr => by
  obtain ⟨p, hp, rfl⟩ := List.mem_map.1 hr
  exact h p hp
theorem shortP_mem {ps : List PKV} (h : shortP ps) {p : PKV} (hp : p ∈ ps) : p.r.n ≤ 10 ∧ p.r.s.size ≤ 1000 := by
  obtain ⟨i, hi, rfl⟩ := List.mem_iff_getElem.1 hp
  have := h i
  rwa [List.getD_eq_getElem?_getD, List.getElem?_eq_getElem hi] at this
theorem shortP_rows {ps : List PKV} (h : ∀ p ∈ ps, p.r.n ≤ 10 ∧ p.r.s.size ≤ 1000) : shortR (rowsK ps) := short_of fun r hr => by
  obtain ⟨p, hp, rfl⟩ := List.mem_map.1 hr
  exact h p hp
theorem vecX_rows (ps : List PKV) : vecX (ps.map PKV.pd) = vecL (rowsK ps) := by
  unfold vecX vecL rowsK
  rw [List.foldl_map, List.foldl_map]
  rfl
theorem txtX_rows (ps : List PKV) : txtX (ps.map PKV.pd) = sumL ((rowsK ps).map fun r => r.s) := by
  unfold txtX sumL rowsK
  rw [List.foldl_map, List.map_map, List.foldl_map]
  rfl
theorem mix_case {us : List PKV} (h : 0 < us.length) : mixL (us.map PKV.pd) = if allK us = true ∧ 0 < cnt (vecL (rowsK us)) ∧ hopX (us.map PKV.pd) < 15 then some ⟨(us.getD 0 .dflt).o, (us.getD 0 .dflt).l, (us.getD 0 .dflt).k, (us.getD 0 .dflt).z, IntKind.i64.wrap (hopX (us.map PKV.pd) + 1), vecL (rowsK us), st (sumL ((rowsK us).map fun r => r.s))⟩ else none := by
  cases us with
  | nil => simp at h
  | cons p Q =>
    rw [← vecX_rows, ← txtX_rows]
    rw [List.map_cons, mixL_cons]
    have e : (∀ r ∈ Q.map PKV.pd, alkD p.pd r = true) ↔ allK (p :: Q) = true := by
      unfold allK
      rw [List.all_eq_true]
      constructor
      · intro h1 x hx
        rcases List.mem_cons.1 hx with rfl | hx
        · exact alk_refl _
        · exact h1 _ (List.mem_map_of_mem hx)
      · intro h1 x hx
        obtain ⟨y, hy, rfl⟩ := List.mem_map.1 hx
        exact h1 y (List.mem_cons_of_mem _ hy)
    simp only [e]
    rfl

set_option maxHeartbeats 4000000 in
theorem mixed_any (a : Option Addr) (n c : Nat) (ps : List PKV) (w : World) (h : PksAt w a n ps) (hk : KsIn w ps) (hs : ∀ p ∈ ps, p.r.n ≤ 10 ∧ p.r.s.size ≤ 1000) (hn : n ≤ 300) :
    Calls Tryz.prog 51 #[.slice a n c] w fun e w' => ∃ v, e = .returned (.agg #[v, .string (st (sumL ((rowsK ps).map fun r => r.s)))]) ∧ Own w' w.heap.size v (vecL (rowsK ps)) ∧ Below w.heap.size w w' := by
  obtain rfl := h.1
  have hb0 := (Below.refl w.heap.size w).alloc (Nat.le_refl _) (.cells #[.slice none 0 0, .string ⟨#[]⟩] 40)
  have hX := boxW_new w (.slice none 0 0) (.string ⟨#[]⟩)
  have hsz : (w.alloc (.cells #[.slice none 0 0, .string ⟨#[]⟩] 40)).heap.size = w.heap.size + 1 := by simp
  have hP := h.below hb0
  have hK := hk.below hb0
  generalize hWW : w.alloc (.cells #[.slice none 0 0, .string ⟨#[]⟩] 40) = W at *
  have HP := hide hP
  have HK := hide hK
  have HX := hide hX
  have HB0 := hide hb0
  have HSZ := hide hsz
  have HS := hide (shortP_rows hs)
  have hmk := make_r ps.length (by omega) W
  rw [hsz] at hmk
  have hmd := made_r W ps.length (by omega) (filR (rowsK ps) 0) (by rw [filR_zero, rowsK_len])
  have hbm : Below W.heap.size W (W.alloc (.cells (madeCells #[.slice none 0 0, .string ⟨#[]⟩] (ps.length * 2)) 40)) := (Below.refl _ _).alloc (Nat.le_refl _) _
  rw [hsz] at hmd
  have HM := hide hmd
  have HBM := hide hbm
  generalize hW2 : W.alloc (.cells (madeCells #[.slice none 0 0, .string ⟨#[]⟩] (ps.length * 2)) 40) = W2 at *
  clear h hk hs hb0 hX hP hK hmd hbm hsz
  go_enter Tryz.func51, Tryz.ntmps51
  go_wp2
  clear hWW hW2 hmk
  go_loopw [11] (fun i wr => ∃ k : Nat, k ≤ ps.length ∧ i = .int .i64 k ∧ Hid (OwnS wr (w.heap.size + 1) (.slice (some ⟨w.heap.size + 1, 0, none⟩) ps.length ps.length) (filR (rowsK ps) k)) ∧ Hid (Below W.heap.size W wr)) (fun i _ => ps.length - (intOf i).toNat)
  case atStart => exact ⟨0, Nat.zero_le _, rfl, HM, HBM⟩
  case round =>
    obtain ⟨k, hk, rfl, HI, HB⟩ := hrel
    clear HM HBM
    by_cases hlt : k < ps.length
    · obtain ⟨b, off, rfl, hcl⟩ := ((unhide HP).below (unhide HB)).at hlt
      obtain ⟨c0, c1, c2, c3, c4, c5, c6⟩ := hcl k hlt
      have hlt' : (k : Int) < (ps.length : Int) := by omega
      have hS := filR_succ (rowsK ps) k (by rw [rowsK_len]; exact hlt)
      rw [rowsK_get hlt] at hS
      clear hcl
      generalize ps.getD k .dflt = p at *
      have hb3 : Below wr.heap.size wr (wr.alloc (.cells #[.int .i64 p.o, .int .i64 p.l, .int .i64 p.k, .int .i64 p.z, .int .i64 p.h, .slice p.r.a p.r.n p.r.c, .string p.r.s] 42)) := (Below.refl _ _).alloc (Nat.le_refl _) _
      have hpp := pkb_new wr (.int .i64 p.o) (.int .i64 p.l) (.int .i64 p.k) (.int .i64 p.z) (.int .i64 p.h) (.slice p.r.a p.r.n p.r.c) (.string p.r.s)
      obtain ⟨x0, x1, x2, x3, x4, x5, x6⟩ := hpp.at
      have hI := (unhide HI).below hb3
      have HB3 := hide (below0 (unhide HB) hb3)
      generalize hw3 : wr.alloc (.cells #[.int .i64 p.o, .int .i64 p.l, .int .i64 p.k, .int .i64 p.z, .int .i64 p.h, .slice p.r.a p.r.n p.r.c, .string p.r.s] 42) = w3 at *
      have hfl : (filR (rowsK ps) k).length = ps.length := by rw [filR_length _ _ (by rw [rowsK_len]; exact hk), rowsK_len]
      have hcg := cellsR_get (filR (rowsK ps) k) k (by omega)
      have hcell0 := hI.cellAt hcg.1
      have hcell1 := hI.cellAt hcg.2
      have hI' : w3.ownsRow (w.heap.size + 1) 40 2 (.slice (some ⟨w.heap.size + 1, 0, none⟩) ps.length ps.length) ps.length (cellsR (filR (rowsK ps) k)) := by
        have : w3.ownsRow (w.heap.size + 1) 40 2 (.slice (some ⟨w.heap.size + 1, 0, none⟩) ps.length ps.length) (filR (rowsK ps) k).length (cellsR (filR (rowsK ps) k)) := hI
        rwa [hfl] at this
      have hfz0 := hI'.frozenAt (k * 2)
      have hfz1 := hI'.frozenAt (k * 2 + 1)
      have hs2 := hI.stored k p.r
      rw [hS] at hs2
      have HS2 := hide hs2
      have hge : W.heap.size ≤ w.heap.size + 1 := by have := unhide HSZ; omega
      have HB2 := hide (((unhide HB3).setCell (p := ⟨w.heap.size + 1, k * 2, none⟩) hge (.slice p.r.a p.r.n p.r.c)).setCell (p := ⟨w.heap.size + 1, k * 2 + 1, none⟩) hge (.string p.r.s))
      clear hI hI' hs2 hS hcg hfl HI HB hpp hb3 HB3
      generalize (filR (rowsK ps) k).getD k .dflt = z at *
      go_wp2
      go_roundw
      case rel => exact ⟨k + 1, by omega, by go_num, HS2, HB2⟩
      case measure => simp [intOf]; omega
    · obtain rfl : k = ps.length := by omega
      have hI := unhide HI
      rw [show filR (rowsK ps) ps.length = rowsK ps from by rw [← rowsK_len ps, filR_all]] at hI
      have hin := (unhide HK).rows.below (unhide HB)
      obtain ⟨hr1, hm1, hc1, hd1⟩ := hI.at' hin
      have HC := hide (row_any (some ⟨w.heap.size + 1, 0, none⟩) ps.length ps.length (rowsK ps) wr hr1 (unhide HS) (by omega) hc1 hd1)
      have HX1 := hide ((unhide HX).below (unhide HB))
      have HB1 := hide ((unhide HB0).trans ((unhide HB).mono (by have := unhide HSZ; omega)))
      have hz1 : w.heap.size + 1 ≤ wr.heap.size := by have h1 := unhide HSZ; have h2 := (unhide HB).size; omega
      clear hin hr1 hm1 hc1 hd1 HB HX HB0 HSZ HS HP HK hI HI
      go_wp2_with (go_at_call 70; refine (unhide HC).mono ?_; rintro e w3 ⟨v, rfl, ho3, hb3⟩; obtain ⟨a2, m2, c2, rfl⟩ : ∃ a m c, v = Value.slice a m c := (by obtain ⟨a, c, e, _⟩ := ho3.row; exact ⟨a, _, c, e⟩); obtain ⟨⟨x0, x1⟩, f0, f1⟩ := (unhide HX1).below hb3; have HB3 := hide (below0 (unhide HB1) hb3); have HO3 := hide ho3; clear ho3 hb3 HC)
      have y1 := World.cell?_setCell_same (w3.setCell ⟨w.heap.size, 0, none⟩ (.slice a2 m2 c2)) ⟨w.heap.size, 1, none⟩ (.string (st (sumL ((rowsK ps).map fun r => r.s)))) ((World.cell?_setCell_other (h := by simp) ..).trans x1)
      have y0 : ((w3.setCell ⟨w.heap.size, 0, none⟩ (.slice a2 m2 c2)).setCell ⟨w.heap.size, 1, none⟩ (.string (st (sumL ((rowsK ps).map fun r => r.s))))).cell? ⟨w.heap.size, 0, none⟩ = some (.slice a2 m2 c2) :=
        (World.cell?_setCell_other (h := by simp) ..).trans (World.cell?_setCell_same _ _ _ x0)
      exact bodyPost_ret (v := .agg #[.slice a2 m2 c2, .string (st (sumL ((rowsK ps).map fun r => r.s)))]) (by simp [results, Tryz.results51, go_sem, y0, y1]) rfl
        ⟨_, rfl, (((unhide HO3).other (g := w.heap.size) 0 _ (by omega)).other (g := w.heap.size) 1 _ (by omega)).mono (by omega), ((unhide HB3).setCell (Nat.le_refl _) _).setCell (Nat.le_refl _) _⟩
end Go.Proofs.YtbcgiodgobmkaaaGreatDoor
namespace Go.Proofs.YtbcgiodgobmkaaaGreatDoor
open Go.RowKit Go.Sort
set_option linter.unusedVariables false
set_option linter.unusedSimpArgs false
set_option maxRecDepth 4000

theorem place_in {b n : Nat} (h : b < n) : placeN (b : Int) n = b := by
  have h1 : (b : Int).tmod n = b := by
    rw [← Int.ofNat_tmod, Nat.mod_eq_of_lt h]
  have h2 : ((b : Int) + n).tmod n = b := by
    have h3 : ((b : Int) + n) = ((b + n : Nat) : Int) := by omega
    rw [h3, ← Int.ofNat_tmod, Nat.add_mod_right, Nat.mod_eq_of_lt h]
  unfold placeN
  rw [h1, h2]
  omega
theorem vecs_rows (ps : List PKV) : vecsR (rowsK ps) = vecsD (ps.map PKV.pd) := by
  unfold vecsR rowsK vecsD
  rw [List.map_map, List.map_map]
  rfl
theorem emit_is {ps : List PKV} {b : Nat} {t : Int} (hb : b < ps.length) : mixD (ps.map PKV.pd) (chooseL (rowsK ps) (b : Int) t) = emitD (ps.map PKV.pd) b t := by
  unfold chooseL emitD
  rw [rowsK_len, if_neg (by omega), place_in hb, vecs_rows, List.length_map]
/-- A target, brought within its bounds. -/
def clampT (t : Int) : Int := min (max t (-1099511627776)) 1099511627776
theorem clamp_in (t : Int) : -1099511627776 ≤ clampT t ∧ clampT t ≤ 1099511627776 := by unfold clampT; omega
end Go.Proofs.YtbcgiodgobmkaaaGreatDoor
