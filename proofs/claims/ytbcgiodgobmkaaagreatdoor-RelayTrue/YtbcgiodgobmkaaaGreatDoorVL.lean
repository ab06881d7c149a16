/-
  Contracts of recode.bare, alike, farthest, mixed. Conditions: at most 300 packets whose rows have at most 10 words and 1000 bytes.
-/
import Derived.Test.YtbcgiodgobmkaaaGreatDoorU37
import Derived.Test.YtbcgiodgobmkaaaGreatDoorU32
import Derived.Test.YtbcgiodgobmkaaaGreatDoorU20
import Derived.Test.YtbcgiodgobmkaaaGreatDoorU27
namespace Go.Proofs.YtbcgiodgobmkaaaGreatDoor
open Go.RowKit Go.Sort
set_option linter.unusedVariables false
set_option linter.unusedSimpArgs false
set_option maxRecDepth 4000

theorem bare_res {X : World} {tmps : Array Value} {g : Nat} {o l k z h : Int} {a : Option Addr} {n c : Nat} {s : ByteArray} (ht : tmps.getD 2 undef = .pointer (some ⟨g, 0, none⟩)) (hk : PkB X g (.int .i64 o) (.int .i64 l) (.int .i64 k) (.int .i64 z) (.int .i64 h) (.slice a n c) (.string s)) :
    (results Tryz.f53 tmps).run Tryz.prog X = .ok (.agg #[.int .i64 o, .int .i64 l, .int .i64 k, .int .i64 z, .int .i64 h, .slice a n c, .string s]) X := by
  obtain ⟨r0, r1, r2, r3, r4, r5, r6⟩ := hk.at
  have ht' : tmps[2]?.getD undef = .pointer (some ⟨g, 0, none⟩) := by simpa using ht
  simp [results, Tryz.results53, go_sem, ht', r0, r1, r2, r3, r4, r5, r6]
set_option maxHeartbeats 2000000 in
theorem bare_any (o l k z hp : Int) (a : Option Addr) (n c : Nat) (s : ByteArray) (w : World) :
    Calls Tryz.prog 53 #[.agg #[.int .i64 o, .int .i64 l, .int .i64 k, .int .i64 z, .int .i64 hp, .slice a n c, .string s]] w fun e w' => e = .returned (.agg #[.int .i64 o, .int .i64 l, .int .i64 k, .int .i64 z, .int .i64 0, .slice none 0 0, .string ⟨#[]⟩]) ∧ Below w.heap.size w w' := by
  have hx1 := (pkb_new w (.int .i64 o) (.int .i64 l) (.int .i64 k) (.int .i64 z) (.int .i64 hp) (.slice a n c) (.string s)).below ((Below.refl _ _).alloc (Nat.le_refl _) (.cells #[.int .i64 0, .int .i64 0, .int .i64 0, .int .i64 0, .int .i64 0, .slice none 0 0, .string ⟨#[]⟩] 42))
  have hx2 := pkb_new (w.alloc (.cells #[.int .i64 o, .int .i64 l, .int .i64 k, .int .i64 z, .int .i64 hp, .slice a n c, .string s] 42)) (.int .i64 0) (.int .i64 0) (.int .i64 0) (.int .i64 0) (.int .i64 0) (.slice none 0 0) (.string ⟨#[]⟩)
  rw [alloc_size] at hx2
  have hb0 : Below w.heap.size w ((w.alloc (.cells #[.int .i64 o, .int .i64 l, .int .i64 k, .int .i64 z, .int .i64 hp, .slice a n c, .string s] 42)).alloc (.cells #[.int .i64 0, .int .i64 0, .int .i64 0, .int .i64 0, .int .i64 0, .slice none 0 0, .string ⟨#[]⟩] 42)) := below2 (Below.refl _ w) (Below.refl _ _)
  generalize hW : (w.alloc (.cells #[.int .i64 o, .int .i64 l, .int .i64 k, .int .i64 z, .int .i64 hp, .slice a n c, .string s] 42)).alloc (.cells #[.int .i64 0, .int .i64 0, .int .i64 0, .int .i64 0, .int .i64 0, .slice none 0 0, .string ⟨#[]⟩] 42) = W at *
  obtain ⟨q0, q1, q2, q3, q4, q5, q6⟩ := hx1.at
  obtain ⟨y0, y1, y2, y3, y4, y5, y6⟩ := hx2.at
  have gz := hx2.frz
  have HX2 := hide hx2
  have HB0 := hide hb0
  clear hx1 hx2 hb0
  go_enter Tryz.func53, Tryz.ntmps53
  go_wp2
  exact bodyPost_ret (bare_res (g := w.heap.size + 1) (X := set7 W (w.heap.size + 1) (.int .i64 o) (.int .i64 l) (.int .i64 k) (.int .i64 z) (.int .i64 0) (.slice none 0 0) (.string ⟨#[]⟩)) rfl ((unhide HX2).sets _ _ _ _ _ _ _)) rfl ⟨rfl, below7 (unhide HB0) (Nat.le_succ _) _ _ _ _ _ _ _⟩

/-- Are all of one object, cut in one way? -/
def allK (ps : List PKV) : Bool := ps.all fun p => alkD (ps.getD 0 .dflt).pd p.pd
theorem bare_same (q p : PKV) : TB (alkD q.pd p.pd) (SameP p.o p.l p.k p.z 0 [] ⟨#[]⟩ q.o q.l q.k q.z 0 [] ⟨#[]⟩) := by
  unfold TB alkD SameP
  rw [decide_eq_true_iff]
  show (q.o = p.o ∧ q.l = p.l ∧ q.k = p.k ∧ q.z = p.z) ↔ _
  constructor
  · rintro ⟨h1, h2, h3, h4⟩
    exact ⟨⟨⟨h1.symm, h2.symm, h3.symm, h4.symm, rfl⟩, rfl⟩, rfl⟩
  · intro h
    exact ⟨h.1.1.1.symm, h.1.1.2.1.symm, h.1.1.2.2.1.symm, h.1.1.2.2.2.1.symm⟩
theorem take_snocV (ps : List PKV) (k : Nat) (hk : k < ps.length) : ps.take (k + 1) = ps.take k ++ [ps.getD k .dflt] := by
  rw [List.take_succ_eq_append_getElem hk]
  simp [List.getD_eq_getElem?_getD, List.getElem?_eq_getElem hk]

set_option maxHeartbeats 4000000 in
theorem alike18_any (a : Option Addr) (n c : Nat) (ps : List PKV) (w : World) (ht : Tab w) (h : PksAt w a n ps) (h0 : 0 < n) (hn : n ≤ 1048576) :
    Calls Tryz.prog 49 #[.slice a n c] w fun e w' => e = .returned (.bool (allK ps)) ∧ Below w.heap.size w w' := by
  obtain rfl := h.1
  obtain ⟨b, off, rfl, hcl⟩ := h.at h0
  obtain ⟨c0, c1, c2, c3, c4, c5, c6⟩ := hcl 0 h0
  simp only [Nat.zero_mul, Nat.add_zero] at c0 c1 c2 c3 c4 c5 c6
  have h0' : (0 : Int) < (ps.length : Int) := by omega
  have Hh := hide h
  have HT := hide ht
  unfold allK
  generalize ps.getD 0 .dflt = q at *
  have HBR := hide (bare_any q.o q.l q.k q.z q.h q.r.a q.r.n q.r.c q.r.s w)
  clear h hcl ht
  go_enter Tryz.func49, Tryz.ntmps49
  go_wp2_with (go_at_call 53; refine (unhide HBR).mono ?_; rintro e w1 ⟨rfl, hb1⟩; have HB1 := hide hb1; clear hb1)
  have hpk := pkb_new w1 (.int .i64 q.o) (.int .i64 q.l) (.int .i64 q.k) (.int .i64 q.z) (.int .i64 0) (.slice none 0 0) (.string ⟨#[]⟩)
  have hb2 : Below w1.heap.size w1 (w1.alloc (.cells #[.int .i64 q.o, .int .i64 q.l, .int .i64 q.k, .int .i64 q.z, .int .i64 0, .slice none 0 0, .string ⟨#[]⟩] 42)) := (Below.refl _ _).alloc (Nat.le_refl _) _
  generalize hW : w1.alloc (.cells #[.int .i64 q.o, .int .i64 q.l, .int .i64 q.k, .int .i64 q.z, .int .i64 0, .slice none 0 0, .string ⟨#[]⟩] 42) = W at *
  have HPK := hide hpk
  have HBW := hide (below0 (unhide HB1) hb2)
  clear hpk hb2 hW HB1 HBR c0 c1 c2 c3 c4 c5 c6
  go_loopw [12] (fun i wr => ∃ m : Nat, m ≤ ps.length ∧ i = .int .i64 m ∧ Hid (∀ p ∈ ps.take m, alkD q.pd p.pd = true) ∧ Hid (Below W.heap.size W wr)) (fun i _ => ps.length - (intOf i).toNat)
  case atStart => exact ⟨0, Nat.zero_le _, rfl, hide (fun p hp => by rw [List.take_zero] at hp; cases hp), hide (Below.refl _ _)⟩
  case round =>
    obtain ⟨m, hm, rfl, HA, HB⟩ := hrel
    by_cases hlt : m < ps.length
    · have hbw := (unhide HBW).trans ((unhide HB).mono (unhide HBW).size)
      obtain ⟨b', off', e, hcl⟩ := ((unhide Hh).below hbw).at hlt
      simp only [Option.some.injEq, Addr.mk.injEq, and_true] at e
      obtain ⟨rfl, rfl⟩ := e
      obtain ⟨c0, c1, c2, c3, c4, c5, c6⟩ := hcl m hlt
      have hlt' : (m : Int) < (ps.length : Int) := by omega
      have HTK := hide (take_snocV ps m hlt)
      have HMM := hide (show ps.getD m .dflt ∈ ps from by rw [List.getD_eq_getElem?_getD, List.getElem?_eq_getElem hlt]; exact List.getElem_mem hlt)
      clear hcl
      generalize ps.getD m .dflt = p at *
      have hpp := pkb_new wr (.int .i64 p.o) (.int .i64 p.l) (.int .i64 p.k) (.int .i64 p.z) (.int .i64 p.h) (.slice p.r.a p.r.n p.r.c) (.string p.r.s)
      have hb3 : Below wr.heap.size wr (wr.alloc (.cells #[.int .i64 p.o, .int .i64 p.l, .int .i64 p.k, .int .i64 p.z, .int .i64 p.h, .slice p.r.a p.r.n p.r.c, .string p.r.s] 42)) := (Below.refl _ _).alloc (Nat.le_refl _) _
      have hqq := ((unhide HPK).below (unhide HB)).below hb3
      generalize hW2 : wr.alloc (.cells #[.int .i64 p.o, .int .i64 p.l, .int .i64 p.k, .int .i64 p.z, .int .i64 p.h, .slice p.r.a p.r.n p.r.c, .string p.r.s] 42) = w2 at *
      have htw := (unhide HT).below (below0 hbw hb3)
      have cB := quietB (W := w2) (fun w' hbx => bare_any p.o p.l p.k p.z p.h p.r.a p.r.n p.r.c p.r.s w')
      have cS := quietB (W := w2) (fun w' hbx => psame_any p.o p.l p.k p.z 0 none 0 0 [] ⟨#[]⟩ q.o q.l q.k q.z 0 none 0 0 [] ⟨#[]⟩ w' (htw.below hbx) (row_none _) (row_none _) (by omega) (by omega) (alkD q.pd p.pd) (bare_same q p))
      obtain ⟨x0, x1, x2, x3, x4, x5, x6⟩ := hpp.at
      obtain ⟨y0, y1, y2, y3, y4, y5, y6⟩ := hqq.at
      have k0 := cell_regrown x0
      have k1 := cell_regrown x1
      have k2 := cell_regrown x2
      have k3 := cell_regrown x3
      have k4 := cell_regrown x4
      have k5 := cell_regrown x5
      have k6 := cell_regrown x6
      have l0 := cell_regrown y0
      have l1 := cell_regrown y1
      have l2 := cell_regrown y2
      have l3 := cell_regrown y3
      have l4 := cell_regrown y4
      have l5 := cell_regrown y5
      have l6 := cell_regrown y6
      have HB3 := hide (below0 (unhide HB) hb3)
      clear hpp hqq hb3 htw hbw x0 x1 x2 x3 x4 x5 x6 y0 y1 y2 y3 y4 y5 y6
      cases hv : alkD q.pd p.pd
      · rw [hv] at cS
        have HE : Hid ((ps.all fun p => alkD q.pd p.pd) = false) := hide (by rw [List.all_eq_false]; exact ⟨p, unhide HMM, by rw [hv]; decide⟩)
        clear HTK HMM HA hv
        go_wp2_with fail
        refine wp_region_quiet_below (by kernel_rfl) (by kernel_rfl) ?_
        repeat (with_reducible refine wpQuiet_step (fun K hK => ?_); go_simp; first | (with_reducible refine hK _ ?_; clear hK K) | (apply Exists.intro; apply And.intro; (intro _; first | (go_at_call 53; exact cB _ _) | (go_at_call 69; exact cS _ _)); with_reducible refine hK _ ?_; clear hK K))
        refine wpQuiet_nil ?_
        intro _ hw'
        obtain ⟨⟨dq, osq⟩, hw''⟩ := hw'
        subst hw''
        have HBR := hide (below0 (unhide HB3) (below_regrown w2 dq osq))
        clear cB cS k0 k1 k2 k3 k4 k5 k6 l0 l1 l2 l3 l4 l5 l6
        generalize grow (redrawn w2 dq) osq = w3 at *
        go_wp2
        go_ret
        exact ⟨by rw [unhide HE]; rfl, (unhide HBW).trans ((unhide HBR).mono (unhide HBW).size)⟩
      · rw [hv] at cS
        have HE : Hid (∀ p ∈ ps.take (m + 1), alkD q.pd p.pd = true) := hide (fun x hx => by
          rw [unhide HTK, List.mem_append, List.mem_singleton] at hx
          rcases hx with hx | rfl
          · exact unhide HA x hx
          · exact hv)
        clear HTK HMM HA hv
        go_wp2_with fail
        refine wp_region_quiet_below (by kernel_rfl) (by kernel_rfl) ?_
        repeat (with_reducible refine wpQuiet_step (fun K hK => ?_); go_simp; first | (with_reducible refine hK _ ?_; clear hK K) | (apply Exists.intro; apply And.intro; (intro _; first | (go_at_call 53; exact cB _ _) | (go_at_call 69; exact cS _ _)); with_reducible refine hK _ ?_; clear hK K))
        refine wpQuiet_nil ?_
        intro _ hw'
        obtain ⟨⟨dq, osq⟩, hw''⟩ := hw'
        subst hw''
        have HBR := hide (below0 (unhide HB3) (below_regrown w2 dq osq))
        clear cB cS k0 k1 k2 k3 k4 k5 k6 l0 l1 l2 l3 l4 l5 l6
        generalize grow (redrawn w2 dq) osq = w3 at *
        go_wp2
        go_roundw
        case rel => exact ⟨m + 1, by omega, by go_num, HE, HBR⟩
        case measure => simp [intOf]; omega
    · have hke : ps.take m = ps := List.take_of_length_le (by omega)
      rw [hke] at HA
      have HE : Hid ((ps.all fun p => alkD q.pd p.pd) = true) := hide (List.all_eq_true.2 (unhide HA))
      go_wp2
      go_ret
      exact ⟨by rw [unhide HE]; rfl, (unhide HBW).trans ((unhide HB).mono (unhide HBW).size)⟩

/-- The greatest of the hops of the first m, from the first one's on. -/
def hopT (ps : List PKV) (m : Nat) : Int := (ps.take m).foldl (fun a p => max a p.h) (ps.getD 0 .dflt).h
theorem hopT_succ {ps : List PKV} {m : Nat} (h : m < ps.length) : hopT ps (m + 1) = max (hopT ps m) (ps.getD m .dflt).h := by
  unfold hopT
  rw [take_snocV ps m h, List.foldl_append]
  rfl
theorem hopT_all {ps : List PKV} (h : 0 < ps.length) : hopT ps ps.length = hopX (ps.map PKV.pd) := by
  cases ps with
  | nil => simp at h
  | cons p Q =>
    unfold hopT
    rw [List.take_length]
    show (p :: Q).foldl _ p.h = (Q.map PKV.pd).foldl _ p.h
    rw [List.foldl_cons, List.foldl_map, Int.max_self]
    rfl
set_option maxHeartbeats 4000000 in
theorem farthest_any (a : Option Addr) (n c : Nat) (ps : List PKV) (w : World) (h : PksAt w a n ps) (h0 : 0 < n) (hn : n ≤ 1048576) :
    Calls Tryz.prog 50 #[.slice a n c] w fun e w' => e = .returned (.int .i64 (hopX (ps.map PKV.pd))) ∧ Below w.heap.size w w' := by
  obtain rfl := h.1
  obtain ⟨b, off, rfl, hcl⟩ := h.at h0
  obtain ⟨c0, c1, c2, c3, c4, c5, c6⟩ := hcl 0 h0
  simp only [Nat.zero_mul, Nat.add_zero] at c0 c1 c2 c3 c4 c5 c6
  have h0' : (0 : Int) < (ps.length : Int) := by omega
  have Hh := hide h
  have HE := hide (hopT_all h0)
  have HH0 := hide (show (ps.getD 0 .dflt).h = hopT ps 0 from rfl)
  have hmax := max_runZ
  generalize ps.getD 0 .dflt = q at *
  clear h hcl
  go_enter Tryz.func50, Tryz.ntmps50
  go_wp2
  go_loopw [3, 12] (fun hv i wr => ∃ m : Nat, m ≤ ps.length ∧ i = .int .i64 m ∧ hv = .int .i64 (hopT ps m) ∧ Hid (Below w.heap.size w wr)) (fun _ i _ => ps.length - (intOf i).toNat)
  case atStart => exact ⟨0, Nat.zero_le _, rfl, by rw [unhide HH0], hide (Below.refl _ _)⟩
  case round =>
    obtain ⟨m, hm, rfl, rfl, HB⟩ := hrel
    clear c0 c1 c2 c3 c4 c5 c6 HH0
    by_cases hlt : m < ps.length
    · obtain ⟨b', off', e, hcl⟩ := ((unhide Hh).below (unhide HB)).at hlt
      simp only [Option.some.injEq, Addr.mk.injEq, and_true] at e
      obtain ⟨rfl, rfl⟩ := e
      obtain ⟨c0, c1, c2, c3, c4, c5, c6⟩ := hcl m hlt
      have hlt' : (m : Int) < (ps.length : Int) := by omega
      have HS := hide (hopT_succ hlt)
      clear hcl
      generalize ps.getD m .dflt = p at *
      have HB3 := hide (show Below w.heap.size w (wr.alloc (.cells #[.int .i64 p.o, .int .i64 p.l, .int .i64 p.k, .int .i64 p.z, .int .i64 p.h, .slice p.r.a p.r.n p.r.c, .string p.r.s] 42)) from below0 (unhide HB) ((Below.refl _ _).alloc (Nat.le_refl _) _))
      go_wp2
      go_roundw
      case rel => exact ⟨m + 1, by omega, by go_num, by rw [unhide HS], HB3⟩
      case measure => simp [intOf]; omega
    · obtain rfl : m = ps.length := by omega
      rw [unhide HE]
      go_wp2
      go_ret
      exact ⟨rfl, unhide HB⟩
end Go.Proofs.YtbcgiodgobmkaaaGreatDoor
