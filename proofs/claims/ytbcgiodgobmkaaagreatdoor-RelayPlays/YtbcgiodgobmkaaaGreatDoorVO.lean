/-
  Contracts of bucketlineref07.Rows and bucketlineref18.Mix. Conditions: at most 300 packets whose rows have at most 10 words and 1000 bytes, at most 300 places.
-/
import Derived.Test.YtbcgiodgobmkaaaGreatDoorVN
import Derived.Test.YtbcgiodgobmkaaaGreatDoorU23
namespace Go.Proofs.YtbcgiodgobmkaaaGreatDoor
open Go.RowKit Go.Sort
set_option linter.unusedVariables false
set_option linter.unusedSimpArgs false
set_option maxRecDepth 4000

theorem rowsK_take {ps : List PKV} {k : Nat} (hk : k < ps.length) : rowsK (ps.take (k + 1)) = rowsK (ps.take k) ++ [(ps.getD k .dflt).r] := by
  rw [take_snocV ps k hk]
  unfold rowsK
  rw [List.map_append]
  rfl
set_option maxHeartbeats 2000000 in
theorem rrows_any (a : Option Addr) (n c : Nat) (ps : List PKV) (w : World) (h : PksAt w a n ps) (hn : n ≤ 1048576) :
    Calls Tryz.prog 32 #[.slice a n c] w fun e w' => ∃ v, e = .returned v ∧ OwnS w' w.heap.size v (rowsK ps) ∧ Below w.heap.size w w' := by
  obtain rfl := h.1
  have Hh := hide h
  clear h
  go_enter Tryz.func32, Tryz.ntmps32
  go_wp2
  go_loopw [3, 4] (fun o i wr => ∃ k : Nat, ∃ a1 : Option Addr, ∃ m1 c1 : Nat, k ≤ ps.length ∧ i = .int .i64 k ∧ o = .slice a1 m1 c1 ∧ Hid (OwnS wr w.heap.size (.slice a1 m1 c1) (rowsK (ps.take k)) ∧ Below w.heap.size w wr)) (fun _ i _ => ps.length - (intOf i).toNat)
  case atStart => exact ⟨0, none, 0, 0, Nat.zero_le _, rfl, rfl, hide ⟨OwnS.nil _ _, Below.refl _ _⟩⟩
  case round =>
    obtain ⟨k, a1, m1, c1, hk, rfl, rfl, HT⟩ := hrel
    by_cases hlt : k < ps.length
    · obtain ⟨b, off, rfl, hcl⟩ := ((unhide Hh).below (unhide HT).2).at hlt
      obtain ⟨c0, c1', c2, c3, c4, c5, c6⟩ := hcl k hlt
      have hlt' : (k : Int) < (ps.length : Int) := by omega
      have HE := hide (rowsK_take hlt)
      have hlen : (rowsK (ps.take k)).length ≤ 1048576 := by rw [rowsK_len]; have := List.length_take_le k ps; omega
      clear hcl
      generalize ps.getD k .dflt = p at *
      generalize rowsK (ps.take k) = us at *
      go_wp2_with (first | (at_builtin; refine wpList_pushS rfl (.tmp 11) (.tmp 17) rfl w.heap.size (.slice a1 m1 c1) us p.r rfl rfl (unhide HT).1 (unhide HT).2.size hlen ?_; intro v4 w4 ho4 hg4 hb4; obtain ⟨a4, m4, c4, rfl⟩ : ∃ a m c, v4 = Value.slice a m c := ⟨_, _, _, ho4.shape.choose_spec.choose_spec⟩; have HT4 := hide (And.intro ho4 ((unhide HT).2.trans hb4)); clear ho4 hg4 hb4))
      go_roundw
      case rel => exact ⟨k + 1, a4, m4, c4, by omega, by go_num, rfl, hide (by rw [unhide HE]; exact unhide HT4)⟩
      case measure => simp [intOf]; omega
    · have hke : ps.take k = ps := List.take_of_length_le (by omega)
      rw [hke] at HT
      go_wp2
      go_ret
      exact ⟨_, rfl, (unhide HT).1, (unhide HT).2⟩

theorem rmix_res {X : World} {tmps : Array Value} {g : Nat} {o l k z h : Int} {a : Option Addr} {n c : Nat} {s : ByteArray} {b : Bool} (ht : tmps.getD 4 undef = .pointer (some ⟨g, 0, none⟩)) (h5 : tmps.getD 5 undef = .bool b) (hk : PkB X g (.int .i64 o) (.int .i64 l) (.int .i64 k) (.int .i64 z) (.int .i64 h) (.slice a n c) (.string s)) :
    (results Tryz.f30 tmps).run Tryz.prog X = .ok (.tuple #[.agg #[.int .i64 o, .int .i64 l, .int .i64 k, .int .i64 z, .int .i64 h, .slice a n c, .string s], .bool b]) X := by
  obtain ⟨r0, r1, r2, r3, r4, r5, r6⟩ := hk.at
  have ht' : tmps[4]?.getD undef = .pointer (some ⟨g, 0, none⟩) := by simpa using ht
  have h5' : tmps[5]?.getD undef = .bool b := by simpa using h5
  simp [results, Tryz.results30, go_sem, ht', h5', r0, r1, r2, r3, r4, r5, r6]
theorem PkB.out7 {w : World} {g g' : Nat} {v0 v1 v2 v3 v4 v5 v6 : Value} (h : PkB w g v0 v1 v2 v3 v4 v5 v6) (hg : g ≠ g') (u0 u1 u2 u3 u4 u5 u6 : Value) : PkB (set7 w g' u0 u1 u2 u3 u4 u5 u6) g v0 v1 v2 v3 v4 v5 v6 :=
  ((((((h.other (a := ⟨g', 0, none⟩) hg u0).other (a := ⟨g', 1, none⟩) hg u1).other (a := ⟨g', 2, none⟩) hg u2).other (a := ⟨g', 3, none⟩) hg u3).other (a := ⟨g', 4, none⟩) hg u4).other (a := ⟨g', 5, none⟩) hg u5).other (a := ⟨g', 6, none⟩) hg u6
theorem hop_snoc (q : PKV) (Q : List PKV) (p : PKV) : hopX (((q :: Q) ++ [p]).map PKV.pd) = max (hopX ((q :: Q).map PKV.pd)) p.h := by
  rw [List.map_append, List.map_cons, List.map_cons, List.map_nil, List.cons_append]
  show (Q.map PKV.pd ++ [p.pd]).foldl _ _ = _
  rw [List.foldl_append]
  rfl
/-- What the reference's packet holds of those that are there so far. -/
def RmS (wr : World) (g : Nat) (l : List PKV) (b : Bool) : Prop :=
  (l = [] ∧ b = false ∧ PkB wr g (.int .i64 0) (.int .i64 0) (.int .i64 0) (.int .i64 0) (.int .i64 0) (.slice none 0 0) (.string ⟨#[]⟩)) ∨
  ∃ (q : PKV) (Q : List PKV), l = q :: Q ∧ b = true ∧ (∀ p ∈ Q, alkD q.pd p.pd = true) ∧ PkB wr g (.int .i64 q.o) (.int .i64 q.l) (.int .i64 q.k) (.int .i64 q.z) (.int .i64 (hopX ((q :: Q).map PKV.pd))) (.slice none 0 0) (.string ⟨#[]⟩)
theorem RmS.none {wr : World} {g : Nat} (h : PkB wr g (.int .i64 0) (.int .i64 0) (.int .i64 0) (.int .i64 0) (.int .i64 0) (.slice Option.none 0 0) (.string ⟨#[]⟩)) : RmS wr g [] false := .inl ⟨rfl, rfl, h⟩
theorem RmS.some {wr : World} {g : Nat} (q : PKV) (Q : List PKV) (h1 : ∀ p ∈ Q, alkD q.pd p.pd = true) (h2 : PkB wr g (.int .i64 q.o) (.int .i64 q.l) (.int .i64 q.k) (.int .i64 q.z) (.int .i64 (hopX ((q :: Q).map PKV.pd))) (.slice Option.none 0 0) (.string ⟨#[]⟩)) : RmS wr g (q :: Q) true := .inr ⟨q, Q, rfl, rfl, h1, h2⟩
/-- Where one is not alike there is none. -/
theorem mix_not {q p : PKV} {Q R : List PKV} (h : alkD q.pd p.pd = false) : mixL (((q :: Q) ++ [p] ++ R).map PKV.pd) = none := by
  rw [mix_case (by simp), if_neg]
  rintro ⟨h1, _⟩
  unfold allK at h1
  rw [List.all_eq_true] at h1
  have h2 := h1 p (by simp)
  rw [show ((q :: Q) ++ [p] ++ R).getD 0 .dflt = q from rfl, h] at h2
  cases h2
theorem sel_split {α : Type} {dd : α} (l : List α) (ws : List Int) (k : Nat) : selL dd l ws = selL dd l (ws.take k) ++ selL dd l (ws.drop k) := by
  unfold selL
  rw [← List.filterMap_append, List.take_append_drop]

set_option maxHeartbeats 16000000 in
theorem rmix18_any (a : Option Addr) (n c : Nat) (ps : List PKV) (a' : Option Addr) (m c' : Nat) (ws : List Int) (w : World) (h : PksAt w a n ps) (hk : KsIn w ps) (hs : shortP ps) (hw : IntzAt w a' m ws) (hn : n ≤ 300) (hm : m ≤ 300) :
    Calls Tryz.prog 30 #[.slice a n c, .slice a' m c'] w fun e w' => MixR w w' (mixD (ps.map PKV.pd) ws) e := by
  obtain rfl := h.1
  obtain rfl := hw.1
  have hb0 : Below w.heap.size w ((w.alloc (.cells #[.int .i64 0, .int .i64 0, .int .i64 0, .int .i64 0, .int .i64 0, .slice none 0 0, .string ⟨#[]⟩] 42)).alloc (.cells #[.int .i64 0, .int .i64 0, .int .i64 0, .int .i64 0, .int .i64 0, .slice none 0 0, .string ⟨#[]⟩] 42)) := below2 (Below.refl _ w) (Below.refl _ _)
  have hz := (pkb_new w (.int .i64 0) (.int .i64 0) (.int .i64 0) (.int .i64 0) (.int .i64 0) (.slice none 0 0) (.string ⟨#[]⟩)).below ((Below.refl _ _).alloc (Nat.le_refl _) (.cells #[.int .i64 0, .int .i64 0, .int .i64 0, .int .i64 0, .int .i64 0, .slice none 0 0, .string ⟨#[]⟩] 42))
  have hg := pkb_new (w.alloc (.cells #[.int .i64 0, .int .i64 0, .int .i64 0, .int .i64 0, .int .i64 0, .slice none 0 0, .string ⟨#[]⟩] 42)) (.int .i64 0) (.int .i64 0) (.int .i64 0) (.int .i64 0) (.int .i64 0) (.slice none 0 0) (.string ⟨#[]⟩)
  rw [alloc_size] at hg
  have hsz : ((w.alloc (.cells #[.int .i64 0, .int .i64 0, .int .i64 0, .int .i64 0, .int .i64 0, .slice none 0 0, .string ⟨#[]⟩] 42)).alloc (.cells #[.int .i64 0, .int .i64 0, .int .i64 0, .int .i64 0, .int .i64 0, .slice none 0 0, .string ⟨#[]⟩] 42)).heap.size = w.heap.size + 2 := by rw [alloc_size, alloc_size]
  have hmix : mixD (ps.map PKV.pd) ws = mixL ((selL .dflt ps ws).map PKV.pd) := by rw [selL_map]; rfl
  have hsub : ∀ p ∈ selL .dflt ps ws, p ∈ ps := fun p hp => selL_mem hp
  have hsh : ∀ p ∈ ps, p.r.n ≤ 10 ∧ p.r.s.size ≤ 1000 := fun p hp => shortP_mem hs hp
  have hse : selL .dflt (rowsK ps) ws = rowsK (selL .dflt ps ws) := by unfold rowsK; exact (selL_map (dd := PKV.dflt) PKV.r ps ws).symm
  have hmc := mix_case (us := selL .dflt ps ws)
  have hvl : (vecL (rowsK (selL .dflt ps ws))).length ≤ 10 := vecs_short (KsIn.rows (hk.sub hsub)) (shortP_rows fun p hp => hsh p (hsub p hp))
  generalize hWW : (w.alloc (.cells #[.int .i64 0, .int .i64 0, .int .i64 0, .int .i64 0, .int .i64 0, .slice none 0 0, .string ⟨#[]⟩] 42)).alloc (.cells #[.int .i64 0, .int .i64 0, .int .i64 0, .int .i64 0, .int .i64 0, .slice none 0 0, .string ⟨#[]⟩] 42) = W at *
  have HP := hide h
  have HK := hide hk
  have HW := hide hw
  have HZ := hide hz
  have HST := hide (RmS.none hg)
  have HB0 := hide hb0
  have HSZ := hide hsz
  have HSR := hide (shortP_rows hsh)
  have hmaxr := max_runZ
  rw [hmix]
  have HWW := hide hWW
  have HSEQ := hide hse
  have HVL := hide hvl
  have HMC := hide hmc
  clear hse hvl hmc
  clear h hk hs hw hb0 hz hg hsz hsub hsh hmix hWW
  go_enter Tryz.func30, Tryz.ntmps30
  go_wp2
  rw [unhide HWW]
  clear HWW
  go_loopw [7, 8] (fun th i wr => ∃ k : Nat, ∃ b : Bool, k ≤ ws.length ∧ i = .int .i64 k ∧ th = .bool b ∧ Hid (RmS wr (w.heap.size + 1) (selL .dflt ps (ws.take k)) b) ∧ Hid (PkB wr w.heap.size (.int .i64 0) (.int .i64 0) (.int .i64 0) (.int .i64 0) (.int .i64 0) (.slice none 0 0) (.string ⟨#[]⟩)) ∧ Hid (Below w.heap.size w wr) ∧ Hid (W.heap.size ≤ wr.heap.size)) (fun _ i _ => ws.length - (intOf i).toNat)
  case atStart => exact ⟨0, false, Nat.zero_le _, rfl, rfl, HST, HZ, HB0, hide (Nat.le_refl _)⟩
  case round =>
    obtain ⟨k, th, hk, rfl, rfl, HS, HZR, HBR, HLR⟩ := hrel
    clear HST HZ
    by_cases hlt : k < ws.length
    · obtain ⟨b, off, rfl, hcl⟩ := ((unhide HW).below (unhide HBR)).at hlt
      have hcell := hcl k hlt
      have hlt' : (k : Int) < (ws.length : Int) := by omega
      have HN := hide (sel_take (dd := .dflt) ps ws k hlt)
      have HSS := hide (sel_split (dd := .dflt) ps ws (k + 1))
      generalize ws.getD k 0 = i at *
      clear hcl
      by_cases h0 : 0 ≤ i
      · by_cases h1 : i < (ps.length : Int)
        · obtain ⟨j, rfl⟩ : ∃ j : Nat, i = (j : Int) := ⟨i.toNat, by omega⟩
          have hj : j < ps.length := by omega
          obtain ⟨b2, off2, rfl, hcl2⟩ := ((unhide HP).below (unhide HBR)).at hj
          obtain ⟨c0, c1, c2, c3, c4, c5, c6⟩ := hcl2 j hj
          have HE := hide (show selL .dflt ps (ws.take (k + 1)) = selL .dflt ps (ws.take k) ++ [ps.getD j .dflt] from by rw [unhide HN, if_pos ⟨h0, h1⟩]; rfl)
          have hi0 : ¬ ((j : Int) < 0) := by omega
          have hi1 : ¬ ((ps.length : Int) ≤ (j : Int)) := by omega
          clear HN hcl2
          generalize ps.getD j .dflt = p at *
          have hpp := pkb_new wr (.int .i64 p.o) (.int .i64 p.l) (.int .i64 p.k) (.int .i64 p.z) (.int .i64 p.h) (.slice p.r.a p.r.n p.r.c) (.string p.r.s)
          have hb3 : Below wr.heap.size wr (wr.alloc (.cells #[.int .i64 p.o, .int .i64 p.l, .int .i64 p.k, .int .i64 p.z, .int .i64 p.h, .slice p.r.a p.r.n p.r.c, .string p.r.s] 42)) := (Below.refl _ _).alloc (Nat.le_refl _) _
          have hgr : w.heap.size + 1 ≠ wr.heap.size ∧ wr.heap.size ≠ w.heap.size + 1 ∧ w.heap.size ≠ w.heap.size + 1 := by have h5 := unhide HSZ; have h6 := unhide HLR; omega
          have hz3 := (unhide HZR).below hb3
          have HB3 := hide (below0 (unhide HBR) hb3)
          have HLE := hide (show W.heap.size ≤ (wr.alloc (.cells #[.int .i64 p.o, .int .i64 p.l, .int .i64 p.k, .int .i64 p.z, .int .i64 p.h, .slice p.r.a p.r.n p.r.c, .string p.r.s] 42)).heap.size from Nat.le_trans (unhide HLR) hb3.size)
          obtain ⟨x0, x1, x2, x3, x4, x5, x6⟩ := hpp.at
          have hS := unhide HS
          clear HS
          generalize selL .dflt ps (ws.take k) = Q at *
          rcases hS with ⟨rfl, rfl, hgz⟩ | ⟨q, Q', rfl, rfl, hal, hgq⟩
          ·
            have hg3 := hgz.below hb3
            have HWW := hide (rfl : wr.alloc (.cells #[.int .i64 p.o, .int .i64 p.l, .int .i64 p.k, .int .i64 p.z, .int .i64 p.h, .slice p.r.a p.r.n p.r.c, .string p.r.s] 42) = wr.alloc (.cells #[.int .i64 p.o, .int .i64 p.l, .int .i64 p.k, .int .i64 p.z, .int .i64 p.h, .slice p.r.a p.r.n p.r.c, .string p.r.s] 42))
            clear HWW
            generalize hw3 : wr.alloc (.cells #[.int .i64 p.o, .int .i64 p.l, .int .i64 p.k, .int .i64 p.z, .int .i64 p.h, .slice p.r.a p.r.n p.r.c, .string p.r.s] 42) = w3 at *
            obtain ⟨y0, y1, y2, y3, y4, y5, y6⟩ := hg3.at
            have gz := hg3.frz
            have hA := hg3.sets (.int .i64 p.o) (.int .i64 p.l) (.int .i64 p.k) (.int .i64 p.z) (.int .i64 p.h) (.slice none 0 0) (.string ⟨#[]⟩)
            have hAp := hpp.out7 (g' := w.heap.size + 1) hgr.2.1 (.int .i64 p.o) (.int .i64 p.l) (.int .i64 p.k) (.int .i64 p.z) (.int .i64 p.h) (.slice none 0 0) (.string ⟨#[]⟩)
            have hAz := hz3.out7 (g' := w.heap.size + 1) hgr.2.2 (.int .i64 p.o) (.int .i64 p.l) (.int .i64 p.k) (.int .i64 p.z) (.int .i64 p.h) (.slice none 0 0) (.string ⟨#[]⟩)
            have hB4 := below7 (g := w.heap.size + 1) (unhide HB3) (Nat.le_succ _) (.int .i64 p.o) (.int .i64 p.l) (.int .i64 p.k) (.int .i64 p.z) (.int .i64 p.h) (.slice none 0 0) (.string ⟨#[]⟩)
            have hL4 : W.heap.size ≤ (set7 w3 (w.heap.size + 1) (.int .i64 p.o) (.int .i64 p.l) (.int .i64 p.k) (.int .i64 p.z) (.int .i64 p.h) (.slice none 0 0) (.string ⟨#[]⟩)).heap.size := by unfold set7; simp only [World.size_setCell]; exact unhide HLE
            have r4 := hA.at.2.2.2.2.1
            have rf := hA.frz 4
            have rp := hAp.at.2.2.2.2.1
            have HA4 := hide (hA.set4 (.int .i64 p.h))
            have HZ4 := hide (hAz.other (a := ⟨w.heap.size + 1, 4, none⟩) hgr.2.2 (.int .i64 p.h))
            have HB4 := hide (hB4.setCell (p := ⟨w.heap.size + 1, 4, none⟩) (Nat.le_succ _) (.int .i64 p.h))
            have HL4 := hide hL4
            unfold set7 at r4 rf rp
            clear hA hAp hAz hB4 hL4 hpp hb3 hz3 hg3 hgz
            go_wp2
            go_roundw
            case rel =>
              refine ⟨k + 1, true, by omega, by go_num, rfl, hide ?_, HZ4, HB4, hide (by rw [World.size_setCell]; exact unhide HL4)⟩
              rw [unhide HE]
              refine RmS.some p [] (fun x hx => by cases hx) ?_
              exact unhide HA4
            case measure => simp [intOf]; omega
          ·
            have hg3 := hgq.below hb3
            have HAK := hide (fun wx => ralike_any q.o q.l q.k q.z (hopX ((q :: Q').map PKV.pd)) none 0 0 ⟨#[]⟩ p.o p.l p.k p.z p.h p.r.a p.r.n p.r.c p.r.s wx (alkD q.pd p.pd) (by unfold TB alkD; rw [decide_eq_true_iff]; rfl))
            have HHS := hide (hop_snoc q Q' p)
            generalize hw3 : wr.alloc (.cells #[.int .i64 p.o, .int .i64 p.l, .int .i64 p.k, .int .i64 p.z, .int .i64 p.h, .slice p.r.a p.r.n p.r.c, .string p.r.s] 42) = w3 at *
            generalize hopX ((q :: Q').map PKV.pd) = HO at *
            obtain ⟨y0, y1, y2, y3, y4, y5, y6⟩ := hg3.at
            cases hv : alkD q.pd p.pd
            · rw [hv] at HAK
              have HNO : Hid (mixL ((selL .dflt ps ws).map PKV.pd) = none) := hide (by rw [unhide HSS, unhide HE]; exact mix_not hv)
              have HQZ := hide (fun wx (hbx : Below w3.heap.size w3 wx) => hz3.below hbx)
              clear hpp hb3 hz3 hg3 hgq HHS hv
              go_wp2_with (first | (go_at_call 33; refine (unhide HAK w3).mono ?_; rintro e w4 ⟨rfl, hb4⟩; have hz4 := unhide HQZ w4 hb4; obtain ⟨q0, q1, q2, q3, q4, q5, q6⟩ := hz4.at; have gz := hz4.frz; have HZ4 := hide hz4; have HB4 := hide (below0 (unhide HB3) hb4); clear hb4 hz4))
              exact bodyPost_ret (rmix_res (g := w.heap.size) (X := set7 w4 w.heap.size (.int .i64 0) (.int .i64 0) (.int .i64 0) (.int .i64 0) (.int .i64 0) (.slice none 0 0) (.string ⟨#[]⟩)) rfl rfl ((unhide HZ4).sets _ _ _ _ _ _ _)) rfl (MixR.no (unhide HNO) (below7 (unhide HB4) (Nat.le_refl _) _ _ _ _ _ _ _))
            · rw [hv] at HAK
              have HQZ := hide (fun wx (hbx : Below w3.heap.size w3 wx) => show _ ∧ _ ∧ _ from ⟨hz3.below hbx, hg3.below hbx, hpp.below hbx⟩)
              have HAL := hide hal
              clear hpp hb3 hz3 hg3 hgq hal
              go_wp2_with (first | (go_at_call 33; refine (unhide HAK w3).mono ?_; rintro e w4 ⟨rfl, hb4⟩; obtain ⟨hz4, hg4, hp4⟩ := unhide HQZ w4 hb4; have q4 := hg4.at.2.2.2.2.1; have r4 := hp4.at.2.2.2.2.1; have gf := hg4.frz 4; have HZ4 := hide (hz4.other (a := ⟨w.heap.size + 1, 4, none⟩) hgr.2.2 (.int .i64 (max HO p.h))); have HG4 := hide (hg4.set4 (.int .i64 (max HO p.h))); have HB4 := hide ((below0 (unhide HB3) hb4).setCell (p := ⟨w.heap.size + 1, 4, none⟩) (Nat.le_succ _) (.int .i64 (max HO p.h))); have HL4 := hide (Nat.le_trans (unhide HLE) hb4.size); clear hb4 hz4 hg4 hp4))
              go_roundw
              case rel =>
                refine ⟨k + 1, true, by omega, by go_num, rfl, hide ?_, HZ4, HB4, hide (by rw [World.size_setCell]; exact unhide HL4)⟩
                rw [unhide HE]
                refine RmS.some q (Q' ++ [p]) (fun x hx => ?_) ?_
                · rcases List.mem_append.1 hx with hx | hx
                  · exact unhide HAL x hx
                  · rw [List.mem_singleton.1 hx]; exact hv
                · have h5 : hopX ((q :: (Q' ++ [p])).map PKV.pd) = max HO p.h := unhide HHS
                  rw [h5]
                  exact unhide HG4
              case measure => simp [intOf]; omega
        · have HE := hide (show selL .dflt ps (ws.take (k + 1)) = selL .dflt ps (ws.take k) from by rw [unhide HN, if_neg (fun e => h1 e.2)])
          have hi0 : ¬ (i < 0) := by omega
          have hi1 : (ps.length : Int) ≤ i := by omega
          clear HN
          go_wp2
          go_roundw
          case rel => exact ⟨k + 1, th, by omega, by go_num, rfl, hide (by rw [unhide HE]; exact unhide HS), HZR, HBR, HLR⟩
          case measure => simp [intOf]; omega
      · have HE := hide (show selL .dflt ps (ws.take (k + 1)) = selL .dflt ps (ws.take k) from by rw [unhide HN, if_neg (fun e => h0 e.1)])
        have hi0 : i < 0 := by omega
        clear HN
        go_wp2
        go_roundw
        case rel => exact ⟨k + 1, th, by omega, by go_num, rfl, hide (by rw [unhide HE]; exact unhide HS), HZR, HBR, HLR⟩
        case measure => simp [intOf]; omega
    · have hke : ws.take k = ws := List.take_of_length_le (by omega)
      rw [hke] at HS
      have HRI := hide (fun wx (hbx : Below wr.heap.size wr wx) => (KsIn.rows ((unhide HK).below (unhide HBR))).below hbx)
      have HWI := hide (fun wx (hbx : Below wr.heap.size wr wx) => ((unhide HW).below (unhide HBR)).below hbx)
      have HRW := hide (rrows_any a ps.length c ps wr ((unhide HP).below (unhide HBR)) (by omega))
      have HSE := hide (show vecL (selL .dflt (rowsK ps) ws) = vecL (rowsK (selL .dflt ps ws)) from by rw [unhide HSEQ])
      have HTE := hide (show st (sumL ((selL .dflt (rowsK ps) ws).map fun r => r.s)) = st (sumL ((rowsK (selL .dflt ps ws)).map fun r => r.s)) from by rw [unhide HSEQ])
      have HBW := hide (show Below wr.heap.size wr wr from Below.refl _ _)
      have HZ := HZR
      have hlr : w.heap.size + 2 ≤ wr.heap.size := by have h1 := unhide HSZ; have h2 := unhide HLR; omega
      have HCV := hide (fun wx a1 m1 c1 (hp : RowAt wx a1 m1 (vecL (rowsK (selL .dflt ps ws)))) (hm : m1 ≤ 1048576) => rcount_any a1 m1 c1 (vecL (rowsK (selL .dflt ps ws))) wx hp hm)
      have hvl := unhide HVL
      have hS := unhide HS
      clear hke HS HSEQ HVL HLR HSZ HZR HP HK
      generalize hU : selL .dflt ps ws = us at *
      generalize vecL (rowsK us) = V at *
      generalize st (sumL ((rowsK us).map fun r => r.s)) = S at *
      generalize cnt V = CV at *
      rcases hS with ⟨rfl, rfl, hgz⟩ | ⟨q, Q', rfl, rfl, hal, hgq⟩
      ·
        have HG := hide hgz
        have HNO : Hid (mixL ((selL .dflt ps ws).map PKV.pd) = none) := hide (by rw [hU]; rfl)
        clear HMC hgz hU
        go_wp2_with (first
          | (go_at_call 32; refine (unhide HRW).mono ?_; rintro e w2 ⟨v2, rfl, ho2, hb2⟩; obtain ⟨a2, m2, c2, rfl⟩ : ∃ a m c, v2 = Value.slice a m c := ⟨_, _, _, ho2.shape.choose_spec.choose_spec⟩; obtain ⟨hr2, hm2, hc2, hd2⟩ := ho2.at' (unhide HRI w2 hb2); have HSM := hide (rsum18_any a2 m2 c2 (rowsK ps) a' ws.length c' ws w2 hr2 (CapR.of (unhide HRI w2 hb2)) (unhide HSR) (unhide HWI w2 hb2) (by rw [hm2, rowsK_len]; omega) hm); have HB2 := hide (below0 (unhide HBW) hb2); have HG2 := hide ((unhide HG).below hb2); have HZ2 := hide ((unhide HZ).below hb2); clear ho2 hb2 hr2 hm2 hc2 hd2 HRW)
          | (go_at_call 55; refine (unhide HSM).mono ?_; rintro e w3 ⟨v3, rfl, ho3, hb3⟩; rw [unhide HSE] at ho3; rw [unhide HTE]; obtain ⟨a3, m3, c3, rfl, hm3⟩ : ∃ a m c, v3 = Value.slice a m c ∧ m ≤ 10 := (by obtain ⟨a, c, e, _⟩ := ho3.row; exact ⟨a, _, c, e, hvl⟩); have HB3 := hide (below0 (unhide HB2) hb3); have hg3 := (unhide HG2).below hb3; have hz3 := (unhide HZ2).below hb3; have f5 := hg3.frz 5; have f6 := hg3.frz 6; obtain ⟨g0, g1, g2, g3, g4, g5, g6⟩ := hg3.at; have hs5 := hg3.set5 (.slice a3 m3 c3); have g6' := hs5.at.2.2.2.2.2.2; have f6' := hs5.frz 6; have hs6 := hs5.set6 (.string S); obtain ⟨k0, k1, k2, k3, k4, k5, k6⟩ := hs6.at; have fz := hs6.frz; have HS6 := hide hs6; have hne : w.heap.size ≠ w.heap.size + 1 := (by omega); have hz5 := (hz3.other (a := ⟨w.heap.size + 1, 5, none⟩) hne (.slice a3 m3 c3)).other (a := ⟨w.heap.size + 1, 6, none⟩) hne (.string S); obtain ⟨y0, y1, y2, y3, y4, y5, y6⟩ := hz5.at; have gz := hz5.frz; have HZ5 := hide hz5; have hsw : w.heap.size + 2 ≤ w2.heap.size := (by have h2 := (unhide HB2).size; omega); have HO5 := hide (((ho3.other (g := w.heap.size + 1) 5 (.slice a3 m3 c3) (by omega)).other (g := w.heap.size + 1) 6 (.string S) (by omega)).mono hsw); have HBF := hide (((unhide HBR).trans ((unhide HB3).mono (unhide HBR).size)).setCell (p := ⟨w.heap.size + 1, 5, none⟩) (Nat.le_succ _) (.slice a3 m3 c3)); have HBG := hide ((unhide HBF).setCell (p := ⟨w.heap.size + 1, 6, none⟩) (Nat.le_succ _) (.string S)); clear ho3 hb3 hg3 hz3 hs5 hs6 hz5))
        exact bodyPost_ret (rmix_res (g := w.heap.size) (X := set7 ((w3.setCell ⟨w.heap.size + 1, 5, none⟩ (.slice a3 m3 c3)).setCell ⟨w.heap.size + 1, 6, none⟩ (.string S)) w.heap.size (.int .i64 0) (.int .i64 0) (.int .i64 0) (.int .i64 0) (.int .i64 0) (.slice none 0 0) (.string ⟨#[]⟩)) rfl rfl ((unhide HZ5).sets _ _ _ _ _ _ _)) rfl (MixR.no (unhide HNO) (below7 (unhide HBG) (Nat.le_refl _) _ _ _ _ _ _ _))
      ·
        have HG := hide hgq
        have hM := unhide HMC (by simp)
        have hak : allK (q :: Q') = true := by
          unfold allK
          rw [List.all_eq_true]
          intro x hx
          rcases List.mem_cons.1 hx with rfl | hx
          · exact alk_refl _
          · exact hal x hx
        rw [show (q :: Q').getD 0 .dflt = q from rfl] at hM
        have HOO := hide (show mixL ((selL .dflt ps ws).map PKV.pd) = mixL ((q :: Q').map PKV.pd) from by rw [hU])
        clear HMC hgq hal hU
        generalize mixL ((q :: Q').map PKV.pd) = o at *
        generalize hopX ((q :: Q').map PKV.pd) = HO at *
        have HM := hide hM
        have HAK := hide hak
        clear hM hak
        by_cases hcv : CV = 0
        · have HNO : Hid (mixL ((selL .dflt ps ws).map PKV.pd) = none) := hide (by rw [unhide HOO, unhide HM, if_neg (fun e => absurd e.2.1 (by omega))])
          have hcv' : (CV : Int) = 0 := by omega
          clear HM HAK
          go_wp2_with (first
            | (go_at_call 32; refine (unhide HRW).mono ?_; rintro e w2 ⟨v2, rfl, ho2, hb2⟩; obtain ⟨a2, m2, c2, rfl⟩ : ∃ a m c, v2 = Value.slice a m c := ⟨_, _, _, ho2.shape.choose_spec.choose_spec⟩; obtain ⟨hr2, hm2, hc2, hd2⟩ := ho2.at' (unhide HRI w2 hb2); have HSM := hide (rsum18_any a2 m2 c2 (rowsK ps) a' ws.length c' ws w2 hr2 (CapR.of (unhide HRI w2 hb2)) (unhide HSR) (unhide HWI w2 hb2) (by rw [hm2, rowsK_len]; omega) hm); have HB2 := hide (below0 (unhide HBW) hb2); have HG2 := hide ((unhide HG).below hb2); have HZ2 := hide ((unhide HZ).below hb2); clear ho2 hb2 hr2 hm2 hc2 hd2 HRW)
            | (go_at_call 55; refine (unhide HSM).mono ?_; rintro e w3 ⟨v3, rfl, ho3, hb3⟩; rw [unhide HSE] at ho3; rw [unhide HTE]; obtain ⟨a3, m3, c3, rfl, hm3⟩ : ∃ a m c, v3 = Value.slice a m c ∧ m ≤ 10 := (by obtain ⟨a, c, e, _⟩ := ho3.row; exact ⟨a, _, c, e, hvl⟩); have HB3 := hide (below0 (unhide HB2) hb3); have hg3 := (unhide HG2).below hb3; have hz3 := (unhide HZ2).below hb3; have f5 := hg3.frz 5; have f6 := hg3.frz 6; obtain ⟨g0, g1, g2, g3, g4, g5, g6⟩ := hg3.at; have hs5 := hg3.set5 (.slice a3 m3 c3); have g6' := hs5.at.2.2.2.2.2.2; have f6' := hs5.frz 6; have hs6 := hs5.set6 (.string S); obtain ⟨k0, k1, k2, k3, k4, k5, k6⟩ := hs6.at; have fz := hs6.frz; have HS6 := hide hs6; have hne : w.heap.size ≠ w.heap.size + 1 := (by omega); have hz5 := (hz3.other (a := ⟨w.heap.size + 1, 5, none⟩) hne (.slice a3 m3 c3)).other (a := ⟨w.heap.size + 1, 6, none⟩) hne (.string S); obtain ⟨y0, y1, y2, y3, y4, y5, y6⟩ := hz5.at; have gz := hz5.frz; have HZ5 := hide hz5; have hsw : w.heap.size + 2 ≤ w2.heap.size := (by have h2 := (unhide HB2).size; omega); have HO5 := hide (((ho3.other (g := w.heap.size + 1) 5 (.slice a3 m3 c3) (by omega)).other (g := w.heap.size + 1) 6 (.string S) (by omega)).mono hsw); have HBF := hide (((unhide HBR).trans ((unhide HB3).mono (unhide HBR).size)).setCell (p := ⟨w.heap.size + 1, 5, none⟩) (Nat.le_succ _) (.slice a3 m3 c3)); have HBG := hide ((unhide HBF).setCell (p := ⟨w.heap.size + 1, 6, none⟩) (Nat.le_succ _) (.string S)); clear ho3 hb3 hg3 hz3 hs5 hs6 hz5)
            | (go_at_call 42; refine (unhide HCV _ a3 m3 c3 (by obtain ⟨_, _, e, hrr⟩ := (unhide HO5).row; simp only [Value.slice.injEq] at e; obtain ⟨rfl, rfl, rfl⟩ := e; exact hrr) (by omega)).mono ?_; rintro e w4 ⟨rfl, hw4⟩; obtain rfl := hw4.symm; clear hw4))
          exact bodyPost_ret (rmix_res (g := w.heap.size) (X := set7 ((w3.setCell ⟨w.heap.size + 1, 5, none⟩ (.slice a3 m3 c3)).setCell ⟨w.heap.size + 1, 6, none⟩ (.string S)) w.heap.size (.int .i64 0) (.int .i64 0) (.int .i64 0) (.int .i64 0) (.int .i64 0) (.slice none 0 0) (.string ⟨#[]⟩)) rfl rfl ((unhide HZ5).sets _ _ _ _ _ _ _)) rfl (MixR.no (unhide HNO) (below7 (unhide HBG) (Nat.le_refl _) _ _ _ _ _ _ _))
        · have hcv' : ¬ (CV : Int) = 0 := by omega
          have hcv2 : ((CV : Int) == 0) = false := beq_eq_false_iff_ne.2 hcv'
          by_cases hh : 15 ≤ HO
          · have HNO : Hid (mixL ((selL .dflt ps ws).map PKV.pd) = none) := hide (by rw [unhide HOO, unhide HM, if_neg (fun e => absurd e.2.2 (by omega))])
            clear HM HAK
            go_wp2_with (first
              | (go_at_call 32; refine (unhide HRW).mono ?_; rintro e w2 ⟨v2, rfl, ho2, hb2⟩; obtain ⟨a2, m2, c2, rfl⟩ : ∃ a m c, v2 = Value.slice a m c := ⟨_, _, _, ho2.shape.choose_spec.choose_spec⟩; obtain ⟨hr2, hm2, hc2, hd2⟩ := ho2.at' (unhide HRI w2 hb2); have HSM := hide (rsum18_any a2 m2 c2 (rowsK ps) a' ws.length c' ws w2 hr2 (CapR.of (unhide HRI w2 hb2)) (unhide HSR) (unhide HWI w2 hb2) (by rw [hm2, rowsK_len]; omega) hm); have HB2 := hide (below0 (unhide HBW) hb2); have HG2 := hide ((unhide HG).below hb2); have HZ2 := hide ((unhide HZ).below hb2); clear ho2 hb2 hr2 hm2 hc2 hd2 HRW)
              | (go_at_call 55; refine (unhide HSM).mono ?_; rintro e w3 ⟨v3, rfl, ho3, hb3⟩; rw [unhide HSE] at ho3; rw [unhide HTE]; obtain ⟨a3, m3, c3, rfl, hm3⟩ : ∃ a m c, v3 = Value.slice a m c ∧ m ≤ 10 := (by obtain ⟨a, c, e, _⟩ := ho3.row; exact ⟨a, _, c, e, hvl⟩); have HB3 := hide (below0 (unhide HB2) hb3); have hg3 := (unhide HG2).below hb3; have hz3 := (unhide HZ2).below hb3; have f5 := hg3.frz 5; have f6 := hg3.frz 6; obtain ⟨g0, g1, g2, g3, g4, g5, g6⟩ := hg3.at; have hs5 := hg3.set5 (.slice a3 m3 c3); have g6' := hs5.at.2.2.2.2.2.2; have f6' := hs5.frz 6; have hs6 := hs5.set6 (.string S); obtain ⟨k0, k1, k2, k3, k4, k5, k6⟩ := hs6.at; have fz := hs6.frz; have HS6 := hide hs6; have hne : w.heap.size ≠ w.heap.size + 1 := (by omega); have hz5 := (hz3.other (a := ⟨w.heap.size + 1, 5, none⟩) hne (.slice a3 m3 c3)).other (a := ⟨w.heap.size + 1, 6, none⟩) hne (.string S); obtain ⟨y0, y1, y2, y3, y4, y5, y6⟩ := hz5.at; have gz := hz5.frz; have HZ5 := hide hz5; have hsw : w.heap.size + 2 ≤ w2.heap.size := (by have h2 := (unhide HB2).size; omega); have HO5 := hide (((ho3.other (g := w.heap.size + 1) 5 (.slice a3 m3 c3) (by omega)).other (g := w.heap.size + 1) 6 (.string S) (by omega)).mono hsw); have HBF := hide (((unhide HBR).trans ((unhide HB3).mono (unhide HBR).size)).setCell (p := ⟨w.heap.size + 1, 5, none⟩) (Nat.le_succ _) (.slice a3 m3 c3)); have HBG := hide ((unhide HBF).setCell (p := ⟨w.heap.size + 1, 6, none⟩) (Nat.le_succ _) (.string S)); clear ho3 hb3 hg3 hz3 hs5 hs6 hz5)
              | (go_at_call 42; refine (unhide HCV _ a3 m3 c3 (by obtain ⟨_, _, e, hrr⟩ := (unhide HO5).row; simp only [Value.slice.injEq] at e; obtain ⟨rfl, rfl, rfl⟩ := e; exact hrr) (by omega)).mono ?_; rintro e w4 ⟨rfl, hw4⟩; obtain rfl := hw4.symm; clear hw4))
            exact bodyPost_ret (rmix_res (g := w.heap.size) (X := set7 ((w3.setCell ⟨w.heap.size + 1, 5, none⟩ (.slice a3 m3 c3)).setCell ⟨w.heap.size + 1, 6, none⟩ (.string S)) w.heap.size (.int .i64 0) (.int .i64 0) (.int .i64 0) (.int .i64 0) (.int .i64 0) (.slice none 0 0) (.string ⟨#[]⟩)) rfl rfl ((unhide HZ5).sets _ _ _ _ _ _ _)) rfl (MixR.no (unhide HNO) (below7 (unhide HBG) (Nat.le_refl _) _ _ _ _ _ _ _))
          · have hh' : decide (15 ≤ HO) = false := decide_eq_false hh
            have HYE := hide (show mixL ((selL .dflt ps ws).map PKV.pd) = some ⟨q.o, q.l, q.k, q.z, IntKind.i64.wrap (HO + 1), V, S⟩ from by rw [unhide HOO, unhide HM, if_pos ⟨unhide HAK, by omega, by omega⟩])
            clear HM HAK
            generalize hHW : IntKind.i64.wrap (HO + 1) = HWR at *
            go_wp2_with (first
              | (go_at_call 32; refine (unhide HRW).mono ?_; rintro e w2 ⟨v2, rfl, ho2, hb2⟩; obtain ⟨a2, m2, c2, rfl⟩ : ∃ a m c, v2 = Value.slice a m c := ⟨_, _, _, ho2.shape.choose_spec.choose_spec⟩; obtain ⟨hr2, hm2, hc2, hd2⟩ := ho2.at' (unhide HRI w2 hb2); have HSM := hide (rsum18_any a2 m2 c2 (rowsK ps) a' ws.length c' ws w2 hr2 (CapR.of (unhide HRI w2 hb2)) (unhide HSR) (unhide HWI w2 hb2) (by rw [hm2, rowsK_len]; omega) hm); have HB2 := hide (below0 (unhide HBW) hb2); have HG2 := hide ((unhide HG).below hb2); have HZ2 := hide ((unhide HZ).below hb2); clear ho2 hb2 hr2 hm2 hc2 hd2 HRW)
              | (go_at_call 55; refine (unhide HSM).mono ?_; rintro e w3 ⟨v3, rfl, ho3, hb3⟩; rw [unhide HSE] at ho3; rw [unhide HTE]; obtain ⟨a3, m3, c3, rfl, hm3⟩ : ∃ a m c, v3 = Value.slice a m c ∧ m ≤ 10 := (by obtain ⟨a, c, e, _⟩ := ho3.row; exact ⟨a, _, c, e, hvl⟩); have HB3 := hide (below0 (unhide HB2) hb3); have hg3 := (unhide HG2).below hb3; have hz3 := (unhide HZ2).below hb3; have f5 := hg3.frz 5; have f6 := hg3.frz 6; obtain ⟨g0, g1, g2, g3, g4, g5, g6⟩ := hg3.at; have hs5 := hg3.set5 (.slice a3 m3 c3); have g6' := hs5.at.2.2.2.2.2.2; have f6' := hs5.frz 6; have hs6 := hs5.set6 (.string S); obtain ⟨k0, k1, k2, k3, k4, k5, k6⟩ := hs6.at; have fz := hs6.frz; have HS6 := hide hs6; have hne : w.heap.size ≠ w.heap.size + 1 := (by omega); have hz5 := (hz3.other (a := ⟨w.heap.size + 1, 5, none⟩) hne (.slice a3 m3 c3)).other (a := ⟨w.heap.size + 1, 6, none⟩) hne (.string S); obtain ⟨y0, y1, y2, y3, y4, y5, y6⟩ := hz5.at; have gz := hz5.frz; have HZ5 := hide hz5; have hsw : w.heap.size + 2 ≤ w2.heap.size := (by have h2 := (unhide HB2).size; omega); have HO5 := hide (((ho3.other (g := w.heap.size + 1) 5 (.slice a3 m3 c3) (by omega)).other (g := w.heap.size + 1) 6 (.string S) (by omega)).mono hsw); have HBF := hide (((unhide HBR).trans ((unhide HB3).mono (unhide HBR).size)).setCell (p := ⟨w.heap.size + 1, 5, none⟩) (Nat.le_succ _) (.slice a3 m3 c3)); have HBG := hide ((unhide HBF).setCell (p := ⟨w.heap.size + 1, 6, none⟩) (Nat.le_succ _) (.string S)); clear ho3 hb3 hg3 hz3 hs5 hs6 hz5; have hs4 := (unhide HS6).set4 (.int .i64 HWR); obtain ⟨j0, j1, j2, j3, j4, j5, j6⟩ := hs4.at; have hzy := (unhide HZ5).other (a := ⟨w.heap.size + 1, 4, none⟩) hne (.int .i64 HWR); obtain ⟨l0, l1, l2, l3, l4, l5, l6⟩ := hzy.at; have gy := hzy.frz; have HZY := hide hzy; clear hs4 hzy)
              | (go_at_call 42; refine (unhide HCV _ a3 m3 c3 (by obtain ⟨_, _, e, hrr⟩ := (unhide HO5).row; simp only [Value.slice.injEq] at e; obtain ⟨rfl, rfl, rfl⟩ := e; exact hrr) (by omega)).mono ?_; rintro e w4 ⟨rfl, hw4⟩; obtain rfl := hw4.symm; clear hw4))
            have HOF := hide (((unhide HO5).other (g := w.heap.size + 1) 4 (.int .i64 HWR) (by omega)))
            exact bodyPost_ret (rmix_res (g := w.heap.size) (X := set7 (((w3.setCell ⟨w.heap.size + 1, 5, none⟩ (.slice a3 m3 c3)).setCell ⟨w.heap.size + 1, 6, none⟩ (.string S)).setCell ⟨w.heap.size + 1, 4, none⟩ (.int .i64 HWR)) w.heap.size (.int .i64 q.o) (.int .i64 q.l) (.int .i64 q.k) (.int .i64 q.z) (.int .i64 HWR) (.slice a3 m3 c3) (.string S)) rfl rfl ((unhide HZY).sets _ _ _ _ _ _ _)) rfl
              (MixR.yes (q := ⟨q.o, q.l, q.k, q.z, HWR, ⟨a3, m3, c3, V, S⟩⟩) (unhide HYE) rfl (below7 ((unhide HBG).setCell (p := ⟨w.heap.size + 1, 4, none⟩) (Nat.le_succ _) (.int .i64 HWR)) (Nat.le_refl _) _ _ _ _ _ _ _) (((unhide HOF).all7 (g := w.heap.size) (by omega) _ _ _ _ _ _ _).mono (by omega)))
end Go.Proofs.YtbcgiodgobmkaaaGreatDoor
