/-
  The walk of bucketlinelaw23.SeenLast.
-/
import Derived.Test.YtpklckpnimmkpaaSeI
import Derived.Test.YtpklckpnimmkpaaUB
namespace Go.Proofs.Ytpklckpnimmkpaa
open Go.RowKit Go.Sort Go.Maps
set_option linter.unusedVariables false
set_option maxRecDepth 4000

/-- The last m. -/
def lastL (m : Nat) (F : List Nat) : List Nat := F.drop (F.length - m)
theorem lastL_len (m : Nat) (F : List Nat) : (lastL m F).length = min F.length m := by unfold lastL; rw [List.length_drop]; omega
theorem lastL_seen (m : Nat) (F : List Nat) (x : Nat) : seenL m (lastL m F) x = lastL m (F ++ [x]) := by
  unfold seenL
  rw [lastL_len]
  by_cases hm : m = 0
  · subst hm
    rw [if_pos rfl]
    simp [lastL]
  · rw [if_neg hm]
    by_cases hf : min F.length m = m
    · rw [if_pos hf]
      unfold lastL
      rw [List.tail_drop, List.length_append, List.length_singleton, List.drop_append_of_le_length (by omega)]
      congr 2
      omega
    · rw [if_neg hf]
      unfold lastL
      rw [List.length_append, List.length_singleton, show F.length - m = 0 by omega, show F.length + 1 - m = 0 by omega]
      rfl
theorem lastL_has {m i : Nat} {F : List Nat} (h1 : F.length - m ≤ i) (h2 : i < F.length) : hasD (lastL m F) (F.getD i 0) = true := by
  rw [hasD_iff]
  unfold lastL
  rw [List.mem_iff_getElem?]
  refine ⟨i - (F.length - m), ?_⟩
  rw [List.getElem?_drop, show F.length - m + (i - (F.length - m)) = i by omega, List.getD_eq_getElem?_getD, List.getElem?_eq_getElem h2]
  rfl
/-- The prints of packets. -/
def prsL (fs : List PKV) : List Nat := fs.map fun p => prD p.pd
theorem prsL_len (fs : List PKV) : (prsL fs).length = fs.length := by simp [prsL]
theorem prsL_get {fs : List PKV} {i : Nat} (h : i < fs.length) : (prsL fs).getD i 0 = prD (fs.getD i .dflt).pd := by
  simp [prsL, List.getD_eq_getElem?_getD, h]
theorem prsL_snoc (fs : List PKV) (p : PKV) : prsL (fs ++ [p]) = prsL fs ++ [prD p.pd] := by simp [prsL]
/-- A cache and the packets that were fresh. -/
structure LaJ (w wk : World) (g b m N : Nat) (v : Value) (fs : List PKV) : Prop where
  cj : CaJ w wk g b m N (lastL m (prsL fs))
  own : OwnP wk w.heap.size v fs
  ro : ∀ q ∈ fs, RowAt w q.r.a q.r.n q.r.xs ∧ q.r.n ≤ q.r.c
theorem LaJ.ks {w wk : World} {g b m N : Nat} {v : Value} {fs : List PKV} (h : LaJ w wk g b m N v fs) : KsIn wk fs := fun q hq => ⟨(h.ro q hq).1.below h.cj.bel, (h.ro q hq).2⟩
theorem LaJ.out {w wk : World} {g b m N : Nat} {v : Value} {fs : List PKV} (h : LaJ w wk g b m N v fs) (j : Nat) (hj : v.ownBlock = some j) : ¬ caF g b j := by
  obtain ⟨cur, hc⟩ := h.own.blk hj
  exact h.cj.ca.out hc (by decide)
theorem LaJ.below {w wk w' : World} {g b m N : Nat} {v : Value} {fs : List PKV} (h : LaJ w wk g b m N v fs) (hb : Below wk.heap.size wk w') : LaJ w w' g b m N v fs := ⟨h.cj.below hb, h.own.below hb, h.ro⟩
theorem LaJ.tu {w wk w' : World} {g b m N N' : Nat} {v : Value} {fs : List PKV} (h : LaJ w wk g b m N v fs) (ht : Tu (caF g b) wk w') (hc : CaAt w' g b m N' (lastL m (prsL fs))) : LaJ w w' g b m N' v fs := ⟨h.cj.tu ht hc, h.own.tu ht h.out, h.ro⟩
/-- What is there while the list still lacks the newest. -/
structure LaM (w wk : World) (g b m N : Nat) (v : Value) (fs : List PKV) (p : PKV) : Prop where
  cj : CaJ w wk g b m N (lastL m (prsL (fs ++ [p])))
  own : OwnP wk w.heap.size v fs
  ro : ∀ q ∈ fs ++ [p], RowAt w q.r.a q.r.n q.r.xs ∧ q.r.n ≤ q.r.c
theorem LaJ.mid {w wk w' : World} {g b m N N' : Nat} {v : Value} {fs : List PKV} {p : PKV} (h : LaJ w wk g b m N v fs) (ht : Tu (caF g b) wk w') (hf : freshD (lastL m (prsL fs)) p.pd = true) (hc : CaAt w' g b m N' (cameL m (lastL m (prsL fs)) p.pd))
    (hp : RowAt w p.r.a p.r.n p.r.xs ∧ p.r.n ≤ p.r.c) : LaM w w' g b m N' v fs p := by
  have e : cameL m (lastL m (prsL fs)) p.pd = lastL m (prsL (fs ++ [p])) := by unfold cameL; rw [hf, if_pos rfl, prsL_snoc, lastL_seen]
  rw [e] at hc
  exact ⟨h.cj.tu ht hc, h.own.tu ht h.out, fun q hq => (List.mem_append.1 hq).elim (h.ro q) fun hq => by rw [List.mem_singleton.1 hq]; exact hp⟩
theorem LaM.push {w wk w' : World} {g b m N g3 cap : Nat} {v : Value} {fs : List PKV} {p : PKV} (h : LaM w wk g b m N v fs p) (ho : OwnP w' w.heap.size (.slice (some ⟨g3, 0, none⟩) (fs.length + 1) cap) (fs ++ [p])) (hg : wk.grownBy w' v.ownBlock) :
    LaJ w w' g b m N (.slice (some ⟨g3, 0, none⟩) (fs.length + 1) cap) (fs ++ [p]) := by
  have ht : Tu (fun j => v.ownBlock = some j) wk w' := Tu.of_gb hg fun j _ e => e
  have hout : ∀ j, v.ownBlock = some j → ¬ caF g b j := fun j hj => by
    obtain ⟨cur, hc⟩ := h.own.blk hj
    exact h.cj.ca.out hc (by decide)
  refine ⟨⟨h.cj.ca.tu ht (fun e => hout _ e (.inl rfl)) (fun e => hout _ e (.inr rfl)), h.cj.bel.trans (gb_below hg h.cj.bel.size fun k hk => (World.ownsRow.lt h.own k hk).1), h.cj.lg, h.cj.lb⟩, ho, h.ro⟩
theorem max_sub (q m : Nat) (ts : Array TypeId) (t : TypeId) (w : World) : (Builtin.max_ ts t #[.int .i64 0, .int .i64 ((q : Int) - (m : Int))]).run Try.prog w = .ok (.int .i64 ((q - m : Nat) : Int)) w := by
  rw [run_max_int2]
  congr 2
  split <;> omega

set_option maxHeartbeats 4000000 in
theorem selast_walk (most : Int) (a : Option Addr) (n c : Nat) (ps : List PKV) (W : World) (h : PksAt W a n ps) (hn : n ≤ 9223372036854775807) (hbig : ∀ i, (ps.getD i .dflt).r.n ≤ 9223372036854775807 ∧ (ps.getD i .dflt).r.s.size ≤ 9223372036854775807)
    (hcp : ∀ i, i < ps.length → (ps.getD i .dflt).r.n ≤ (ps.getD i .dflt).r.c) :
    Calls Try.prog 6 #[.int .i64 most, .slice a n c] W fun e w' => e = .returned (.bool true) ∧ Below W.heap.size W w' := by
  have HAW := hide (fun (w1 : World) => seawake_any w1)
  have HF := hide (fewP_any a n c ps W h hn hbig)
  have HH := hide h
  have HL1 := hide h.1
  have HCP := hide hcp
  have HCAP := hide (fun wx => rcap_any most wx)
  clear h hbig hcp
  go_enter Try.func6, Try.ntmps6
  go_wp2_with fail
  refine (unhide HF).mono ?_
  rintro e w0 ⟨hf, hw⟩
  obtain rfl := hw.symm
  clear hw HF
  rcases hf with ⟨rfl, hf⟩ | ⟨rfl, hf⟩
  case inr =>
    clear hf
    go_wp2_with (go_at_call 8; refine (unhide HAW _).mono ?_; rintro e w1 ⟨rfl, hb1⟩)
    go_ret
    exact ⟨rfl, hb1⟩
  have hl : n ≤ 60 := by rw [← unhide HL1]; exact hf.1
  clear hf
  go_wp2_with fail
  refine (cj_new most W).mono ?_
  rintro e w1 ⟨g, b, rfl, hj1⟩
  obtain ⟨m, hm⟩ : ∃ m, capN most = m := ⟨_, rfl⟩
  rw [hm] at hj1 HCAP
  have HJ1 := hide (show LaJ W w1 g b m 0 (.slice none 0 0) [] from ⟨by have e : lastL m (prsL []) = [] := by simp [lastL, prsL]
                                                                        rw [e]; exact hj1, OwnP.nil _ _, fun q hq => by cases hq⟩)
  have hm256 : m ≤ 256 := hj1.ca.most
  clear hj1 hm
  go_wp2
  go_loopw [6, 7] (fun v i wr => ∃ (j : Nat) (a1 : Option Addr) (m1 c1 : Nat) (fs : List PKV), j ≤ n ∧ i = .int .i64 j ∧ v = .slice a1 m1 c1 ∧ m1 = fs.length ∧ m1 ≤ j ∧ Hid (LaJ W wr g b m j (.slice a1 m1 c1) fs)) (fun _ i _ => n - (intOf i).toNat)
  case atStart => exact ⟨0, none, 0, 0, [], Nat.zero_le _, rfl, rfl, rfl, Nat.le_refl _, HJ1⟩
  case round =>
    obtain ⟨j, a1, m1, c1, fs, hj, rfl, rfl, hm1, hmj, HJ⟩ := hrel
    clear HJ1
    have HM1 := hide hm1
    clear hm1
    by_cases hlt : j < n
    · have hR := (unhide HH).below (unhide HJ).cj.bel
      have HRW := hide (And.intro ((unhide HH).2.1 j hlt) (unhide HCP j (by rw [unhide HL1]; exact hlt)))
      obtain ⟨b0, off, rfl, hcl⟩ := hR.at hlt
      have HCL := hide (fun wx (hb : Below W.heap.size W wx) => by
        have h3 := ((unhide HH).below hb).at hlt
        obtain ⟨b1, off1, e1, h4⟩ := h3
        cases e1
        exact h4 j hlt)
      obtain ⟨q0, q1, q2, q3, q4, q5, q6⟩ := hcl j hlt
      have hlt' : (j : Int) < (n : Int) := by omega
      clear hR hcl
      generalize ps.getD j .dflt = p at *
      have HFR := hide (sefresh_any g b m j (lastL m (prsL fs)) p wr (unhide HJ).cj.ca ((unhide HRW).1.below (unhide HJ).cj.bel) (by omega))
      unfold PKV.val at HFR
      cases hbb : freshD (lastL m (prsL fs)) p.pd
      · have HL2 := hide (show cameL m (lastL m (prsL fs)) p.pd = lastL m (prsL fs) by unfold cameL; rw [hbb]; rfl)
        rw [hbb] at HFR
        clear hbb
        go_wp2_with (first
          | (go_at_call 18; refine (unhide HFR).mono ?_; rintro e w2 ⟨rfl, hc2, ht2⟩; rw [unhide HL2] at hc2; have HJ2 := hide ((unhide HJ).tu ht2 hc2); clear hc2 ht2)
          | fail)
        go_roundw
        case rel => exact ⟨j + 1, a1, m1, c1, fs, by omega, by go_num, rfl, unhide HM1, by omega, HJ2⟩
        case measure => simp [intOf]; omega
      · have HBB := hide hbb
        rw [hbb] at HFR
        clear hbb
        go_wp2_with (first
          | (go_at_call 18; refine (unhide HFR).mono ?_; rintro e w2 ⟨rfl, hc2, ht2⟩; have HJ2 := hide ((unhide HJ).mid ht2 (unhide HBB) hc2 (unhide HRW)); obtain ⟨r0, r1, r2, r3, r4, r5, r6⟩ := unhide HCL w2 (unhide HJ2).cj.bel; clear hc2 ht2 q0 q1 q2 q3 q4 q5 q6)
          | (at_builtin; refine wpList_pushP rfl (.tmp 27) (.tmp 32) rfl W.heap.size (.slice a1 m1 c1) fs p rfl rfl (unhide HJ2).own (unhide HJ2).cj.bel.size (by have := unhide HM1; omega) ?_; intro g3 c3 w3 ho3 hg3 _; have HJ3 := hide ((unhide HJ2).push ho3 hg3); clear ho3 hg3; obtain ⟨m3, hm3⟩ : ∃ m3, m3 = fs.length + 1 := ⟨_, rfl⟩; rw [← hm3] at HJ3; rw [← hm3]; have HM3 := hide hm3; clear hm3)
          | fail)
        go_roundw
        case rel => exact ⟨j + 1, some ⟨g3, 0, none⟩, m3, c3, fs ++ [p], by omega, by go_num, rfl, by rw [unhide HM3]; simp, by rw [unhide HM3, ← unhide HM1]; omega, HJ3⟩
        case measure => simp [intOf]; omega
    · have hlt' : (n : Int) ≤ (j : Int) := by omega
      have hq : m1 ≤ 60 := by omega
      have hmx := max_sub m1 m
      have hwr : wrap64 ((m1 : Int) - (m : Int)) = (m1 : Int) - (m : Int) := by unfold wrap64; omega
      clear hlt hmj
      go_wp2_with (first
        | (go_at_call 20; refine (unhide HCAP _).mono ?_; rintro e w4 ⟨rfl, hw4⟩; obtain rfl := hw4.symm; clear hw4)
        | fail)
      obtain ⟨wo, rfl⟩ : ∃ wo, wo = wr := ⟨wr, rfl⟩
      clear hmx hwr hlt'
      go_loopw [8] (fun i wr => ∃ t : Nat, m1 - m ≤ t ∧ t ≤ m1 ∧ i = .int .i64 t ∧ Hid (LaJ W wr g b m j (.slice a1 m1 c1) fs)) (fun i _ => m1 - (intOf i).toNat)
      case atStart => exact ⟨m1 - m, Nat.le_refl _, Nat.sub_le _ _, rfl, HJ⟩
      case round =>
        obtain ⟨t, ht1, ht2, rfl, HT⟩ := hrel
        clear HJ
        by_cases hlt : t < m1
        · have hlt' : (t : Int) < (m1 : Int) := by omega
          have hR := (unhide HT).own.at' (unhide HT).ks
          obtain ⟨b0, off, rfl, hcl⟩ := hR.1.at hlt
          obtain ⟨q0, q1, q2, q3, q4, q5, q6⟩ := hcl t hlt
          have hrow := ((unhide HT).ks.get (i := t) (by rw [← unhide HM1]; exact hlt)).1
          have HHS := sehas_any g b m j (lastL m (prsL fs)) (fs.getD t .dflt) wr (unhide HT).cj.ca hrow
          rw [← prsL_get (fs := fs) (i := t) (by rw [← unhide HM1]; exact hlt), lastL_has (by rw [prsL_len, ← unhide HM1]; exact ht1) (by rw [prsL_len, ← unhide HM1]; exact hlt)] at HHS
          clear hR hcl hrow
          generalize fs.getD t .dflt = p at *
          unfold PKV.val at HHS
          have HS := hide HHS
          clear HHS
          go_wp2_with (first
            | (go_at_call 16; refine (unhide HS).mono ?_; rintro e w2 ⟨rfl, hb2⟩; have HT2 := hide ((unhide HT).below hb2); clear hb2)
            | fail)
          go_roundw
          case rel => exact ⟨t + 1, by omega, by omega, by go_num, HT2⟩
          case measure => simp [intOf]; omega
        · have hlt' : (m1 : Int) ≤ (t : Int) := by omega
          have HLN := selen_any g b m j (lastL m (prsL fs)) wr (unhide HT).cj.ca
          rw [lastL_len, prsL_len, ← unhide HM1] at HLN
          have HN := hide HLN
          have hmn := min_run m1 m
          have HB := hide (unhide HT).cj.bel
          generalize min m1 m = mn at *
          clear HLN HT
          go_wp2_with (first
            | (go_at_call 19; refine (unhide HN).mono ?_; rintro e w3 ⟨rfl, hw3⟩; obtain rfl := hw3.symm; clear hw3)
            | (go_at_call 20; refine (unhide HCAP _).mono ?_; rintro e w4 ⟨rfl, hw4⟩; obtain rfl := hw4.symm; clear hw4)
            | (go_at_call 8; refine (unhide HAW _).mono ?_; rintro e w9 ⟨rfl, hb9⟩; have HB9 := hide (below0 (unhide HB) hb9); clear hb9)
            | fail)
          go_ret
          exact ⟨rfl, unhide HB9⟩
end Go.Proofs.Ytpklckpnimmkpaa
