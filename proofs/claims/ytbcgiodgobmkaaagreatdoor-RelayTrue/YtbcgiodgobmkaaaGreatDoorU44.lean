/-
  Contracts of Relay.Emit. Conditions: at most 2^40 draws used.
  Contracts of Relay.Emit in one form; a relay and draws side by side. Conditions: at most 2^40 draws used.
-/
import Derived.Test.YtbcgiodgobmkaaaGreatDoorU43
import Derived.Test.YtbcgiodgobmkaaaGreatDoorU26
import Derived.Test.YtbcgiodgobmkaaaGreatDoorU13
import Derived.Test.YtbcgiodgobmkaaaGreatDoorU27
import Derived.BigQuiet
import Derived.Test.YtbcgiodgobmkaaaGreatDoorKA
namespace Go.Proofs.YtbcgiodgobmkaaaGreatDoor
open Go.RowKit Go.Sort
set_option linter.unusedVariables false
set_option linter.unusedSimpArgs false
set_option maxRecDepth 4000

theorem rlem_res {X : World} {tmps : Array Value} {g : Nat} {o l k z h : Int} {a : Option Addr} {n c : Nat} {s : ByteArray} {b : Bool} (ht : tmps.getD 4 undef = .pointer (some ⟨g, 0, none⟩)) (h5 : tmps.getD 5 undef = .bool b) (hk : PkB X g (.int .i64 o) (.int .i64 l) (.int .i64 k) (.int .i64 z) (.int .i64 h) (.slice a n c) (.string s)) :
    (results Tryz.f10 tmps).run Tryz.prog X = .ok (.tuple #[.agg #[.int .i64 o, .int .i64 l, .int .i64 k, .int .i64 z, .int .i64 h, .slice a n c, .string s], .bool b]) X := by
  obtain ⟨r0, r1, r2, r3, r4, r5, r6⟩ := hk.at
  have ht' : tmps[4]?.getD undef = .pointer (some ⟨g, 0, none⟩) := by simpa using ht
  have h5' : tmps[5]?.getD undef = .bool b := by simpa using h5
  simp [results, Tryz.results10, go_sem, ht', h5', r0, r1, r2, r3, r4, r5, r6]
/-- What an Emit gives: a packet and whether there is one. -/
def EmitR (w w' : World) (o : Option PD) (e : Ending) : Prop := ∃ q : PKV, e = .returned (.tuple #[q.val, .bool o.isSome]) ∧ q.pd = o.getD zPK.pd ∧ Own w' w.heap.size (.slice q.r.a q.r.n q.r.c) q.r.xs

set_option maxHeartbeats 2000000 in
theorem rlemit_kept0 (vr : Value) (d : Value) (w : World) (hK : ∀ wx, Below w.heap.size w wx → Calls Tryz.prog 16 #[vr] wx fun e w' => e = .returned (.int .i64 0) ∧ w' = wx) :
    Calls Tryz.prog 10 #[vr, d] w fun e w' => EmitR w w' none e ∧ Below w.heap.size w w' := by
  have hb0 : Below w.heap.size w (w.alloc (.cells #[.int .i64 0, .int .i64 0, .int .i64 0, .int .i64 0, .int .i64 0, .slice none 0 0, .string ⟨#[]⟩] 42)) := (Below.refl _ _).alloc (Nat.le_refl _) _
  have hz := pkb_new w (.int .i64 0) (.int .i64 0) (.int .i64 0) (.int .i64 0) (.int .i64 0) (.slice none 0 0) (.string ⟨#[]⟩)
  have HK := hide (hK _ hb0)
  have HZ := hide hz
  have HB0 := hide hb0
  obtain ⟨x0, x1, x2, x3, x4, x5, x6⟩ := hz.at
  have xf := hz.frz
  clear hz hb0 hK
  go_enter Tryz.func10, Tryz.ntmps10
  generalize hWW : w.alloc (.cells #[.int .i64 0, .int .i64 0, .int .i64 0, .int .i64 0, .int .i64 0, .slice none 0 0, .string ⟨#[]⟩] 42) = W at *
  go_wp2_with (go_at_call 16; refine (unhide HK).mono ?_; rintro e w1 ⟨rfl, hw1⟩; obtain rfl := hw1.symm; clear hw1)
  exact bodyPost_ret (rlem_res (X := set7 W w.heap.size (.int .i64 0) (.int .i64 0) (.int .i64 0) (.int .i64 0) (.int .i64 0) (.slice none 0 0) (.string ⟨#[]⟩)) rfl rfl ((unhide HZ).sets (.int .i64 0) (.int .i64 0) (.int .i64 0) (.int .i64 0) (.int .i64 0) (.slice none 0 0) (.string ⟨#[]⟩))) rfl ⟨⟨zPK, rfl, rfl, Own.nil _ _⟩, below7 (unhide HB0) (Nat.le_refl _) _ _ _ _ _ _ _⟩
theorem rlemit_no (g gb B m : Nat) (t i : Int) (v : Value) (d : Value) (w : World) (h : RlAt w g gb B m t i v []) : Calls Tryz.prog 10 #[.pointer (some ⟨g, 0, none⟩), d] w fun e w' => EmitR w w' none e ∧ Below w.heap.size w w' :=
  rlemit_kept0 _ d w fun wx hb => rlkept_any g gb B m t i v [] wx (h.below hb)
/-- The end of an Emit: the packet is written and returned. -/
theorem emit_end {w w4 w5 : World} {g gb B m : Nat} {t i : Int} {v : Value} {ps : List PKV} {gd Bd : Nat} {D : List Nat} {N : Nat} {va : Value} {us : List PKV} {q : PKV} (h : EmQ w w4 g gb B m t i v ps gd Bd D N va us) (hb : Below w4.heap.size w4 w5) (ho : Own w5 w4.heap.size (.slice q.r.a q.r.n q.r.c) q.r.xs) :
    Own (set7 w5 w.heap.size (.int .i64 q.o) (.int .i64 q.l) (.int .i64 q.k) (.int .i64 q.z) (.int .i64 q.h) (.slice q.r.a q.r.n q.r.c) (.string q.r.s)) w.heap.size (.slice q.r.a q.r.n q.r.c) q.r.xs ∧ (Bd ≤ w.heap.size → DrAt (set7 w5 w.heap.size (.int .i64 q.o) (.int .i64 q.l) (.int .i64 q.k) (.int .i64 q.z) (.int .i64 q.h) (.slice q.r.a q.r.n q.r.c) (.string q.r.s)) gd Bd D N) ∧ w.grownBy (set7 w5 w.heap.size (.int .i64 q.o) (.int .i64 q.l) (.int .i64 q.k) (.int .i64 q.z) (.int .i64 q.h) (.slice q.r.a q.r.n q.r.c) (.string q.r.s)) (some gd) := by
  have h5 := h.below hb
  have hlt := h.pz.lt
  refine ⟨(ho.all7 hlt _ _ _ _ _ _ _).mono (Nat.le_of_lt hlt), fun hB => h5.d.below (below7 (Below.refl _ _) hB _ _ _ _ _ _ _), gb_trans h5.gr (gb_set7 _ _ _ _ _ _ _ _ _) (.inr fun j hj => Nat.le_of_eq (Option.some.inj hj))⟩

set_option maxHeartbeats 8000000 in
theorem rlemit_at (g gb B m : Nat) (t i : Int) (v : Value) (ps : List PKV) (gd Bd : Nat) (D : List Nat) (N : Nat) (w : World) (ht : Tab w) (h : RlAt w g gb B m t i v ps) (hd : DrAt w gd Bd D N) (hB : Bd ≤ w.heap.size) (hN : N ≤ 1099511627776) (htt : -1099511627776 ≤ t ∧ t ≤ 1099511627776) (h0 : 0 < ps.length) :
    Calls Tryz.prog 10 #[.pointer (some ⟨g, 0, none⟩), .pointer (some ⟨gd, 0, none⟩)] w fun e w' => EmitR w w' (emitD (ps.map PKV.pd) (drawN D (N + 1) % ps.length) t) e ∧ DrAt w' gd Bd D (N + 1) ∧ w.grownBy w' (some gd) := by
  have hb0 : Below w.heap.size w (w.alloc (.cells #[.int .i64 0, .int .i64 0, .int .i64 0, .int .i64 0, .int .i64 0, .slice none 0 0, .string ⟨#[]⟩] 42)) := (Below.refl _ _).alloc (Nat.le_refl _) _
  have hz := pkb_new w (.int .i64 0) (.int .i64 0) (.int .i64 0) (.int .i64 0) (.int .i64 0) (.slice none 0 0) (.string ⟨#[]⟩)
  have hsz : (w.alloc (.cells #[.int .i64 0, .int .i64 0, .int .i64 0, .int .i64 0, .int .i64 0, .slice none 0 0, .string ⟨#[]⟩] 42)).heap.size = w.heap.size + 1 := alloc_size _ _
  have hlen := h.buf.len.2
  generalize hWW : w.alloc (.cells #[.int .i64 0, .int .i64 0, .int .i64 0, .int .i64 0, .int .i64 0, .slice none 0 0, .string ⟨#[]⟩] 42) = W at *
  have HDW := hide (hd.below (hb0.mono hB))
  have HKE0 := rlkept_any g gb B m t i v ps W (h.below hb0)
  have HR0 := hide (h.below hb0)
  have HINV := hide h.buf.inv
  have HT0 := hide (ht.below hb0)
  have HZ := hide hz
  have HB0 := hide hb0
  have HSZ := hide hsz
  have hal := meth_all ⟨gb, 0, none⟩
  obtain ⟨n, hnn⟩ : ∃ n, ps.length = n := ⟨_, rfl⟩
  rw [hnn] at HKE0 h0 hlen ⊢
  have HKE := hide HKE0
  have HNN := hide hnn
  have hn0 : ¬ ((n : Int) = 0) := by omega
  have hn1 : ((n : Int) == 0) = false := by rw [beq_eq_false_iff_ne]; exact hn0
  obtain ⟨c0, -, -⟩ := (h.below hb0).cells
  clear h ht hz hb0 hsz hnn HKE0 hd
  go_enter Tryz.func10, Tryz.ntmps10
  go_wp2_with (go_at_call 16; refine (unhide HKE).mono ?_; rintro e w1 ⟨rfl, hw1⟩; obtain rfl := hw1.symm; clear hw1 HKE)
  refine (buall_any gb B m v ps _ (unhide HR0).buf).mono ?_
  rintro e w2 ⟨b2, c2, us, rfl, ho2, hk2, hp2, hb2⟩
  have hB2 := hb2
  have HQ2 : Hid (EmQ w w2 g gb B m t i v ps gd Bd D N (.slice (some ⟨b2, 0, none⟩) ps.length c2) us) := hide ⟨(unhide HR0).below hb2, (unhide HDW).below (hb2.mono (Nat.le_trans hB (unhide HB0).size)), (Nat.le_trans hB (Nat.le_trans (unhide HB0).size hB2.size)), ho2.mono (by rw [← unhide HSZ]; exact Nat.le_refl _), hk2.mono (by rw [← unhide HSZ]; exact Nat.le_refl _), (unhide HT0).below hb2, (unhide HZ).below hb2, gb_of_below (below0 (unhide HB0) hb2) _⟩
  have hul : us.length = n := by rw [← unhide HNN]; have := congrArg List.length hp2; simpa using this
  have HUL := hide hul
  have HIV : Hid (BInv m (us.map PKV.pd)) := hide (by rw [hp2]; exact unhide HINV)
  have HPD := hide hp2
  rw [unhide HNN] at HQ2 ⊢
  clear ho2 hk2 hp2 hb2 hB2 hul HINV HR0 HDW
  obtain ⟨f0, f1, -⟩ := (unhide HQ2).r.cells
  have HRO := hide (fun wx (hq : EmQ w wx g gb B m t i v ps gd Bd D N (.slice (some ⟨b2, 0, none⟩) n c2) us) => rlrows_any (some ⟨b2, 0, none⟩) n c2 us wx hq.pks (by omega))
  have HBE := hide (fun wx (hq : EmQ w wx g gb B m t i v ps gd Bd D N (.slice (some ⟨b2, 0, none⟩) n c2) us) => below_any gd Bd D N n wx hq.d hN (by omega) (by omega))
  have HMO := hide (show drawN D (N + 1) % n < n from Nat.mod_lt _ h0)
  generalize hbb : drawN D (N + 1) % n = bb at *
  go_wp2_with fail
  go_region_held3 (fun w' => w'.cell? ⟨g, 1, none⟩ = some (.int .i64 t)) (go_keep) (first
    | (go_at_call 26; refine (unhide HRO _ ((unhide HQ2).below (Below.refl _ _).drew)).mono ?_; rintro e w3 ⟨v3, rfl, ho3, hb3⟩; have hq3 := ((unhide HQ2).below (Below.refl _ _).drew).below hb3; have HQ3 := hide hq3; obtain ⟨a3, d3, rfl⟩ := ho3.shape; rw [rowsK_len, unhide HUL] at ho3 ⊢; have HO3 := hide ho3; have HG3 := hide ((unhide HQ2).below (Below.refl _ _).drew).d.lt; obtain ⟨-, k1, -⟩ := hq3.r.cells; clear ho3 hb3 hq3)
    | (go_at_call 27; refine (unhide HBE _ (unhide HQ3)).mono ?_; rintro e w4 ⟨rfl, hd4, hg4⟩; have hq4 := (unhide HQ3).drawn hd4 hg4; have HQ4 := hide hq4; have HO4 := hide ((unhide HO3).keptB hg4 (unhide HG3)); obtain ⟨-, l1, -⟩ := hq4.r.cells; clear hd4 hg4 hq4)
    | (go_at_call 25; refine (choose_any a3 n d3 (rowsK us) (bb : Int) t w4 (((unhide HO4).at' (KsIn.rows (unhide HQ4).u.ks)).1) (shortP_rows fun p hp => shortP_mem (short_kept (unhide HQ4).u.ks (unhide HIV)) hp) (by omega) (by have := unhide HMO; omega) htt).mono ?_; rintro e w5 ⟨v5, rfl, ho5, hb5⟩; have hq5 := (unhide HQ4).below hb5; have HQ5 := hide hq5; obtain ⟨a5, d5, rfl, hz5⟩ := ho5.ints; have HZ5 := hide hz5; obtain ⟨-, m1, -⟩ := hq5.r.cells; clear ho5 hb5 hq5 hz5))
  have HMX0 := mix18_any (some ⟨b2, 0, none⟩) n c2 us a5 (chooseL (rowsK us) (bb : Int) t).length d5 (chooseL (rowsK us) (bb : Int) t) w5 (unhide HQ5).tab (unhide HQ5).pks (unhide HQ5).u.ks (short_kept (unhide HQ5).u.ks (unhide HIV)) (unhide HZ5) (by omega) (choose_len (by rw [rowsK_len, unhide HUL]; omega))
  rw [emit_is (by rw [unhide HUL]; exact unhide HMO), unhide HPD] at HMX0
  have HMX := hide HMX0
  clear HMX0
  obtain ⟨O, hO⟩ : ∃ O, emitD (ps.map PKV.pd) bb t = O := ⟨_, rfl⟩
  have HOO : Hid (emitD (ps.map PKV.pd) (drawN D (N + 1) % n) t = O) := hide (by rw [show drawN D (N + 1) % n = bb from hbb]; exact hO)
  rw [hO] at HMX
  clear hO
  go_wp2_with (go_at_call 28; refine (unhide HMX).mono ?_; rintro e w6 hM; obtain ⟨hb6, q, rfl, hq6, ho6⟩ := hM.own; have HE6 := hide (emit_end (unhide HQ5) hb6 ho6); have HQ6 := hide hq6; have hz6 := (unhide HQ5).pz.below hb6; obtain ⟨x0, x1, x2, x3, x4, x5, x6⟩ := hz6.at; have xf := hz6.frz; have HZ6 := hide hz6; unfold PKV.val; clear hb6 hq6 ho6 hM hz6)
  obtain ⟨y1, y2, y3⟩ := unhide HE6
  exact bodyPost_ret (rlem_res (X := set7 w6 w.heap.size (.int .i64 q.o) (.int .i64 q.l) (.int .i64 q.k) (.int .i64 q.z) (.int .i64 q.h) (.slice q.r.a q.r.n q.r.c) (.string q.r.s)) rfl rfl ((unhide HZ6).sets (.int .i64 q.o) (.int .i64 q.l) (.int .i64 q.k) (.int .i64 q.z) (.int .i64 q.h) (.slice q.r.a q.r.n q.r.c) (.string q.r.s))) rfl ⟨⟨q, by rw [unhide HOO]; rfl, by rw [unhide HOO]; exact unhide HQ6, y1⟩, y2 hB, y3⟩

end Go.Proofs.YtbcgiodgobmkaaaGreatDoor
namespace Go.Proofs.YtbcgiodgobmkaaaGreatDoor
open Go.RowKit Go.Sort
set_option linter.unusedVariables false
set_option linter.unusedSimpArgs false
set_option maxRecDepth 4000

theorem emitO_yes {L : List PD} (D : List Nat) (N : Nat) (t : Int) (h : 0 < L.length) : emitO L D N t = emitD L (drawN D (N + 1) % L.length) t := if_neg (by omega)
theorem usedO_yes {L : List PD} (N : Nat) (h : 0 < L.length) : usedO L N = N + 1 := if_neg (by omega)
theorem usedO_le (L : List PD) (N : Nat) : usedO L N ≤ N + 1 := by
  unfold usedO
  split <;> omega
theorem rlemit_any (g gb B m : Nat) (t i : Int) (v : Value) (ps : List PKV) (gd Bd : Nat) (D : List Nat) (N : Nat) (w : World) (ht : Tab w) (h : RlAt w g gb B m t i v ps) (hd : DrAt w gd Bd D N) (hB : Bd ≤ w.heap.size) (hN : N ≤ 1099511627776) (htt : -1099511627776 ≤ t ∧ t ≤ 1099511627776) :
    Calls Tryz.prog 10 #[.pointer (some ⟨g, 0, none⟩), .pointer (some ⟨gd, 0, none⟩)] w fun e w' => EmitR w w' (emitO (ps.map PKV.pd) D N t) e ∧ DrAt w' gd Bd D (usedO (ps.map PKV.pd) N) ∧ w.grownBy w' (some gd) := by
  by_cases h0 : 0 < ps.length
  · have h1 : 0 < (ps.map PKV.pd).length := by rw [List.length_map]; exact h0
    rw [emitO_yes D N t h1, usedO_yes N h1, List.length_map]
    exact rlemit_at g gb B m t i v ps gd Bd D N w ht h hd hB hN htt h0
  · obtain rfl : ps = [] := List.eq_nil_of_length_eq_zero (by omega)
    refine (rlemit_no g gb B m t i v _ w h).mono fun e w' he => ?_
    exact ⟨he.1, hd.below (he.2.mono hB), gb_of_below he.2 _⟩
/-- The row of a packet of one's own stands where a relay turns. -/
theorem rl_row_tu {w : World} {g gb B m B2 : Nat} {t i : Int} {v : Value} {ps : List PKV} {a : Option Addr} {n c : Nat} {xs : List Nat} (h : RlAt w g gb B m t i v ps) (ho : Own w B2 (.slice a n c) xs) : ∀ w', Tu (rlF g gb v) w w' → RowAt w' a n xs := fun w' ht => by
  have h1 := ho.tu ht fun j hj => by
    obtain ⟨cur, hc⟩ := ho.blkU hj
    exact h.words j cur hc
  obtain ⟨a', c', e, hr⟩ := h1.row
  simp only [Value.slice.injEq] at e
  rw [e.1, e.2.1]
  exact hr
/-- Put of a packet that came in, in a relay that lies behind all that came in. -/
theorem rlput_in {W w : World} {g gb m : Nat} {t i : Int} {v : Value} {ps : List PKV} (ht : Tab W) (h : RlAt w g gb W.heap.size m t i v ps) (hb : Below W.heap.size W w) (p : PKV) (hr : RowAt W p.r.a p.r.n p.r.xs) (hn : p.r.n ≤ 10) (hs : p.r.s.size ≤ 1000) :
    Calls Tryz.prog 15 #[.pointer (some ⟨g, 0, none⟩), .agg #[.int .i64 p.o, .int .i64 p.l, .int .i64 p.k, .int .i64 p.z, .int .i64 p.h, .slice p.r.a p.r.n p.r.c, .string p.r.s]] w fun e w' => PutL w w' g gb W.heap.size m t i v ps p e :=
  rlput_any g gb W.heap.size m t i v ps p w (ht.below hb) h (fun w' htu => hr.below (h.step hb htu)) hn hs
theorem EmitR.row {w w' : World} {o : Option PD} {e : Ending} (h : EmitR w w' o e) : ∃ q : PKV, e = .returned (.tuple #[q.val, .bool o.isSome]) ∧ q.pd = o.getD zPK.pd ∧ RowAt w' q.r.a q.r.n q.r.xs := by
  obtain ⟨q, he, hq, ho⟩ := h
  refine ⟨q, he, hq, ?_⟩
  obtain ⟨_, _, e2, hr⟩ := ho.row
  simp only [Value.slice.injEq] at e2
  obtain ⟨rfl, h2, rfl⟩ := e2
  rw [h2]
  exact hr
theorem gb_low {w w' : World} {g B : Nat} (h : w.grownBy w' (some g)) (hB : B ≤ w.heap.size) (hg : B ≤ g) : Below B w w' := gb_below h hB fun k hk => by rw [← Option.some.inj hk]; exact hg
theorem emitO_mix {L : List PD} {D : List Nat} {N : Nat} {t : Int} {d : PD} (h : emitO L D N t = some d) : ∃ ws, mixD L ws = some d := by
  unfold emitO at h
  split at h
  · cases h
  · exact ⟨_, h⟩
end Go.Proofs.YtbcgiodgobmkaaaGreatDoor
