/-
  Contract of Buffer.Put.
-/
import Derived.Test.YtbcgiodgobmkaaaGreatDoorU20
namespace Go.Proofs.YtbcgiodgobmkaaaGreatDoor
open Go.RowKit Go.Sort
set_option linter.unusedVariables false
set_option linter.unusedSimpArgs false
set_option maxRecDepth 4000

/-- A copy of a packet, its words elsewhere. -/
def PKV.cop (p : PKV) (a2 : Option Addr) (c2 : Nat) : PKV := ⟨p.o, p.l, p.k, p.z, p.h, ⟨a2, p.r.n, c2, p.r.xs, p.r.s⟩⟩
/-- What a put leaves. -/
def PutB (w w' : World) (g B m : Nat) (v : Value) (ps : List PKV) (p : PKV) (e : Ending) : Prop :=
  e = .returned (.bool (takeD m (ps.map PKV.pd) p.pd)) ∧ ∃ v' ps', BfAt w' g B m v' ps' ∧ ps'.map PKV.pd = bput m (ps.map PKV.pd) p.pd ∧ Tu (bfF g v) w w' ∧ MvB w v v'
/-- 'append(own, packet)' as a step of a region that draws its order. -/
theorem append_stepP {ops : Array Oper} {o : Oper} {a : Act} {w : World} {K : Act → World → Prop} {Q : Exit → Act → World → Prop} {E : Prop} (hgd : o.guard = none) (s x : Operand)
    (ho : o.op = .call { callee := .builtin .append, args := #[s, x], argTypes := #[30, 30] }) (B : Nat) (v : Value) (ps : List PKV) (p : PKV) (hs : a.eval s = v) (hown : OwnP w B v ps) (b : Nat)
    (hx : a.eval x = .slice (some ⟨b, 0, none⟩) 1 1) (hb : w.heap[b]? = some (.cells #[.int .i64 p.o, .int .i64 p.l, .int .i64 p.k, .int .i64 p.z, .int .i64 p.h, .slice p.r.a p.r.n p.r.c, .string p.r.s] 42 (0, 0))) (hn : ps.length ≤ 1000000) (hB : B ≤ w.heap.size)
    (h : ∀ g cap w', OwnP w' B (.slice (some ⟨g, 0, none⟩) (ps.length + 1) cap) (ps ++ [p]) → w.grownBy w' v.ownBlock → (v.ownBlock = some g ∨ g = w.heap.size) → K (a.put o.dst (.slice (some ⟨g, 0, none⟩) (ps.length + 1) cap)) w') :
    if Region.wanted o (yielded ops a.tmps) = true then Oper.wp Tryz.prog o a w K Q else E := by
  obtain ⟨i0, hi, hz0, hz1, hz2⟩ := info_parts info_pktZ
  refine step_append_lies w hgd s x 30 ho B 42 i0 _ 7 80 Tryz.underlying30 hi hz0 hz1 hz2 rfl (by decide) v ps.length (cellsK ps) hs hown ⟨b, 0, none⟩ 1 1 p.cells hx rfl
    (World.news_of_block hb) (pcells_one p) (by decide) (by unfold maxLen; omega) (by omega) hB _ rfl (fun g cap w' h2 h3 h4 _ => h g cap w' ?_ h3 h4)
  show w'.ownsRow B 42 7 _ (ps ++ [p]).length (cellsK (ps ++ [p]))
  rw [List.length_append, cellsK_append, show cellsK [p] = p.cells from List.append_nil _]
  exact h2
theorem put_done {w Y w5 X w6 : World} {g B m : Nat} {v vY : Value} {ps psY : List PKV} {p : PKV} {a2 : Option Addr} {c2 g2 cap : Nat} (hS : BfAt Y g B m vY psY) (htY : Tu (bfF g v) w Y) (hm : MvB w v vY) (hd5 : Below Y.heap.size Y w5) (ho5 : Own w5 Y.drew.heap.size (.slice a2 p.r.n c2) p.r.xs)
    (hX : Below w5.heap.size w5 X) (ho6 : OwnP w6 B (.slice (some ⟨g2, 0, none⟩) (psY.length + 1) cap) (psY ++ [p.cop a2 c2])) (hg6 : X.grownBy w6 vY.ownBlock) (hat : vY.ownBlock = some g2 ∨ g2 = X.heap.size)
    (hL : psY.map PKV.pd = leftD m (ps.map PKV.pd)) (hT : takeD m (ps.map PKV.pd) p.pd = true) (hI : BInv m (ps.map PKV.pd)) (hsm : smalls p.r.xs) :
    PutB w (w6.setCell ⟨g, 1, none⟩ (.slice (some ⟨g2, 0, none⟩) (psY.length + 1) cap)) g B m v ps p (.returned (.bool true)) := by
  have hb : bput m (ps.map PKV.pd) p.pd = (psY ++ [p.cop a2 c2]).map PKV.pd := by
    unfold bput
    rw [if_pos hT, List.map_append, hL]
    rfl
  have hSX := (hS.below hd5).below hX
  have ht : Tu (fun j => vY.ownBlock = some j) X w6 := Tu.of_gb hg6 fun j _ e => e
  have hi2 := hI.put (p := p.pd) hsm
  rw [hb] at hi2
  have hmv : MvB X vY (.slice (some ⟨g2, 0, none⟩) (psY.length + 1) cap) := by
    rcases hat with e | e
    · exact .inl (by rw [e]; rfl)
    · refine .inr fun j hj => ?_
      obtain rfl : g2 = j := Option.some.inj hj
      omega
  have hown : OwnKs X B (psY ++ [p.cop a2 c2]) := hSX.rows.snoc ((ho5.below hX).mono (Nat.le_trans hS.lob (Nat.le_refl _)))
  obtain ⟨r1, r2⟩ := hSX.puts ht ho6 (hown.tu ht fun j cur hc e => hSX.words j cur hc (.inr e)) hi2 hmv
  refine ⟨by rw [hT], _, _, r1, hb.symm, ?_, ?_⟩
  · refine tuB_trans (htY.then (below0 hd5 hX)) r2 hm
  · exact hm.trans (hmv.new (Nat.le_trans hd5.size hX.size)) htY.size
set_option maxHeartbeats 4000000 in
theorem buput_any (g B m : Nat) (v : Value) (ps : List PKV) (p : PKV) (w : World) (ht : Tab w) (h : BfAt w g B m v ps) (hr : ∀ w', Tu (bfF g v) w w' → RowAt w' p.r.a p.r.n p.r.xs) (hn : p.r.n ≤ 10) (hs : p.r.s.size ≤ 1000) :
    Calls Tryz.prog 127 #[.pointer (some ⟨g, 0, none⟩), p.val] w fun e w' => PutB w w' g B m v ps p e := by
  have hb0 := pk_low w p
  have hB := h.below hb0
  have hln := h.len
  have hx : BkA 42 (w.alloc (.cells #[.int .i64 p.o, .int .i64 p.l, .int .i64 p.k, .int .i64 p.z, .int .i64 p.h, .slice p.r.a p.r.n p.r.c, .string p.r.s] 42)) w.heap.size p.cells := bkA_new 42 w p.cells
  have HTA0 := butakes_any g B m v ps p _ (ht.below hb0) hB (hr _ (Tu.of_below hb0)) hn
  unfold PKV.val at HTA0 ⊢
  have HTA := hide HTA0
  clear HTA0
  have hgw := h.lt
  have HI := hide h.inv
  have HSM : Hid (smalls p.r.xs) := hide (hr w (Tu.refl _ _)).2.1
  have HNB : Hid (¬ bfF g v w.heap.size) := hide fun hf => by
    rcases hf with e | e
    · omega
    · have := (World.ownsRow.lt h.own _ e).2; omega
  have HR := hide hr
  have HB0 := hide hb0
  generalize hW : w.alloc (.cells #[.int .i64 p.o, .int .i64 p.l, .int .i64 p.k, .int .i64 p.z, .int .i64 p.h, .slice p.r.a p.r.n p.r.c, .string p.r.s] 42) = W at *
  have HX := hide hx
  have HS0 := hide hB
  obtain ⟨q0, q1, q2, q3, q4, q5, q6⟩ : PkAt W w.heap.size (.int .i64 p.o) (.int .i64 p.l) (.int .i64 p.k) (.int .i64 p.z) (.int .i64 p.h) (.slice p.r.a p.r.n p.r.c) (.string p.r.s) := ⟨hx.at 0 rfl, hx.at 1 rfl, hx.at 2 rfl, hx.at 3 rfl, hx.at 4 rfl, hx.at 5 rfl, hx.at 6 rfl⟩
  have HBX : Hid (∀ Y, Tu (bfF g v) W Y → PkAt Y w.heap.size (.int .i64 p.o) (.int .i64 p.l) (.int .i64 p.k) (.int .i64 p.z) (.int .i64 p.h) (.slice p.r.a p.r.n p.r.c) (.string p.r.s)) := hide fun Y hY => by
    have hk := (unhide HX).tu hY (unhide HNB)
    exact ⟨hk.at 0 rfl, hk.at 1 rfl, hk.at 2 rfl, hk.at 3 rfl, hk.at 4 rfl, hk.at 5 rfl, hk.at 6 rfl⟩
  clear h hB hb0 hx hr ht
  go_enter Tryz.func127, Tryz.ntmps127
  go_wp2_with fail
  refine (unhide HTA).mono ?_
  rintro e w1 ⟨rfl, hb1⟩
  have HB1 := hide hb1
  clear HTA q0 q1 q2 q3 q4 q5 q6
  cases hT : takeD m (ps.map PKV.pd) p.pd
  · have HT := hide hT
    clear hT hb1
    go_wp2
    go_ret
    have hbw := below0 (unhide HB0) (unhide HB1)
    exact ⟨by rw [unhide HT]; rfl, v, ps, (unhide HS0).below (unhide HB1), by unfold bput; rw [if_neg (by rw [unhide HT]; decide)], Tu.of_below hbw, MvB.refl _ _⟩
  have HT := hide hT
  have hS1 := (unhide HS0).below hb1
  have HS1 := hide hS1
  obtain ⟨d0, d1⟩ := hS1.cells (Below.refl _ _)
  obtain ⟨a, c, hv, -, -, -⟩ := hS1.at
  have hm0 := (take_parts hT).1
  clear hb1 hS1 hT
  by_cases hfull : ps.length = m
  · have hps0 : 0 < ps.length := by omega
    obtain ⟨gp, cp, hvv⟩ : ∃ gp cp, v = .slice (some ⟨gp, 0, none⟩) ps.length cp := by
      rcases (unhide HS0).own.2 with ⟨_, e⟩ | ⟨gp, cp, _, e, _⟩
      · omega
      · exact ⟨gp, cp, e⟩
    subst hvv
    clear hv
    have hde : ((ps.length : Int) == (m : Int)) = true := by rw [beq_iff_eq]; omega
    have hgi := (goesTo_spec (ps.map PKV.pd) ps.length hps0).1
    have hsD : BfAt w1.drew g B m (.slice (some ⟨gp, 0, none⟩) ps.length cp) ps := (unhide HS1).below (Below.refl _ _).drew
    have HTG := hide (butogo_any g B m _ ps w1.drew hsD hps0)
    have HLf : Hid ((ps.eraseIdx (goesTo (ps.map PKV.pd) ps.length)).map PKV.pd = leftD m (ps.map PKV.pd)) := hide (by unfold leftD; rw [List.length_map, if_pos (by omega), erase_map])
    have HIL : Hid (BInv m ((ps.eraseIdx (goesTo (ps.map PKV.pd) ps.length)).map PKV.pd)) := hide (by
      rw [unhide HLf]
      have hI := unhide HI
      exact ⟨by have := (left_len (m := m) hI.le hm0).1; omega, fun q hq => hI.ok q (left_sub q hq), fun q hq r hr => hI.alk q (left_sub q hq) r (left_sub r hr), fun q hq => hI.sm q (left_sub q hq)⟩)
    have HDE := hide (fun (wx : World) (ho : OwnP wx B (.slice (some ⟨gp, 0, none⟩) ps.length cp) ps) => budel_any B gp cp (goesTo (ps.map PKV.pd) ps.length) ps wx ho hgi hln.2)
    have hgb : goesTo (ps.map PKV.pd) ps.length ≤ 256 := by omega
    have HEL : Hid ((ps.eraseIdx (goesTo (ps.map PKV.pd) ps.length)).length = ps.length - 1) := hide (List.length_eraseIdx_of_lt hgi)
    have HES : Hid (∀ q ∈ ps.eraseIdx (goesTo (ps.map PKV.pd) ps.length), q ∈ ps) := hide fun q hq => List.mem_of_mem_eraseIdx hq
    have HSD := hide hsD
    clear hsD hgi hfull
    generalize goesTo (ps.map PKV.pd) ps.length = G at *
    generalize ps.eraseIdx G = es at *
    go_wp2
    go_region_held3 (fun w' => w'.cell? ⟨g, 0, none⟩ = some (.int .i64 (m : Int)) ∧ w'.cell? ⟨g, 1, none⟩ = some (.slice (some ⟨gp, 0, none⟩) ps.length cp)) (go_keep) (fail)
    go_wp2_with fail
    refine (unhide HTG).mono ?_
    rintro e w2 ⟨rfl, hb2⟩
    have hS2 := (unhide HSD).below hb2
    have HS2 := hide hS2
    obtain ⟨y0, y1⟩ := hS2.cells (Below.refl _ _)
    have HDD := hide (unhide HDE w2 hS2.own)
    have HB2 := hide (show Below W.heap.size W w2 from below0 (below0 (unhide HB1) (Below.refl _ _).drew) hb2)
    clear hb2 hS2 HTG HSD HDE d0 d1
    go_wp2_with fail
    refine (unhide HDD).mono ?_
    rintro e w3 ⟨rfl, ho3, hg3⟩
    have ht3 : Tu (fun j => (Value.slice (some ⟨gp, 0, none⟩) ps.length cp).ownBlock = some j) w2 w3 := Tu.of_gb hg3 fun j _ e => e
    have hmv3 : MvB w2 (.slice (some ⟨gp, 0, none⟩) ps.length cp) (.slice (some ⟨gp, 0, none⟩) (ps.length - 1) cp) := .inl rfl
    have hkk := (unhide HS2).blk.kept hg3 (fun e => (unhide HS2).blk.neP (unhide HS2).own (by decide) e.symm)
    have y2 := hkk.at 1 rfl
    have yf := hkk.frz 1
    have HPU := hide ((unhide HS2).puts ht3 ho3 (((unhide HS2).rows.sub (unhide HES)).tu ht3 fun j cur hc e => (unhide HS2).words j cur hc (.inr e)) (unhide HIL) hmv3)
    clear ho3 hg3 ht3 hkk HDD y0 y1
    go_wp2_with fail
    generalize hY : w3.setCell ⟨g, 1, none⟩ (.slice (some ⟨gp, 0, none⟩) (ps.length - 1) cp) = Y at *
    obtain ⟨hSY, htY⟩ := unhide HPU
    have HTY := hide (htY.after (below0 (unhide HB0) (unhide HB2)))
    have HMV : Hid (MvB w (.slice (some ⟨gp, 0, none⟩) ps.length cp) (.slice (some ⟨gp, 0, none⟩) (ps.length - 1) cp)) := hide (hmv3.new (below0 (unhide HB0) (unhide HB2)).size)
    have HS := hide hSY
    have HCO0 := bcopy_any p Y.drew ((unhide HR _ (unhide HTY)).below (Below.refl _ _).drew) (by omega) (by omega)
    unfold PKV.val at HCO0
    have HCO := hide HCO0
    clear HCO0
    obtain ⟨q0, q1, q2, q3, q4, q5, q6⟩ := unhide HBX Y (htY.after (unhide HB2))
    obtain ⟨z0, zz1⟩ := hSY.cells (Below.refl _ _)
    have hesl : es.length = ps.length - 1 := unhide HEL
    have HLN : Hid (es.length ≤ 1000000) := hide (by omega)
    have HNE : Hid (some g ≠ (Value.slice (some ⟨gp, 0, none⟩) (ps.length - 1) cp).ownBlock) := hide fun e => hSY.blk.neP hSY.own (by decide) e.symm
    have HL := HLf
    clear hSY htY hY HPU hesl y2 yf
    go_region_law (first
      | (go_simp; go_at_call 128; refine (unhide HCO).mono ?_; rintro e w5 ⟨a2, c2, rfl, ho5, hb5⟩; have D5 := hide (show Below Y.heap.size Y w5 from below0 (Below.refl _ _).drew hb5); have hs5 := (unhide HS).below (unhide D5); have HS5 := hide hs5; have HO5 := hide ho5; have z1 := (hs5.cells (Below.refl _ _)).2; have hb6 : Below w5.heap.size w5 (w5.alloc (.cells #[.int .i64 p.o, .int .i64 p.l, .int .i64 p.k, .int .i64 p.z, .int .i64 p.h, .slice a2 p.r.n c2, .string p.r.s] 42)) := (Below.refl _ _).alloc (Nat.le_refl _) _; have HB6 := hide hb6; have z2 := (hs5.cells hb6).2; have hnw := heap_alloc_new w5 (.cells #[.int .i64 p.o, .int .i64 p.l, .int .i64 p.k, .int .i64 p.z, .int .i64 p.h, .slice a2 p.r.n c2, .string p.r.s] 42); have HNW := hide hnw; have HBB := hide (Nat.le_trans hs5.lob hb6.size); clear ho5 hb5 hs5 hb6 hnw)
      | (refine append_stepP (by rfl) _ _ (by rfl) B (.slice (some ⟨gp, 0, none⟩) (ps.length - 1) cp) es (p.cop a2 c2) (by rfl) ((unhide HS5).own.below (unhide HB6)) w5.heap.size (by rfl) (unhide HNW) (unhide HLN) (unhide HBB) ?_; intro g2 cap w6 ho6 hg6 hat; have HO6 := hide ho6; have HG6 := hide hg6; have HAT := hide hat; have hk6 := ((unhide HS5).below (unhide HB6)).blk.kept hg6 (unhide HNE); have u1 := hk6.at 1 rfl; have uf := hk6.frz 1; clear ho6 hg6 hat hk6)
      | fail)
    all_goals go_wp2
    all_goals go_ret
    all_goals exact put_done (unhide HS) (unhide HTY) (unhide HMV) (unhide D5) (unhide HO5) (unhide HB6) (unhide HO6) (unhide HG6) (unhide HAT) (unhide HL) (unhide HT) (unhide HI) (unhide HSM)
  · have hde : ((ps.length : Int) == (m : Int)) = false := by rw [beq_eq_false_iff_ne]; omega
    subst hv
    go_wp2
    go_region_held3 (fun w' => w'.cell? ⟨g, 0, none⟩ = some (.int .i64 (m : Int)) ∧ w'.cell? ⟨g, 1, none⟩ = some (.slice a ps.length c)) (go_keep) (fail)
    go_wp2_with fail
    have hSY : BfAt w1.drew g B m (.slice a ps.length c) ps := (unhide HS1).below (Below.refl _ _).drew
    have hbY : Below W.heap.size W w1.drew := below0 (unhide HB1) (Below.refl _ _).drew
    have htY : Tu (bfF g (.slice a ps.length c)) W w1.drew := Tu.of_below hbY
    generalize hY : w1.drew = Y at *
    have HTY := hide (htY.after (unhide HB0))
    have HMV : Hid (MvB w (.slice a ps.length c) (.slice a ps.length c)) := hide (MvB.refl _ _)
    have HS := hide hSY
    have HCO0 := bcopy_any p Y.drew ((unhide HR _ (unhide HTY)).below (Below.refl _ _).drew) (by omega) (by omega)
    unfold PKV.val at HCO0
    have HCO := hide HCO0
    clear HCO0
    obtain ⟨q0, q1, q2, q3, q4, q5, q6⟩ := unhide HBX Y htY
    obtain ⟨z0, zz1⟩ := hSY.cells (Below.refl _ _)
    have HLN : Hid (ps.length ≤ 1000000) := hide (by omega)
    have HNE : Hid (some g ≠ (Value.slice a ps.length c).ownBlock) := hide fun e => hSY.blk.neP hSY.own (by decide) e.symm
    have HL : Hid (ps.map PKV.pd = leftD m (ps.map PKV.pd)) := hide (by unfold leftD; rw [List.length_map, if_neg (by omega)])
    clear hSY htY hbY hY d0 d1
    go_region_law (first
      | (go_simp; go_at_call 128; refine (unhide HCO).mono ?_; rintro e w5 ⟨a2, c2, rfl, ho5, hb5⟩; have D5 := hide (show Below Y.heap.size Y w5 from below0 (Below.refl _ _).drew hb5); have hs5 := (unhide HS).below (unhide D5); have HS5 := hide hs5; have HO5 := hide ho5; have z1 := (hs5.cells (Below.refl _ _)).2; have hb6 : Below w5.heap.size w5 (w5.alloc (.cells #[.int .i64 p.o, .int .i64 p.l, .int .i64 p.k, .int .i64 p.z, .int .i64 p.h, .slice a2 p.r.n c2, .string p.r.s] 42)) := (Below.refl _ _).alloc (Nat.le_refl _) _; have HB6 := hide hb6; have z2 := (hs5.cells hb6).2; have hnw := heap_alloc_new w5 (.cells #[.int .i64 p.o, .int .i64 p.l, .int .i64 p.k, .int .i64 p.z, .int .i64 p.h, .slice a2 p.r.n c2, .string p.r.s] 42); have HNW := hide hnw; have HBB := hide (Nat.le_trans hs5.lob hb6.size); clear ho5 hb5 hs5 hb6 hnw)
      | (refine append_stepP (by rfl) _ _ (by rfl) B (.slice a ps.length c) ps (p.cop a2 c2) (by rfl) ((unhide HS5).own.below (unhide HB6)) w5.heap.size (by rfl) (unhide HNW) (unhide HLN) (unhide HBB) ?_; intro g2 cap w6 ho6 hg6 hat; have HO6 := hide ho6; have HG6 := hide hg6; have HAT := hide hat; have hk6 := ((unhide HS5).below (unhide HB6)).blk.kept hg6 (unhide HNE); have u1 := hk6.at 1 rfl; have uf := hk6.frz 1; clear ho6 hg6 hat hk6)
      | fail)
    all_goals go_wp2
    all_goals go_ret
    all_goals exact put_done (unhide HS) (unhide HTY) (unhide HMV) (unhide D5) (unhide HO5) (unhide HB6) (unhide HO6) (unhide HG6) (unhide HAT) (unhide HL) (unhide HT) (unhide HI) (unhide HSM)
end Go.Proofs.YtbcgiodgobmkaaaGreatDoor
