/-
  Contract of what calm.way gives: the way, node by node. Condition: the slices can be read; there is a way.
-/
import Derived.Test.YtakoaadimhpclaaGreatDoorU35
namespace Go.Proofs.YtakoaadimhpclaaGreatDoor
open Go.RowKit Go.Sort Go.Shelf
set_option linter.unusedVariables false
set_option linter.unusedSimpArgs false
set_option maxRecDepth 4000
attribute [local go_sem] Oper.semAt_some

/-- The boxes of a way: where it is (Bi), how far all are (Bf), the nodes (Bl). -/
structure WayB (w1 : World) (a : Option Addr) (N c : Nat) (al : Option Addr) (cl : Nat) (Bi Bf Bl i : Nat) (W : World) : Prop where
  id : Boxed W Bi 3 (.int .i64 (i : Int))
  left : Boxed W Bf 58 (.slice al N cl)
  nds : Boxed W Bl 48 (.slice a N c)
  low : Below w1.heap.size w1 W
theorem WayB.below {w1 : World} {a : Option Addr} {N c : Nat} {al : Option Addr} {cl Bi Bf Bl i n₀ : Nat} {W W' : World} (h : WayB w1 a N c al cl Bi Bf Bl i W) (hb : Below n₀ W W') (h1 : Bi < n₀) (h2 : Bf < n₀) (h3 : Bl < n₀) (h4 : w1.heap.size ≤ n₀) : WayB w1 a N c al cl Bi Bf Bl i W' :=
  ⟨(hb.block Bi h1).trans h.id, (hb.block Bf h2).trans h.left, (hb.block Bl h3).trans h.nds, h.low.trans (hb.mono h4)⟩
theorem WayB.set {w1 : World} {a : Option Addr} {N c : Nat} {al : Option Addr} {cl Bi Bf Bl i : Nat} {W : World} (h : WayB w1 a N c al cl Bi Bf Bl i W) (j : Nat) (hB : w1.heap.size ≤ Bi) : WayB w1 a N c al cl Bi Bf Bl j (W.setCell ⟨Bi, 0, none⟩ (.int .i64 (j : Int))) := by
  have hne : ∀ B (T : TypeId) (v : Value), T ≠ 3 → Boxed W B T v → B ≠ Bi := fun B T v hT hx e => by
    subst e
    have := Option.some.inj (hx.symm.trans h.id)
    simp only [Obj.cells.injEq] at this
    exact hT this.2.1
  exact ⟨h.id.set _, h.left.other (hne Bf _ _ (by decide) h.left) _, h.nds.other (hne Bl _ _ (by decide) h.nds) _, h.low.trans (gb_below (gb_setCell W Bi 0 _) h.low.size fun k hk => by rw [← Option.some.inj hk]; exact hB)⟩
theorem WayB.drew {w1 : World} {a : Option Addr} {N c : Nat} {al : Option Addr} {cl Bi Bf Bl i : Nat} {W : World} (h : WayB w1 a N c al cl Bi Bf Bl i W) : WayB w1 a N c al cl Bi Bf Bl i W.drew := ⟨h.id, h.left, h.nds, h.low.drew⟩
theorem farL_get (ds : List NDV) (n tn i : Nat) (h : i < n) : (farL ds n tn).getD i 0 = ((farN ds n tn i : Nat) : Int) := by
  unfold farL
  rw [List.getD_eq_getElem?_getD, List.getElem?_map, List.getElem?_range h]
  rfl
set_option maxRecDepth 100000 in
set_option maxHeartbeats 8000000 in
theorem way1_in (n : Nat) (hn : 1 ≤ n) (l Bi Bf Bl n₀ : Nat) (a : Option Addr) (N c : Nat) (ds : List NDV) (al : Option Addr) (cl tn from_ : Nat) (w1 : World) (hd : NdsAt w1 a N ds) (hp : StepP ds N) (hL : IntzAt w1 al N (farL ds N tn)) (hfr : from_ < N) (h8 : farN ds N tn from_ < 8)
    (J : List Nat → World → Prop) (W : World) (hJa : AbidesFrom W.heap.size J) (hJs : ∀ pre W v, J pre W → J pre (W.setCell ⟨Bi, 0, none⟩ v))
    (hY : ∀ pre (x : Nat) W1, J pre W1 → pre.length < 9 → YieldAt Fence.wide (n - 1) Tryz.prog l #[.int .i64 (x : Int)] W1 fun e W' => e = .returned (.bool true) ∧ J (pre ++ [x]) W' ∧ Below n₀ W1 W') (h0 : J [] W)
    (hB : WayB w1 a N c al cl Bi Bf Bl from_ W) (h1 : Bi < n₀) (h2 : Bf < n₀) (h3 : Bl < n₀) (h4 : w1.heap.size ≤ n₀) (h5 : w1.heap.size ≤ Bi) :
    CallsIn Fence.wide n Tryz.prog 62 #[.func (.yield l) #[] #[], .pointer (some ⟨Bi, 0, none⟩), .pointer (some ⟨Bf, 0, none⟩), .pointer (some ⟨Bl, 0, none⟩)] W fun e W' => (∃ v, e = .returned v) ∧ J (wayL ds N tn from_) W' := by
  have hN8 := hp.1.1
  have hF : FarP ds N tn (farN ds N tn) := farN_is hp.1
  have HD := hide hd
  have HP := hide hp
  have HL := hide hL
  have HF := hide hF
  have HJA := hide hJa
  have HJS := hide hJs
  have HY := hide hY
  have HB0 := hide hB
  clear hd hp hL hF hJa hJs hY hB
  refine callsIn_of_wp Tryz.func62 rfl trivial ?_ rfl
  simp only [Tryz.ntmps62, List.size_toArray, List.length_cons, List.length_nil, Nat.reduceAdd, Nat.reduceSub, Array.replicate_succ, Array.replicate_zero, List.push_toArray, List.append_toArray, List.nil_append, List.cons_append]
  gi_wp2
  gi_loopw [] (fun wr => ∃ (at_ : Nat) (pre : List Nat), at_ < N ∧ farN ds N tn at_ < 8 ∧ Hid (J pre wr ∧ WayB w1 a N c al cl Bi Bf Bl at_ wr ∧ W.heap.size ≤ wr.heap.size ∧ pre ++ wayK ds (farN ds N tn) N (farN ds N tn at_) at_ = wayL ds N tn from_ ∧ pre.length + farN ds N tn at_ ≤ 8)) (fun wr => farN ds N tn (intOf ((wr.cell? ⟨Bi, 0, none⟩).getD undef)).toNat)
  case atStart => exact ⟨from_, [], hfr, h8, hide ⟨h0, unhide HB0, Nat.le_refl _, rfl, by simp; omega⟩⟩
  case round =>
    obtain ⟨at_, pre, hat, hat8, HR⟩ := hrel
    rename World => wr
    obtain ⟨fn, tmps, assign, body, hy, hR⟩ := (unhide HY) pre at_ wr (unhide HR).1 (by have := (unhide HR).2.2.2.2; omega)
    have cI := (unhide HR).2.1.id.cell
    gi_wp2
    refine hR.mono ?_
    rintro e W3 ⟨rfl, hJ3, hk3⟩
    have hW3 := (unhide HR).2.1.below hk3 h1 h2 h3 h4
    obtain ⟨b, off, rfl, hcl⟩ := (unhide HD).at hat
    obtain ⟨-, hc2⟩ := hcl at_ hat
    obtain ⟨b', off', rfl, hcl'⟩ := (unhide HL).at hat
    have hc3 := hcl' at_ hat
    rw [farL_get ds N tn at_ hat] at hc3
    have hI := (unhide HD).2.1 at_ hat
    have htn : (ds.getD at_ .dflt).n = (tosN ds at_).length := hI.1.symm
    have HI := hide (show IntzAt w1 (ds.getD at_ .dflt).a (tosN ds at_).length (tosN ds at_) from by rw [← htn]; exact hI)
    rw [htn] at hc2
    have HCN := hide (fun wx (hb : Below w1.heap.size w1 wx) => (hb.cell (p := ⟨b, off + at_ * 2 + 1, none⟩) (World.block_lt_of_cell? w1 _ hc2)).trans hc2)
    have HCL := hide (fun wx (hb : Below w1.heap.size w1 wx) => (hb.cell (p := ⟨b', off' + at_, none⟩) (World.block_lt_of_cell? w1 _ hc3)).trans hc3)
    clear hc2 hc3
    have hc2 := unhide HCN W3 hW3.low
    have hc3 := unhide HCL W3 hW3.low
    have cI3 := hW3.id.cell
    have fI3 := hW3.id.frozen
    have cF3 := hW3.left.cell
    have cN3 := hW3.nds.cell
    have hat' : (at_ : Int) < (N : Int) := by omega
    have HW3 := hide hW3
    have HJ3 := hide hJ3
    have HS3 := hide (Nat.le_trans (unhide HR).2.2.1 hk3.size)
    have h7 : (tosN ds at_).length ≤ 7 := (unhide HP).2 at_ hat
    clear hcl hcl' hI htn hk3 hJ3 hW3 hy hR cI
    generalize ds.getD at_ .dflt = d at *
    obtain ⟨f, hf⟩ : ∃ f, f = farN ds N tn at_ := ⟨_, rfl⟩
    rw [← hf] at hc3 hat8 HCL
    have HFE := hide hf
    clear hf
    by_cases hz : f = 0
    · have HE := hide (show J (wayL ds N tn from_) W3 from by
        have := (unhide HR).2.2.2.1
        rw [← unhide HFE, hz] at this
        rw [← this]
        exact unhide HJ3)
      subst hz
      gi_wp2
      go_end0
      exact ⟨⟨_, rfl⟩, unhide HE⟩
    · have hz' : (0 : Int) < ((f : Nat) : Int) := by omega
      have hnx := nxt_is (unhide HF) (unhide HP).1 hat (by rw [← unhide HFE]; exact hz) (by rw [← unhide HFE]; exact hat8)
      rw [← unhide HFE] at hnx
      obtain ⟨e1, e2, e3, e4, -⟩ := hnx
      have HN := hide (fun wx (hb : Below W3.heap.size W3 wx) => nearer_any d.a (tosN ds at_).length d.c (tosN ds at_) (some ⟨b', off', none⟩) N cl (farL ds N tn) (farN ds N tn) f wx (((unhide HI).below (unhide HW3).low).below hb) (((unhide HL).below (unhide HW3).low).below hb) (farL_get ds N tn) ((unhide HP).1.2 at_ hat) (by omega))
      rw [e1] at HN
      obtain ⟨nx, hnx⟩ : ∃ nx, nx = nxtN ds (farN ds N tn) N at_ := ⟨_, rfl⟩
      rw [← hnx] at HN e2 e4
      have hS : W3.drew.cell? ⟨Bl, 0, none⟩ = some (.slice (some ⟨b, off, none⟩) N c) ∧ W3.drew.cell? ⟨Bf, 0, none⟩ = some (.slice (some ⟨b', off', none⟩) N cl) ∧ W3.drew.cell? ⟨b, off + at_ * 2 + 1, none⟩ = some (.slice d.a (tosN ds at_).length d.c) ∧ W3.drew.cell? ⟨b', off' + at_, none⟩ = some (.int .i64 ((f : Nat) : Int)) := ⟨cN3, cF3, hc2, hc3⟩
      have hws := ((unhide HW3).set nx h5).drew
      have hJw : J (pre ++ [at_]) (W3.setCell ⟨Bi, 0, none⟩ (.int .i64 (nx : Int))).drew := (unhide HJA) _ _ _ none ((unhide HJS) _ _ _ (unhide HJ3)) (gb_drew (gb_refl _ _)) (fun r e => by cases e)
      have HM := hide (show farN ds N tn (intOf (((W3.setCell ⟨Bi, 0, none⟩ (.int .i64 (nx : Int))).drew.cell? ⟨Bi, 0, none⟩).getD undef)).toNat < farN ds N tn (intOf ((wr.cell? ⟨Bi, 0, none⟩).getD undef)).toNat from by
        rw [hws.id.cell, (unhide HR).2.1.id.cell]
        simp only [Option.getD_some, intOf, Int.toNat_natCast]
        rw [← unhide HFE]
        omega)
      have HW := hide (show ((W3.setCell ⟨Bi, 0, none⟩ (.int .i64 (nx : Int))).drew.cell? ⟨Bl, 0, none⟩ = some (.slice (some ⟨b, off, none⟩) N c) ∧ (W3.setCell ⟨Bi, 0, none⟩ (.int .i64 (nx : Int))).drew.cell? ⟨Bf, 0, none⟩ = some (.slice (some ⟨b', off', none⟩) N cl) ∧ (W3.setCell ⟨Bi, 0, none⟩ (.int .i64 (nx : Int))).drew.cell? ⟨b, off + at_ * 2 + 1, none⟩ = some (.slice d.a (tosN ds at_).length d.c) ∧ (W3.setCell ⟨Bi, 0, none⟩ (.int .i64 (nx : Int))).drew.cell? ⟨b', off' + at_, none⟩ = some (.int .i64 ((f : Nat) : Int))) ∧ ∃ (at_' : Nat) (pre' : List Nat), at_' < N ∧ farN ds N tn at_' < 8 ∧ Hid (J pre' (W3.setCell ⟨Bi, 0, none⟩ (.int .i64 (nx : Int))).drew ∧ WayB w1 (some ⟨b, off, none⟩) N c (some ⟨b', off', none⟩) cl Bi Bf Bl at_' (W3.setCell ⟨Bi, 0, none⟩ (.int .i64 (nx : Int))).drew ∧ W.heap.size ≤ (W3.setCell ⟨Bi, 0, none⟩ (.int .i64 (nx : Int))).drew.heap.size ∧ pre' ++ wayK ds (farN ds N tn) N (farN ds N tn at_') at_' = wayL ds N tn from_ ∧ pre'.length + farN ds N tn at_' ≤ 8) from by
        refine ⟨⟨hws.nds.cell, hws.left.cell, unhide HCN _ hws.low, unhide HCL _ hws.low⟩, nx, pre ++ [at_], e2, by omega, hide ⟨hJw, hws, ?_, ?_, ?_⟩⟩
        · exact Nat.le_trans (unhide HS3) (KeepsOthers.setCell W3 ⟨Bi, 0, none⟩ _).size
        · rw [← (unhide HR).2.2.2.1, ← unhide HFE, show f = farN ds N tn nx + 1 by omega, List.append_assoc]
          show pre ++ (at_ :: wayK ds (farN ds N tn) N (farN ds N tn nx) nx) = _
          rw [hnx]
          rfl
        · have := (unhide HR).2.2.2.2
          rw [← unhide HFE] at this
          simp
          omega)
      clear hws hJw hnx e1 e2 e3 e4 hz
      gi_wp2
      refine wpIn_wide.2 ?_
      refine wp_region_held_drew (S := fun wx => wx.cell? ⟨Bl, 0, none⟩ = some (.slice (some ⟨b, off, none⟩) N c) ∧ wx.cell? ⟨Bf, 0, none⟩ = some (.slice (some ⟨b', off', none⟩) N cl) ∧ wx.cell? ⟨b, off + at_ * 2 + 1, none⟩ = some (.slice d.a (tosN ds at_).length d.c) ∧ wx.cell? ⟨b', off' + at_, none⟩ = some (.int .i64 ((f : Nat) : Int))) (by kernel_rfl) hS (fun hHeld => ?_)
      refine wpAnyH_take (i := 0) (v := ?_) rfl (by kernel_rfl) (by kernel_rfl) (by kernel_rfl) (fun _ _ _ h => h) (Or.inl ⟨by rfl, ?f0⟩) (by assumption) ?_
      case f0 => (intro w hSw; (try dsimp only at hSw); go_simp; try with_reducible rfl)
      refine wpAnyH_take (i := 5) (v := ?_) rfl (by kernel_rfl) (by kernel_rfl) (by kernel_rfl) (fun _ _ _ h => h) (Or.inl ⟨by rfl, ?f5⟩) (by assumption) ?_
      case f5 => (intro w hSw; (try dsimp only at hSw); go_simp; try with_reducible rfl)
      refine wpAnyH_take (i := 6) (v := ?_) rfl (by kernel_rfl) (by kernel_rfl) (by kernel_rfl) (fun _ _ _ h => h) (Or.inl ⟨by rfl, ?f6⟩) (by assumption) ?_
      case f6 => (intro w hSw; (try dsimp only at hSw); go_simp; try with_reducible rfl)
      refine wpAnyH_ready (rs := [1, 7]) (by kernel_rfl) (by simp) ?_
      refine AllReadyH.cons rfl (fun K hK => ?_) (AllReadyH.cons rfl (fun K hK => ?_) AllReadyH.nil)
      · go_simp
        refine hK.out _ _ hS (fun hHeld => ?_)
        clear hK K
        refine wpAnyH_take (i := 2) (v := ?_) rfl (by kernel_rfl) (by kernel_rfl) (by kernel_rfl) (fun _ _ _ h => h) (Or.inl ⟨by rfl, ?f2⟩) (by assumption) ?_
        case f2 => (intro w hSw; (try dsimp only at hSw); go_simp; try with_reducible rfl)
        refine wpAnyH_take (i := 3) (v := ?_) rfl (by kernel_rfl) (by kernel_rfl) (by kernel_rfl) (fun _ _ _ h => h) (Or.inl ⟨by rfl, ?f3⟩) (by assumption) ?_
        case f3 => (intro w hSw; (try dsimp only at hSw); go_simp; try with_reducible rfl)
        refine wpAnyH_take (i := 4) (v := ?_) rfl (by kernel_rfl) (by kernel_rfl) (by kernel_rfl) (fun _ _ _ h => h) (Or.inl ⟨by rfl, ?f4⟩) (by assumption) ?_
        case f4 => (intro w hSw; (try dsimp only at hSw); go_simp; try with_reducible rfl)
        refine wpAnyH_ready (rs := [7]) (by kernel_rfl) (by simp) ?_
        refine AllReadyH.cons rfl (fun K hK => ?_) AllReadyH.nil
        go_simp
        refine hK.out _ _ hS (fun hHeld => ?_)
        clear hK K
        refine wpAnyH_take (i := 8) (v := ?_) rfl (by kernel_rfl) (by kernel_rfl) (by kernel_rfl) (fun _ _ _ h => h) (Or.inl ⟨by rfl, ?f8⟩) (by assumption) ?_
        case f8 => (intro w hSw; (try dsimp only at hSw); go_simp; try with_reducible rfl)
        refine wpAnyH_take (i := 9) (v := ?_) rfl (by kernel_rfl) (by kernel_rfl) (by kernel_rfl) (fun _ _ _ h => h) (Or.inl ⟨by rfl, ?f9⟩) (by assumption) ?_
        case f9 => (intro w hSw; (try dsimp only at hSw); go_simp; try with_reducible rfl)
        refine wpAnyH_ready (rs := [10]) (by kernel_rfl) (by simp) ?_
        refine AllReadyH.cons rfl (fun K hK => ?_) AllReadyH.nil
        go_simp
        refine (unhide HN _ (Below.refl _ _).drew).mono ?_
        rintro e w9 ⟨rfl, rfl⟩
        dsimp only
        refine hK.out _ _ hS (fun hHeld => ?_)
        clear hK K
        refine wpAnyH_ready (rs := [11]) (by kernel_rfl) (by simp) ?_
        refine AllReadyH.cons rfl (fun K hK => ?_) AllReadyH.nil
        go_simp
        refine hK.out _ _ (unhide HW).1 (fun hHeld => ?_)
        clear hK K
        refine wpAnyH_done (by kernel_rfl) ?_ _
        gi_wp2
        go_roundw
        case rel => exact (unhide HW).2
        case measure => exact unhide HM
      · go_simp
        refine hK.out _ _ hS (fun hHeld => ?_)
        clear hK K
        refine wpAnyH_take (i := 8) (v := ?_) rfl (by kernel_rfl) (by kernel_rfl) (by kernel_rfl) (fun _ _ _ h => h) (Or.inl ⟨by rfl, ?f8⟩) (by assumption) ?_
        case f8 => (intro w hSw; (try dsimp only at hSw); go_simp; try with_reducible rfl)
        refine wpAnyH_take (i := 9) (v := ?_) rfl (by kernel_rfl) (by kernel_rfl) (by kernel_rfl) (fun _ _ _ h => h) (Or.inl ⟨by rfl, ?f9⟩) (by assumption) ?_
        case f9 => (intro w hSw; (try dsimp only at hSw); go_simp; try with_reducible rfl)
        refine wpAnyH_ready (rs := [1]) (by kernel_rfl) (by simp) ?_
        refine AllReadyH.cons rfl (fun K hK => ?_) AllReadyH.nil
        go_simp
        refine hK.out _ _ hS (fun hHeld => ?_)
        clear hK K
        refine wpAnyH_take (i := 2) (v := ?_) rfl (by kernel_rfl) (by kernel_rfl) (by kernel_rfl) (fun _ _ _ h => h) (Or.inl ⟨by rfl, ?f2⟩) (by assumption) ?_
        case f2 => (intro w hSw; (try dsimp only at hSw); go_simp; try with_reducible rfl)
        refine wpAnyH_take (i := 3) (v := ?_) rfl (by kernel_rfl) (by kernel_rfl) (by kernel_rfl) (fun _ _ _ h => h) (Or.inl ⟨by rfl, ?f3⟩) (by assumption) ?_
        case f3 => (intro w hSw; (try dsimp only at hSw); go_simp; try with_reducible rfl)
        refine wpAnyH_take (i := 4) (v := ?_) rfl (by kernel_rfl) (by kernel_rfl) (by kernel_rfl) (fun _ _ _ h => h) (Or.inl ⟨by rfl, ?f4⟩) (by assumption) ?_
        case f4 => (intro w hSw; (try dsimp only at hSw); go_simp; try with_reducible rfl)
        refine wpAnyH_ready (rs := [10]) (by kernel_rfl) (by simp) ?_
        refine AllReadyH.cons rfl (fun K hK => ?_) AllReadyH.nil
        go_simp
        refine (unhide HN _ (Below.refl _ _).drew).mono ?_
        rintro e w9 ⟨rfl, rfl⟩
        dsimp only
        refine hK.out _ _ hS (fun hHeld => ?_)
        clear hK K
        refine wpAnyH_ready (rs := [11]) (by kernel_rfl) (by simp) ?_
        refine AllReadyH.cons rfl (fun K hK => ?_) AllReadyH.nil
        go_simp
        refine hK.out _ _ (unhide HW).1 (fun hHeld => ?_)
        clear hK K
        refine wpAnyH_done (by kernel_rfl) ?_ _
        gi_wp2
        go_roundw
        case rel => exact (unhide HW).2
        case measure => exact unhide HM
end Go.Proofs.YtakoaadimhpclaaGreatDoor
