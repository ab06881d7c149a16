/-
  Contract of calm.steps: how far each node is. Condition: the nodes can be read.
-/
import Derived.Test.YtakoaadimhpclaaGreatDoorU33
import Derived.Deep.RegionHeld
namespace Go.Proofs.YtakoaadimhpclaaGreatDoor
open Go.RowKit Go.Sort Go.Shelf
set_option linter.unusedVariables false
set_option linter.unusedSimpArgs false
set_option maxRecDepth 4000
attribute [local go_sem] Oper.semAt_some

/-- Which steps a list of them holds. -/
def edIn {ds : List NDV} {n : Nat} (pre : List (EdgeT ds n)) (i j : Nat) : Prop := ∃ x ∈ pre, x.1 = (i, j)
set_option maxRecDepth 100000 in
set_option maxHeartbeats 4000000 in
theorem steps_any (a : Option Addr) (N c : Nat) (ds : List NDV) (tn : Nat) (w : World) (hd : NdsAt w a N ds) (hp : StepP ds N) (ht : tn < N) :
    Calls Tryz.prog 37 #[.slice a N c, .int .i64 (tn : Int)] w fun e w' => ∃ v, e = .returned v ∧ OwnZ w' w.heap.size v (farL ds N tn) ∧ Below w.heap.size w w' := by
  refine (callsIn_wide (n := 9)).1 ?_
  have hN8 := hp.1.1
  have hF : FarP ds N tn (farN ds N tn) := farN_is hp.1
  have HR := hide (repI_any 8 w.heap.size 0 1 N (by omega) (w.alloc (.cells #[.int .i64 8] 3)) (by simp))
  refine callsIn_of_wp_marks Tryz.func37 rfl trivial ?_ rfl
  simp only [Tryz.ntmps37, List.size_toArray, List.length_cons, List.length_nil, Nat.reduceAdd, Nat.reduceSub, Array.replicate_succ, Array.replicate_zero, List.push_toArray, List.append_toArray, List.nil_append, List.cons_append]
  have ht' : (tn : Int) < (N : Int) := by omega
  gi_wp2_with (first
    | (refine ⟨trivial, ?_⟩; gi_at_call 59; refine (callsIn_wide.2 (unhide HR)).mono ?_; rintro e w1 ⟨v, rfl, hO, hb⟩
       obtain ⟨g, cap, rfl, hg1, hg2, hgc, hgf⟩ := hO.at (by rw [List.length_replicate]; omega)
       have HO := hide hO
       have HB := hide hb
       have hgt := hgc tn (by rw [List.length_replicate]; omega)
       have hft := hgf tn
       rw [List.length_replicate] at HO ⊢
       clear hO hb hgc hgf)
    | fail)
  have hwg : w.heap.size ≤ g := by rw [World.size_alloc] at hg1; omega
  have hB1 : Below w.heap.size w w1 := below0 (alloc_low w _) (unhide HB)
  have HI := hide (show StI w g cap N w1.heap.size [] (RelP (farN ds N tn) N 0 (fun _ _ => False)) ((w1.setCell ⟨g, tn, none⟩ (.int .i64 0)).alloc (.cells #[.slice (some ⟨g, 0, none⟩) N cap] 58)) from by
    have hO := (((unhide HO).mono (B' := w.heap.size) (by rw [World.size_alloc]; omega)).stored tn 0)
    have hsz : (w1.setCell ⟨g, tn, none⟩ (.int .i64 0)).heap.size = w1.heap.size := by simp
    refine ⟨by rw [← hsz]; exact Boxed.new _ _ _, ⟨_, by simp, hO.below (alloc_low _ _), RelP.start hF ht⟩, (hB1.trans (gb_below (gb_setCell w1 g tn _) hB1.size fun k hk => by rw [← Option.some.inj hk]; exact hwg)).trans ((alloc_low _ _).mono (by rw [hsz]; exact hB1.size)), ⟨fun D hD => by simp at hD, List.nodup_nil⟩⟩)
  obtain ⟨W0, hW0⟩ : ∃ W0, W0 = (w1.setCell ⟨g, tn, none⟩ (.int .i64 0)).alloc (.cells #[.slice (some ⟨g, 0, none⟩) N cap] 58) := ⟨_, rfl⟩
  rw [← hW0] at HI ⊢
  have HD := hide hd
  have HP := hide hp
  have HF := hide hF
  clear hW0 hgt hft HB HO HR hg1 hg2 hB1 hd hp hF
  refine wpIn_loop (fun ac wr => ∃ (k : Nat) (Ds : List Nat) (u18 u19 u20 u36 : Value), k ≤ N ∧ ac = { tmps := #[.slice a N c, .int .i64 (tn : Int), undef, undef, .slice none 0 0, .pointer (some ⟨w1.heap.size, 0, none⟩), undef, undef, .slice (some ⟨w.heap.size, 0, none⟩) 1 1, .slice a N c, .int .i64 (N : Int), .slice (some ⟨g, 0, none⟩) N cap, .slice (some ⟨g, 0, none⟩) N cap, .int .i64 (tn : Int), .pointer (some ⟨g, tn, none⟩), .slice a N c, .int .i64 (N : Int), .int .i64 (k : Int), u18, u19, u20, undef, undef, undef, undef, undef, undef, undef, undef, undef, undef, undef, undef, undef, undef, undef, u36, undef], defers := markL Ds } ∧ Hid (StI w g cap N w1.heap.size Ds (RelP (farN ds N tn) N k (fun _ _ => False)) wr)) (fun ac _ => N - (intOf (ac.tmps.getD 17 undef)).toNat) ⟨0, [], _, _, _, _, Nat.zero_le _, rfl, HI⟩ ?round
  case round =>
    rintro ac wr ⟨k, Ds, u18, u19, u20, u36, hk, rfl, HI1⟩
    by_cases hlt : k < N
    · have hlt' : (k : Int) < (N : Int) := by omega
      gi_wp2_with (first
        | (refine ⟨trivial, ?_⟩; gi_at_call 60; refine (callsIn_wide.2 (hops_any a N c _)).mono ?_; rintro e w2 ⟨rfl, rfl⟩)
        | fail)
      have hI1 := unhide HI1
      have hbx := Boxed.new wr 48 (.slice a N c)
      have hsz : wr.heap.size + 1 = (wr.alloc (.cells #[.slice a N c] 48)).heap.size := (alloc_size _ _).symm
      have HI2 := hide (show StI w g cap N w1.heap.size Ds (RelP (farN ds N tn) N k (edIn ([] : List (EdgeT ds N)))) (wr.alloc (.cells #[.slice a N c] 48)) from by
        have h := hI1.kept (B := wr.heap.size) (World.grownBy_alloc wr (.cells #[.slice a N c] 48) none) hI1.low.size (fun q e => by cases e) (fun D hD => (Array.getElem?_eq_some_iff.1 (hI1.marks.1 D hD).2).1)
        obtain ⟨L, h1, h2, h3⟩ := h.row
        exact ⟨h.box, ⟨L, h1, h2, h3.mono fun i j ⟨x, hx, _⟩ => by cases hx⟩, h.low, h.marks⟩)
      obtain ⟨Wr, hWr⟩ : ∃ Wr, Wr = wr.alloc (.cells #[.slice a N c] 48) := ⟨_, rfl⟩
      rw [← hWr] at HI2 hbx hsz ⊢
      have hDs : ∀ D, D ∈ Ds → D < Wr.heap.size := fun D hD => (Array.getElem?_eq_some_iff.1 ((unhide HI2).marks.1 D hD).2).1
      have hwW := (unhide HI2).low.size
      refine wpIn_rangeFunc_ownG rfl (by omega) (gf := 76) (lb := #[.pointer (some ⟨wr.heap.size, 0, none⟩)]) rfl trivial (enters_of Tryz.func76 (by kernel_rfl) rfl)
        (hops1_stops (9 - 1) (by omega) wr.heap.size a N c ds w Wr (unhide HI2).low (unhide HD) (unhide HP) hbx.cell) belowK_t (belowK_b hwW) (Below.refl _ _) (fun _ => rfl)
        (fun pre W => StI w g cap N w1.heap.size Ds (RelP (farN ds N tn) N k (edIn pre)) W)
        (fun _ _ _ => False)
        (StI.own (Q := fun pre => RelP (farN ds N tn) N k (edIn pre)) hwW hDs)
        (fun _ _ _ _ _ hs _ _ => hs)
        (unhide HI2)
        (fun x => { tmps := #[.slice a N c, .int .i64 (tn : Int), undef, undef, .slice none 0 0, .pointer (some ⟨w1.heap.size, 0, none⟩), .int .i64 (x.1.1 : Int), .int .i64 (x.1.2 : Int), .slice (some ⟨w.heap.size, 0, none⟩) 1 1, .slice a N c, .int .i64 (N : Int), .slice (some ⟨g, 0, none⟩) N cap, .slice (some ⟨g, 0, none⟩) N cap, .int .i64 (tn : Int), .pointer (some ⟨g, tn, none⟩), .slice a N c, .int .i64 (N : Int), .int .i64 (k : Int), .bool true, .slice a N c, .func (.func 76) #[] #[.pointer (some ⟨wr.heap.size, 0, none⟩)], .int .i64 (x.1.1 : Int), .int .i64 (x.1.2 : Int), undef, undef, undef, undef, undef, undef, undef, undef, undef, undef, undef, undef, undef, u36, undef], defers := [] })
        ?assign ?body ?done ?stop
      case assign =>
        intro l x W K hK
        gi_wp2
        exact hK
      case body =>
        rintro l pre x W hS hlt2
        obtain ⟨L, h1, h2, h3⟩ := hS.row
        obtain ⟨hx1, hx2, hx3⟩ := x.2
        obtain ⟨g', cap', e, _, _, hgc, hgf⟩ := h2.at (by omega)
        simp only [Value.slice.injEq, Option.some.injEq, Addr.mk.injEq, and_true] at e
        obtain ⟨rfl, -, rfl⟩ := e
        have hc1 := hgc x.1.1 (by omega)
        have hc2 := hgc x.1.2 (by omega)
        have hcb := hS.box.cell
        have hf1 := hgf x.1.1
        obtain ⟨M, hM, hM2, _⟩ := h3.2
        have hw1 : IntKind.i64.wrap (L.getD x.1.2 0 + 1) = L.getD x.1.2 0 + 1 := by rw [hM _ hx2, IntKind.wrap_i64]; have := (hM2 _ hx2).2; omega
        have hmin := min_runZ (L.getD x.1.1 0) (L.getD x.1.2 0 + 1)
        have hx1' : (x.1.1 : Int) < (N : Int) := by omega
        have hx2' : (x.1.2 : Int) < (N : Int) := by omega
        have hmx : Tryz.prog.follows .mixedOrders = true := by kernel_rfl
        have HS := hide hS
        have HL := hide h1
        have HO := hide h2
        have HQ := hide (RelP.step (unhide HF) h3 hx1 hx2 hx3)
        clear hgc hgf hM hM2 h1 h2 h3 hS
        generalize L.getD x.1.1 0 = y1 at *
        generalize L.getD x.1.2 0 = y2 at *
        gi_wp2
        have HW : (W.setCell ⟨g, x.1.1, none⟩ (.int .i64 (min y1 (y2 + 1)))).drew.cell? ⟨w1.heap.size, 0, none⟩ = some (.slice (some ⟨g, 0, none⟩) N cap) ∧ (KeepsFrom Wr.heap.size W (W.setCell ⟨g, x.1.1, none⟩ (.int .i64 (min y1 (y2 + 1)))).drew ∧ Below w.heap.size W (W.setCell ⟨g, x.1.1, none⟩ (.int .i64 (min y1 (y2 + 1)))).drew ∧ StI w g cap N w1.heap.size Ds (RelP (farN ds N tn) N k (edIn (pre ++ [x]))) (W.setCell ⟨g, x.1.1, none⟩ (.int .i64 (min y1 (y2 + 1)))).drew) := by
          have h1 := (unhide HS).store (Q' := RelP (farN ds N tn) N k (edIn (pre ++ [x]))) x.1.1 (min y1 (y2 + 1)) (unhide HL) (unhide HO) ((unhide HQ).mono fun i j ⟨z, hz, e⟩ => by
            rcases List.mem_append.1 hz with hz | hz
            · exact .inl ⟨z, hz, e⟩
            · rw [List.mem_singleton.1 hz] at e
              exact .inr (by rw [e]; exact ⟨rfl, rfl⟩)) hwg
          refine ⟨h1.box.cell, ((KeepsOthers.setCell _ _ _).trans (KeepsOthers.drew _)).from _, (gb_below (gb_setCell W g x.1.1 _) (unhide HS).low.size fun k hk => by rw [← Option.some.inj hk]; exact hwg).drew, ⟨h1.box, ?_, h1.low.drew, h1.marks⟩⟩
          obtain ⟨L', a1, a2, a3⟩ := h1.row
          exact ⟨L', a1, a2, a3⟩
        refine region_round (S := fun wx => wx.cell? ⟨w1.heap.size, 0, none⟩ = some (.slice (some ⟨g, 0, none⟩) N cap)) hmx (by kernel_rfl) (fun ⟨_, _, h⟩ => h) ?_
        have hHeld : W.drew.cell? ⟨w1.heap.size, 0, none⟩ = some (.slice (some ⟨g, 0, none⟩) N cap) := hcb
        refine wpAnyH_take (i := 0) (v := ?_) rfl (by kernel_rfl) (by kernel_rfl) (by kernel_rfl) (fun _ _ _ h => h) (Or.inl ⟨by rfl, ?f0⟩) (by assumption) ?_
        case f0 => (intro w hSw; (try dsimp only at hSw); go_simp; try with_reducible rfl)
        refine wpAnyH_take (i := 1) (v := ?_) rfl (by kernel_rfl) (by kernel_rfl) (by kernel_rfl) (fun _ _ _ h => h) (Or.inl ⟨by rfl, ?f1⟩) (by assumption) ?_
        case f1 => (intro w hSw; (try dsimp only at hSw); go_simp; try with_reducible rfl)
        refine wpAnyH_take (i := 2) (v := ?_) rfl (by kernel_rfl) (by kernel_rfl) (by kernel_rfl) (fun _ _ _ h => h) (Or.inl ⟨by rfl, ?f2⟩) (by assumption) ?_
        case f2 => (intro w hSw; (try dsimp only at hSw); go_simp; try with_reducible rfl)
        refine wpAnyH_take (i := 3) (v := ?_) rfl (by kernel_rfl) (by kernel_rfl) (by kernel_rfl) (fun _ _ _ h => h) (Or.inl ⟨by rfl, ?f3⟩) (by assumption) ?_
        case f3 => (intro w hSw; (try dsimp only at hSw); go_simp; try with_reducible rfl)
        refine wpAnyH_take (i := 4) (v := ?_) rfl (by kernel_rfl) (by kernel_rfl) (by kernel_rfl) (fun _ _ _ h => h) (Or.inl ⟨by rfl, ?f4⟩) (by assumption) ?_
        case f4 => (intro w hSw; (try dsimp only at hSw); go_simp; try with_reducible rfl)
        refine wpAnyH_take (i := 6) (v := ?_) rfl (by kernel_rfl) (by kernel_rfl) (by kernel_rfl) (fun _ _ _ h => h) (Or.inl ⟨by rfl, ?f6⟩) (by assumption) ?_
        case f6 => (intro w hSw; (try dsimp only at hSw); go_simp; try with_reducible rfl)
        refine wpAnyH_take (i := 7) (v := ?_) rfl (by kernel_rfl) (by kernel_rfl) (by kernel_rfl) (fun _ _ _ h => h) (Or.inl ⟨by rfl, ?f7⟩) (by assumption) ?_
        case f7 => (intro w hSw; (try dsimp only at hSw); go_simp; try with_reducible rfl)
        refine wpAnyH_take (i := 8) (v := ?_) rfl (by kernel_rfl) (by kernel_rfl) (by kernel_rfl) (fun _ _ _ h => h) (Or.inl ⟨by rfl, ?f8⟩) (by assumption) ?_
        case f8 => (intro w hSw; (try dsimp only at hSw); go_simp; try with_reducible rfl)
        refine wpAnyH_ready (rs := [5, 9]) (by kernel_rfl) (by simp) ?_
        refine AllReadyH.cons rfl (fun K hK => ?_) (AllReadyH.cons rfl (fun K hK => ?_) AllReadyH.nil)
        · go_simp
          refine hK.out _ _ hcb (fun hHeld => ?_)
          clear hK K
          refine wpAnyH_ready (rs := [9]) (by kernel_rfl) (by simp) ?_
          refine AllReadyH.cons rfl (fun K hK => ?_) AllReadyH.nil
          go_simp
          refine hK.out _ _ hcb (fun hHeld => ?_)
          clear hK K
          refine wpAnyH_take (i := 10) (v := ?_) rfl (by kernel_rfl) (by kernel_rfl) (by kernel_rfl) (fun _ _ _ h => h) (Or.inl ⟨by rfl, ?f10⟩) (by assumption) ?_
          case f10 => (intro w hSw; (try dsimp only at hSw); go_simp; try with_reducible rfl)
          refine wpAnyH_take (i := 11) (v := ?_) rfl (by kernel_rfl) (by kernel_rfl) (by kernel_rfl) (fun _ _ _ h => h) (Or.inl ⟨by rfl, ?f11⟩) (by assumption) ?_
          case f11 => (intro w hSw; (try dsimp only at hSw); go_simp; try with_reducible rfl)
          refine wpAnyH_take (i := 12) (v := ?_) rfl (by kernel_rfl) (by kernel_rfl) (by kernel_rfl) (fun _ _ _ h => h) (Or.inl ⟨by rfl, ?f12⟩) (by assumption) ?_
          case f12 => (intro w hSw; (try dsimp only at hSw); go_simp; try with_reducible rfl)
          refine wpAnyH_ready (rs := [13]) (by kernel_rfl) (by simp) ?_
          refine AllReadyH.cons rfl (fun K hK => ?_) AllReadyH.nil
          go_simp
          refine hK.out _ _ HW.1 (fun hHeld => ?_)
          clear hK K
          refine wpAnyH_done (by kernel_rfl) ?_ _
          exact HW.2
        · go_simp
          refine hK.out _ _ hcb (fun hHeld => ?_)
          clear hK K
          refine wpAnyH_take (i := 10) (v := ?_) rfl (by kernel_rfl) (by kernel_rfl) (by kernel_rfl) (fun _ _ _ h => h) (Or.inl ⟨by rfl, ?f10⟩) (by assumption) ?_
          case f10 => (intro w hSw; (try dsimp only at hSw); go_simp; try with_reducible rfl)
          refine wpAnyH_ready (rs := [5]) (by kernel_rfl) (by simp) ?_
          refine AllReadyH.cons rfl (fun K hK => ?_) AllReadyH.nil
          go_simp
          refine hK.out _ _ hcb (fun hHeld => ?_)
          clear hK K
          refine wpAnyH_take (i := 11) (v := ?_) rfl (by kernel_rfl) (by kernel_rfl) (by kernel_rfl) (fun _ _ _ h => h) (Or.inl ⟨by rfl, ?f11⟩) (by assumption) ?_
          case f11 => (intro w hSw; (try dsimp only at hSw); go_simp; try with_reducible rfl)
          refine wpAnyH_take (i := 12) (v := ?_) rfl (by kernel_rfl) (by kernel_rfl) (by kernel_rfl) (fun _ _ _ h => h) (Or.inl ⟨by rfl, ?f12⟩) (by assumption) ?_
          case f12 => (intro w hSw; (try dsimp only at hSw); go_simp; try with_reducible rfl)
          refine wpAnyH_ready (rs := [13]) (by kernel_rfl) (by simp) ?_
          refine AllReadyH.cons rfl (fun K hK => ?_) AllReadyH.nil
          go_simp
          refine hK.out _ _ HW.1 (fun hHeld => ?_)
          clear hK K
          refine wpAnyH_done (by kernel_rfl) ?_ _
          exact HW.2
      case done =>
        rintro D ys W hD hys hS hK
        have HS := hide (show StI w g cap N w1.heap.size (D :: Ds) (RelP (farN ds N tn) N (k + 1) (fun _ _ => False)) W from by
          obtain ⟨L, h1, h2, h3⟩ := hS.row
          refine ⟨hS.box, ⟨L, h1, h2, RelP.round (unhide HF) (unhide HP).1 h3 hys⟩, hS.low, fun E hE => ?_, List.nodup_cons.2 ⟨fun hm => ?_, hS.marks.2⟩⟩
          · rcases List.mem_cons.1 hE with rfl | hE
            · exact ⟨by omega, hK⟩
            · exact hS.marks.1 E hE
          · have := hDs D hm
            omega)
        gi_wp2
        exact ⟨⟨k + 1, D :: Ds, _, _, _, _, hlt, rfl, HS⟩, by simp [intOf]; omega⟩
      case stop =>
        rintro D c pre W _ _ h _
        exact h.elim
    · obtain rfl : k = N := by omega
      have hcb := (unhide HI1).box.cell
      gi_wp2
      refine leaves_marks (B := w.heap.size) (I := fun wx => OwnZ wx w.heap.size (.slice (some ⟨g, 0, none⟩) k cap) (farL ds k tn) ∧ Below w.heap.size w wx) ?_ ?_ Ds wr (unhide HI1).marks ?_
      · rintro wx D o hBD hD ⟨h1, h2⟩
        refine ⟨?_, h2.trans (gb_below (grownBy_putObj' wx D o) h2.size fun k hk => by rw [← Option.some.inj hk]; exact hBD)⟩
        have := ownsRow_putObj h1 o hD rfl
        exact this
      · rintro wx ⟨h1, h2⟩
        exact ⟨_, results_tmp rfl _ _ _, .slice (some ⟨g, 0, none⟩) k cap, rfl, h1, h2⟩
      · obtain ⟨L, h1, h2, h3⟩ := (unhide HI1).row
        have := RelP.done (unhide HF) h3
        rw [this] at h2
        exact ⟨h2, (unhide HI1).low⟩
end Go.Proofs.YtakoaadimhpclaaGreatDoor
