/-
  The walk of DecoderPlays: for every input it tells true and writes nothing that was there. (Written by gen_oy.py.)
-/
import Derived.Test.YtnjdldbdkafnaaaGreatDoorU45
namespace Go.Proofs.YtnjdldbdkafnaaaGreatDoor
open Go.RowKit Go.Sort
set_option linter.unusedVariables false
set_option linter.unusedSimpArgs false
set_option maxRecDepth 4000

theorem Tu.tu_rows {w w' : World} {q B : Nat} {T : TypeId} {cs : List Value} {v : Value} {rs : List RV} (ht : Tu (fun j => j = q) w w') (hq : BkA T w q cs) (ho : OwnS w B v rs) (hT : T ≠ 29) : OwnS w' B v rs := ho.tu ht fun j hj e => hq.neS ho hT (e ▸ hj)

set_option maxHeartbeats 16000000 in
theorem dplays_walk (M : Int) (a : Option Addr) (n c : Nat) (ps : List PKV) (w : World) (ht : Tab w) (h : PksAt w a n ps) (hn : n ≤ 9223372036854775807) (hbig : ∀ i, (ps.getD i .dflt).r.n ≤ 9223372036854775807 ∧ (ps.getD i .dflt).r.s.size ≤ 9223372036854775807) (hcp : ∀ i, i < ps.length → (ps.getD i .dflt).r.n ≤ (ps.getD i .dflt).r.c) :
    Calls Tryz.prog 3 #[.int .i64 M, .slice a n c] w fun e w' => e = .returned (.bool true) ∧ Below w.heap.size w w' := by
  have HAW := hide (fun (w1 : World) (hb : Below w.heap.size w w1) => awake_any w1 (ht.below hb))
  have HF := hide (fewP_any a n c ps w h hn hbig)
  have HH := hide h
  have HT := hide ht
  have HL1 := hide h.1
  have HCP := hide hcp
  clear h ht hbig hcp
  go_enter Tryz.func3, Tryz.ntmps3
  go_wp2_with fail
  refine (unhide HF).mono ?_
  rintro e w0 ⟨hf, hw⟩
  obtain rfl := hw.symm
  clear hw HF
  rcases hf with ⟨rfl, hf⟩ | ⟨rfl, hf⟩
  case inr =>
    clear hf
    go_wp2_with (go_at_call 7; refine (unhide HAW _ (Below.refl _ _)).mono ?_; rintro e w1 ⟨rfl, hb1⟩)
    go_ret
    exact ⟨rfl, hb1⟩
  have HS := hide hf.2
  have hl : n ≤ 60 := by rw [← unhide HL1]; exact hf.1
  clear hf
  go_wp2_with fail
  refine (denew_any M w).mono ?_
  rintro e w1 ⟨rfl, hd1, hb1⟩
  have HD1 := hide hd1
  have HB1 := hide hb1
  clear hd1 hb1
  go_wp2_with fail
  refine (rnew16_any M _).mono ?_
  rintro e w2 ⟨rfl, hb2⟩
  have hz : BkA 36 (w2.alloc (.cells #[.int .i64 0, .int .i64 0, .bool false, .bool false, .int .i64 0, .int .i64 0, .int .i64 0, .int .i64 0, .int .i64 0, .slice none 0 0, .string ⟨#[]⟩, .int .i64 0, .int .i64 0, .int .i64 0, .slice none 0 0, .bool false, .string ⟨#[]⟩] 36)) w2.heap.size [.int .i64 0, .int .i64 0, .bool false, .bool false, .int .i64 0, .int .i64 0, .int .i64 0, .int .i64 0, .int .i64 0, .slice none 0 0, .string ⟨#[]⟩, .int .i64 0, .int .i64 0, .int .i64 0, .slice none 0 0, .bool false, .string ⟨#[]⟩] := bkA_new 36 w2 [.int .i64 0, .int .i64 0, .bool false, .bool false, .int .i64 0, .int .i64 0, .int .i64 0, .int .i64 0, .int .i64 0, .slice none 0 0, .string ⟨#[]⟩, .int .i64 0, .int .i64 0, .int .i64 0, .slice none 0 0, .bool false, .string ⟨#[]⟩]
  have hba := alloc_low w2 (.cells #[.int .i64 0, .int .i64 0, .bool false, .bool false, .int .i64 0, .int .i64 0, .int .i64 0, .int .i64 0, .int .i64 0, .slice none 0 0, .string ⟨#[]⟩, .int .i64 0, .int .i64 0, .int .i64 0, .slice none 0 0, .bool false, .string ⟨#[]⟩] 36)
  have HD2 := hide (((unhide HD1).below hb2).below hba)
  have HB2 := hide (below0 (below0 (unhide HB1) hb2) hba)
  have HLC := hide (below0 (unhide HB1) hb2).size
  have HZ := hide hz
  clear hz hba hb2 HD1 HB1
  go_wp2_with (first
    | ((with_reducible refine rd_store 6 17 w2.heap.size [.int .i64 0, .int .i64 0, .bool false, .bool false, .int .i64 0, .int .i64 0, .int .i64 0, .int .i64 0, .int .i64 0, .slice none 0 0, .string ⟨#[]⟩, .int .i64 0, .int .i64 0, .int .i64 0, .slice none 0 0, .bool false, .string ⟨#[]⟩] (rdC M zDS zPK (.slice none 0 0)) ?_ ?_ (unhide HZ) rfl rfl (rdC_one _ _ _ _ _ _) ?_); (focus rfl); (focus rfl); intro w3 hc3 ht3; have HJ1 := hide (ple_start ((unhide HD2).sets (unhide HZ) ht3 (by decide) (by decide) (by decide) (by decide)) hc3 (unhide HLC) ((unhide HB2).trans (ht3.below (unhide HB2).size fun j hj e => by have := unhide HLC; omega))); clear hc3 ht3)
    | fail)
  clear HD2 HB2 HZ
  generalize w2.heap.size = cb at *
  go_loopw [7] (fun i wr => ∃ (j : Nat) (s : DS) (gs : Nat) (v : Value) (rs : List RV) (f : PKV) (av : Option Addr) (cv : Nat) (ts : List RV), j ≤ n ∧ i = .int .i64 j ∧ Hid (PlE w wr w.heap.size cb M s gs v rs s f (.slice av ts.length cv) ts)) (fun i _ => n - (intOf i).toNat)
  case atStart => exact ⟨0, _, _, _, _, _, none, 0, [], Nat.zero_le _, rfl, HJ1⟩
  case round =>
    obtain ⟨j, s, gs, v, rs, f, av, cv, ts, hj, rfl, HJ⟩ := hrel
    clear HJ1
    by_cases hlt : j < n
    · have hJ := unhide HJ
      have hRW := unhide HH
      obtain ⟨b, off, rfl, -⟩ := (hRW.below hJ.low).at hlt
      have HCL := hide (fun wx (hb : Below w.heap.size w wx) => (show PkCells wx b (off + j * 7) (ps.getD j .dflt) from by
        obtain ⟨b', off', e', hc'⟩ := (hRW.below hb).at hlt
        simp only [Option.some.injEq, Addr.mk.injEq, and_true] at e'
        obtain ⟨rfl, rfl⟩ := e'
        exact hc' j hlt))
      have HRO := hide (hRW.2.1 j hlt)
      have HCJ := hide (unhide HCP j (by rw [unhide HL1]; exact hlt))
      have HSJ := hide (unhide HS j)
      have HPD := hide (fun wx (hb : Below w.heap.size w wx) (S : DS) (gs : Nat) (v : Value) (rs : List RV) (hd : DcAt wx w.heap.size w.heap.size M S gs v rs) => dput_of (unhide HT) hb hd hRW (unhide HS) hlt)
      have hlt' : (j : Int) < (n : Int) := by omega
      clear hRW
      generalize ps.getD j .dflt = p at *
      have HRP := hide (fun wx (hb : Below wr.heap.size wr wx) => rdput_any w.heap.size M s f (.slice av ts.length cv) ts p wx (hJ.rf.below hb) (below0 hJ.low hb).size ((unhide HRO).below (below0 hJ.low hb)) (unhide HSJ).1 (unhide HSJ).2 (unhide HCJ))
      have HBK := hide (fun wx (hb : Below wr.heap.size wr wx) => hJ.cb.below hb)
      have HLW := hide (fun wx (hb : Below wr.heap.size wr wx) => below0 hJ.low hb)
      have HSW := hide (show ∀ t1, t1 = ts ∨ t1 = ts ++ [p.r] → RowsIn w t1 from fun t1 h1 => by
        rcases h1 with rfl | rfl
        · exact hJ.src
        · exact hJ.src.append (RowsIn.one (unhide HRO) (unhide HCJ)))
      have hcb0 : cb < wr.heap.size := hJ.cb.lt
      clear hJ
      go_wp2_with fail
      go_cut [8, 9] from 18 to 79 (fun u e wx => ∃ q ob f1 v3 t1, u = .pointer (some ⟨q, 0, none⟩) ∧ e = .int .i64 (dputE M s p) ∧ Hid (BkA 36 wx q (rdC M (dput M s p ob) f1 v3) ∧ (admB s p = true → TellsP M (begS s p) (p.r.xs, p.r.s) ob) ∧ RfD wx w.heap.size M (dput M s p ob) f1 v3 t1 ∧ Below wr.heap.size wr wx ∧ (v3 = .slice av ts.length cv ∨ ∀ j, v3.ownBlock = some j → wr.heap.size ≤ j) ∧ (t1 = ts ∨ t1 = ts ++ [p.r]) ∧ wr.heap.size ≤ q))
      case first =>
        refine wp_region_held_drew (S := fun w' => BkA 36 w' cb (rdC M s f (.slice av ts.length cv)) ∧ PkCells w' b (off + j * 7) p) (by kernel_rfl) ?_ (fun hHeld => ?_)
        · exact ⟨unhide HBK _ (Below.refl _ _).drew, unhide HCL _ (unhide HLW _ (Below.refl _ _).drew)⟩
        refine wpAnyH_take (i := 1) (v := ?_) rfl (by kernel_rfl) (by kernel_rfl) (by kernel_rfl) (fun _ _ _ h => h) (Or.inl ⟨by rfl, ?f1⟩) (by assumption) ?_
        case f1 => (intro w hSw; (try dsimp only at hSw); go_simp; try with_reducible rfl)
        refine wpAnyH_take (i := 2) (v := ?_) rfl (by kernel_rfl) (by kernel_rfl) (by kernel_rfl) (fun _ _ _ h => h) (Or.inl ⟨by rfl, ?f2⟩) (by assumption) ?_
        case f2 => (intro w hSw; (try dsimp only at hSw); go_simp; try with_reducible rfl)
        refine wpAnyH_take (i := 3) (v := ?_) rfl (by kernel_rfl) (by kernel_rfl) (by kernel_rfl) (fun _ _ _ h => h) (Or.inl ⟨by rfl, ?f3⟩) (by assumption) ?_
        case f3 => (intro w hSw; (try dsimp only at hSw); go_simp; try with_reducible rfl)
        refine wpAnyH_take (i := 0) (v := .agg (rdC M s f (.slice av ts.length cv)).toArray) rfl (by kernel_rfl) (by kernel_rfl) (by kernel_rfl) (fun _ _ _ h => h) (yieldsIf_load_mid (by rfl) 36 (.tmp 6) rfl cb 0 (by rfl) (rdC M s f (.slice av ts.length cv)) _ (fun w hSw j v hv => by rw [Nat.zero_add]; exact hSw.1.at j hv) Tryz.underlying36 rfl info_rd) (by assumption) ?_
        refine wpAnyH_take (i := 4) (v := ?_) rfl (by kernel_rfl) (by kernel_rfl) (by kernel_rfl) (fun _ _ _ h => h) (Or.inl ⟨by rfl, ?f4⟩) (by assumption) ?_
        case f4 => (intro w hSw; obtain ⟨-, y0, y1, y2, y3, y4, y5, y6⟩ := hSw; (try dsimp only at hSw); go_simp; try with_reducible rfl)
        refine wpAnyH_ready (rs := [5, 9]) (by kernel_rfl) (by simp) ?_
        refine AllReadyH.cons rfl (fun K hK => ?r1) (AllReadyH.cons rfl (fun K hK => ?r2) AllReadyH.nil)
        case r1 =>
          go_simp
          refine (unhide HRP _ ((Below.refl _ _).drew)).mono ?_
          rintro e w2 ⟨ob, f1, v3, t1, rfl, hT, hrf, hb2, hv3, hts⟩
          obtain ⟨a3, c3, hve3⟩ := hrf.own.shape
          obtain rfl := hve3
          have D2 := hide (show Below wr.heap.size wr w2 from below0 ((Below.refl _ _).drew) hb2)
          have HRF := hide hrf
          have HTL := hide hT
          have HTS := hide hts
          have HV3 := hide (show (Value.slice a3 t1.length c3) = .slice av ts.length cv ∨ ∀ i, (Value.slice a3 t1.length c3).ownBlock = some i → wr.heap.size ≤ i from hv3)
          clear hrf hT hts hv3 hb2
          refine hK.out _ _ ?_ (fun hHeld => ?_)
          · exact ⟨unhide HBK _ (unhide D2), unhide HCL _ (unhide HLW _ (unhide D2))⟩
          clear hK K
          refine wpAnyH_take (i := 6) (v := ?_) rfl (by kernel_rfl) (by kernel_rfl) (by kernel_rfl) (fun _ _ _ h => h) (Or.inl ⟨by rfl, ?f6⟩) (by assumption) ?_
          case f6 => (intro w hSw; (try dsimp only at hSw); go_simp; try with_reducible rfl)
          refine wpAnyH_take (i := 7) (v := ?_) rfl (by kernel_rfl) (by kernel_rfl) (by kernel_rfl) (fun _ _ _ h => h) (Or.inl ⟨by rfl, ?f7⟩) (by assumption) ?_
          case f7 => (intro w hSw; (try dsimp only at hSw); go_simp; try with_reducible rfl)
          refine wpAnyH_take (i := 8) (v := ?_) rfl (by kernel_rfl) (by kernel_rfl) (by kernel_rfl) (fun _ _ _ h => h) (Or.inl ⟨by rfl, ?f8⟩) (by assumption) ?_
          case f8 => (intro w hSw; (try dsimp only at hSw); go_simp; try with_reducible rfl)
          refine wpAnyH_ready (rs := [9]) (by kernel_rfl) (by simp) ?_
          refine AllReadyH.cons rfl (fun K hK => ?_) AllReadyH.nil
          go_simp
          have D3 := hide (below0 (unhide D2) (alloc_low w2 (.cells #[.int .i64 0, .int .i64 0, .bool false, .bool false, .int .i64 0, .int .i64 0, .int .i64 0, .int .i64 0, .int .i64 0, .slice none 0 0, .string ⟨#[]⟩, .int .i64 0, .int .i64 0, .int .i64 0, .slice none 0 0, .bool false, .string ⟨#[]⟩] 36)))
          refine hK.out _ _ ?_ (fun hHeld => ?_)
          · exact ⟨unhide HBK _ (unhide D3), unhide HCL _ (unhide HLW _ (unhide D3))⟩
          clear hK K
          have hq3 : BkA 36 (w2.alloc (.cells #[.int .i64 0, .int .i64 0, .bool false, .bool false, .int .i64 0, .int .i64 0, .int .i64 0, .int .i64 0, .int .i64 0, .slice none 0 0, .string ⟨#[]⟩, .int .i64 0, .int .i64 0, .int .i64 0, .slice none 0 0, .bool false, .string ⟨#[]⟩] 36)) w2.heap.size [.int .i64 0, .int .i64 0, .bool false, .bool false, .int .i64 0, .int .i64 0, .int .i64 0, .int .i64 0, .int .i64 0, .slice none 0 0, .string ⟨#[]⟩, .int .i64 0, .int .i64 0, .int .i64 0, .slice none 0 0, .bool false, .string ⟨#[]⟩] := bkA_new 36 w2 [.int .i64 0, .int .i64 0, .bool false, .bool false, .int .i64 0, .int .i64 0, .int .i64 0, .int .i64 0, .int .i64 0, .slice none 0 0, .string ⟨#[]⟩, .int .i64 0, .int .i64 0, .int .i64 0, .slice none 0 0, .bool false, .string ⟨#[]⟩]
          have HRF3 := hide ((unhide HRF).below (alloc_low w2 (.cells #[.int .i64 0, .int .i64 0, .bool false, .bool false, .int .i64 0, .int .i64 0, .int .i64 0, .int .i64 0, .int .i64 0, .slice none 0 0, .string ⟨#[]⟩, .int .i64 0, .int .i64 0, .int .i64 0, .slice none 0 0, .bool false, .string ⟨#[]⟩] 36)))
          have hlq := (unhide D2).size
          generalize w2.alloc (.cells #[.int .i64 0, .int .i64 0, .bool false, .bool false, .int .i64 0, .int .i64 0, .int .i64 0, .int .i64 0, .int .i64 0, .slice none 0 0, .string ⟨#[]⟩, .int .i64 0, .int .i64 0, .int .i64 0, .slice none 0 0, .bool false, .string ⟨#[]⟩] 36) = w3 at *
          generalize w2.heap.size = q at *
          refine wpAnyH_ready (rs := [10]) (by kernel_rfl) (by simp) ?_
          refine AllReadyH.cons rfl (fun K hK => ?_) AllReadyH.nil
          refine rd_step 8 31 q [.int .i64 0, .int .i64 0, .bool false, .bool false, .int .i64 0, .int .i64 0, .int .i64 0, .int .i64 0, .int .i64 0, .slice none 0 0, .string ⟨#[]⟩, .int .i64 0, .int .i64 0, .int .i64 0, .slice none 0 0, .bool false, .string ⟨#[]⟩] (rdC M (dput M s p ob) f1 (.slice a3 t1.length c3)) (by rfl) (by rfl) hq3 rfl rfl (rdC_one _ _ _ _ _ _) ?_
          intro w4 hq4 ht4
          have hcb3 := unhide HBK _ (unhide D3)
          have hqc : q ≠ cb := by have := hcb0; omega
          have hb4 : Below wr.heap.size wr w4 := (unhide D3).trans (ht4.below (unhide D3).size fun j hj e => by omega)
          refine hK.out _ _ ?_ (fun hHeld => ?_)
          · exact ⟨hcb3.tu ht4 (fun e => hqc e.symm), unhide HCL _ (unhide HLW _ hb4)⟩
          clear hK K
          refine wpAnyH_take (i := 11) (v := ?_) rfl (by kernel_rfl) (by kernel_rfl) (by kernel_rfl) (fun _ _ _ h => h) (Or.inl ⟨by rfl, ?f11⟩) (by assumption) ?_
          case f11 => (intro w hSw; (try dsimp only at hSw); go_simp; try with_reducible rfl)
          refine wpAnyH_done (by kernel_rfl) ?_ _
          (try go_wp2_with fail)
          go_meet
          have hr3 := unhide HRF3
          have hsz4 := ht4.tu_rows hq3 hr3.own (by decide)
          exact ⟨q, ob, f1, .slice a3 t1.length c3, t1, rfl, rfl, hide ⟨hq4, unhide HTL, ⟨hr3.al, hr3.inv, hr3.z, hr3.nil, hsz4, (unhide HSW t1 (unhide HTS)).below (unhide HLW _ hb4), hr3.short, hr3.co, hr3.le⟩, hb4, unhide HV3, unhide HTS, by omega⟩⟩
        case r2 =>
          go_simp
          have D0 := hide (show Below wr.heap.size wr ((wr.alloc (.cells #[.int .i64 0, .int .i64 0, .bool false, .bool false, .int .i64 0, .int .i64 0, .int .i64 0, .int .i64 0, .int .i64 0, .slice none 0 0, .string ⟨#[]⟩, .int .i64 0, .int .i64 0, .int .i64 0, .slice none 0 0, .bool false, .string ⟨#[]⟩] 36)).drew) from ((Below.refl _ _).alloc (Nat.le_refl _) _).drew)
          have HQ0 := hide (show BkA 36 ((wr.alloc (.cells #[.int .i64 0, .int .i64 0, .bool false, .bool false, .int .i64 0, .int .i64 0, .int .i64 0, .int .i64 0, .int .i64 0, .slice none 0 0, .string ⟨#[]⟩, .int .i64 0, .int .i64 0, .int .i64 0, .slice none 0 0, .bool false, .string ⟨#[]⟩] 36)).drew) wr.heap.size [.int .i64 0, .int .i64 0, .bool false, .bool false, .int .i64 0, .int .i64 0, .int .i64 0, .int .i64 0, .int .i64 0, .slice none 0 0, .string ⟨#[]⟩, .int .i64 0, .int .i64 0, .int .i64 0, .slice none 0 0, .bool false, .string ⟨#[]⟩] from bkA_new 36 wr [.int .i64 0, .int .i64 0, .bool false, .bool false, .int .i64 0, .int .i64 0, .int .i64 0, .int .i64 0, .int .i64 0, .slice none 0 0, .string ⟨#[]⟩, .int .i64 0, .int .i64 0, .int .i64 0, .slice none 0 0, .bool false, .string ⟨#[]⟩])
          refine hK.out _ _ ?_ (fun hHeld => ?_)
          · exact ⟨unhide HBK _ (unhide D0), unhide HCL _ (unhide HLW _ (unhide D0))⟩
          clear hK K
          generalize (wr.alloc (.cells #[.int .i64 0, .int .i64 0, .bool false, .bool false, .int .i64 0, .int .i64 0, .int .i64 0, .int .i64 0, .int .i64 0, .slice none 0 0, .string ⟨#[]⟩, .int .i64 0, .int .i64 0, .int .i64 0, .slice none 0 0, .bool false, .string ⟨#[]⟩] 36)).drew = w0 at *
          refine wpAnyH_ready (rs := [5]) (by kernel_rfl) (by simp) ?_
          refine AllReadyH.cons rfl (fun K hK => ?_) AllReadyH.nil
          go_simp
          refine (unhide HRP _ (unhide D0)).mono ?_
          rintro e w2 ⟨ob, f1, v3, t1, rfl, hT, hrf, hb2, hv3, hts⟩
          obtain ⟨a3, c3, hve3⟩ := hrf.own.shape
          obtain rfl := hve3
          have D2 := hide (show Below wr.heap.size wr w2 from below0 (unhide D0) hb2)
          have HRF := hide hrf
          have HTL := hide hT
          have HTS := hide hts
          have HV3 := hide (show (Value.slice a3 t1.length c3) = .slice av ts.length cv ∨ ∀ i, (Value.slice a3 t1.length c3).ownBlock = some i → wr.heap.size ≤ i from hv3.imp id fun k i hi => Nat.le_trans (unhide D0).size (k i hi))
          have hq3 := (unhide HQ0).below hb2
          clear hrf hT hts hv3 hb2
          refine hK.out _ _ ?_ (fun hHeld => ?_)
          · exact ⟨unhide HBK _ (unhide D2), unhide HCL _ (unhide HLW _ (unhide D2))⟩
          clear hK K
          refine wpAnyH_take (i := 6) (v := ?_) rfl (by kernel_rfl) (by kernel_rfl) (by kernel_rfl) (fun _ _ _ h => h) (Or.inl ⟨by rfl, ?f6⟩) (by assumption) ?_
          case f6 => (intro w hSw; (try dsimp only at hSw); go_simp; try with_reducible rfl)
          refine wpAnyH_take (i := 7) (v := ?_) rfl (by kernel_rfl) (by kernel_rfl) (by kernel_rfl) (fun _ _ _ h => h) (Or.inl ⟨by rfl, ?f7⟩) (by assumption) ?_
          case f7 => (intro w hSw; (try dsimp only at hSw); go_simp; try with_reducible rfl)
          refine wpAnyH_take (i := 8) (v := ?_) rfl (by kernel_rfl) (by kernel_rfl) (by kernel_rfl) (fun _ _ _ h => h) (Or.inl ⟨by rfl, ?f8⟩) (by assumption) ?_
          case f8 => (intro w hSw; (try dsimp only at hSw); go_simp; try with_reducible rfl)
          have D3 := D2
          have HRF3 := HRF
          have hlq : wr.heap.size ≤ wr.heap.size := Nat.le_refl _
          refine wpAnyH_ready (rs := [10]) (by kernel_rfl) (by simp) ?_
          refine AllReadyH.cons rfl (fun K hK => ?_) AllReadyH.nil
          refine rd_step 8 31 wr.heap.size [.int .i64 0, .int .i64 0, .bool false, .bool false, .int .i64 0, .int .i64 0, .int .i64 0, .int .i64 0, .int .i64 0, .slice none 0 0, .string ⟨#[]⟩, .int .i64 0, .int .i64 0, .int .i64 0, .slice none 0 0, .bool false, .string ⟨#[]⟩] (rdC M (dput M s p ob) f1 (.slice a3 t1.length c3)) (by rfl) (by rfl) hq3 rfl rfl (rdC_one _ _ _ _ _ _) ?_
          intro w4 hq4 ht4
          have hcb3 := unhide HBK _ (unhide D3)
          have hqc : wr.heap.size ≠ cb := by have := hcb0; omega
          have hb4 : Below wr.heap.size wr w4 := (unhide D3).trans (ht4.below (unhide D3).size fun j hj e => by omega)
          refine hK.out _ _ ?_ (fun hHeld => ?_)
          · exact ⟨hcb3.tu ht4 (fun e => hqc e.symm), unhide HCL _ (unhide HLW _ hb4)⟩
          clear hK K
          refine wpAnyH_take (i := 11) (v := ?_) rfl (by kernel_rfl) (by kernel_rfl) (by kernel_rfl) (fun _ _ _ h => h) (Or.inl ⟨by rfl, ?f11⟩) (by assumption) ?_
          case f11 => (intro w hSw; (try dsimp only at hSw); go_simp; try with_reducible rfl)
          refine wpAnyH_done (by kernel_rfl) ?_ _
          (try go_wp2_with fail)
          go_meet
          have hr3 := unhide HRF3
          have hsz4 := ht4.tu_rows hq3 hr3.own (by decide)
          exact ⟨wr.heap.size, ob, f1, .slice a3 t1.length c3, t1, rfl, rfl, hide ⟨hq4, unhide HTL, ⟨hr3.al, hr3.inv, hr3.z, hr3.nil, hsz4, (unhide HSW t1 (unhide HTS)).below (unhide HLW _ hb4), hr3.short, hr3.co, hr3.le⟩, hb4, unhide HV3, unhide HTS, by omega⟩⟩
      case rest =>
        obtain ⟨q, ob, f1, v3, t1, rfl, rfl, HQ⟩ := hcut
        obtain ⟨hq5, hT5, hr5, hb5, hv5, hts5, hlq⟩ := unhide HQ
        obtain ⟨a3, c3, hve3⟩ := hr5.own.shape
        obtain rfl := hve3
        have hcb5 := unhide HBK _ hb5
        have HQ5 := hide hq5
        have HCB5 := hide hcb5
        have HFD := hide (fun w2 (hc2 : BkA 36 w2 cb (rdC M (dput M s p ob) f1 (.slice a3 t1.length c3))) (ht2 : Tu (fun j => j = cb) wc w2) => (unhide HJ).refd (p := p) hb5 hr5 hv5 hts5 (unhide HRO) (unhide HCJ) hc2 ht2)
        have HT5 := hide hT5
        have HCO5 := hide (show ((dput M s p ob).L.length : Int) = (t1.length : Int) from by rw [← hr5.co, List.length_map])
        clear hq5 hT5 hr5 hb5 hv5 hts5 hcb5 HQ HJ HRP HBK HSW
        generalize hS1 : dput M s p ob = S1 at *
        go_wp2_with (first
          | ((with_reducible refine rd_load 8 q (rdC M S1 f1 (.slice a3 t1.length c3)) ?_ (unhide HQ5) rfl ?_); (focus rfl))
          | ((with_reducible refine rd_store 6 33 cb (rdC M s f (.slice av ts.length cv)) (rdC M S1 f1 (.slice a3 t1.length c3)) ?_ ?_ (unhide HCB5) rfl rfl (rdC_one _ _ _ _ _ _) ?_); (focus rfl); (focus rfl); intro wF hcF htF; have HJF := hide (unhide HFD wF hcF htF); clear hcF htF)
          | fail)
        have hJF := unhide HJF
        have k1 := hJF.cb.at 1 rfl
        have k3 := hJF.cb.at 3 rfl
        have k14 := hJF.cb.at 14 rfl
        have k15 := hJF.cb.at 15 rfl
        have k16 := hJF.cb.at 16 rfl
        obtain ⟨y0, y1, y2, y3, y4, y5, y6⟩ := unhide HCL wF hJF.low
        have HPU := hide (unhide HPD wF.drew (below0 hJF.low (Below.refl _ _).drew) s gs v rs (hJF.dc.below (Below.refl _ _).drew))
        clear hJF HQ5 HCB5 HFD
        have hbn1 : (S1.dn != S1.dn) = false := bne_self_eq_false _
        have hbn2 : (S1.ov != S1.ov) = false := bne_self_eq_false _
        go_region_held3 (fun w' => w'.cell? ⟨b, off + j * 7, none⟩ = some (.int .i64 p.o) ∧ w'.cell? ⟨b, off + j * 7 + 1, none⟩ = some (.int .i64 p.l) ∧ w'.cell? ⟨b, off + j * 7 + 2, none⟩ = some (.int .i64 p.k) ∧ w'.cell? ⟨b, off + j * 7 + 3, none⟩ = some (.int .i64 p.z) ∧ w'.cell? ⟨b, off + j * 7 + 4, none⟩ = some (.int .i64 p.h) ∧ w'.cell? ⟨b, off + j * 7 + 5, none⟩ = some (.slice p.r.a p.r.n p.r.c) ∧ w'.cell? ⟨b, off + j * 7 + 6, none⟩ = some (.string p.r.s) ∧ w'.cell? ⟨cb, 1, none⟩ = some (.int .i64 (rankC S1.L : Int)) ∧ w'.cell? ⟨cb, 3, none⟩ = some (.bool S1.dn) ∧ w'.cell? ⟨cb, 14, none⟩ = some (.slice a3 t1.length c3) ∧ w'.cell? ⟨cb, 15, none⟩ = some (.bool S1.ov) ∧ w'.cell? ⟨cb, 16, none⟩ = some (.string S1.ob)) (go_keep) (first
          | (go_at_call 11; refine (unhide HPU).mono ?_; rintro e w4 ⟨gs4, v4, rs4, ob4, rfl, hT4, hd4, ht4, hm4⟩; rw [dput_uniq hT4 (unhide HT5), hS1] at hd4; have hJ4 := (unhide HJF).put hd4 (Tu.after (Below.refl _ _).drew ht4) hm4; have HJ4 := hide hJ4; have x1 := hJ4.cb.at 1 rfl; have x3 := hJ4.cb.at 3 rfl; have x14 := hJ4.cb.at 14 rfl; have x15 := hJ4.cb.at 15 rfl; have x16 := hJ4.cb.at 16 rfl; obtain ⟨z0, z1, z2, z3, z4, z5, z6⟩ := unhide HCL w4 hJ4.low; have HRK := hide (derank_any _ _ _ _ _ _ _ w4 ((unhide HT).below hJ4.low) hJ4.dc); clear hT4 hd4 ht4 hm4 hJ4)
          | (go_at_call 12; refine (unhide HRK).mono ?_; rintro e w5 ⟨rfl, hb5⟩; have hJ5 := (unhide HJ4).below hb5; have HJ5 := hide hJ5; have x1 := hJ5.cb.at 1 rfl; have x3 := hJ5.cb.at 3 rfl; have x14 := hJ5.cb.at 14 rfl; have x15 := hJ5.cb.at 15 rfl; have x16 := hJ5.cb.at 16 rfl; obtain ⟨z0, z1, z2, z3, z4, z5, z6⟩ := unhide HCL w5 hJ5.low; have HDN := hide (dedone_any _ _ _ _ _ _ _ w5 hJ5.dc); have HOB := hide (deobj_any _ _ _ _ _ _ _ w5 hJ5.dc); clear hb5 hJ5)
          | (go_at_call 13; refine (unhide HDN).mono ?_; rintro e w7 ⟨rfl, hw⟩; obtain rfl := hw.symm; clear hw)
          | (go_at_call 14; refine (unhide HOB).mono ?_; rintro e w6 ⟨rfl, hb6⟩; have hJ6 := (unhide HJ5).below hb6; have HJ6 := hide hJ6; have x1 := hJ6.cb.at 1 rfl; have x3 := hJ6.cb.at 3 rfl; have x14 := hJ6.cb.at 14 rfl; have x15 := hJ6.cb.at 15 rfl; have x16 := hJ6.cb.at 16 rfl; obtain ⟨z0, z1, z2, z3, z4, z5, z6⟩ := unhide HCL w6 hJ6.low; have hKP := dekept_any _ _ _ _ _ _ _ w6 hJ6.dc; rw [unhide HCO5] at hKP; have HKP := hide hKP; have HOV := hide (deover_any _ _ _ _ _ _ _ w6 hJ6.dc); clear hb6 hJ6 hKP)
          | (go_at_call 15; refine (unhide HKP).mono ?_; rintro e w7 ⟨rfl, hw⟩; obtain rfl := hw.symm; clear hw)
          | (go_at_call 16; refine (unhide HOV).mono ?_; rintro e w7 ⟨rfl, hw⟩; obtain rfl := hw.symm; clear hw)
          | fail)
        all_goals go_wp2
        go_roundw
        case rel => exact ⟨j + 1, S1, gs4, v4, rs4, f1, a3, c3, t1, by omega, by go_num, HJ6⟩
        case measure => simp [intOf]; omega
    · go_wp2_with (go_at_call 7; refine (unhide HAW _ (unhide HJ).low).mono ?_; rintro e w6 ⟨rfl, hb6⟩; have HB6 := hide (below0 (unhide HJ).low hb6); clear hb6)
      go_ret
      exact ⟨rfl, unhide HB6⟩
end Go.Proofs.YtnjdldbdkafnaaaGreatDoor
