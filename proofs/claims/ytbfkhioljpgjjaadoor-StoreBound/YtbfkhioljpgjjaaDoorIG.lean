/-
  The walks of StoreNone and StoreRank: for every input each tells true and writes nothing that was there.
-/
import Derived.Test.YtbfkhioljpgjjaaDoorIF
namespace Go.Proofs.YtbfkhioljpgjjaaDoor
open Go.RowKit Go.Sort
set_option linter.unusedVariables false
set_option maxRecDepth 4000


theorem stnone_walk (a : Option Addr) (n c : Nat) (xs : List Nat) (s : ByteArray) (w : World) (ht : Tab w) :
    Calls Tryd.prog 6 #[.agg #[.slice a n c, .string s]] w fun e w' => e = .returned (.bool true) ∧ Below w.heap.size w w' := by
  have hb0 := alloc_low w (.cells #[.slice a n c, .string s] 36)
  have hx := box_new w (.slice a n c) (.string s)
  have HAW := hide (fun (w1 : World) (hb : Below w.heap.size w w1) => awake_any w1 (ht.below hb))
  have HB0 := hide hb0
  obtain ⟨c0, c1⟩ := hx
  clear ht hb0
  go_enter Tryd.func6, Tryd.ntmps6
  go_wp2_with (first
    | (go_at_call 13; refine (put_nil _ _ _).mono ?_; rintro e w1 ⟨rfl, hb1⟩; have HB1 := hide (below0 (unhide HB0) hb1); clear hb1)
    | (go_at_call 17; refine (rows_nil15 _).mono ?_; rintro e w5 ⟨rfl, hw⟩; obtain rfl := hw.symm; clear hw)
    | (go_at_call 18; refine (rank_nil _).mono ?_; rintro e w5 ⟨rfl, hw⟩; obtain rfl := hw.symm; clear hw)
    | (go_at_call 14; refine (len_nil _).mono ?_; rintro e w5 ⟨rfl, hw⟩; obtain rfl := hw.symm; clear hw)
    | (go_at_call 15; refine (over_nil _).mono ?_; rintro e w5 ⟨rfl, hw⟩; obtain rfl := hw.symm; clear hw)
    | (go_at_call 9; refine (unhide HAW _ (unhide HB1)).mono ?_; rintro e w6 ⟨rfl, hb6⟩; have HB6 := hide (below0 (unhide HB1) hb6); clear hb6))
  go_ret
  exact ⟨rfl, unhide HB6⟩

/-- A block that holds the numbers of a store. -/
def SzAt (w : World) (g : Nat) (k z m : Int) : Prop := w.cell? ⟨g, 0, none⟩ = some (.int .i64 k) ∧ w.cell? ⟨g, 1, none⟩ = some (.int .i64 z) ∧ w.cell? ⟨g, 2, none⟩ = some (.int .i64 m)
theorem sz_new (w : World) (k z m : Int) : SzAt (w.alloc (.cells #[.int .i64 k, .int .i64 z, .int .i64 m] 23)) w.heap.size k z m := by
  refine ⟨?_, ?_, ?_⟩ <;> simp
theorem SzAt.belowB {w w' : World} {g B : Nat} {k z m : Int} (h : SzAt w g k z m) (hb : Below B w w') (hg : g < B) : SzAt w' g k z m :=
  ⟨(hb.cell (p := ⟨g, 0, none⟩) hg).trans h.1, (hb.cell (p := ⟨g, 1, none⟩) hg).trans h.2.1, (hb.cell (p := ⟨g, 2, none⟩) hg).trans h.2.2⟩

set_option maxHeartbeats 4000000 in
theorem strank_walk (K Z M : Int) (a : Option Addr) (n c : Nat) (rs : List RV) (w : World) (ht : Tab w) (h : RowsAt w a n rs) (hn : n ≤ 9223372036854775807) (hbig : ∀ i, (rs.getD i .dflt).n ≤ 9223372036854775807 ∧ (rs.getD i .dflt).s.size ≤ 9223372036854775807) :
    Calls Tryd.prog 5 #[.agg #[.int .i64 K, .int .i64 Z, .int .i64 M], .slice a n c] w fun e w' => e = .returned (.bool true) ∧ Below w.heap.size w w' := by
  have hb0 := alloc_low w (.cells #[.int .i64 K, .int .i64 Z, .int .i64 M] 23)
  have hz := sz_new w K Z M
  have HAW := hide (fun (w1 : World) (hb : Below w.heap.size w w1) => awake_any w1 (ht.below hb))
  have HT := hide ht
  generalize hW : w.alloc (.cells #[.int .i64 K, .int .i64 Z, .int .i64 M] 23) = W at *
  have HF := hide (fewR_any a n c rs W (h.below hb0) hn hbig)
  have Hh := hide (h.below hb0)
  have HB0 := hide hb0
  obtain ⟨z0, z1, z2⟩ := hz
  clear h hb0 hbig ht
  go_enter Tryd.func5, Tryd.ntmps5
  go_wp2_with fail
  refine (unhide HF).mono ?_
  rintro e w0 ⟨hf, hw⟩
  obtain rfl := hw.symm
  clear hw HF
  rcases hf with ⟨rfl, hf⟩ | ⟨rfl, hf⟩
  case inr =>
    clear hf
    go_wp2_with (go_at_call 9; refine (unhide HAW _ (unhide HB0)).mono ?_; rintro e w1 ⟨rfl, hb1⟩)
    go_ret
    exact ⟨rfl, below0 (unhide HB0) hb1⟩
  have Hf := hide hf.2
  clear hf
  by_cases h6 : 60 < n
  · have hd : decide ((60 : Int) < (n : Int)) = true := by rw [decide_eq_true_iff]; omega
    go_wp2_with (go_at_call 9; refine (unhide HAW _ (unhide HB0)).mono ?_; rintro e w1 ⟨rfl, hb1⟩)
    go_ret
    exact ⟨rfl, below0 (unhide HB0) hb1⟩
  have hd : decide ((60 : Int) < (n : Int)) = false := by rw [decide_eq_false_iff_not]; omega
  go_wp2_with fail
  refine (stnew_any K Z M W).mono ?_
  rintro e w1 ⟨rfl, hs1, hb1⟩
  have HS1 := hide hs1
  have HB1 := hide hb1
  clear hs1 hb1
  go_wp2
  go_loopw [6, 7] (fun s i wr => ∃ (j : Nat) (v : Value) (ts : List RV) (ov : Bool), j ≤ n ∧ i = .int .i64 j ∧ s = .int .i64 (rankN ts) ∧ rankN ts ≤ 256 ∧ Hid (StAt wr W.heap.size W.heap.size K Z (capN M) v ts ov) ∧ Hid (Below W.heap.size W wr)) (fun _ i _ => n - (intOf i).toNat)
  case atStart => exact ⟨0, .slice none 0 0, [], false, Nat.zero_le _, rfl, rfl, Nat.zero_le _, HS1, HB1⟩
  case round =>
    obtain ⟨j, v, ts, ov, hj, rfl, rfl, hrk, HS, HB⟩ := hrel
    clear HS1 HB1
    by_cases hlt : j < n
    · have hR := (unhide Hh).below (unhide HB)
      obtain ⟨b, off, rfl, hcl⟩ := hR.at hlt
      obtain ⟨hc0, hc1⟩ := hcl j hlt
      have hrow := hR.2.1 j hlt
      have hsh := unhide Hf j
      have hlt' : (j : Int) < (n : Int) := by omega
      clear hcl hR
      generalize rs.getD j .dflt = r at *
      have HP := hide (put_any _ _ K Z (capN M) v ts ov r.a r.n r.c r.xs r.s wr (unhide HS) hrow hsh.1 hsh.2)
      clear hrow
      go_wp2_with fail
      refine (unhide HP).mono ?_
      rintro e w2 ⟨rfl, v2, ts2, hs2, hc2, ht2, -⟩
      have hb2 := (unhide HS).step (unhide HB) ht2
      have HRK := hide (rank_any _ _ K Z (capN M) v2 ts2 _ w2 ((unhide HT).below (below0 (unhide HB0) hb2)) hs2)
      have HLN := hide (fun wx (hb : Below w2.heap.size w2 wx) => len_any _ _ K Z (capN M) v2 ts2 _ wx (hs2.below hb))
      have hrr := rankN_put hc2
      have hle := rankN_le ts2
      have hm2 := hs2.le
      have hm3 := hs2.most
      have HS2 := hide hs2
      have HB2 := hide hb2
      clear HP hs2 hc2 ht2 hb2 HS HB
      generalize putE K Z (capN M) (ts.map core) (r.xs, r.s) = E at *
      generalize putO K Z (capN M) (ts.map core) ov (r.xs, r.s) = ov2 at *
      generalize hR2 : rankN ts2 = R2 at *
      generalize hR1 : rankN ts = R1 at *
      have hd1 : decide ((R2 : Int) < (R1 : Int)) = false := by rw [decide_eq_false_iff_not]; omega
      have hd2 : decide ((R1 : Int) + 1 < (R2 : Int)) = false := by rw [decide_eq_false_iff_not]; omega
      have hd3 : decide ((ts2.length : Int) < (R2 : Int)) = false := by rw [decide_eq_false_iff_not]; omega
      go_wp2_with (first
        | (go_at_call 18; refine (unhide HRK).mono ?_; rintro e w3 ⟨rfl, hb3⟩; have HB3 := hide hb3; clear hb3)
        | (go_at_call 14; refine (unhide HLN _ (unhide HB3)).mono ?_; rintro e w4 ⟨rfl, hw⟩; obtain rfl := hw.symm; clear hw))
      go_roundw
      case rel => exact ⟨j + 1, v2, ts2, ov2, by omega, by go_num, by rw [hR2], by omega, hide ((unhide HS2).below (unhide HB3)), hide ((unhide HB2).trans ((unhide HB3).mono (unhide HB2).size))⟩
      case measure => simp [intOf]; omega
    · have HRW := hide (rows_any _ _ K Z (capN M) v ts ov wr (unhide HS))
      have hss := unhide HS
      have hsi := hss.rows.rows
      have hsr := hss.short
      have hll := hss.le
      have hlm := hss.most
      clear hss
      go_wp2_with fail
      refine (unhide HRW).mono ?_
      rintro e w3 ⟨a3, c3, us, rfl, ho3, hr3, he3, hb3⟩
      obtain ⟨hA, hI, hSh, -, -⟩ := OutP.at ho3 hr3 he3 hsi hsr
      have hKR := rgrank_any (some ⟨a3, 0, none⟩) ts.length c3 us w3 hA hI hSh (by omega)
      have hkr : (keepL (vecsL us) us.length).length = (basisL (vecsL us)).length := by rw [← vecsL_len]; exact keep_rank (fit_of hI hSh)
      have hrn : (basisL (vecsL us)).length = rankN ts := by rw [← hkr]; show rankN us = _; rw [rankN_core, rankN_core, he3]
      rw [hrn] at hKR
      have HKR := hide hKR
      have HB3 := hide (below0 (unhide HB0) (below0 (unhide HB) hb3))
      clear hKR hA hI hSh hkr hrn ho3 hr3 he3 hb3 HRW hsi hsr HS
      generalize rankN ts = R at *
      go_wp2_with (first
        | (go_at_call 19; refine (unhide HKR).mono ?_; rintro e w4 ⟨rfl, hb4⟩; have HB4 := hide (below0 (unhide HB3) hb4); clear hb4)
        | (go_at_call 9; refine (unhide HAW _ (unhide HB4)).mono ?_; rintro e w6 ⟨rfl, hb6⟩; have HB6 := hide (below0 (unhide HB4) hb6); clear hb6))
      go_ret
      exact ⟨rfl, unhide HB6⟩
end Go.Proofs.YtbfkhioljpgjjaaDoor
