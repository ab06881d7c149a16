/-
  Contracts of slices.Grow (of none) and slices.Concat (of two) at rows, gauss.peeled, gauss.Solve, gauss.Decode.
-/
import Derived.Test.YtnjdldbdkafnaaaDoorU32
namespace Go.Proofs.YtnjdldbdkafnaaaDoor
open Go.RowKit Go.Sort
set_option linter.unusedVariables false
set_option linter.unusedSimpArgs false
set_option maxRecDepth 4000

theorem slice_nil (w : World) : (Instr.sliceAt 49 (.slice none 0 0) none (some (.int .i64 0)) none).run Tryd.prog w = .ok (.slice none 0 0) w := by
  have := run_sliceAt_slice (P := Tryd.prog) w 49 (.slice none 0 0) none (some (.int .i64 0)) none elem_rows
  rw [this, run_slice_h _ _ _ _ _ elem_rows _ _ (by omega) (by omega), elem_rows', size_row]
  simp [Result.andThen, sliced]
theorem zeroCells_row (m : Nat) : (Builtin.zeroCells (Value.agg #[.slice none 0 0, .string ⟨#[]⟩]).cells m).size = m * 2 := by
  unfold Builtin.zeroCells
  simp [Value.cells]

set_option maxHeartbeats 1000000 in
theorem grow_any (m : Nat) (w : World) (hm : m ≤ 1048576) :
    Calls Tryd.prog 74 #[.slice none 0 0, .int .i64 (m : Int)] w fun e w' => ∃ a1 c1, e = .returned (.slice a1 0 c1) ∧ OwnS w' w.heap.size (.slice a1 0 c1) [] ∧ Below w.heap.size w w' := by
  have hm0 : decide ((m : Int) < 0) = false := by rw [decide_eq_false_iff_not]; omega
  by_cases h0 : m = 0
  · subst h0
    go_enter Tryd.func74, Tryd.ntmps74
    go_wp2
    go_ret
    exact ⟨none, 0, rfl, OwnS.nil _ _, Below.refl _ _⟩
  · have hp : decide ((0 : Int) < (m : Int)) = true := by rw [decide_eq_true_iff]; omega
    obtain ⟨i0, hi0, hz0, hz1, hz2⟩ := info_parts info_rowZ
    have hr := fun ty => Lib.run_append_nil_zeros (P := Tryd.prog) w 49 3 ty 31 i0 (.agg #[.slice none 0 0, .string ⟨#[]⟩]) .i64 .i64 Tryd.underlying49 Tryd.underlying3 hi0 hz0 m (by omega) (by omega) (by omega) (by rw [hz2]; omega)
    have hge := grownCap_ge w m 0 31
    have hcm := grownCap_le_maxLen w m 0 31 (by unfold maxLen; omega)
    generalize hcp : grownCap w m 0 31 = cp at *
    obtain ⟨R, hR⟩ : ∃ R, R = Builtin.zeroCells (Value.agg #[.slice none 0 0, .string ⟨#[]⟩]).cells m ++ Builtin.zeroCells (Value.agg #[.slice none 0 0, .string ⟨#[]⟩]).cells (cp - m) := ⟨_, rfl⟩
    rw [← hR] at hr
    have hRs : R.size = cp * 2 := by rw [hR, Array.size_append, zeroCells_row, zeroCells_row]; omega
    have HO : Hid (OwnS (w.drew.alloc (.cells R 31)) w.heap.size (.slice (some ⟨w.heap.size, 0, none⟩) 0 cp) []) := hide ⟨rfl, .inr ⟨w.heap.size, cp, R, rfl, Nat.le_refl _, heap_alloc_new w.drew _, Nat.zero_le _, hcm, hRs, by simp [cellsR]⟩⟩
    have hgb : w.grownBy (w.drew.alloc (.cells R 31)) none := ⟨rfl, rfl, rfl, by simp, fun k hk _ => heap_alloc_old w.drew _ hk⟩
    have HB := hide (gb_below (B := w.heap.size) hgb (Nat.le_refl _) (fun k hk => by cases hk))
    clear hgb
    have hsl := slice_hi w.heap.size 0 m cp 0 (by omega)
    have hsn := slice_nil
    clear hi0 hz0 hz1 hz2 hR hRs hcp
    go_enter Tryd.func74, Tryd.ntmps74
    go_wp2_with (at_builtin; refine Lib.wpList_append_run _ rfl _ _ _ _ rfl _ _ rfl rfl _ _ (hr _) ?_)
    go_ret
    exact ⟨_, _, rfl, unhide HO, unhide HB⟩
/-- 'Concat(ts1, ts2)' up to k. -/
def catTo (ts1 ts2 : List RV) (k : Nat) : List RV := if k = 0 then [] else if k = 1 then ts1 else ts1 ++ ts2

set_option maxHeartbeats 2000000 in
theorem concat_any (g : Nat) (a1 : Option Addr) (m1 c1 : Nat) (ts1 : List RV) (a2 : Option Addr) (m2 c2 : Nat) (ts2 : List RV) (B1 B2 : Nat) (w : World) (hc0 : w.cell? ⟨g, 0, none⟩ = some (.slice a1 m1 c1)) (hc1 : w.cell? ⟨g, 1, none⟩ = some (.slice a2 m2 c2))
    (h1 : OwnS w B1 (.slice a1 m1 c1) ts1) (h2 : OwnS w B2 (.slice a2 m2 c2) ts2) (hm1 : m1 ≤ 1000) (hm2 : m2 ≤ 1000) :
    Calls Tryd.prog 59 #[.slice (some ⟨g, 0, none⟩) 2 2] w fun e w' => ∃ a3 m3 c3, e = .returned (.slice a3 m3 c3) ∧ OwnS w' w.heap.size (.slice a3 m3 c3) (ts1 ++ ts2) ∧ Below w.heap.size w w' := by
  obtain ⟨a1', c1', e1⟩ := h1.shape
  obtain ⟨a2', c2', e2⟩ := h2.shape
  have hl1 : ts1.length = m1 := by simp only [Value.slice.injEq] at e1; exact e1.2.1.symm
  have hl2 : ts2.length = m2 := by simp only [Value.slice.injEq] at e2; exact e2.2.1.symm
  clear e1 e2 a1' c1' a2' c2'
  have H1 := hide h1
  have H2 := hide h2
  have HC := hide (And.intro hc0 hc1)
  have HG := hide (fun wx => grow_any (m1 + m2) wx (by omega))
  clear h1 h2
  go_enter Tryd.func59, Tryd.ntmps59
  go_wp2
  go_loop [3, 11] (fun s i => ∃ k : Nat, k ≤ 2 ∧ i = .int .i64 k ∧ s = .int .i64 ((if k = 0 then 0 else if k = 1 then m1 else m1 + m2 : Nat) : Int)) (fun _ i => 2 - (intOf i).toNat)
  case atStart => exact ⟨0, by omega, rfl, rfl⟩
  case round =>
    obtain ⟨k, hk, rfl, rfl⟩ := hrel
    obtain rfl | rfl | rfl : k = 0 ∨ k = 1 ∨ k = 2 := by omega
    · have hd : decide ((m1 : Int) < 0) = false := by rw [decide_eq_false_iff_not]; omega
      go_wp2
      go_round
      case rel => exact ⟨1, by omega, by go_num, by simp⟩
      case measure => simp [intOf]
    · have hd : decide ((m1 : Int) + (m2 : Int) < 0) = false := by rw [decide_eq_false_iff_not]; omega
      go_wp2
      go_round
      case rel => exact ⟨2, by omega, by go_num, by simp⟩
      case measure => simp [intOf]
    · clear hc0 hc1
      go_wp2_with fail
      refine (unhide HG w).mono ?_
      rintro e w1 ⟨a3, c3, rfl, ho3, hb3⟩
      obtain ⟨hc0, hc1⟩ := unhide HC
      have hc0 := (hb3.cell (World.block_lt_of_cell? w _ hc0)).trans hc0
      have hc1 := (hb3.cell (World.block_lt_of_cell? w _ hc1)).trans hc1
      have HC1 := hide (And.intro hc0 hc1)
      have HO3 := hide ho3
      have HB3 := hide hb3
      clear ho3 hb3 hc0 hc1 HG
      go_wp2
      go_loopw [6, 27] (fun o i wr => ∃ k : Nat, ∃ a4 m4 c4, k ≤ 2 ∧ i = .int .i64 k ∧ o = .slice a4 m4 c4 ∧ Hid (OwnS wr w.heap.size (.slice a4 m4 c4) (catTo ts1 ts2 k)) ∧ Hid (Below w.heap.size w wr)) (fun _ i _ => 2 - (intOf i).toNat)
      case atStart => exact ⟨0, a3, 0, c3, by omega, rfl, rfl, HO3, HB3⟩
      case round =>
        obtain ⟨k, a4, m4, c4, hk4, rfl, rfl, HO, HB⟩ := hrel
        clear HO3 HB3 HC1
        obtain ⟨hc0, hc1⟩ := unhide HC
        have hc0 := ((unhide HB).cell (World.block_lt_of_cell? w _ hc0)).trans hc0
        have hc1 := ((unhide HB).cell (World.block_lt_of_cell? w _ hc1)).trans hc1
        have HS1 := hide ((unhide H1).below (unhide HB))
        have HS2 := hide ((unhide H2).below (unhide HB))
        obtain rfl | rfl | rfl : k = 0 ∨ k = 1 ∨ k = 2 := by omega
        · go_wp2_with (at_builtin; refine wpList_appendS rfl (.tmp 31) (.tmp 32) rfl w.heap.size B1 (.slice a4 m4 c4) (.slice a1 m1 c1) [] ts1 rfl rfl (unhide HO) (unhide HB).size (unhide HS1) (by simp; omega) ?_; intro v5 w5 ho5 hb5; (try rw [List.nil_append] at ho5); obtain ⟨a5, m5, c5, rfl⟩ : ∃ a5 m5 c5, v5 = Value.slice a5 m5 c5 := (by obtain ⟨a, c, e⟩ := ho5.shape; exact ⟨a, _, c, e⟩); have HO5 := hide ho5; have HB5 := hide ((unhide HB).trans hb5); clear ho5 hb5)
          go_roundw
          case rel => exact ⟨1, _, _, _, by omega, by go_num, rfl, HO5, HB5⟩
          case measure => simp [intOf]
        · go_wp2_with (at_builtin; refine wpList_appendS rfl (.tmp 31) (.tmp 32) rfl w.heap.size B2 (.slice a4 m4 c4) (.slice a2 m2 c2) ts1 ts2 rfl rfl (unhide HO) (unhide HB).size (unhide HS2) (by omega) ?_; intro v5 w5 ho5 hb5; (try rw [List.nil_append] at ho5); obtain ⟨a5, m5, c5, rfl⟩ : ∃ a5 m5 c5, v5 = Value.slice a5 m5 c5 := (by obtain ⟨a, c, e⟩ := ho5.shape; exact ⟨a, _, c, e⟩); have HO5 := hide ho5; have HB5 := hide ((unhide HB).trans hb5); clear ho5 hb5)
          go_roundw
          case rel => exact ⟨2, _, _, _, by omega, by go_num, rfl, HO5, HB5⟩
          case measure => simp [intOf]
        · go_wp2
          go_ret
          exact ⟨_, _, _, rfl, unhide HO, unhide HB⟩

theorem peel_more {k : Int} {rs : List RV} (hs : 0 < sizeOfK k) (hg : Good rs) : ∀ (d j : Nat) (kn : List Nat) (bs : List ByteArray), Run k rs j kn bs → k.toNat - j ≤ d → ∃ kn' bs', PeelP k rs kn' bs'
  | d, j, kn, bs, h, hd => by
    cases hf : rs.find? (tellsB k kn) with
    | none => exact ⟨kn, bs, ⟨j, h⟩, hf⟩
    | some r =>
      have h2 : Run k rs (j + 1) (setB kn (blkOf kn r) true) (bs.set (blkOf kn r) (txtL bs r.xs r.s)) := ⟨kn, bs, r, h, hf, rfl, rfl⟩
      have hle := (Run.known hs hg h2).le
      match d, hd with
      | 0, hd => omega
      | d + 1, hd => exact peel_more hs hg d (j + 1) _ _ h2 (by omega)
theorem peel_is {k : Int} {rs : List RV} (hg : Good rs) : ∃ kn bs, PeelP k rs kn bs := by
  by_cases hz : sizeOfK k = 0
  · exact ⟨_, _, (peelP_none hz).1⟩
  · exact peel_more (by omega) hg _ 0 _ _ ⟨rfl, rfl⟩ (Nat.le_refl _)
/-- What peeling makes of rows. -/
def peelC (k : Int) (rs : List RV) (kn : List Nat) (bs : List ByteArray) : List (List Nat × ByteArray) := toldTo k kn bs k.toNat ++ restL k rs kn bs

set_option maxHeartbeats 1000000 in
theorem peeled_any (k : Int) (a : Option Addr) (n c : Nat) (rs : List RV) (kn : List Nat) (bs : List ByteArray) (hPP : PeelP k rs kn bs) (w : World) (ht : Tab w) (h : RowsAt w a n rs) (hs : shortR rs) (hn : n ≤ 300) :
    Calls Tryd.prog 46 #[.int .i64 k, .slice a n c] w fun e w' => ∃ a1 m1 c1 us, e = .returned (.slice a1 m1 c1) ∧ WayR w w' (peelC k rs kn bs) a1 m1 c1 us := by
  have HP := hide (peel_any k a n c rs w ht h hs (by omega))
  have HG := hide (good_of h hs)
  have HLN := hide (len_of h hs)
  have Hs := hide hs
  have HN := hide h.1
  clear h hs ht
  go_enter Tryd.func46, Tryd.ntmps46
  go_wp2_with fail
  refine (unhide HP).mono ?_
  rintro e w1 ⟨a1, m1, c1, ts1, a2, m2, c2, ts2, rfl, hP⟩
  obtain ⟨s1, s2, l1, l2⟩ := hP.short (unhide HG) (unhide Hs) (unhide HLN)
  obtain ⟨kn', bs', p1, o1, i1, e1, o2, i2, e2, hb1⟩ := hP
  obtain ⟨rfl, rfl⟩ := hPP.uniq p1
  have hN := unhide HN
  have q1 := (o1.at' i1).2.1
  have q2 := (o2.at' i2).2.1
  have hba : Below w1.heap.size w1 (w1.alloc (.cells #[.slice a1 m1 c1, .slice a2 m2 c2] 49)) := (Below.refl _ _).alloc (Nat.le_refl _) _
  have HCC := hide (concat_any w1.heap.size a1 m1 c1 ts1 a2 m2 c2 ts2 w.heap.size w.heap.size (w1.alloc (.cells #[.slice a1 m1 c1, .slice a2 m2 c2] 49)) (by simp) (by simp) (o1.below hba) (o2.below hba) (by omega) (by omega))
  have HE := hide (show (ts1 ++ ts2).map core = peelC k rs kn bs by rw [List.map_append, e1, e2]; rfl)
  have HI := hide (i1.append i2)
  have HSA := hide (short_append s1 s2)
  have HLA := hide (show (ts1 ++ ts2).length ≤ 1000 by rw [List.length_append]; omega)
  have HB1 := hide hb1
  have HBA := hide hba
  clear HP p1 o1 i1 e1 o2 i2 e2 hb1 s1 s2 l1 l2 q1 q2 hba hN hPP
  go_wp2_with fail
  refine (unhide HCC).mono ?_
  rintro e w2 ⟨a3, m3, c3, rfl, ho3, hb3⟩
  have HR := hide (show WayR w w2 (peelC k rs kn bs) a3 m3 c3 (ts1 ++ ts2) from ⟨ho3.mono (Nat.le_trans (unhide HB1).size (unhide HBA).size), ((unhide HI).below (unhide HBA)).below hb3, unhide HSA, unhide HLA, unhide HE, below0 (below0 (unhide HB1) (unhide HBA)) hb3⟩)
  clear ho3 hb3 HCC
  go_wp2
  go_ret
  exact ⟨_, _, _, _, rfl, unhide HR⟩

set_option maxHeartbeats 1000000 in
theorem decode_any (k : Int) (a : Option Addr) (n c : Nat) (rs : List RV) (kn : List Nat) (bs : List ByteArray) (hPP : PeelP k rs kn bs) (w : World) (ht : Tab w) (h : RowsAt w a n rs) (hs : shortR rs) (hn : n ≤ 300) :
    Calls Tryd.prog 33 #[.int .i64 k, .slice a n c] w fun e w' => ∃ a1 m1 c1, e = .returned (.tuple #[.slice a1 m1 c1, .bool (okC k (peelC k rs kn bs))]) ∧ OwnT w' w.heap.size (.slice a1 m1 c1) (solveC k (peelC k rs kn bs)) ∧ Below w.heap.size w w' := by
  have HX := hide (blocks_peeled k a n c (peelC k rs kn bs) w ht (fun w1 hb => peeled_any k a n c rs kn bs hPP w1 (ht.below hb) (h.below hb) hs hn))
  clear ht h hs hPP
  go_enter Tryd.func33, Tryd.ntmps33
  go_wp2_with fail
  refine (unhide HX).mono ?_
  rintro e w1 ⟨a1, m1, c1, rfl, ho, hb⟩
  have HO := hide ho
  have HB := hide hb
  clear ho hb HX
  go_wp2
  go_ret2
  exact ⟨_, _, _, rfl, unhide HO, unhide HB⟩

end Go.Proofs.YtnjdldbdkafnaaaDoor
