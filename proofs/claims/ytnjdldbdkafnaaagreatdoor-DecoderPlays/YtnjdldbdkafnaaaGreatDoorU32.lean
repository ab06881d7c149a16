/-
  Contracts of slices.Grow (of none) and slices.Concat (of two) at rows, gauss.peeled, gauss.Solve, gauss.Decode.
  What peeling leaves is of k blocks, and is true where the rows are; elimination of true rows, peeled or not. No condition.
  Contracts of internal/stringslite.Clone and strings.Clone: for every text of at most 2^20 bytes.
  Memory of which only some blocks have turned ('Tu'). No condition.
-/
import Derived.Test.YtnjdldbdkafnaaaGreatDoorU31
import Derived.Test.YtnjdldbdkafnaaaGreatDoorU2
import Derived.Lib.UnsafeStr
import Derived.Laws.Concat
import Derived.Test.YtnjdldbdkafnaaaGreatDoorU4
namespace Go.Proofs.YtnjdldbdkafnaaaGreatDoor
open Go.RowKit Go.Sort
set_option linter.unusedVariables false
set_option linter.unusedSimpArgs false
set_option maxRecDepth 4000

theorem slice_nil (w : World) : (Instr.sliceAt 32 (.slice none 0 0) none (some (.int .i64 0)) none).run Tryz.prog w = .ok (.slice none 0 0) w := by
  have := run_sliceAt_slice (P := Tryz.prog) w 32 (.slice none 0 0) none (some (.int .i64 0)) none elem_rows
  rw [this, run_slice_h _ _ _ _ _ elem_rows _ _ (by omega) (by omega), elem_rows', size_row]
  simp [Result.andThen, sliced]
theorem zeroCells_row (m : Nat) : (Builtin.zeroCells (Value.agg #[.slice none 0 0, .string ⟨#[]⟩]).cells m).size = m * 2 := by
  unfold Builtin.zeroCells
  simp [Value.cells]

set_option maxHeartbeats 1000000 in
theorem grow_any (m : Nat) (w : World) (hm : m ≤ 1048576) :
    Calls Tryz.prog 112 #[.slice none 0 0, .int .i64 (m : Int)] w fun e w' => ∃ a1 c1, e = .returned (.slice a1 0 c1) ∧ OwnS w' w.heap.size (.slice a1 0 c1) [] ∧ Below w.heap.size w w' := by
  have hm0 : decide ((m : Int) < 0) = false := by rw [decide_eq_false_iff_not]; omega
  by_cases h0 : m = 0
  · subst h0
    go_enter Tryz.func112, Tryz.ntmps112
    go_wp2
    go_ret
    exact ⟨none, 0, rfl, OwnS.nil _ _, Below.refl _ _⟩
  · have hp : decide ((0 : Int) < (m : Int)) = true := by rw [decide_eq_true_iff]; omega
    obtain ⟨i0, hi0, hz0, hz1, hz2⟩ := info_parts info_rowZ
    have hr := fun ty => Lib.run_append_nil_zeros (P := Tryz.prog) w 32 3 ty 29 i0 (.agg #[.slice none 0 0, .string ⟨#[]⟩]) .i64 .i64 Tryz.underlying32 Tryz.underlying3 hi0 hz0 m (by omega) (by omega) (by omega) (by rw [hz2]; omega)
    have hge := grownCap_ge w m 0 29
    have hcm := grownCap_le_maxLen w m 0 29 (by unfold maxLen; omega)
    generalize hcp : grownCap w m 0 29 = cp at *
    obtain ⟨R, hR⟩ : ∃ R, R = Builtin.zeroCells (Value.agg #[.slice none 0 0, .string ⟨#[]⟩]).cells m ++ Builtin.zeroCells (Value.agg #[.slice none 0 0, .string ⟨#[]⟩]).cells (cp - m) := ⟨_, rfl⟩
    rw [← hR] at hr
    have hRs : R.size = cp * 2 := by rw [hR, Array.size_append, zeroCells_row, zeroCells_row]; omega
    have HO : Hid (OwnS (w.drew.alloc (.cells R 29)) w.heap.size (.slice (some ⟨w.heap.size, 0, none⟩) 0 cp) []) := hide ⟨rfl, .inr ⟨w.heap.size, cp, R, rfl, Nat.le_refl _, heap_alloc_new w.drew _, Nat.zero_le _, hcm, hRs, by simp [cellsR]⟩⟩
    have hgb : w.grownBy (w.drew.alloc (.cells R 29)) none := ⟨rfl, rfl, rfl, by simp, fun k hk _ => heap_alloc_old w.drew _ hk⟩
    have HB := hide (gb_below (B := w.heap.size) hgb (Nat.le_refl _) (fun k hk => by cases hk))
    clear hgb
    have hsl := slice_hi w.heap.size 0 m cp 0 (by omega)
    have hsn := slice_nil
    clear hi0 hz0 hz1 hz2 hR hRs hcp
    go_enter Tryz.func112, Tryz.ntmps112
    go_wp2_with (at_builtin; refine Lib.wpList_append_run _ rfl _ _ _ _ rfl _ _ rfl rfl _ _ (hr _) ?_)
    go_ret
    exact ⟨_, _, rfl, unhide HO, unhide HB⟩
/-- 'Concat(ts1, ts2)' up to k. -/
def catTo (ts1 ts2 : List RV) (k : Nat) : List RV := if k = 0 then [] else if k = 1 then ts1 else ts1 ++ ts2

set_option maxHeartbeats 2000000 in
theorem concat_any (g : Nat) (a1 : Option Addr) (m1 c1 : Nat) (ts1 : List RV) (a2 : Option Addr) (m2 c2 : Nat) (ts2 : List RV) (B1 B2 : Nat) (w : World) (hc0 : w.cell? ⟨g, 0, none⟩ = some (.slice a1 m1 c1)) (hc1 : w.cell? ⟨g, 1, none⟩ = some (.slice a2 m2 c2))
    (h1 : OwnS w B1 (.slice a1 m1 c1) ts1) (h2 : OwnS w B2 (.slice a2 m2 c2) ts2) (hm1 : m1 ≤ 1000) (hm2 : m2 ≤ 1000) :
    Calls Tryz.prog 97 #[.slice (some ⟨g, 0, none⟩) 2 2] w fun e w' => ∃ a3 m3 c3, e = .returned (.slice a3 m3 c3) ∧ OwnS w' w.heap.size (.slice a3 m3 c3) (ts1 ++ ts2) ∧ Below w.heap.size w w' := by
  obtain ⟨a1', c1', e1⟩ := h1.shape
  obtain ⟨a2', c2', e2⟩ := h2.shape
  have hl1 : ts1.length = m1 := by simp only [Value.slice.injEq] at e1; exact e1.2.1.symm
  have hl2 : ts2.length = m2 := by simp only [Value.slice.injEq] at e2; exact e2.2.1.symm
  clear e1 e2 a1' c1' a2' c2'
  have H1 := hide h1
  have H2 := hide h2
  have HC := hide (And.intro hc0 hc1)
  have HG := hide (fun wx => grow_any (m1 + m2) wx (by omega))
  clear h1 h2
  go_enter Tryz.func97, Tryz.ntmps97
  go_wp2
  go_loop [3, 11] (fun s i => ∃ k : Nat, k ≤ 2 ∧ i = .int .i64 k ∧ s = .int .i64 ((if k = 0 then 0 else if k = 1 then m1 else m1 + m2 : Nat) : Int)) (fun _ i => 2 - (intOf i).toNat)
  case atStart => exact ⟨0, by omega, rfl, rfl⟩
  case round =>
    obtain ⟨k, hk, rfl, rfl⟩ := hrel
    obtain rfl | rfl | rfl : k = 0 ∨ k = 1 ∨ k = 2 := by omega
    · have hd : decide ((m1 : Int) < 0) = false := by rw [decide_eq_false_iff_not]; omega
      go_wp2
      go_round
      case rel => exact ⟨1, by omega, by go_num, by simp⟩
      case measure => simp [intOf]
    · have hd : decide ((m1 : Int) + (m2 : Int) < 0) = false := by rw [decide_eq_false_iff_not]; omega
      go_wp2
      go_round
      case rel => exact ⟨2, by omega, by go_num, by simp⟩
      case measure => simp [intOf]
    · clear hc0 hc1
      go_wp2_with fail
      refine (unhide HG w).mono ?_
      rintro e w1 ⟨a3, c3, rfl, ho3, hb3⟩
      obtain ⟨hc0, hc1⟩ := unhide HC
      have hc0 := (hb3.cell (World.block_lt_of_cell? w _ hc0)).trans hc0
      have hc1 := (hb3.cell (World.block_lt_of_cell? w _ hc1)).trans hc1
      have HC1 := hide (And.intro hc0 hc1)
      have HO3 := hide ho3
      have HB3 := hide hb3
      clear ho3 hb3 hc0 hc1 HG
      go_wp2
      go_loopw [6, 27] (fun o i wr => ∃ k : Nat, ∃ a4 m4 c4, k ≤ 2 ∧ i = .int .i64 k ∧ o = .slice a4 m4 c4 ∧ Hid (OwnS wr w.heap.size (.slice a4 m4 c4) (catTo ts1 ts2 k)) ∧ Hid (Below w.heap.size w wr)) (fun _ i _ => 2 - (intOf i).toNat)
      case atStart => exact ⟨0, a3, 0, c3, by omega, rfl, rfl, HO3, HB3⟩
      case round =>
        obtain ⟨k, a4, m4, c4, hk4, rfl, rfl, HO, HB⟩ := hrel
        clear HO3 HB3 HC1
        obtain ⟨hc0, hc1⟩ := unhide HC
        have hc0 := ((unhide HB).cell (World.block_lt_of_cell? w _ hc0)).trans hc0
        have hc1 := ((unhide HB).cell (World.block_lt_of_cell? w _ hc1)).trans hc1
        have HS1 := hide ((unhide H1).below (unhide HB))
        have HS2 := hide ((unhide H2).below (unhide HB))
        obtain rfl | rfl | rfl : k = 0 ∨ k = 1 ∨ k = 2 := by omega
        · go_wp2_with (at_builtin; refine wpList_appendS rfl (.tmp 31) (.tmp 32) rfl w.heap.size B1 (.slice a4 m4 c4) (.slice a1 m1 c1) [] ts1 rfl rfl (unhide HO) (unhide HB).size (unhide HS1) (by simp; omega) ?_; intro v5 w5 ho5 hb5; (try rw [List.nil_append] at ho5); obtain ⟨a5, m5, c5, rfl⟩ : ∃ a5 m5 c5, v5 = Value.slice a5 m5 c5 := (by obtain ⟨a, c, e⟩ := ho5.shape; exact ⟨a, _, c, e⟩); have HO5 := hide ho5; have HB5 := hide ((unhide HB).trans hb5); clear ho5 hb5)
          go_roundw
          case rel => exact ⟨1, _, _, _, by omega, by go_num, rfl, HO5, HB5⟩
          case measure => simp [intOf]
        · go_wp2_with (at_builtin; refine wpList_appendS rfl (.tmp 31) (.tmp 32) rfl w.heap.size B2 (.slice a4 m4 c4) (.slice a2 m2 c2) ts1 ts2 rfl rfl (unhide HO) (unhide HB).size (unhide HS2) (by omega) ?_; intro v5 w5 ho5 hb5; (try rw [List.nil_append] at ho5); obtain ⟨a5, m5, c5, rfl⟩ : ∃ a5 m5 c5, v5 = Value.slice a5 m5 c5 := (by obtain ⟨a, c, e⟩ := ho5.shape; exact ⟨a, _, c, e⟩); have HO5 := hide ho5; have HB5 := hide ((unhide HB).trans hb5); clear ho5 hb5)
          go_roundw
          case rel => exact ⟨2, _, _, _, by omega, by go_num, rfl, HO5, HB5⟩
          case measure => simp [intOf]
        · go_wp2
          go_ret
          exact ⟨_, _, _, rfl, unhide HO, unhide HB⟩

theorem peel_more {k : Int} {rs : List RV} (hs : 0 < sizeOfK k) (hg : Good rs) : ∀ (d j : Nat) (kn : List Nat) (bs : List ByteArray), Run k rs j kn bs → k.toNat - j ≤ d → ∃ kn' bs', PeelP k rs kn' bs'
  | d, j, kn, bs, h, hd => by
    cases hf : rs.find? (tellsB k kn) with
    | none => exact ⟨kn, bs, ⟨j, h⟩, hf⟩
    | some r =>
      have h2 : Run k rs (j + 1) (setB kn (blkOf kn r) true) (bs.set (blkOf kn r) (txtL bs r.xs r.s)) := ⟨kn, bs, r, h, hf, rfl, rfl⟩
      have hle := (Run.known hs hg h2).le
      match d, hd with
      | 0, hd => omega
      | d + 1, hd => exact peel_more hs hg d (j + 1) _ _ h2 (by omega)
theorem peel_is {k : Int} {rs : List RV} (hg : Good rs) : ∃ kn bs, PeelP k rs kn bs := by
  by_cases hz : sizeOfK k = 0
  · exact ⟨_, _, (peelP_none hz).1⟩
  · exact peel_more (by omega) hg _ 0 _ _ ⟨rfl, rfl⟩ (Nat.le_refl _)
/-- What peeling makes of rows. -/
def peelC (k : Int) (rs : List RV) (kn : List Nat) (bs : List ByteArray) : List (List Nat × ByteArray) := toldTo k kn bs k.toNat ++ restL k rs kn bs

set_option maxHeartbeats 1000000 in
theorem peeled_any (k : Int) (a : Option Addr) (n c : Nat) (rs : List RV) (kn : List Nat) (bs : List ByteArray) (hPP : PeelP k rs kn bs) (w : World) (ht : Tab w) (h : RowsAt w a n rs) (hs : shortR rs) (hn : n ≤ 300) :
    Calls Tryz.prog 83 #[.int .i64 k, .slice a n c] w fun e w' => ∃ a1 m1 c1 us, e = .returned (.slice a1 m1 c1) ∧ WayR w w' (peelC k rs kn bs) a1 m1 c1 us := by
  have HP := hide (peel_any k a n c rs w ht h hs (by omega))
  have HG := hide (good_of h hs)
  have HLN := hide (len_of h hs)
  have Hs := hide hs
  have HN := hide h.1
  clear h hs ht
  go_enter Tryz.func83, Tryz.ntmps83
  go_wp2_with fail
  refine (unhide HP).mono ?_
  rintro e w1 ⟨a1, m1, c1, ts1, a2, m2, c2, ts2, rfl, hP⟩
  obtain ⟨s1, s2, l1, l2⟩ := hP.short (unhide HG) (unhide Hs) (unhide HLN)
  obtain ⟨kn', bs', p1, o1, i1, e1, o2, i2, e2, hb1⟩ := hP
  obtain ⟨rfl, rfl⟩ := hPP.uniq p1
  have hN := unhide HN
  have q1 := (o1.at' i1).2.1
  have q2 := (o2.at' i2).2.1
  have hba : Below w1.heap.size w1 (w1.alloc (.cells #[.slice a1 m1 c1, .slice a2 m2 c2] 32)) := (Below.refl _ _).alloc (Nat.le_refl _) _
  have HCC := hide (concat_any w1.heap.size a1 m1 c1 ts1 a2 m2 c2 ts2 w.heap.size w.heap.size (w1.alloc (.cells #[.slice a1 m1 c1, .slice a2 m2 c2] 32)) (by simp) (by simp) (o1.below hba) (o2.below hba) (by omega) (by omega))
  have HE := hide (show (ts1 ++ ts2).map core = peelC k rs kn bs by rw [List.map_append, e1, e2]; rfl)
  have HI := hide (i1.append i2)
  have HSA := hide (short_append s1 s2)
  have HLA := hide (show (ts1 ++ ts2).length ≤ 1000 by rw [List.length_append]; omega)
  have HB1 := hide hb1
  have HBA := hide hba
  clear HP p1 o1 i1 e1 o2 i2 e2 hb1 s1 s2 l1 l2 q1 q2 hba hN hPP
  go_wp2_with fail
  refine (unhide HCC).mono ?_
  rintro e w2 ⟨a3, m3, c3, rfl, ho3, hb3⟩
  have HR := hide (show WayR w w2 (peelC k rs kn bs) a3 m3 c3 (ts1 ++ ts2) from ⟨ho3.mono (Nat.le_trans (unhide HB1).size (unhide HBA).size), ((unhide HI).below (unhide HBA)).below hb3, unhide HSA, unhide HLA, unhide HE, below0 (below0 (unhide HB1) (unhide HBA)) hb3⟩)
  clear ho3 hb3 HCC
  go_wp2
  go_ret
  exact ⟨_, _, _, _, rfl, unhide HR⟩

set_option maxHeartbeats 1000000 in
theorem decode_any (k : Int) (a : Option Addr) (n c : Nat) (rs : List RV) (kn : List Nat) (bs : List ByteArray) (hPP : PeelP k rs kn bs) (w : World) (ht : Tab w) (h : RowsAt w a n rs) (hs : shortR rs) (hn : n ≤ 300) :
    Calls Tryz.prog 65 #[.int .i64 k, .slice a n c] w fun e w' => ∃ a1 m1 c1, e = .returned (.tuple #[.slice a1 m1 c1, .bool (okC k (peelC k rs kn bs))]) ∧ OwnT w' w.heap.size (.slice a1 m1 c1) (solveC k (peelC k rs kn bs)) ∧ Below w.heap.size w w' := by
  have HX := hide (blocks_peeled k a n c (peelC k rs kn bs) w ht (fun w1 hb => peeled_any k a n c rs kn bs hPP w1 (ht.below hb) (h.below hb) hs hn))
  clear ht h hs hPP
  go_enter Tryz.func65, Tryz.ntmps65
  go_wp2_with fail
  refine (unhide HX).mono ?_
  rintro e w1 ⟨a1, m1, c1, rfl, ho, hb⟩
  have HO := hide ho
  have HB := hide hb
  clear ho hb HX
  go_wp2
  go_ret2
  exact ⟨_, _, _, rfl, unhide HO, unhide HB⟩

/-- The rows that are of k blocks. -/
def validC (k : Int) (rs : List RV) : List (List Nat × ByteArray) := (rs.filter fun r => validB k r.xs).map core

end Go.Proofs.YtnjdldbdkafnaaaGreatDoor
namespace Go.Proofs.YtnjdldbdkafnaaaGreatDoor
open Go.RowKit Go.Sort
set_option linter.unusedVariables false
set_option linter.unusedSimpArgs false
set_option maxRecDepth 4000

theorem unit_valid {k : Int} {b : Nat} (hs : 0 < sizeOfK k) (hb : (b : Int) < k) : validB k (unitL k (b : Int)) = true := by
  refine validB_iff.2 ⟨by rw [unit_len hb]; exact hs, unit_len hb, fun i hi => ?_⟩
  rw [unit_bit hs hb, decide_eq_false (by omega)]
theorem drop_valid {k : Int} {xs : List Nat} (kn : List Nat) (h : validB k xs = true) : validB k (dropL xs kn) = true := by
  obtain ⟨h1, h2, h3⟩ := validB_iff.1 h
  refine validB_iff.2 ⟨by rw [dropL_length]; exact h1, by rw [dropL_length]; exact h2, fun i hi => ?_⟩
  rw [dropL_bit, h3 i hi]; rfl
theorem peel_valid {k : Int} {rs : List RV} {kn : List Nat} {bs : List ByteArray} (hP : PeelP k rs kn bs) (hg : Good rs) : ∀ x ∈ peelC k rs kn bs, validB k x.1 = true := by
  intro x hx
  by_cases hz : sizeOfK k = 0
  · obtain ⟨p1, p2, p3⟩ := peelP_none (rs := rs) hz
    obtain ⟨rfl, rfl⟩ := hP.uniq p1
    unfold peelC at hx
    rw [p2, p3] at hx; cases hx
  · obtain ⟨j, hK⟩ := hP.kn hg (by omega)
    unfold peelC at hx
    rcases List.mem_append.1 hx with hx | hx
    · obtain ⟨b, hb, _, rfl⟩ := told_mem hK hx
      exact unit_valid hK.size (by omega)
    · unfold restL at hx
      obtain ⟨r, hr, rfl⟩ := List.mem_map.1 hx
      have := (List.mem_filter.1 hr).2
      unfold restB at this
      rw [Bool.and_eq_true, Bool.and_eq_true] at this
      exact drop_valid kn this.1.1
theorem valid_all_core {k : Int} {ts : List RV} {L : List (List Nat × ByteArray)} (h : ts.map core = L) (hv : ∀ x ∈ L, validB k x.1 = true) : validC k ts = L := by
  unfold validC
  have : (ts.filter fun r => validB k r.xs) = ts := List.filter_eq_self.2 fun r hr => hv (core r) (by rw [← h]; exact List.mem_map.2 ⟨r, hr, rfl⟩)
  rw [this]
  exact h
theorem ofL_small {ss : List ByteArray} {m : Nat} (h : ∀ i, (ss.getD i ByteArray.empty).size ≤ m) (vs : List Nat) : ∀ n, (ofL ss vs n).length ≤ m
  | 0 => by simp [ofL]
  | n + 1 => by
    unfold ofL
    split
    · rw [xorL_length, tx_length]
      have := ofL_small h vs n
      have := h n
      omega
    · exact ofL_small h vs n
theorem txtL_same {bs : List ByteArray} {xs : List Nat} {s : ByteArray} {m : Nat} (h : ∀ i, (bs.getD i ByteArray.empty).size ≤ m) (hs : s.size = m) : (txtL bs xs s).size = m := by
  unfold txtL
  rw [xorS_size, st_len, hs]
  have := ofL_small h xs bs.length
  omega
theorem run_sizes {k : Int} {rs : List RV} {m : Nat} (hz : 0 < sizeOfK k) (hg : Good rs) (hm : ∀ r ∈ rs, r.s.size = m) : ∀ {j : Nat} {kn : List Nat} {bs : List ByteArray}, Run k rs j kn bs → (∀ b, getB kn b = true → (bs.getD b ByteArray.empty).size = m) ∧ ∀ b, (bs.getD b ByteArray.empty).size ≤ m
  | 0, kn, bs, ⟨h1, h2⟩ => by
    refine ⟨(fun b hb => by rw [h1, bit_zeros] at hb; cases hb), fun b => ?_⟩
    rw [h2, List.getD_eq_getElem?_getD, List.getElem?_replicate]
    split <;> exact Nat.zero_le _
  | j + 1, kn, bs, ⟨kn0, bs0, r, h1, h2, h3, h4⟩ => by
    obtain ⟨i1, i2⟩ := run_sizes hz hg hm h1
    have hK := Run.known hz hg h1
    have hr := List.mem_of_find?_eq_some h2
    have ht := txtL_same (xs := r.xs) i2 (hm r hr)
    obtain ⟨hv, hbits, hk0, hx0, hbk, hfi⟩ := tells_bit (hg r hr).1 (List.find?_some h2)
    have hroom := size_room hz
    subst h3 h4
    refine ⟨fun b hb => ?_, fun b => ?_⟩
    · rw [bit_setB _ _ _ _ (by rw [hK.len]; omega)] at hb
      rw [getD_set_tx]
      by_cases e : b = blkOf kn0 r
      · rw [if_pos ⟨e, by rw [hK.lenb]; exact hbk⟩]; exact ht
      · rw [if_neg e] at hb
        rw [if_neg (fun h => e h.1)]
        exact i1 b hb
    · rw [getD_set_tx]
      split
      · omega
      · exact i2 b
theorem peel_true {ss : List ByteArray} {rs : List RV} {m : Nat} {kn : List Nat} {bs : List ByteArray} (hP : PeelP (ss.length : Int) rs kn bs) (hg : Good rs) (hz : 0 < sizeOfK (ss.length : Int)) (hh : ∀ r ∈ rs, holdsB ss r.xs r.s = true) (hm : ∀ r ∈ rs, r.s.size = m) : ∀ x ∈ peelC (ss.length : Int) rs kn bs, TrueC ss m x := by
  intro x hx
  unfold peelC at hx
  obtain ⟨⟨j, hj⟩, hn⟩ := id hP
  obtain ⟨s1, s2⟩ := run_sizes hz hg hm hj
  have hK := Run.known hz hg hj
  rcases List.mem_append.1 hx with hx | hx
  · refine ⟨true_told hP hg hh x hx, ?_⟩
    obtain ⟨b, hb, hgb, rfl⟩ := told_mem hK hx
    exact s1 b hgb
  · refine ⟨true_rest hP hg hh x hx, ?_⟩
    unfold restL at hx
    obtain ⟨r, hr, rfl⟩ := List.mem_map.1 hx
    exact txtL_same s2 (hm r (List.mem_filter.1 hr).1)
/-- How many rows bring something anew, of those that are of k blocks. -/
def rankV (k : Int) (rs : List RV) : Nat := (basisL (vecsL (rs.filter fun r => validB k r.xs))).length
theorem fit_filter {rs : List RV} (hg : Good rs) (hl : ∀ r ∈ rs, r.xs.length ≤ 10) (q : RV → Bool) : Fit 1048576 (vecsL (rs.filter q)) := fun b hb => by
  obtain ⟨r, hm, rfl⟩ := List.mem_map.1 hb
  have hm := (List.mem_filter.1 hm).1
  exact ⟨(hg r hm).1, by have := hl r hm; omega⟩
theorem dec_true {ss : List ByteArray} {rs : List RV} {m : Nat} {kn : List Nat} {bs : List ByteArray} (hP : PeelP (ss.length : Int) rs kn bs) (hg : Good rs) (hl : ∀ r ∈ rs, r.xs.length ≤ 10) (hn : rs.length ≤ 300) (hz : 0 < sizeOfK (ss.length : Int)) (hh : ∀ r ∈ rs, holdsB ss r.xs r.s = true) (hm : ∀ r ∈ rs, r.s.size = m) (hms : ∀ b, b < ss.length → (ss.getD b ByteArray.empty).size = m) :
    okC (ss.length : Int) (peelC (ss.length : Int) rs kn bs) = decide (rankV (ss.length : Int) rs = ss.length) ∧ solveC (ss.length : Int) (peelC (ss.length : Int) rs kn bs) = if rankV (ss.length : Int) rs = ss.length then ss else [] := by
  have hval := peel_valid hP hg
  have hz2 := sizeOfK_le (ss.length : Int)
  have hroom := size_room hz
  obtain ⟨j, hK⟩ := hP.kn hg hz
  have hf : FitC 1048576 (peelC (ss.length : Int) rs kn bs) := fun v hv => by
    obtain ⟨x, hx, rfl⟩ := List.mem_map.1 hv
    refine ⟨?_, by have := (valid_size (hval x hx)).2.1; omega⟩
    unfold peelC at hx
    rcases List.mem_append.1 hx with hx | hx
    · obtain ⟨b, hb, _, rfl⟩ := told_mem hK hx
      exact unit_small (by omega)
    · unfold restL at hx
      obtain ⟨r, hr, rfl⟩ := List.mem_map.1 hx
      exact dropL_small (hg r (List.mem_filter.1 hr).1).1 _
  have hln : (peelC (ss.length : Int) rs kn bs).length ≤ 100000 := by
    unfold peelC toldTo restL
    rw [List.length_append, List.length_map, List.length_map]
    have h1 := List.length_filter_le (fun b => getB kn b) (List.range (ss.length : Int).toNat)
    have h2 := List.length_filter_le (restB (ss.length : Int) kn) rs
    rw [List.length_range] at h1
    omega
  have hr : (basisL (vecsC (peelC (ss.length : Int) rs kn bs))).length = rankV (ss.length : Int) rs := rank_eq hf (fit_filter hg hl _) (peel_span hP hg)
  obtain ⟨h1, h2, h3⟩ := solve_true (m := m) hz hf hln hval (peel_true hP hg hz hh hm) hms
  rw [hr] at h1 h2 h3
  refine ⟨h1, ?_⟩
  by_cases e : rankV (ss.length : Int) rs = ss.length
  · rw [if_pos e]; exact h2 e
  · rw [if_neg e]; exact h3 e
end Go.Proofs.YtnjdldbdkafnaaaGreatDoor
namespace Go.Proofs.YtnjdldbdkafnaaaGreatDoor
open Go.RowKit
set_option linter.unusedVariables false
set_option linter.unusedSimpArgs false
set_option maxRecDepth 4000

theorem size_eq0 {s : ByteArray} (h : s.size = 0) : s = ⟨#[]⟩ := by
  apply tx_inj
  have h1 : (tx s).length = 0 := by rw [tx_length]; exact h
  rw [List.eq_nil_of_length_eq_zero h1]
  rfl

set_option maxHeartbeats 1000000 in
theorem lclone_any (s : ByteArray) (w : World) (hn : s.size ≤ 1048576) :
    Calls Tryz.prog 52 #[.string s] w fun e w' => e = .returned (.string s) ∧ Below w.heap.size w w' := by
  by_cases h0 : s.size = 0
  · obtain rfl := size_eq0 h0
    go_enter Tryz.func52, Tryz.ntmps52
    go_wp2
    go_ret
    exact ⟨rfl, Below.refl _ _⟩
  · have h0' : ¬ ((s.size : Int) = 0) := by omega
    obtain ⟨i0, hi0, hz0, hz1, hz2⟩ := info_parts info_u8
    have hco : Tryz.prog.cellsOf 5 = 1 := by simp [Program.cellsOf, hi0, hz1]
    have hrun := fun W => run_make (P := Tryz.prog) W 74 5 i0 (.int .u8 0) Tryz.underlying74 hi0 hz0 .i64 .i64 (s.size : Int) (s.size : Int) (by omega) (by omega) (by rw [hz2]; omega) (by omega)
    simp only [Int.toNat_natCast] at hrun
    have hcs : (madeCells (Value.int .u8 0).cells (s.size * i0.size)).size = s.size := by rw [size_madeCells, hz1, Nat.mul_one]
    generalize madeCells (Value.int .u8 0).cells (s.size * i0.size) = cur at *
    have hgw : (w.alloc (.cells cur 5)).heap[w.heap.size]? = some (.cells cur 5 (0, 0)) := by
      show (w.heap.push _)[w.heap.size]? = _
      simp
    have hbw : Below w.heap.size w (w.alloc (.cells cur 5)) := (Below.refl _ _).alloc (Nat.le_refl _) _
    have hcp := run_copy_text_of (P := Tryz.prog) (w.alloc (.cells cur 5)) 74 9 3 5 w.heap.size s.size s.size s cur 5 Tryz.underlying74 (by rw [hi0]; simp [hz1]) hgw hcs rfl
    have hgY := setRow_heap (w.alloc (.cells cur 5)) w.heap.size cur (s.data.map fun b => Value.int .u8 (b.toNat : Int)) 5 (0, 0) hgw
    have hY : (s.data.map fun b => Value.int .u8 (b.toNat : Int)).size = s.size := by rw [Array.size_map]; rfl
    have hl : s.data.toList.length = s.size := Array.length_toList
    have hb2 : Below w.heap.size w ((w.alloc (.cells cur 5)).setRow w.heap.size (s.data.map fun b => Value.int .u8 (b.toNat : Int))) := hbw.trans ⟨rfl, rfl, rfl, by simp, fun k hk => setRow_other _ _ k _ (by omega)⟩
    have hcl : ∀ (j : Nat) (x : UInt8), s.data.toList[j]? = some x → ((w.alloc (.cells cur 5)).setRow w.heap.size (s.data.map fun b => Value.int .u8 (b.toNat : Int))).cell? ((⟨w.heap.size, 0, none⟩ : Addr).add j) = some (.int .u8 x.toNat) := by
      intro j x hx
      have e : (⟨w.heap.size, 0, none⟩ : Addr).add j = ⟨w.heap.size, j, none⟩ := by unfold Addr.add; split <;> simp_all
      rw [e, cell_setRow_same _ _ j _ _ _ _ hgw]
      rw [Array.getElem?_toList] at hx
      simp [hx]
    have hUS := Lib.run_unsafeString_row (P := Tryz.prog) ((w.alloc (.cells cur 5)).setRow w.heap.size (s.data.map fun b => Value.int .u8 (b.toNat : Int))) 104 3 9 5 Tryz.underlying104 hco w.heap.size s.size (by unfold World.shape?; rw [hgY]; exact congrArg (fun n => some (5, n)) hY) s.data.toList
      (fun e => h0 (by rw [← hl, e]; rfl)) (by rw [hl]; omega) (by rw [hl]; omega) hcl
    rw [hl] at hUS
    have e2 : (⟨s.data.toList.toArray⟩ : ByteArray) = s := by cases s; simp
    rw [e2] at hUS
    generalize (w.alloc (.cells cur 5)).setRow w.heap.size (s.data.map fun b => Value.int .u8 (b.toNat : Int)) = w1 at *
    have HB := hide (Lib.below_freeze hb2 (p := ⟨w.heap.size, 0, none⟩) (Nat.le_refl _) s.size)
    clear hcl hb2 hY hgY hbw hgw hcs hl e2 hco
    go_enter Tryz.func52, Tryz.ntmps52
    go_wp2
    go_ret
    exact ⟨rfl, unhide HB⟩

theorem sclone_any (s : ByteArray) (w : World) (hn : s.size ≤ 1048576) :
    Calls Tryz.prog 30 #[.string s] w fun e w' => e = .returned (.string s) ∧ Below w.heap.size w w' := by
  go_enter Tryz.func30, Tryz.ntmps30
  go_wp2_with fail
  refine (lclone_any s w hn).mono ?_
  rintro e w1 ⟨rfl, hb⟩
  have HB := hide hb
  clear hb
  go_wp2
  go_ret
  exact ⟨rfl, unhide HB⟩
end Go.Proofs.YtnjdldbdkafnaaaGreatDoor
namespace Go.Proofs.YtnjdldbdkafnaaaGreatDoor
open Go.RowKit
set_option linter.unusedVariables false
set_option linter.unusedSimpArgs false
set_option maxRecDepth 4000

/-- Nothing that was there has turned but blocks of F. -/
structure Tu (F : Nat → Prop) (w w' : World) : Prop where
  os : w'.os = w.os
  tape : w'.tape = w.tape
  output : w'.output = w.output
  size : w.heap.size ≤ w'.heap.size
  block : ∀ k, k < w.heap.size → ¬ F k → w'.heap[k]? = w.heap[k]?
theorem Tu.refl (F : Nat → Prop) (w : World) : Tu F w w := ⟨rfl, rfl, rfl, Nat.le_refl _, fun _ _ _ => rfl⟩
theorem Tu.trans {F G : Nat → Prop} {w w1 w2 : World} (h : Tu F w w1) (k : Tu G w1 w2) (hr : ∀ j, j < w.heap.size → G j → F j) : Tu F w w2 :=
  ⟨k.os.trans h.os, k.tape.trans h.tape, k.output.trans h.output, Nat.le_trans h.size k.size, fun j hj hn => (k.block j (Nat.lt_of_lt_of_le hj h.size) fun hg => hn (hr j hj hg)).trans (h.block j hj hn)⟩
theorem Tu.of_below {F : Nat → Prop} {w w' : World} (h : Below w.heap.size w w') : Tu F w w' := ⟨h.os, h.tape, h.output, h.size, fun j hj _ => h.block j hj⟩
theorem Tu.of_gb {F : Nat → Prop} {w w' : World} {r : Option Nat} (h : w.grownBy w' r) (hr : ∀ j, j < w.heap.size → r = some j → F j) : Tu F w w' :=
  ⟨h.os, h.tape, h.output, h.size, fun j hj hn => h.block j hj fun e => hn (hr j hj e.symm)⟩
theorem Tu.below {F : Nat → Prop} {w w' : World} (h : Tu F w w') {B : Nat} (hB : B ≤ w.heap.size) (hF : ∀ j, j < B → ¬ F j) : Below B w w' :=
  ⟨h.os, h.tape, h.output, h.size, fun j hj => h.block j (Nat.lt_of_lt_of_le hj hB) (hF j hj)⟩
theorem Tu.then {F : Nat → Prop} {w w1 w2 : World} (h : Tu F w w1) (k : Below w1.heap.size w1 w2) : Tu F w w2 := h.trans (Tu.of_below (F := F) k) fun _ _ h => h
theorem Tu.after {F : Nat → Prop} {w w1 w2 : World} (h : Below w.heap.size w w1) (k : Tu F w1 w2) : Tu F w w2 := (Tu.of_below (F := F) h).trans k fun _ _ h => h
theorem Own.blkU {w : World} {B g : Nat} {v : Value} {xs : List Nat} (h : Own w B v xs) (hk : v.ownBlock = some g) : ∃ cur, w.heap[g]? = some (.cells cur 53 (0, 0)) := by
  rcases h.2.2 with ⟨rfl, _⟩ | ⟨g', cap, cur, rfl, _, hg, _⟩
  · cases hk
  · simp only [Value.ownBlock, Option.some.injEq] at hk
    exact ⟨cur, hk ▸ hg⟩
theorem Own.tu {F : Nat → Prop} {w w' : World} {B : Nat} {v : Value} {xs : List Nat} (h : Own w B v xs) (ht : Tu F w w') (hF : ∀ j, v.ownBlock = some j → ¬ F j) : Own w' B v xs := by
  refine ⟨h.1, h.2.1, ?_⟩
  rcases h.2.2 with h0 | ⟨g, cap, cur, h1, hg, hgg, r⟩
  · exact .inl h0
  · exact .inr ⟨g, cap, cur, h1, hg, (ht.block g (Array.getElem?_eq_some_iff.1 hgg).1 (hF g (by rw [h1]; rfl))).trans hgg, r⟩
theorem tu_low {w w1 w2 : World} {q : Nat} (h : Below w.heap.size w w1) (ht : Tu (fun j => j = q) w1 w2) (hq : w.heap.size ≤ q) : Below w.heap.size w w2 :=
  h.trans (ht.below h.size fun j hj e => by omega)
end Go.Proofs.YtnjdldbdkafnaaaGreatDoor
