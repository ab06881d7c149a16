/-
  How many rows bring something anew: contracts of gauss.vecs, gauss.Rank, bucketlineref14.Vecs, Rank; one row more.
  Contracts of span.firsts, cut, set: for rows of at most 2^20 words, at most 100000 of them. Rows that are cut out of one piece ('CutAt').
-/
import Derived.Test.YtnjdldbdkafnaaaGreatDoorU11
import Derived.Test.YtnjdldbdkafnaaaGreatDoorU22
import Derived.Test.YtnjdldbdkafnaaaGreatDoorKA
namespace Go.Proofs.YtnjdldbdkafnaaaGreatDoor
open Go.RowKit Go.Sort
set_option linter.unusedVariables false
set_option linter.unusedSimpArgs false
set_option maxRecDepth 4000

set_option maxHeartbeats 1000000 in
theorem gvecs_any (a : Option Addr) (n c : Nat) (ts : List RV) (w : World) (h : RowsAt w a n ts) (hn : n ≤ 1048576) :
    Calls Tryz.prog 69 #[.slice a n c] w fun e w' => ∃ v, e = .returned v ∧ OwnW w' w.heap.size v ts ∧ Below w.heap.size w w' := by
  obtain rfl := h.1
  have Hh := hide h
  have hmk := make_v ts.length hn
  have HM := made_v w ts.length hn
  rw [← fillW_zero] at HM
  have HM := hide HM
  have HBM : Hid (Below w.heap.size w (w.alloc (.cells (madeCells #[.slice none 0 0] ts.length) 27))) := hide ((Below.refl _ _).alloc (Nat.le_refl _) _)
  clear h
  go_enter Tryz.func69, Tryz.ntmps69
  go_wp2
  go_loopw [11] (fun i wr => ∃ k : Nat, k ≤ ts.length ∧ i = .int .i64 k ∧ Hid (wr.ownsRow w.heap.size 27 1 (.slice (some ⟨w.heap.size, 0, none⟩) ts.length ts.length) ts.length (fillW ts k)) ∧ Hid (Below w.heap.size w wr)) (fun i _ => ts.length - (intOf i).toNat)
  case atStart => exact ⟨0, Nat.zero_le _, rfl, HM, HBM⟩
  case round =>
    obtain ⟨k, hk, rfl, HI, HB⟩ := hrel
    clear HM HBM
    by_cases hlt : k < ts.length
    · obtain ⟨b, off, rfl, hcl⟩ := ((unhide Hh).below (unhide HB)).at hlt
      obtain ⟨hc0, hc1⟩ := hcl k hlt
      have hlt' : (k : Int) < (ts.length : Int) := by omega
      have hS := fillW_succ ts k hlt
      have hfk : (fillW ts k)[k]? = some (.slice none 0 0) := by
        unfold fillW
        have hl : ((ts.take k).map fun r => Value.slice r.a r.n r.c).length = k := by simp; omega
        rw [List.getElem?_append_right (by omega), hl, Nat.sub_self, List.getElem?_replicate, if_pos (by omega)]
      generalize ts.getD k .dflt = r at *
      have hb1 : Below wr.heap.size wr (wr.alloc (.cells #[.slice r.a r.n r.c, .string r.s] 29)) := (Below.refl _ _).alloc (Nat.le_refl _) _
      have hI := ownsRow_below (unhide HI) hb1
      have hcell := hI.cellAt k (by omega)
      rw [hfk] at hcell
      have hfz := hI.frozenAt k
      have hs2 := (hI.stored k (.slice r.a r.n r.c)).1
      rw [hS] at hs2
      have hB2 := (below0 (unhide HB) hb1).setCell (p := ⟨w.heap.size, k, none⟩) (Nat.le_refl _) (.slice r.a r.n r.c)
      obtain ⟨hx0, hx1⟩ := box_new wr (.slice r.a r.n r.c) (.string r.s)
      have HS := hide hs2
      have HB2 := hide hB2
      clear hcl hI hs2 hB2 hb1 hS hfk HI HB
      go_wp2
      go_roundw
      case rel => exact ⟨k + 1, by omega, by go_num, HS, HB2⟩
      case measure => simp [intOf]; omega
    · obtain rfl : k = ts.length := by omega
      rw [fillW_all] at HI
      go_wp2
      go_ret
      exact ⟨_, rfl, unhide HI, unhide HB⟩
theorem vecsL_len (ts : List RV) : (vecsL ts).length = ts.length := by simp [vecsL]
set_option maxHeartbeats 1000000 in
theorem grank_any (a : Option Addr) (n c : Nat) (ts : List RV) (w : World) (ht : Tab w) (h : RowsAt w a n ts) (hr : RowsIn w ts) (hs : shortR ts) (hn : n ≤ 100000) :
    Calls Tryz.prog 51 #[.slice a n c] w fun e w' => e = .returned (.int .i64 ((keepL (vecsL ts) ts.length).length : Int)) ∧ Below w.heap.size w w' := by
  obtain rfl := h.1
  have HV := hide (gvecs_any a ts.length c ts w h (by omega))
  have HK := hide (fun (w1 : World) (a1 : Option Addr) (c1 : Nat) (hb : Below w.heap.size w w1) (hv : VecsAt w1 a1 ts.length (vecsL ts)) => keep_any a1 ts.length c1 (vecsL ts) w1 (ht.below hb) hv (fit_of hr hs) hn)
  have HR := hide hr
  clear h hr hs ht
  go_enter Tryz.func51, Tryz.ntmps51
  go_wp2_with fail
  refine (unhide HV).mono ?_
  rintro e w1 ⟨v1, rfl, ho1, hb1⟩
  obtain ⟨a1, c1, rfl, hv1⟩ := ho1.vecs ((unhide HR).below hb1)
  have HK1 := unhide HK w1 a1 c1 hb1 hv1
  rw [vecsL_len] at HK1
  have HK1 := hide HK1
  have HB1 := hide hb1
  clear ho1 hb1 hv1 HV HK
  go_wp2_with fail
  refine (unhide HK1).mono ?_
  rintro e w2 ⟨v2, rfl, ho2, hb2⟩
  obtain ⟨a2, c2, rfl, hi2⟩ := ho2.ints
  have HB2 := hide (below0 (unhide HB1) hb2)
  clear ho2 hb2 hi2 HK1 HB1
  go_wp2
  go_ret
  exact ⟨rfl, unhide HB2⟩
end Go.Proofs.YtnjdldbdkafnaaaGreatDoor
namespace Go.Proofs.YtnjdldbdkafnaaaGreatDoor
open Go.RowKit Go.Sort
set_option linter.unusedVariables false
set_option linter.unusedSimpArgs false
set_option maxRecDepth 4000

/-- A word of a slice of ints of one's own is written. -/
theorem OwnI.at {w : World} {B : Nat} {v : Value} {xs : List Nat} (h : OwnI w B v xs) (hn : 0 < xs.length) :
    ∃ g cap, v = .slice (some ⟨g, 0, none⟩) xs.length cap ∧ B ≤ g ∧ g < w.heap.size ∧ (∀ i, i < xs.length → w.cell? ⟨g, i, none⟩ = some (.int .i64 ((xs.getD i 0 : Nat) : Int))) ∧ ∀ i, w.frozen? ⟨g, i, none⟩ = false := by
  have ho' : w.ownsRow B 3 1 v xs.length (cellsI xs) := h
  rcases h.2 with ⟨rfl, h0⟩ | ⟨g, cap, cur, rfl, hb, hg, hn, hm, hsz, ht⟩
  · omega
  · refine ⟨g, cap, rfl, hb, (Array.getElem?_eq_some_iff.1 hg).1, fun i hi => ?_, fun i => ho'.frozenAt i⟩
    rw [ho'.cellAt i (by omega), cellsI_get xs i hi]
theorem OwnI.stored {w : World} {B g cap n : Nat} {xs : List Nat} (h : OwnI w B (.slice (some ⟨g, 0, none⟩) n cap) xs) (i x : Nat) :
    OwnI (w.setCell ⟨g, i, none⟩ (.int .i64 (x : Int))) B (.slice (some ⟨g, 0, none⟩) n cap) (xs.set i x) := by
  obtain rfl : n = xs.length := by
    obtain ⟨a, c, e, _⟩ := h.ints
    simp only [Value.slice.injEq] at e
    exact e.2.1
  have ho : w.ownsRow B 3 1 (.slice (some ⟨g, 0, none⟩) xs.length cap) xs.length (cellsI xs) := h
  have := (ho.stored i (.int .i64 (x : Int))).1
  rw [cellsI_set] at this
  show World.ownsRow _ B 3 1 _ (xs.set i x).length _
  rw [List.length_set]
  exact this
theorem made_ints (w : World) (n : Nat) (hn : n ≤ 1048576) (xs : List Nat) (hxs : xs = List.replicate n 0) :
    OwnI (w.alloc (.cells (madeCells #[.int .i64 0] n) 3)) w.heap.size (.slice (some ⟨w.heap.size, 0, none⟩) n n) xs := by
  subst hxs
  refine ⟨by simp [cellsI], .inr ⟨w.heap.size, n, madeCells #[.int .i64 0] n, by simp, Nat.le_refl _, heap_alloc_new w _, by simp, by unfold maxLen; omega, by simp [size_madeCells], ?_⟩⟩
  rw [toList_madeCells_one, List.take_of_length_le (by simp)]
  simp [cellsI]
def filledN (fs : List Nat) (k : Nat) : List Nat := fs.take k ++ List.replicate (fs.length - k) 0
theorem filledN_zero (fs : List Nat) : filledN fs 0 = List.replicate fs.length 0 := by simp [filledN]
theorem filledN_all (fs : List Nat) : filledN fs fs.length = fs := by simp [filledN]
theorem filledN_length (fs : List Nat) (k : Nat) (hk : k ≤ fs.length) : (filledN fs k).length = fs.length := by simp [filledN]; omega
theorem filledN_succ (fs : List Nat) (k : Nat) (hk : k < fs.length) : (filledN fs k).set k (fs.getD k 0) = filledN fs (k + 1) := by
  unfold filledN
  have hl : (fs.take k).length = k := by simp; omega
  rw [List.set_append_right _ _ (by omega), hl, Nat.sub_self, List.take_succ_eq_append_getElem hk, List.append_assoc, show fs.length - k = (fs.length - (k + 1)) + 1 by omega, List.replicate_succ, List.set_cons_zero]
  simp [List.getD_eq_getElem?_getD, List.getElem?_eq_getElem hk]
/-- The lowest bits. -/
def firstsL (rs : List (List Nat)) : List Nat := rs.map fun b => (firstI b).toNat
theorem firstsL_len (rs : List (List Nat)) : (firstsL rs).length = rs.length := by simp [firstsL]
theorem firstsL_get (rs : List (List Nat)) (i : Nat) (h : i < rs.length) : (firstsL rs).getD i 0 = (firstI (rs.getD i [])).toNat := by
  simp [firstsL, List.getD_eq_getElem?_getD, List.getElem?_eq_getElem h]

set_option maxHeartbeats 1000000 in
theorem firsts_any (a : Option Addr) (n c : Nat) (rs : List (List Nat)) (w : World) (ht : Tab w) (h : VecsAt w a n rs) (hf : Fit 1048576 rs) (hn : n ≤ 100000) (hp : ∀ i, i < n → 0 ≤ firstI (rs.getD i [])) :
    Calls Tryz.prog 115 #[.slice a n c] w fun e w' => ∃ v, e = .returned v ∧ OwnI w' w.heap.size v (firstsL rs) ∧ Below w.heap.size w w' := by
  obtain rfl : n = rs.length := h.1.symm
  obtain ⟨i0, hi0, hz0, hzs, hzb⟩ := info_parts info_int
  have hmk : ∀ wx : World, (Instr.makeSlice 93 (.int .i64 (rs.length : Int)) (.int .i64 (rs.length : Int))).run Tryz.prog wx = .ok (.slice (some ⟨wx.heap.size, 0, none⟩) rs.length rs.length) (wx.alloc (.cells (madeCells #[.int .i64 0] rs.length) 3)) := fun wx => by
    have := run_make (P := Tryz.prog) wx 93 3 i0 (.int .i64 0) Tryz.underlying93 hi0 hz0 .i64 .i64 (rs.length : Int) (rs.length : Int) (by omega) (Int.le_refl _) (by rw [hzb]; omega) (by omega)
    rw [hzs] at this
    simpa [Value.cells] using this
  have HM := hide (made_ints w rs.length (by omega) (filledN (firstsL rs) 0) (by rw [filledN_zero, firstsL_len]))
  have HBM : Hid (Below w.heap.size w (w.alloc (.cells (madeCells #[.int .i64 0] rs.length) 3))) := hide ((Below.refl _ _).alloc (Nat.le_refl _) _)
  clear hi0 hz0 hzs hzb
  go_enter Tryz.func115, Tryz.ntmps115
  go_wp2
  go_loopw [11] (fun i wr => ∃ k : Nat, k ≤ rs.length ∧ i = .int .i64 k ∧ Hid (OwnI wr w.heap.size (.slice (some ⟨w.heap.size, 0, none⟩) rs.length rs.length) (filledN (firstsL rs) k)) ∧ Hid (Below w.heap.size w wr)) (fun i _ => rs.length - (intOf i).toNat)
  case atStart => exact ⟨0, Nat.zero_le _, rfl, HM, HBM⟩
  case round =>
    obtain ⟨k, hk, rfl, HI, HB⟩ := hrel
    have hB := unhide HB
    by_cases hlt : k < rs.length
    · obtain ⟨b, off, rfl, hc⟩ := (h.below hB).at hlt
      obtain ⟨ai, ci, hcell, hrow⟩ := hc k hlt
      have hI := unhide HI
      have hfl : (filledN (firstsL rs) k).length = rs.length := by rw [filledN_length _ _ (by rw [firstsL_len]; exact hk), firstsL_len]
      obtain ⟨g, cap, e1, _, _, hcg, hfg⟩ := hI.at (by omega)
      simp only [Value.slice.injEq, Option.some.injEq, Addr.mk.injEq, and_true] at e1
      obtain ⟨rfl, -, -⟩ := e1
      have hcell2 := hcg k (by omega)
      have hfz := hfg k
      obtain ⟨f, hfe⟩ : ∃ f : Nat, firstI (rs.getD k []) = (f : Int) := ⟨_, (Int.toNat_of_nonneg (hp k hlt)).symm⟩
      have hF := first_any ai _ ci (rs.getD k []) wr (ht.below hB) hrow (hf.getD k).2
      rw [hfe] at hF
      have HF := hide hF
      have hs := hI.stored k f
      rw [show f = (firstsL rs).getD k 0 by rw [firstsL_get rs k hlt, hfe]; rfl, filledN_succ _ _ (by rw [firstsL_len]; exact hlt), show (firstsL rs).getD k 0 = f by rw [firstsL_get rs k hlt, hfe]; rfl] at hs
      have HS := hide hs
      have HB2 := hide (hB.setCell (p := ⟨w.heap.size, k, none⟩) (by exact Nat.le_refl _) (.int .i64 (f : Int)))
      clear hc hrow h hI hfl hcg hfg hF hs hfe hB HB HI HM HBM hp
      generalize rs.getD k [] = y at *
      go_wp2_with fail
      refine (unhide HF).mono ?_
      rintro e w1 ⟨rfl, hw⟩
      obtain rfl := hw.symm
      go_wp2
      go_roundw
      case rel => exact ⟨k + 1, by omega, by go_num, HS, HB2⟩
      case measure => simp [intOf]; omega
    · obtain rfl : k = rs.length := by omega
      rw [show rs.length = (firstsL rs).length from (firstsL_len rs).symm, filledN_all, firstsL_len] at HI
      clear h HM HBM
      go_wp2
      go_ret
      exact ⟨_, rfl, unhide HI, unhide HB⟩

/-- Rows of s words each, one behind the other in pc. -/
def Flat (pc : List Nat) (s N : Nat) (rs : List (List Nat)) : Prop := pc.length = N * s ∧ rs.length = N ∧ ∀ i, i < N → (rs.getD i []).length = s ∧ ∀ j, j < s → pc.getD (i * s + j) 0 = (rs.getD i []).getD j 0
theorem flat_lt {i j s N : Nat} (hi : i < N) (hj : j < s) : i * s + j < N * s := by
  have h : (i + 1) * s ≤ N * s := Nat.mul_le_mul_right s hi
  rw [Nat.add_mul, Nat.one_mul] at h
  omega
theorem flat_inj {i j i' j' s : Nat} (hj : j < s) (hj' : j' < s) (h : i * s + j = i' * s + j') : i = i' ∧ j = j' := by
  rcases Nat.lt_trichotomy i i' with h1 | h1 | h1
  · have h2 : (i + 1) * s ≤ i' * s := Nat.mul_le_mul_right s h1
    rw [Nat.add_mul, Nat.one_mul] at h2
    omega
  · subst h1; exact ⟨rfl, by omega⟩
  · have h2 : (i' + 1) * s ≤ i * s := Nat.mul_le_mul_right s h1
    rw [Nat.add_mul, Nat.one_mul] at h2
    omega
theorem getD_setR (rs : List (List Nat)) (i j : Nat) (r : List Nat) (hi : i < rs.length) : (rs.set i r).getD j [] = if j = i then r else rs.getD j [] := by
  rw [List.getD_eq_getElem?_getD]
  by_cases h : j = i
  · subst h; rw [List.getElem?_set_self hi, if_pos rfl]; rfl
  · rw [List.getElem?_set_ne (Ne.symm h), if_neg h, ← List.getD_eq_getElem?_getD]
theorem Flat.set {pc : List Nat} {s N : Nat} {rs : List (List Nat)} (h : Flat pc s N rs) {i q : Nat} (hi : i < N) (hq : q < s) (y : Nat) : Flat (pc.set (i * s + q) y) s N (rs.set i ((rs.getD i []).set q y)) := by
  have hl := flat_lt hi hq
  refine ⟨by rw [List.length_set]; exact h.1, by rw [List.length_set]; exact h.2.1, fun i' hi' => ?_⟩
  rw [getD_setR rs i i' _ (by rw [h.2.1]; exact hi)]
  obtain ⟨h1, h2⟩ := h.2.2 i' hi'
  by_cases e : i' = i
  · subst e
    rw [if_pos rfl]
    refine ⟨by rw [List.length_set]; exact h1, fun j hj => ?_⟩
    rw [getD_set, getD_set]
    by_cases e2 : j = q
    · subst e2; rw [if_pos ⟨rfl, by rw [h.1]; exact hl⟩, if_pos ⟨rfl, by omega⟩]
    · rw [if_neg (fun k => e2 (by have := k.1; omega)), if_neg (fun k => e2 k.1)]
      exact h2 j hj
  · rw [if_neg e]
    refine ⟨h1, fun j hj => ?_⟩
    rw [getD_set, if_neg (fun k => e (flat_inj hj hq k.1).1)]
    exact h2 j hj
/-- Rows that are cut out of one piece P of the call's own; R holds where each of them lies. -/
def CutAt (w : World) (B P R s N : Nat) (rs : List (List Nat)) : Prop :=
  ∃ pc, Flat pc s N rs ∧ Own w B (.slice (some ⟨P, 0, none⟩) pc.length pc.length) pc ∧ (∀ i, i < N → w.cell? ⟨R, i, none⟩ = some (.slice (some ⟨P, i * s, none⟩) s s)) ∧ R ≠ P
theorem CutAt.below {w w' : World} {B P R s N : Nat} {rs : List (List Nat)} (h : CutAt w B P R s N rs) (hb : Below w.heap.size w w') : CutAt w' B P R s N rs := by
  obtain ⟨pc, h1, h2, h3, h4⟩ := h
  exact ⟨pc, h1, h2.below hb, fun i hi => (hb.cell (World.block_lt_of_cell? w _ (h3 i hi))).trans (h3 i hi), h4⟩
theorem CutAt.len {w : World} {B P R s N : Nat} {rs : List (List Nat)} (h : CutAt w B P R s N rs) : rs.length = N ∧ ∀ i, i < N → (rs.getD i []).length = s := by
  obtain ⟨pc, h1, _⟩ := h
  exact ⟨h1.2.1, fun i hi => (h1.2.2 i hi).1⟩
theorem CutAt.row {w : World} {B P R s N : Nat} {rs : List (List Nat)} (h : CutAt w B P R s N rs) {i : Nat} (hi : i < N) : RowAt w (some ⟨P, i * s, none⟩) s (rs.getD i []) ∧ w.cell? ⟨R, i, none⟩ = some (.slice (some ⟨P, i * s, none⟩) s s) ∧
    ∀ j, j < s → w.frozen? ⟨P, i * s + j, none⟩ = false := by
  obtain ⟨pc, h1, h2, h3, h4⟩ := h
  obtain ⟨k1, k2⟩ := h1.2.2 i hi
  refine ⟨⟨k1, fun x hx => ?_, ?_⟩, h3 i hi, fun j hj => ?_⟩
  · obtain ⟨j, hj, rfl⟩ := List.getElem_of_mem hx
    have := k2 j (by omega)
    rw [List.getD_eq_getElem?_getD (l := rs.getD i []), List.getElem?_eq_getElem hj, Option.getD_some] at this
    rw [← this]
    exact h2.1.get _
  · by_cases h0 : s = 0
    · exact .inl h0
    · refine .inr ⟨P, i * s, rfl, fun j hj => ?_⟩
      have hl := flat_lt hi hj
      obtain ⟨g, cap, e, _, _, hc, _⟩ := h2.at (by rw [h1.1]; omega)
      simp only [Value.slice.injEq, Option.some.injEq, Addr.mk.injEq, and_true] at e
      obtain ⟨rfl, _⟩ := e
      rw [hc _ (by rw [h1.1]; exact hl), k2 j hj]
  · have hl := flat_lt hi hj
    obtain ⟨g, cap, e, _, _, _, hf⟩ := h2.at (by rw [h1.1]; omega)
    simp only [Value.slice.injEq, Option.some.injEq, Addr.mk.injEq, and_true] at e
    obtain ⟨rfl, _⟩ := e
    exact hf _
theorem CutAt.stored {w : World} {B P R s N : Nat} {rs : List (List Nat)} (h : CutAt w B P R s N rs) {i q : Nat} (hi : i < N) (hq : q < s) (y : Nat) (hy : y < 18446744073709551616) :
    CutAt (w.setCell ⟨P, i * s + q, none⟩ (.int .u64 (y : Int))) B P R s N (rs.set i ((rs.getD i []).set q y)) := by
  obtain ⟨pc, h1, h2, h3, h4⟩ := h
  refine ⟨pc.set (i * s + q) y, h1.set hi hq y, ?_, fun i hi => (gb_setCell w P _ _).cell (h3 i hi) (fun e => h4 (Option.some.inj e)), h4⟩
  rw [List.length_set]
  exact h2.stored _ y hy
theorem CutAt.vecs {w : World} {B P R s N : Nat} {rs : List (List Nat)} (h : CutAt w B P R s N rs) {k : Nat} (hk : k ≤ N) : VecsAt w (some ⟨R, 0, none⟩) k (rs.take k) := by
  have hl := h.len
  have hg : ∀ i, i < k → (rs.take k).getD i [] = rs.getD i [] := fun i hi => by rw [List.getD_eq_getElem?_getD, List.getElem?_take_of_lt hi, ← List.getD_eq_getElem?_getD]
  refine ⟨by rw [List.length_take, hl.1]; omega, .inr ⟨R, 0, rfl, fun i hi => ?_⟩, fun b off i ai n ci e hi hc => ?_⟩
  · obtain ⟨h1, h2, _⟩ := h.row (show i < N by omega)
    rw [hg i hi, Nat.zero_add, hl.2 i (by omega)]
    exact ⟨_, s, h2, h1⟩
  · simp only [Option.some.injEq, Addr.mk.injEq, and_true] at e
    obtain ⟨rfl, rfl⟩ := e
    rw [Nat.zero_add, (h.row (show i < N by omega)).2.1] at hc
    simp only [Option.some.injEq, Value.slice.injEq] at hc
    omega
theorem CutAt.low {w : World} {B P R s N : Nat} {rs : List (List Nat)} (h : CutAt w B P R s N rs) : B ≤ P ∧ P < w.heap.size := by
  obtain ⟨pc, h1, h2, _⟩ := h
  exact h2.lt rfl

theorem sor_num (x k : Nat) (hx : x < 18446744073709551616) (hk : k < 64) : bits .or .u64 (x : Int) ((2 ^ k : Nat) : Int) = ((setW x k true : Nat) : Int) := by
  have h2 : 2 ^ k < 2 ^ 64 := Nat.pow_lt_pow_right (by decide) hk
  rw [u64_or_nat x _ hx (by omega), or_setW]
set_option maxHeartbeats 1000000 in
theorem sset_any (P off s c i x : Nat) (w : World) (hi : i < 64 * s) (hs : s ≤ 1048576) (hc : w.cell? ⟨P, off + i / 64, none⟩ = some (.int .u64 (x : Int))) (hx : x < 18446744073709551616) (hfz : w.frozen? ⟨P, off + i / 64, none⟩ = false) :
    Calls Tryz.prog 118 #[.slice (some ⟨P, off, none⟩) s c, .int .i64 (i : Int)] w fun e w' => e = .returned (.tuple #[]) ∧ w' = w.setCell ⟨P, off + i / 64, none⟩ (.int .u64 ((setW x (i % 64) true : Nat) : Int)) := by
  obtain ⟨q, hq⟩ : ∃ q, i / 64 = q := ⟨_, rfl⟩
  have hqs : q < s := by omega
  have hqw : IntKind.i64.wrap ((i : Int).tdiv 64) = (q : Int) := by
    rw [Int.tdiv_eq_ediv_of_nonneg (by omega)]
    simp [IntKind.wrap, IntKind.bits, IntKind.signed]
    omega
  have hmk := mask_num (i : Int)
  have hor := sor_num x (i % 64) hx (by omega)
  rw [show ((i : Int) % 64).toNat = i % 64 by omega] at hmk
  rw [hq] at hc hfz ⊢
  generalize setW x (i % 64) true = y at *
  rw [← hmk] at hor
  clear hmk
  go_enter Tryz.func118, Tryz.ntmps118
  go_wp2
  go_end0
  exact ⟨rfl, rfl⟩
end Go.Proofs.YtnjdldbdkafnaaaGreatDoor
