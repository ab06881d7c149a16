/-
  Contracts of encoder.rowOf and Source.Emit: for every source of 1 to 128 blocks and all draws of which at most 2^38 were used.
-/
import Derived.Test.YtakoaadimhpclaaGreatDoorU20
import Derived.Test.YtakoaadimhpclaaGreatDoorU5
import Derived.Test.YtakoaadimhpclaaGreatDoorU23
import Derived.Test.YtakoaadimhpclaaGreatDoorU24
namespace Go.Proofs.YtakoaadimhpclaaGreatDoor
open Go.RowKit
set_option linter.unusedVariables false
set_option linter.unusedSimpArgs false
set_option maxRecDepth 4000

/-- An equation that no simp looks into. -/
def Is {α : Type} (a b : α) : Prop := a = b
theorem Is.eq {α : Type} {a b : α} (h : Is a b) : a = b := h
theorem OwnZ.atB {w : World} {B : Nat} {a : Option Addr} {n c : Nat} {xs : List Int} (h : OwnZ w B (.slice a n c) xs) : IntzAt w a n xs := by
  obtain ⟨a1, c1, e, hi⟩ := h.ints
  simp only [Value.slice.injEq] at e
  obtain ⟨rfl, rfl, rfl⟩ := e
  exact hi
theorem Own.atB {w : World} {B : Nat} {a : Option Addr} {n c : Nat} {xs : List Nat} (h : Own w B (.slice a n c) xs) : RowAt w a n xs := by
  obtain ⟨a1, c1, e, hi⟩ := h.row
  simp only [Value.slice.injEq] at e
  obtain ⟨rfl, rfl, rfl⟩ := e
  exact hi
theorem made_w (w : World) (n : Nat) (hn : n ≤ 1048576) :
    Own (w.alloc (.cells (madeCells #[.int .u64 0] n) 53)) w.heap.size (.slice (some ⟨w.heap.size, 0, none⟩) n n) (List.replicate n 0) := by
  refine ⟨zeros_smalls n, by simp [cellsU], .inr ⟨w.heap.size, n, madeCells #[.int .u64 0] n, by simp, Nat.le_refl _, heap_alloc_new w _, by simp, by unfold maxLen; omega, by simp [size_madeCells], ?_⟩⟩
  rw [toList_madeCells_one, List.take_of_length_le (by simp)]
  simp [cellsU]
theorem setI_nat (xs : List Nat) (i : Nat) (on : Bool) : setI xs (i : Int) on = setB xs i on := by
  unfold setI
  rw [if_neg (by omega), Int.toNat_natCast]

set_option maxHeartbeats 1000000 in
theorem rowOf_any (k : Nat) (a : Option Addr) (n c : Nat) (ns : List Nat) (w : World) (h : IntzAt w a n (castZ ns)) (hn : n ≤ 1048576) (hb : ∀ i, ns.getD i 0 ≤ 1048576) :
    Calls Tryz.prog 21 #[.int .i64 (k : Int), .slice a n c] w fun e w' => ∃ v, e = .returned v ∧ Own w' w.heap.size v (rowL k ns) ∧ Below w.heap.size w w' := by
  have hln : ns.length = n := by rw [← h.1, castZ_length]
  have hm2 := sizeOfK_le (k : Int)
  have HZ := hide (size_any (k : Int) w)
  have HL := hide (fun j => rowL_length k (ns.take j))
  have hO := made_w w (sizeOfK (k : Int)) (by omega)
  rw [← rowL_nil k, show ([] : List Nat) = ns.take 0 from rfl] at hO
  have hb0 : Below w.heap.size w (w.alloc (.cells (madeCells #[.int .u64 0] (sizeOfK (k : Int))) 53)) := (Below.refl _ _).alloc (Nat.le_refl _) _
  have hmk := make_w (sizeOfK (k : Int)) (by omega) w
  have HO := hide hO
  have HB := hide hb0
  have HI := hide h
  have HN := hide hln
  have HC := hide hb
  have HT := hide (fun j hj => rowL_take k ns j hj)
  clear hO hb0 h hln hb
  generalize sizeOfK (k : Int) = m at *
  generalize w.alloc (.cells (madeCells #[.int .u64 0] m) 53) = w0 at *
  go_enter Tryz.func21, Tryz.ntmps21
  go_wp2_with (go_at_call 44; refine (unhide HZ).mono ?_; rintro e w1 ⟨rfl, hw⟩; obtain rfl := hw.symm; clear hw)
  go_loopw [5, 13] (fun v i wr => ∃ (j : Nat) (b : Option Addr) (cc : Nat), j ≤ n ∧ i = .int .i64 j ∧ v = .slice b m cc ∧ Hid (Own wr w.heap.size (.slice b m cc) (rowL k (ns.take j)) ∧ Below w.heap.size w wr)) (fun _ i _ => n - (intOf i).toNat)
  case atStart => exact ⟨0, _, _, Nat.zero_le _, rfl, rfl, hide ⟨unhide HO, unhide HB⟩⟩
  case round =>
    rename_i wr
    obtain ⟨j, b, cc, hj, rfl, rfl, HR⟩ := hrel
    clear HO HB hmk HZ
    by_cases hlt : j < n
    · have hlt' : (j : Int) < (n : Int) := by omega
      obtain ⟨b', off, rfl, hc⟩ := ((unhide HI).below (unhide HR).2).at hlt
      have hcell := hc j hlt
      rw [castZ_getD] at hcell
      have hx := unhide HC j
      have HS := hide (set_any b m cc _ ((ns.getD j 0 : Nat) : Int) true wr (unhide HR).1.atB (by omega) (by omega))
      rw [setI_nat, ← unhide HT j (by rw [unhide HN]; exact hlt)] at HS
      generalize ns.getD j 0 = x at *
      clear hc
      go_wp2_with fail
      refine (unhide HS).mono ?_
      rintro e w2 ⟨v2, rfl, ho2, hb2⟩
      obtain ⟨b2, c2, rfl, -⟩ := ho2.row
      rw [unhide HL] at ho2 ⊢
      have HR2 := hide (show _ ∧ _ from ⟨ho2.mono (unhide HR).2.size, below0 (unhide HR).2 hb2⟩)
      clear ho2 hb2 HR hcell HS
      go_wp2
      go_roundw
      case rel => exact ⟨j + 1, b2, c2, by omega, by go_num, rfl, HR2⟩
      case measure => simp [intOf]; omega
    · obtain rfl : j = n := by omega
      have he : ns.take j = ns := List.take_of_length_le (by rw [unhide HN]; exact Nat.le_refl _)
      rw [he] at HR
      clear he HI HN HC HT HL
      go_wp2
      go_ret
      exact ⟨_, rfl, (unhide HR).1, (unhide HR).2⟩

theorem PkB.kept {w w' : World} {g : Nat} {v0 v1 v2 v3 v4 v5 v6 : Value} {row : Option Nat} (h : PkB w g v0 v1 v2 v3 v4 v5 v6) (hg : w.grownBy w' row) (hne : some g ≠ row) : PkB w' g v0 v1 v2 v3 v4 v5 v6 := (hg.block g h.lt hne).trans h
theorem DrAt.blk {w : World} {g B : Nat} {L : List Nat} {N : Nat} (h : DrAt w g B L N) : ∃ a n c, Bk2 68 w g (.slice a n c) (.int .i64 (N : Int)) := by
  obtain ⟨h1, h2, a, n, c, h3, _⟩ := h
  exact ⟨a, n, c, h3⟩
theorem SrcAt.drawn {w w' : World} {g gd B : Nat} {o l z : Int} {s : Nat} {ss : List ByteArray} {L : List Nat} {N : Nat} (h : SrcAt w g o l z s ss) (hg : w.grownBy w' (some gd)) (hd : DrAt w gd B L N) : SrcAt w' g o l z s ss := by
  obtain ⟨a, n, c, hb⟩ := hd.blk
  exact h.kept hg hb
theorem PTab.kept {w w' : World} {k : Nat} {T : TypeId} {a' : Option Addr} {n' c' : Nat} {i : Int} (h : PTab w) (hg : w.grownBy w' (some k)) (hap : Bk2 T w k (.slice a' n' c') (.int .i64 i)) : PTab w' := by
  intro j hj
  refine hg.cell (h j hj) (fun e => ?_)
  have e : 0 = k := Option.some.inj e
  subst e
  have h0 := h j hj
  unfold Bk2 at hap
  rw [cell_of_row w 0 _ _ _ _ hap] at h0
  match j, h0 with
  | 0, h0 => simp at h0
  | 1, h0 => simp at h0
  | q + 2, h0 => simp at h0
theorem PTab.drawn {w w' : World} {gd B : Nat} {L : List Nat} {N : Nat} (h : PTab w) (hg : w.grownBy w' (some gd)) (hd : DrAt w gd B L N) : PTab w' := by
  obtain ⟨a, n, c, hb⟩ := hd.blk
  exact h.kept hg hb
theorem results_emit {tmps : Array Value} {W : World} {g : Nat} {u0 u1 u2 u3 u4 u5 u6 : Value} (h2 : tmps.getD 4 undef = .pointer (some ⟨g, 0, none⟩)) (hq : PkB W g u0 u1 u2 u3 u4 u5 u6) :
    (results Tryz.f7 tmps).run Tryz.prog W = .ok (.agg #[u0, u1, u2, u3, u4, u5, u6]) W := by
  obtain ⟨k0, k1, k2, k3, k4, k5, k6⟩ := hq.at
  have h2' : tmps[4]?.getD undef = .pointer (some ⟨g, 0, none⟩) := by simpa using h2
  simp [results, Tryz.results7, go_sem, h2', k0, k1, k2, k3, k4, k5, k6]

set_option maxHeartbeats 4000000 in
theorem emit_any (g gd B : Nat) (o l z : Int) (s k : Nat) (ss : List ByteArray) (L : List Nat) (N : Nat) (w : World) (hsrc : SrcAt w g o l z s ss) (hk : ss.length = k) (h1 : 1 ≤ k) (h2 : k ≤ 128) (hs : s ≤ k) (hsh : shorts ss) (ht : PTab w)
    (hd : DrAt w gd B L N) (hB : B ≤ w.heap.size) (hN : N ≤ 274877906944) :
    Calls Tryz.prog 7 #[.pointer (some ⟨g, 0, none⟩), .pointer (some ⟨gd, 0, none⟩)] w fun e w' => ∃ a c, e = .returned (.agg #[.int .i64 o, .int .i64 l, .int .i64 (k : Int), .int .i64 z, .int .i64 0, .slice a (sizeOfK (k : Int)) c, .string (st (ofL ss (evecL k s L N) k))]) ∧
      RowAt w' a (sizeOfK (k : Int)) (evecL k s L N) ∧ DrAt w' gd B L (nextN k s L N) ∧ w.grownBy w' (some gd) := by
  have hgd := hd.1
  have hL := hd.2.1
  have B0 := hide (below_new w (.cells #[.int .i64 0, .int .i64 0, .int .i64 0, .int .i64 0, .int .i64 0, .slice none 0 0, .string ⟨#[]⟩] 32))
  have X0 := hide (pkb_new w (.int .i64 0) (.int .i64 0) (.int .i64 0) (.int .i64 0) (.int .i64 0) (.slice none 0 0) (.string ⟨#[]⟩))
  have S0 := hide (hsrc.below (unhide B0))
  have D0 := hide (hd.below ((unhide B0).mono hB))
  have hgw : w.heap.size ≠ g := by
    obtain ⟨a, c, ⟨k0, _⟩, _⟩ := hsrc
    exact Nat.ne_of_gt (World.block_lt_of_cell? w ⟨g, 0, none⟩ k0)
  have HT := hide (table_any k s h1 h2 hs _ (ht.below (unhide B0)))
  have HK := hide (ek_any g o l z s ss _ (unhide S0))
  rw [hk] at HK
  have hspr := (show _ from (unhide S0))
  obtain ⟨_, _, ⟨_, _, _, _, hspr⟩, _⟩ := hspr
  have HHK := hide hk
  have HSH := hide hsh
  have hdin := degL_in k s L N h1 (by omega)
  have HNX : Is (nextN k s L N) (N + 1 + degL k s L N) := rfl
  have HV : Is (evecL k s L N) (rowL k (distL L (N + 1) k (degL k s L N))) := rfl
  have HPK := hide (fun a c wx (hi : IntzAt wx a k (tableL k s)) => (show Calls Tryz.prog 18 #[.slice a k c, .int .u64 ((drawN L (N + 1) : Nat) : Int)] wx fun e w' => e = .returned (.int .i64 ((degL k s L N : Nat) : Int)) ∧ w' = wx from zpick_any a k c (tableL k s) (drawN L (N + 1)) wx hi (by omega) (by have := tableL_sum k s h2 (by omega); omega) (drawN_lt hL _)))
  have HNE := hide (fun wx hd => dnext_any gd B L N wx hd (by omega))
  have HDI := hide (fun wx hd hb => distinct_any gd B L (N + 1) k ((degL k s L N : Nat) : Int) wx hd hb (by omega) h2)
  rw [deg_min k s L N h1 (by omega)] at HDI
  have HLL := hide (distL_length L (N + 1) k (degL k s L N) hdin.2)
  have HNB := hide (show ∀ i, (distL L (N + 1) k (degL k s L N)).getD i 0 ≤ 1048576 from fun i => by
    by_cases hi : i < (distL L (N + 1) k (degL k s L N)).length
    · have := distL_lt L (N + 1) k (degL k s L N) i hi
      omega
    · rw [getD_of_le (by omega)]; omega)
  have HVL := hide (vecL_length k s L N)
  have hm2 := sizeOfK_le (k : Int)
  have HTL := hide (tableL_len k s)
  clear hsrc hd ht hk hsh hL
  generalize evecL k s L N = vs at *
  generalize nextN k s L N = nn at *
  generalize degL k s L N = dg at *
  generalize drawN L (N + 1) = x at *
  generalize distL L (N + 1) k dg = ns at *
  generalize tableL k s = tb at *
  generalize sizeOfK (k : Int) = m at *
  have hdg : dg ≤ 128 := by omega
  clear hdin
  go_enter Tryz.func7, Tryz.ntmps7
  go_wp2_with (first
    | (go_at_call 6; refine (unhide HK).mono ?_; rintro e w' ⟨rfl, hw⟩; obtain rfl := hw.symm; clear hw)
    | (go_at_call 19; refine (unhide HT).mono ?_; rintro e w1 ⟨v1, rfl, ho1, hb1⟩; obtain ⟨a1, c1, rfl, hi1⟩ := ho1.ints; rw [unhide HTL] at ho1 hi1 ⊢; have HO1 := hide ho1; have HI1 := hide hi1; have B1 := hide (below0 (unhide B0) hb1); have S1 := hide ((unhide S0).below hb1); have X1 := hide ((unhide X0).below hb1); have D1 := hide ((unhide D0).below (hb1.mono (by rw [alloc_size]; omega))); have Z1 := hide hb1.size; clear ho1 hi1 hb1)
    | (go_at_call 20; refine (unhide HNE _ (unhide D1)).mono ?_; rintro e w2 ⟨rfl, hd2, hg2⟩; have HO2 := hide ((unhide HO1).kept hg2 (by rw [alloc_size]; omega)).atB; have S2 := hide ((unhide S1).drawn hg2 (unhide D1)); have X2 := hide ((unhide X1).kept hg2 (fun e => by have := Option.some.inj e; omega)); have D2 := hide hd2; have G2 := hide (gb_trans (gb_of_below (unhide B1) (some gd)) hg2 (.inl rfl)); clear hd2 hg2)
    | (go_at_call 18; refine (unhide HPK _ _ _ (unhide HO2)).mono ?_; rintro e w' ⟨rfl, hw⟩; obtain rfl := hw.symm; clear hw)
    | (go_at_call 22; refine (unhide HDI _ (unhide D2) (Nat.le_trans hB (unhide G2).size)).mono ?_; rintro e w3 ⟨v3, rfl, ho3, hd3, hg3⟩; obtain ⟨a3, c3, rfl, hi3⟩ := ho3.ints; rw [castZ_length, unhide HLL] at hi3 ⊢; have HI3 := hide hi3; have S3 := hide ((unhide S2).drawn hg3 (unhide D2)); have X3 := hide ((unhide X2).kept hg3 (fun e => by have := Option.some.inj e; omega)); have D3 := hide hd3; have G3 := hide (gb_trans (unhide G2) hg3 (.inl rfl)); clear ho3 hi3 hd3 hg3)
    | (go_at_call 21; refine (rowOf_any k a3 dg c3 ns _ (unhide HI3) (by omega) (unhide HNB)).mono ?_; rintro e w4 ⟨v4, rfl, ho4, hb4⟩; rw [← HV.eq] at ho4; obtain ⟨a4, c4, rfl, hr4⟩ := ho4.row; rw [unhide HVL] at ho4 hr4 ⊢; have HO4 := hide ho4; have HR4 := hide hr4; have S4 := hide ((unhide S3).below hb4); have X4 := hide ((unhide X3).below hb4); have D4 := hide ((unhide D3).below (hb4.mono (Nat.le_trans hB (unhide G3).size))); have G4 := hide (gb_then (unhide G3) (hb4.mono (unhide G3).size)); have Z3 := hide (unhide X3).lt; clear ho4 hr4 hb4))
  obtain ⟨at4, ct4, ⟨k0, k1, k2, k3, _⟩, ht4⟩ := unhide S4
  rw [unhide HHK] at k3 ht4
  have HOF := hide (fun wx (hb : Below w4.heap.size w4 wx) => of_any at4 k ct4 ss a4 m c4 vs wx (ht4.below hb) (unhide HSH) (by omega) ((unhide HR4).below hb) (by omega))
  clear ht4 HT HK HPK HNE HDI HTL HV HLL HNB HO1 HI1 B1 S1 X1 D1 Z1 HO2 S2 X2 D2 G2 HI3 S3 X3 D3 G3 S0 D0 X0
  have hglt : g < w4.heap.size := World.block_lt_of_cell? w4 ⟨g, 0, none⟩ k0
  go_region_held (fun w' => w'.cell? ⟨g, 0, none⟩ = some (.int .i64 o) ∧ w'.cell? ⟨g, 1, none⟩ = some (.int .i64 l) ∧ w'.cell? ⟨g, 2, none⟩ = some (.int .i64 z) ∧ w'.cell? ⟨g, 3, none⟩ = some (.slice at4 k ct4)) (go_keep)
    (first | (go_at_call 23; refine (unhide HOF _ (Below.refl _ _).drew).mono ?_; rintro e w5 ⟨rfl, hb5⟩; have hb45 : Below w4.heap.size w4 w5 := (Below.refl _ _).drew.trans hb5; have q0 := (hb45.cell (p := ⟨g, 0, none⟩) hglt).trans k0; have q1 := (hb45.cell (p := ⟨g, 1, none⟩) hglt).trans k1; have q2 := (hb45.cell (p := ⟨g, 2, none⟩) hglt).trans k2; have q3 := (hb45.cell (p := ⟨g, 3, none⟩) hglt).trans k3; have x5 := (unhide X4).below hb45; obtain ⟨y0, y1, y2, y3, y4, y5, y6⟩ := x5.at; have f0 := x5.frz 0; have f1 := x5.frz 1; have f2 := x5.frz 2; have f3 := x5.frz 3; have f4 := x5.frz 4; have f5 := x5.frz 5; have f6 := x5.frz 6; have X5 := hide x5; have HB5 := hide hb45; clear x5 hb45 hb5))
  go_wp2
  have hw4 : w.heap.size ≤ w4.heap.size := (unhide G4).size
  refine bodyPost_ret (results_emit rfl ((unhide X5).sets (.int .i64 o) (.int .i64 l) (.int .i64 (k : Int)) (.int .i64 z) (.int .i64 0) (.slice a4 m c4) (.string (st (ofL ss vs k))))) rfl
    ⟨a4, c4, rfl, ((unhide HR4).below (unhide HB5)).other7 (fun ad ha hm => ?_) _ _ _ _ _ _ _, ?_, gb_then (unhide G4) (below7 ((unhide HB5).mono hw4) (Nat.le_refl _) _ _ _ _ _ _ _)⟩
  · have h1 := (unhide HO4).apart ad ha hm
    have h2 := unhide Z3
    omega
  · rw [HNX.eq]
    exact (unhide D4).below (below7 ((unhide HB5).mono (Nat.le_trans hB hw4)) hB _ _ _ _ _ _ _)
end Go.Proofs.YtakoaadimhpclaaGreatDoor
