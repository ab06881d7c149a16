/-
  The walk of the law DrawsPlays: for every input it tells true and writes nothing that was there. No condition.
-/
import Derived.Test.YtmodllifgdhmiaaDF
namespace Go.Proofs.Ytmodllifgdhmiaa
open Go.RowKit
set_option linter.unusedVariables false
set_option maxRecDepth 4000

/-- A slice of n asks that can be read. -/
def AsksAt (w : World) (a : Option Addr) (n : Nat) (qs : List (Int × Int)) : Prop :=
  qs.length = n ∧ (∀ i, i < n → (qs.getD i default).1 ≤ 9223372036854775807) ∧ (n = 0 ∨ ∃ b off, a = some ⟨b, off, none⟩ ∧
    ∀ i, i < n → w.cell? ⟨b, off + i * 2, none⟩ = some (.int .i64 (qs.getD i default).1) ∧ w.cell? ⟨b, off + i * 2 + 1, none⟩ = some (.int .i64 (qs.getD i default).2))
theorem AsksAt.at {w : World} {a : Option Addr} {n : Nat} {qs : List (Int × Int)} (h : AsksAt w a n qs) {i : Nat} (hi : i < n) :
    ∃ b off, a = some ⟨b, off, none⟩ ∧ ∀ i, i < n → w.cell? ⟨b, off + i * 2, none⟩ = some (.int .i64 (qs.getD i default).1) ∧ w.cell? ⟨b, off + i * 2 + 1, none⟩ = some (.int .i64 (qs.getD i default).2) := by
  rcases h.2.2 with h0 | h0
  · omega
  · exact h0
theorem AsksAt.below {w w' : World} {a : Option Addr} {n : Nat} {qs : List (Int × Int)} (h : AsksAt w a n qs) (hb : Below w.heap.size w w') : AsksAt w' a n qs := by
  refine ⟨h.1, h.2.1, ?_⟩
  rcases h.2.2 with h0 | ⟨b, off, rfl, hc⟩
  · exact .inl h0
  · exact .inr ⟨b, off, rfl, fun i hi => ⟨(hb.cell (World.block_lt_of_cell? w _ (hc i hi).1)).trans (hc i hi).1, (hb.cell (World.block_lt_of_cell? w _ (hc i hi).2)).trans (hc i hi).2⟩⟩

theorem OwnZ.at' {w : World} {B : Nat} {a : Option Addr} {n c : Nat} {xs : List Int} (h : OwnZ w B (.slice a n c) xs) : IntzAt w a n xs := by
  obtain ⟨a1, c1, e, hi⟩ := h.ints
  simp only [Value.slice.injEq] at e
  obtain ⟨rfl, rfl, rfl⟩ := e
  exact hi
/-- Both draws, of which as many were used. -/
def Both (w0 w : World) (g h B : Nat) (L : List Nat) (N : Nat) : Prop := DrAt w g B L N ∧ RfAt w h B L N ∧ Below w0.heap.size w0 w ∧ B ≤ w.heap.size ∧ (w0.heap.size ≤ g ∧ w0.heap.size ≤ h ∧ g ≠ h)
theorem Both.below {w0 w w' : World} {g h B : Nat} {L : List Nat} {N : Nat} (H : Both w0 w g h B L N) (hb : Below w.heap.size w w') : Both w0 w' g h B L N := by
  obtain ⟨h1, h2, h3, h4, h5⟩ := H
  exact ⟨h1.below (hb.mono h4), h2.below (hb.mono h4), below0 h3 hb, Nat.le_trans h4 hb.size, h5⟩
/-- The one behind the other: what the first call leaves, and what the second one does. -/
theorem Both.first {w0 w w1 : World} {g h B : Nat} {L : List Nat} {N : Nat} (H : Both w0 w g h B L N) (hg : w.grownBy w1 (some g)) : RfAt w1 h B L N := by
  obtain ⟨h1, h2, h3, h4, h5⟩ := H
  obtain ⟨_, _, a, n, c, k3, _⟩ := h1
  exact h2.kept hg (fun e => h5.2.2 e.symm) k3
theorem Both.step {w0 w w1 w2 : World} {g h B : Nat} {L : List Nat} {N N1 : Nat} (H : Both w0 w g h B L N) (hg : w.grownBy w1 (some g)) (hd : DrAt w1 g B L N1) (hh : w1.grownBy w2 (some h)) (hr : RfAt w2 h B L N1) : Both w0 w2 g h B L N1 := by
  have hf := H.first hg
  obtain ⟨h1, h2, h3, h4, h5⟩ := H
  obtain ⟨_, a, n, c, k3, _⟩ := hf
  refine ⟨hd.kept hh h5.2.2 k3, hr, below_gb (below_gb h3 hg h3.size h5.1) hh (Nat.le_trans h3.size hg.size) h5.2.1, Nat.le_trans h4 (Nat.le_trans hg.size hh.size), h5⟩
theorem Both.box {w0 w w1 : World} {g h B p k : Nat} {L : List Nat} {N : Nat} {T : TypeId} {v0 v1 : Value} (H : Both w0 w g h B L N) (hb : Bk2 T w p v0 v1) (hp : B ≤ p) (hg : w.grownBy w1 (some k)) (hk : k = g ∨ k = h) : Bk2 T w1 p v0 v1 := by
  obtain ⟨h1, h2, h3, h4, h5⟩ := H
  have := h1.1
  have := h2.1
  exact hb.kept hg (fun e => by have := Option.some.inj e; rcases hk with rfl | rfl <;> omega)

set_option maxHeartbeats 4000000 in
theorem plays_walk (a : Option Addr) (len cap : Nat) (xs : List Nat) (a' : Option Addr) (len' cap' : Nat) (qs : List (Int × Int)) (w : World) (h : RowAt w a len xs) (hm : len ≤ 9223372036854775807) (h' : AsksAt w a' len' qs) (hm' : len' ≤ 9223372036854775807) :
    Calls Try.prog 3 #[.slice a len cap, .slice a' len' cap'] w fun e w' => e = .returned (.bool true) ∧ Below w.heap.size w w' := by
  have HA := hide (fun wx => awake_any wx)
  by_cases hl : 1000 < len
  · clear h h'
    go_enter Try.func3, Try.ntmps3
    go_wp2_with (go_at_call 8; refine (unhide HA _).mono ?_; rintro e w6 ⟨rfl, hb6⟩)
    go_ret
    exact ⟨rfl, hb6⟩
  by_cases hl2 : 50 < len'
  · clear h h'
    go_enter Try.func3, Try.ntmps3
    go_wp2_with (go_at_call 8; refine (unhide HA _).mono ?_; rintro e w6 ⟨rfl, hb6⟩)
    go_ret
    exact ⟨rfl, hb6⟩
  have d1 : decide ((1000 : Int) < (len : Int)) = false := by rw [decide_eq_false_iff_not]; omega
  have d2 : decide ((50 : Int) < (len' : Int)) = false := by rw [decide_eq_false_iff_not]; omega
  have hsm := h.2.1
  have HN := hide (new_any a len cap xs w h (by omega))
  have HH := hide h
  have HH' := hide h'
  have HL1 := hide hl
  have l2 : len' ≤ 50 := by omega
  clear h h' hl hl2
  go_enter Try.func3, Try.ntmps3
  go_wp2_with (go_at_call 9; refine (unhide HN).mono ?_; rintro e w1 ⟨g, rfl, hg, hD1, hb1⟩; have HD1 := hide hD1; have HB1 := hide hb1; have HG := hide hg; clear hD1 hb1 hg)
  have hb1 := unhide HB1
  have hlt1 := (unhide HD1).lt
  have hA1 : Below w1.heap.size w1 (w1.alloc (.cells #[.slice a len cap, .int .i64 0] 29)) := (Below.refl _ _).alloc (Nat.le_refl _) _
  have HBo := hide (show Both w (w1.alloc (.cells #[.slice a len cap, .int .i64 0] 29)) g w1.heap.size (w1.heap.size + 1) xs 0 from
    ⟨((unhide HD1).below hA1).mono (Nat.le_succ _), ⟨Nat.lt_succ_self _, a, len, cap, bk2_new _ _ _ _, by have := unhide HL1; omega, row_alloc ((unhide HH).below hb1) _, by
      rcases (unhide HH).lt with h0 | h0
      · exact .inl h0
      · exact .inr fun ad e => by have := h0 ad e; have := hb1.size; omega⟩, hb1.trans (hA1.mono hb1.size), by rw [alloc_size]; exact Nat.le_refl _, ⟨unhide HG, hb1.size, by omega⟩⟩)
  clear hb1 hlt1 hA1 HD1 HB1 HG HN
  go_loopw [7] (fun i wr => ∃ q : Nat, q ≤ len' ∧ i = .int .i64 q ∧ Hid (∃ N, N ≤ 128 * q ∧ Both w wr g w1.heap.size (w1.heap.size + 1) xs N)) (fun i _ => len' - (intOf i).toNat)
  case atStart => exact ⟨0, Nat.zero_le _, rfl, hide ⟨0, Nat.zero_le _, unhide HBo⟩⟩
  case round =>
    obtain ⟨q, hq, rfl, HR⟩ := hrel
    clear HBo
    obtain ⟨N, hN, hBo⟩ := unhide HR
    by_cases hlt : q < len'
    · have has := (unhide HH').below hBo.2.2.1
      have hnb := has.2.1 q hlt
      obtain ⟨b, off, rfl, hc⟩ := has.at hlt
      obtain ⟨hc0, hc1⟩ := hc q hlt
      have HBo := hide hBo
      have HNN := hide hN
      clear hc has HR hBo hN
      generalize (qs.getD q default).1 = n at *
      generalize (qs.getD q default).2 = k at *
      by_cases hk : k < 0
      · have hdk : decide (k < 0) = true := decide_eq_true hk
        by_cases hn1 : n < 1
        · have HX1 := hide (fun wx => below_no (.pointer (some ⟨g, 0, none⟩)) n hn1 wx)
          have HX2 := hide (fun wx => rbelow_no (.pointer (some ⟨w1.heap.size, 0, none⟩)) n hn1 wx)
          have hP := bk2_new 31 wr (.int .i64 n) (.int .i64 k)
          have hBW := (unhide HBo).below ((Below.refl wr.heap.size wr).alloc (Nat.le_refl _) (.cells #[.int .i64 n, .int .i64 k] 31))
          have hpB := (unhide HBo).2.2.2.1
          go_wp2_with fail
          generalize wr.alloc (.cells #[.int .i64 n, .int .i64 k] 31) = W at *
          generalize wr.heap.size = p at *
          have hc2 := hP.at0
          have hc3 := hP.at1
          have HP := hide hP
          have HBW := hide (hBW.below (Below.refl _ _).drew)
          have HPB := hide hpB
          clear hP hBW hpB hc0 hc1 HBo
          go_region_held (fun w' => w'.cell? ⟨p, 0, none⟩ = some (.int .i64 n)) (go_keep) (first | (go_at_call 10; refine (unhide HX1 _).mono ?_; rintro e w2 ⟨rfl, hw⟩; obtain rfl := hw.symm; clear hw) | (go_at_call 11; refine (unhide HX2 _).mono ?_; rintro e w2 ⟨rfl, hw⟩; obtain rfl := hw.symm; clear hw))
          have HB3 := HBW
          have HN3 := hide (show N ≤ 128 * (q + 1) by have := unhide HNN; omega)
          clear HBW HP HX1 HX2 hc2 hc3
          generalize W.drew = w3 at *
          have hu3 := used_any g (w1.heap.size + 1) xs N w3.drew ((unhide HB3).1.below (Below.refl _ _).drew)
          have hcR : w3.cell? ⟨w1.heap.size, 1, none⟩ = some (.int .i64 (N : Int)) := by
            obtain ⟨_, _, _, _, k3, _⟩ := (unhide HB3).2.1
            exact k3.at1
          have HU := hide hu3
          clear hu3
          go_wp2_with fail
          go_region_held (fun w' => w'.cell? ⟨w1.heap.size, 1, none⟩ = some (.int .i64 (N : Int))) (go_keep) (first | (go_at_call 15; refine (unhide HU).mono ?_; rintro e w9 ⟨rfl, hw⟩; obtain rfl := hw.symm; clear hw))
          go_wp2
          go_roundw
          case rel => exact ⟨q + 1, by omega, by go_num, hide ⟨N, unhide HN3, (unhide HB3).below (Below.refl _ _).drew⟩⟩
          case measure => simp [intOf]; omega
        · obtain ⟨m, rfl⟩ : ∃ m : Nat, n = (m : Int) := ⟨n.toNat, by omega⟩
          have hNs : N ≤ 6400 := by have := unhide HNN; omega
          have HX1 := hide (fun wx (hb : Both w wx g w1.heap.size (w1.heap.size + 1) xs N) => below_any g (w1.heap.size + 1) xs N m wx hb.1 (by omega) (by omega) (by omega))
          have HX2 := hide (fun wx (hb : RfAt wx w1.heap.size (w1.heap.size + 1) xs N) => rbelow_any w1.heap.size (w1.heap.size + 1) xs N m (m : Int) rfl wx hb hsm (by omega) (by omega) (by omega))
          generalize drawN xs (N + 1) % m = x at *
          obtain ⟨N1, hN1⟩ : ∃ N1, N + 1 = N1 := ⟨_, rfl⟩
          rw [hN1] at HX1 HX2
          have HN3 := hide (show N1 ≤ 128 * (q + 1) by have := unhide HNN; omega)
          clear hN1 hNs
          have hP := bk2_new 31 wr (.int .i64 (m : Int)) (.int .i64 k)
          have hBW := (unhide HBo).below ((Below.refl wr.heap.size wr).alloc (Nat.le_refl _) (.cells #[.int .i64 (m : Int), .int .i64 k] 31))
          have hpB := (unhide HBo).2.2.2.1
          go_wp2_with fail
          generalize wr.alloc (.cells #[.int .i64 (m : Int), .int .i64 k] 31) = W at *
          generalize wr.heap.size = p at *
          have hc2 := hP.at0
          have hc3 := hP.at1
          have HP := hide hP
          have HBW := hide (hBW.below (Below.refl _ _).drew)
          have HPB := hide hpB
          clear hP hBW hpB hc0 hc1 HBo
          go_region_held (fun w' => w'.cell? ⟨p, 0, none⟩ = some (.int .i64 (m : Int))) (go_keep) (first | (go_at_call 10; refine (unhide HX1 _ (unhide HBW)).mono ?_; rintro e w2 ⟨rfl, hD2, hG2⟩; have hS2 := ((unhide HBW).box (unhide HP).drew (unhide HPB) hG2 (.inl rfl)).at0; have HR2 := hide ((unhide HBW).first hG2); have HD2 := hide hD2; have HG2 := hide hG2; have HP2 := hide ((unhide HBW).box (unhide HP).drew (unhide HPB) hG2 (.inl rfl)); clear hD2 hG2) | (go_at_call 11; refine (unhide HX2 _ (unhide HR2)).mono ?_; rintro e w3 ⟨rfl, hR3, hG3⟩; have HB3 := hide ((unhide HBW).step (unhide HG2) (unhide HD2) hG3 hR3); have hS3 : w3.cell? ⟨p, 0, none⟩ = some (.int .i64 (m : Int)) := ((unhide HP2).kept hG3 (fun e => by have := Option.some.inj e; have := unhide HPB; omega)).at0; clear hR3 hG3))
          clear HBW HP HX1 HX2 hc2 hc3 HR2 HD2 HG2 HP2
          have hu3 := used_any g (w1.heap.size + 1) xs N1 w3.drew ((unhide HB3).1.below (Below.refl _ _).drew)
          have hcR : w3.cell? ⟨w1.heap.size, 1, none⟩ = some (.int .i64 (N1 : Int)) := by
            obtain ⟨_, _, _, _, k3, _⟩ := (unhide HB3).2.1
            exact k3.at1
          have HU := hide hu3
          clear hu3
          go_wp2_with fail
          go_region_held (fun w' => w'.cell? ⟨w1.heap.size, 1, none⟩ = some (.int .i64 (N1 : Int))) (go_keep) (first | (go_at_call 15; refine (unhide HU).mono ?_; rintro e w9 ⟨rfl, hw⟩; obtain rfl := hw.symm; clear hw))
          go_wp2
          go_roundw
          case rel => exact ⟨q + 1, by omega, by go_num, hide ⟨N1, unhide HN3, (unhide HB3).below (Below.refl _ _).drew⟩⟩
          case measure => simp [intOf]; omega
      · have hdk : decide (k < 0) = false := decide_eq_false hk
        by_cases hn1 : n < 0 ∨ 128 < n
        · have HX1 := hide (fun wx => distinct_no (.pointer (some ⟨g, 0, none⟩)) (.inr ⟨_, rfl⟩) n k hn1 wx)
          have HX2 := hide (fun wx => rdistinct_no (.pointer (some ⟨w1.heap.size, 0, none⟩)) n k hn1 wx)
          have HX3 := hide (fun wx => intz_any none 0 0 [] none 0 0 [] wx (IntzAt.none _ _) (IntzAt.none _ _) rfl (by omega))
          have hP := bk2_new 31 wr (.int .i64 n) (.int .i64 k)
          have hBW := (unhide HBo).below ((Below.refl wr.heap.size wr).alloc (Nat.le_refl _) (.cells #[.int .i64 n, .int .i64 k] 31))
          have hpB := (unhide HBo).2.2.2.1
          go_wp2_with fail
          generalize wr.alloc (.cells #[.int .i64 n, .int .i64 k] 31) = W at *
          generalize wr.heap.size = p at *
          have hc2 := hP.at0
          have hc3 := hP.at1
          have HP := hide hP
          have HBW := hide (hBW.below (Below.refl _ _).drew)
          have HPB := hide hpB
          clear hP hBW hpB hc0 hc1 HBo
          go_region_held (fun w' => w'.cell? ⟨p, 0, none⟩ = some (.int .i64 n) ∧ w'.cell? ⟨p, 1, none⟩ = some (.int .i64 k)) (go_keep) (first | (go_at_call 13; refine (unhide HX1 _).mono ?_; rintro e w2 ⟨rfl, hw⟩; obtain rfl := hw.symm; clear hw) | (go_at_call 14; refine (unhide HX2 _).mono ?_; rintro e w2 ⟨rfl, hw⟩; obtain rfl := hw.symm; clear hw) | (go_at_call 12; refine (unhide HX3 _).mono ?_; rintro e w3 ⟨rfl, hb3⟩; have HB3 := hide ((unhide HBW).below hb3); have hS3 : w3.cell? ⟨p, 0, none⟩ = some (.int .i64 n) := ((unhide HP).drew.below hb3).at0; have hS4 : w3.cell? ⟨p, 1, none⟩ = some (.int .i64 k) := ((unhide HP).drew.below hb3).at1; clear hb3))
          have HN3 := hide (show N ≤ 128 * (q + 1) by have := unhide HNN; omega)
          clear HBW HP HX1 HX2 HX3 hc2 hc3
          have hu3 := used_any g (w1.heap.size + 1) xs N w3.drew ((unhide HB3).1.below (Below.refl _ _).drew)
          have hcR : w3.cell? ⟨w1.heap.size, 1, none⟩ = some (.int .i64 (N : Int)) := by
            obtain ⟨_, _, _, _, k3, _⟩ := (unhide HB3).2.1
            exact k3.at1
          have HU := hide hu3
          clear hu3
          go_wp2_with fail
          go_region_held (fun w' => w'.cell? ⟨w1.heap.size, 1, none⟩ = some (.int .i64 (N : Int))) (go_keep) (first | (go_at_call 15; refine (unhide HU).mono ?_; rintro e w9 ⟨rfl, hw⟩; obtain rfl := hw.symm; clear hw))
          go_wp2
          go_roundw
          case rel => exact ⟨q + 1, by omega, by go_num, hide ⟨N, unhide HN3, (unhide HB3).below (Below.refl _ _).drew⟩⟩
          case measure => simp [intOf]; omega
        · obtain ⟨m, rfl⟩ : ∃ m : Nat, n = (m : Int) := ⟨n.toNat, by omega⟩
          have hNs : N ≤ 6400 := by have := unhide HNN; omega
          have hm128 : m ≤ 128 := by omega
          have HX1 := hide (fun wx (hb : Both w wx g w1.heap.size (w1.heap.size + 1) xs N) => distinct_any g (w1.heap.size + 1) xs N m k wx hb.1 hb.2.2.2.1 (by omega) hm128)
          have HX2 := hide (fun wx (hb : RfAt wx w1.heap.size (w1.heap.size + 1) xs N) (hB : w1.heap.size + 1 ≤ wx.heap.size) => rdistinct_any w1.heap.size (w1.heap.size + 1) xs N m k wx hb hsm hB (by omega) hm128)
          have hXl := distL_length xs N m (min k.toNat m) (Nat.min_le_right _ _)
          have hr128 : min k.toNat m ≤ 128 := Nat.le_trans (Nat.min_le_right _ _) hm128
          obtain ⟨X, hX⟩ : ∃ X, castZ (distL xs N m (min k.toNat m)) = X := ⟨_, rfl⟩
          have hXl2 : X.length ≤ 1048576 := by rw [← hX, castZ_length, hXl]; omega
          rw [hX] at HX1 HX2
          obtain ⟨N1, hN1⟩ : ∃ N1, N + min k.toNat m = N1 := ⟨_, rfl⟩
          rw [hN1] at HX1 HX2
          have HN3 := hide (show N1 ≤ 128 * (q + 1) by have := unhide HNN; omega)
          have HXL := hide hXl2
          clear hN1 hNs hX hXl hr128 hXl2
          have hP := bk2_new 31 wr (.int .i64 (m : Int)) (.int .i64 k)
          have hBW := (unhide HBo).below ((Below.refl wr.heap.size wr).alloc (Nat.le_refl _) (.cells #[.int .i64 (m : Int), .int .i64 k] 31))
          have hpB := (unhide HBo).2.2.2.1
          go_wp2_with fail
          generalize wr.alloc (.cells #[.int .i64 (m : Int), .int .i64 k] 31) = W at *
          generalize wr.heap.size = p at *
          have hc2 := hP.at0
          have hc3 := hP.at1
          have HP := hide hP
          have HBW := hide (hBW.below (Below.refl _ _).drew)
          have HPB := hide hpB
          clear hP hBW hpB hc0 hc1 HBo
          go_region_held (fun w' => w'.cell? ⟨p, 0, none⟩ = some (.int .i64 (m : Int)) ∧ w'.cell? ⟨p, 1, none⟩ = some (.int .i64 k)) (go_keep) (first | (go_at_call 13; refine (unhide HX1 _ (unhide HBW)).mono ?_; rintro e w2 ⟨v2, rfl, hO2, hD2, hG2⟩; obtain ⟨a2, c2, rfl, -⟩ := hO2.ints; have HP2 := hide ((unhide HBW).box (unhide HP).drew (unhide HPB) hG2 (.inl rfl)); have hS2 := (unhide HP2).at0; have hS2b := (unhide HP2).at1; have HR2 := hide ((unhide HBW).first hG2); have HD2 := hide hD2; have HG2 := hide hG2; have HO2 := hide hO2; have HZ2 := hide (Nat.le_trans (unhide HBW).2.2.2.1 hG2.size); clear hD2 hG2 hO2) | (go_at_call 14; refine (unhide HX2 _ (unhide HR2) (unhide HZ2)).mono ?_; rintro e w3 ⟨v3, rfl, hO3, hR3, hG3⟩; obtain ⟨a3, c3, rfl, hI3⟩ := hO3.ints; have HB3a := hide ((unhide HBW).step (unhide HG2) (unhide HD2) hG3 hR3); have HP3 := hide ((unhide HP2).kept hG3 (fun e => by have := Option.some.inj e; have := unhide HPB; omega)); have hS3 := (unhide HP3).at0; have hS3b := (unhide HP3).at1; have HI3 := hide hI3; have HO3 := hide ((unhide HO2).kept hG3 (by have := (unhide HBW).2.2.2.1; omega)); clear hR3 hG3 hO3 hI3) | (go_at_call 12; refine (intz_any a2 X.length c2 X a3 X.length c3 X w3 (unhide HO3).at' (unhide HI3) rfl (unhide HXL)).mono ?_; rintro e w4 ⟨rfl, hb4⟩; have HB3 := hide ((unhide HB3a).below hb4); have hS4 : w4.cell? ⟨p, 0, none⟩ = some (.int .i64 (m : Int)) := ((unhide HP3).below hb4).at0; have hS4b : w4.cell? ⟨p, 1, none⟩ = some (.int .i64 k) := ((unhide HP3).below hb4).at1; clear hb4))
          clear HBW HP HX1 HX2 hc2 hc3 HR2 HD2 HG2 HP2 HO2 HZ2 HP3 HI3 HO3 HB3a
          have hu3 := used_any g (w1.heap.size + 1) xs N1 w4.drew ((unhide HB3).1.below (Below.refl _ _).drew)
          have hcR : w4.cell? ⟨w1.heap.size, 1, none⟩ = some (.int .i64 (N1 : Int)) := by
            obtain ⟨_, _, _, _, k3, _⟩ := (unhide HB3).2.1
            exact k3.at1
          have HU := hide hu3
          clear hu3
          go_wp2_with fail
          go_region_held (fun w' => w'.cell? ⟨w1.heap.size, 1, none⟩ = some (.int .i64 (N1 : Int))) (go_keep) (first | (go_at_call 15; refine (unhide HU).mono ?_; rintro e w9 ⟨rfl, hw⟩; obtain rfl := hw.symm; clear hw))
          go_wp2
          go_roundw
          case rel => exact ⟨q + 1, by omega, by go_num, hide ⟨N1, unhide HN3, (unhide HB3).below (Below.refl _ _).drew⟩⟩
          case measure => simp [intOf]; omega
    · obtain rfl : q = len' := by omega
      have HX1 := hide (next_any g (w1.heap.size + 1) xs N wr hBo.1 (by omega))
      have HX2 := hide (fun wx (hb : RfAt wx w1.heap.size (w1.heap.size + 1) xs N) => rnext_any w1.heap.size (w1.heap.size + 1) xs N wx hb (by omega))
      have HBo := hide hBo
      clear hBo HR hN
      generalize drawN xs (N + 1) = x at *
      go_wp2_with (first | (go_at_call 16; refine (unhide HX1).mono ?_; rintro e w2 ⟨rfl, hD2, hG2⟩; have HR2 := hide ((unhide HBo).first hG2); have HD2 := hide hD2; have HG2 := hide hG2; clear hD2 hG2) | (go_at_call 17; refine (unhide HX2 _ (unhide HR2)).mono ?_; rintro e w3 ⟨rfl, hR3, hG3⟩; have HB3 := hide ((unhide HBo).step (unhide HG2) (unhide HD2) hG3 hR3); clear hR3 hG3) | (go_at_call 8; refine (unhide HA _).mono ?_; rintro e w9 ⟨rfl, hb9⟩; have HB9 := hide (below0 (unhide HB3).2.2.1 hb9); clear hb9))
      go_ret
      exact ⟨rfl, unhide HB9⟩
end Go.Proofs.Ytmodllifgdhmiaa
