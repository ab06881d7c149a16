/-
  Contracts of span.pick, chosen: for rows of at most 4000 words.
-/
import Derived.Test.YtobelbmcbgfdhaaDoorKC
namespace Go.Proofs.YtobelbmcbgfdhaaDoor
open Go.RowKit Go.Sort
set_option linter.unusedVariables false

theorem IntsAt.kept {w w' : World} {a : Option Addr} {n : Nat} {xs : List Nat} {row : Option Nat} (h : IntsAt w a n xs) (hg : w.grownBy w' row) (hd : n = 0 ∨ ∀ ad, a = some ad → some ad.block ≠ row) : IntsAt w' a n xs := by
  refine ⟨h.1, ?_⟩
  rcases h.2 with h0 | ⟨b, off, rfl, hc⟩
  · exact .inl h0
  · rcases hd with h0 | hd
    · exact .inl h0
    · exact .inr ⟨b, off, rfl, fun i hi => hg.cell (hc i hi) (hd ⟨b, off, none⟩ rfl)⟩
theorem set_same (rs : List (List Nat)) (i : Nat) : rs.set i (rs.getD i []) = rs := by
  apply List.ext_getElem (by simp)
  intro j h1 h2
  rw [List.getElem_set]
  split
  · rename_i e; subst e; simp [List.getD_eq_getElem?_getD, List.getElem?_eq_getElem h2]
  · rfl
/-- What one round of pick does. -/
theorem pick_store {w : World} {B P R s N i0 k : Nat} {rs : List (List Nat)} {r : List Nat} (h : CutAt w B P R s N (rs.set i0 r)) (hi : i0 < N) (hrl : rs.length = N) (hk : k < 64 * s) :
    ∃ x : Nat, w.cell? ⟨P, i0 * s + k / 64, none⟩ = some (.int .u64 (x : Int)) ∧ x < 18446744073709551616 ∧ w.frozen? ⟨P, i0 * s + k / 64, none⟩ = false ∧
      CutAt (w.setCell ⟨P, i0 * s + k / 64, none⟩ (.int .u64 ((setW x (k % 64) true : Nat) : Int))) B P R s N (rs.set i0 (setB r k true)) := by
  have hg : (rs.set i0 r).getD i0 [] = r := by rw [getD_setR rs i0 i0 r (by omega), if_pos rfl]
  obtain ⟨h1, h2, h3⟩ := h.row hi
  rw [hg] at h1
  have hq : k / 64 < s := by omega
  obtain ⟨b, off, e, hc⟩ := h1.at hq
  simp only [Option.some.injEq, Addr.mk.injEq, and_true] at e
  obtain ⟨rfl, rfl⟩ := e
  refine ⟨r.getD (k / 64) 0, hc _ hq, h1.2.1.get _, h3 _ hq, ?_⟩
  have := h.stored hi hq (setW (r.getD (k / 64) 0) (k % 64) true) (setW_lt _ _ _ (h1.2.1.get _) (by omega))
  rw [hg, List.set_set] at this
  exact this

set_option maxHeartbeats 2000000 in
theorem pick_any (B P R s N i0 : Nat) (rs : List (List Nat)) (a' : Option Addr) (m c' : Nat) (xs : List Nat) (af : Option Addr) (nf cf : Nat) (fs : List Nat) (w : World) (h : CutAt w B P R s N rs) (hi : i0 < N) (h' : RowAt w a' m xs)
    (hl' : m = 0 ∨ ∀ ad, a' = some ad → some ad.block ≠ some P) (hF : IntsAt w af nf fs) (hlF : nf = 0 ∨ ∀ ad, af = some ad → some ad.block ≠ some P) (hfb : ∀ i, fs.getD i 0 ≤ 1000000000) (hn : nf ≤ 64 * s) (hs : s ≤ 4000) (hm : m ≤ 1048576) :
    Calls Tryd.prog 28 #[.slice (some ⟨P, i0 * s, none⟩) s s, .slice a' m c', .slice af nf cf] w fun e w' => e = .returned (.tuple #[]) ∧ CutAt w' B P R s N (rs.set i0 (pickL (rs.getD i0 []) xs fs nf)) ∧ w.grownBy w' (some P) := by
  have hrl := h.len.1
  have H0 : Hid (CutAt w B P R s N (rs.set i0 (pickL (rs.getD i0 []) xs fs 0)) ∧ w.grownBy w (some P)) := hide ⟨by show CutAt w B P R s N (rs.set i0 (rs.getD i0 [])); rw [set_same]; exact h, gb_refl _ _⟩
  have HPK : Hid (∀ k, pickL (rs.getD i0 []) xs fs (k + 1) = if getB xs (fs.getD k 0) = true then setB (pickL (rs.getD i0 []) xs fs k) k true else pickL (rs.getD i0 []) xs fs k) := fun _ => rfl
  clear h
  generalize rs.getD i0 [] = r0 at *
  obtain ⟨po, hpo⟩ : ∃ po, i0 * s = po := ⟨_, rfl⟩
  have HPO := hide hpo
  rw [hpo]
  clear hpo
  go_enter Tryd.func28, Tryd.ntmps28
  go_wp2
  go_loopw [10] (fun i wr => ∃ k : Nat, k ≤ nf ∧ i = .int .i64 k ∧ Hid (CutAt wr B P R s N (rs.set i0 (pickL r0 xs fs k)) ∧ w.grownBy wr (some P))) (fun i _ => nf - (intOf i).toNat)
  case atStart => exact ⟨0, Nat.zero_le _, rfl, H0⟩
  case round =>
    obtain ⟨k, hk, rfl, HS⟩ := hrel
    obtain ⟨hC, hG⟩ := unhide HS
    by_cases hlt : k < nf
    · obtain ⟨b, off, rfl, hc⟩ := (hF.kept hG hlF).at hlt
      have hcell := hc k hlt
      have hr := h'.kept hG hl'
      have hGe := get_any a' m c' xs ((fs.getD k 0 : Nat) : Int) wr hr hm (by have := hfb k; omega)
      rw [getI_nat] at hGe
      have hpk := unhide HPK k
      cases hgb : getB xs (fs.getD k 0) with
      | false =>
        rw [hgb] at hGe hpk
        rw [if_neg (by decide)] at hpk
        rw [← hpk] at hC
        have HGe := hide hGe
        have HC := hide hC
        have HG := hide hG
        clear hC hG hGe hpk hc hr HS H0 hF h' hgb HPK
        generalize fs.getD k 0 = f at *
        go_wp2_with fail
        refine (unhide HGe).mono ?_
        rintro e w1 ⟨rfl, d, hw⟩
        have hb : Below wr.heap.size wr w1 := by rw [hw]; exact below_drewN (Below.refl _ _) d
        have HN := hide (And.intro ((unhide HC).below hb) (gb_trans (unhide HG) (gb_of_below hb (some P)) (.inl rfl)))
        clear hw hb HC HG HGe
        go_wp2
        go_roundw
        case rel => exact ⟨k + 1, by omega, by go_num, HN⟩
        case measure => simp [intOf]; omega
      | true =>
        rw [hgb] at hGe hpk
        rw [if_pos rfl] at hpk
        have HST := hide (fun (w1 : World) (hb : Below wr.heap.size wr w1) => pick_store (hC.below hb) hi hrl (show k < 64 * s by omega))
        have HGe := hide hGe
        have HG := hide hG
        have HPK2 := hide hpk
        clear hC hG hGe hpk hc hr HS H0 hF h' hgb HPK
        generalize fs.getD k 0 = f at *
        go_wp2_with fail
        refine (unhide HGe).mono ?_
        rintro e w1 ⟨rfl, d, hw⟩
        have hb : Below wr.heap.size wr w1 := by rw [hw]; exact below_drewN (Below.refl _ _) d
        obtain ⟨x, hx1, hx2, hx3, hx4⟩ := unhide HST w1 hb
        rw [unhide HPO] at hx1 hx3 hx4
        have HX := hide (sset_any P po s s k x w1 (by omega) (by omega) hx1 hx2 hx3)
        rw [← unhide HPK2] at hx4
        have HN := hide (And.intro hx4 (gb_trans (gb_trans (unhide HG) (gb_of_below hb (some P)) (.inl rfl)) (gb_setCell w1 P (po + k / 64) (.int .u64 ((setW x (k % 64) true : Nat) : Int))) (.inl rfl)))
        clear hw hb HG HGe HST hx1 hx3 hx4 HPK2
        go_wp2_with fail
        refine (unhide HX).mono ?_
        rintro e w2 ⟨rfl, hw⟩
        rw [← hw] at HN
        clear hw HX
        go_wp2
        go_roundw
        case rel => exact ⟨k + 1, by omega, by go_num, HN⟩
        case measure => simp [intOf]; omega
    · obtain rfl : k = nf := by omega
      clear h' hF H0
      go_wp2
      go_end0
      exact ⟨rfl, hC, hG⟩

set_option maxHeartbeats 1000000 in
theorem chosen_any (a : Option Addr) (n c : Nat) (ps : List Nat) (a' : Option Addr) (m c' : Nat) (xs : List Nat) (w : World) (h : IntsAt w a n ps) (h' : RowAt w a' m xs) (hn : n ≤ 100000) (hm : m ≤ 1048576) :
    Calls Tryd.prog 30 #[.slice a n c, .slice a' m c'] w fun e w' => ∃ v, e = .returned v ∧ OwnI w' w.heap.size v (chosenL ps (fun i => getB xs (n + i)) n) ∧ Below w.heap.size w w' := by
  have HCH : Hid (∀ k, chosenL ps (fun i => getB xs (n + i)) (k + 1) = if getB xs (n + k) = true then chosenL ps (fun i => getB xs (n + i)) k ++ [ps.getD k 0] else chosenL ps (fun i => getB xs (n + i)) k) := fun _ => rfl
  have HLE := hide (chosen_len ps (fun i => getB xs (n + i)))
  have H0 : Hid (OwnI w w.heap.size (.slice none 0 0) (chosenL ps (fun i => getB xs (n + i)) 0)) := OwnI.nil _ _
  generalize hch : chosenL ps (fun i => getB xs (n + i)) = CH at *
  clear hch
  go_enter Tryd.func30, Tryd.ntmps30
  go_wp2
  go_loopw [5, 10] (fun v i wr => ∃ k : Nat, k ≤ n ∧ i = .int .i64 k ∧ ∃ a1 l1 c1, v = .slice a1 l1 c1 ∧ Hid (OwnI wr w.heap.size (.slice a1 l1 c1) (CH k)) ∧ Hid (Below w.heap.size w wr)) (fun _ i _ => n - (intOf i).toNat)
  case atStart => exact ⟨0, Nat.zero_le _, rfl, none, 0, 0, rfl, H0, hide (Below.refl _ _)⟩
  case round =>
    obtain ⟨k, hk, rfl, a1, l1, c1, rfl, HI, HB⟩ := hrel
    have hB := unhide HB
    by_cases hlt : k < n
    · obtain ⟨b, off, rfl, hc⟩ := (h.below hB).at hlt
      have hcell := hc k hlt
      have hGe := get_any a' m c' xs ((n : Int) + (k : Int)) wr (h'.below hB) hm (by omega)
      rw [show (n : Int) + (k : Int) = ((n + k : Nat) : Int) by simp, getI_nat, show ((n + k : Nat) : Int) = (n : Int) + (k : Int) by simp] at hGe
      have hch := unhide HCH k
      have hle := unhide HLE k
      cases hgb : getB xs (n + k) with
      | false =>
        rw [hgb] at hGe hch
        rw [if_neg (by decide)] at hch
        have HI2 := HI
        rw [← hch] at HI2
        have HGe := hide hGe
        clear hGe hch hc HI h h' hgb HCH HLE H0
        generalize ps.getD k 0 = f at *
        go_wp2_with fail
        refine (unhide HGe).mono ?_
        rintro e w1 ⟨rfl, d, hw⟩
        have hb : Below wr.heap.size wr w1 := by rw [hw]; exact below_drewN (Below.refl _ _) d
        have HI3 := hide ((unhide HI2).below hb)
        have HB3 := hide (below0 hB hb)
        clear hw hb HI2 HGe hB HB
        go_wp2
        go_roundw
        case rel => exact ⟨k + 1, by omega, by go_num, a1, l1, c1, rfl, HI3, HB3⟩
        case measure => simp [intOf]; omega
      | true =>
        rw [hgb] at hGe hch
        rw [if_pos rfl] at hch
        have HHC := hide hch
        have HGe := hide hGe
        clear hGe hch hc h h' hgb HCH HLE H0
        generalize ps.getD k 0 = f at *
        go_wp2_with fail
        refine (unhide HGe).mono ?_
        rintro e w1 ⟨rfl, d, hw⟩
        have hb : Below wr.heap.size wr w1 := by rw [hw]; exact below_drewN (Below.refl _ _) d
        have HI3 := hide ((unhide HI).below hb)
        have HB3 := hide (below0 hB hb)
        clear hw hb HI HGe hB HB
        have hl3 : (CH k).length ≤ 1048576 := by omega
        go_wp2_with (first | (at_builtin; refine wpList_pushI rfl _ _ rfl w.heap.size (.slice a1 l1 c1) (CH k) f rfl rfl (unhide HI3) (unhide HB3).size hl3 ?_; intro s4 w4 hI4 hg4; have HB4 := hide ((unhide HB3).trans ((unhide HI3).grown hg4 (unhide HB3).size)); rw [← unhide HHC] at hI4; obtain ⟨a4, c4, rfl, _⟩ := hI4.ints; have HI4 := hide hI4; clear hg4 hI4 HI3 HB3 HHC))
        go_roundw
        case rel => exact ⟨k + 1, by omega, by go_num, a4, _, c4, rfl, HI4, HB4⟩
        case measure => simp [intOf]; omega
    · obtain rfl : k = n := by omega
      clear h h' H0 HCH HLE
      go_wp2
      go_ret
      exact ⟨_, rfl, unhide HI, unhide HB⟩
end Go.Proofs.YtobelbmcbgfdhaaDoor
