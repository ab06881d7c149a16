/-
  Contracts of peel.set and peel.drop, which change a row of one's own.
-/
import Derived.Test.YtcokmaofgfhapaaDoorYM
import Derived.Test.YtcokmaofgfhapaaDoorGb
namespace Go.Proofs.YtcokmaofgfhapaaDoor
open Go.RowKit Go.Sort
set_option linter.unusedVariables false
set_option maxRecDepth 4000

set_option maxHeartbeats 1000000 in
theorem pset_any (B g cap : Nat) (xs : List Nat) (b : Nat) (w : World) (ho : Own w B (.slice (some ⟨g, 0, none⟩) xs.length cap) xs) (hb : b / 64 < xs.length) (hn : xs.length ≤ 1048576) :
    Calls Tryd.prog 45 #[.slice (some ⟨g, 0, none⟩) xs.length cap, .int .i64 (b : Int)] w fun e w' => e = .returned (.tuple #[]) ∧ Own w' B (.slice (some ⟨g, 0, none⟩) xs.length cap) (setB xs b true) ∧ w.grownBy w' (some g) := by
  obtain ⟨i, hi⟩ : ∃ i : Int, i = (b : Int) := ⟨_, rfl⟩
  rw [← hi]
  have h0 : 0 ≤ i := by omega
  have him : i ≤ 9223372036854775807 := by omega
  obtain ⟨q, hq⟩ := Int.eq_ofNat_of_zero_le (show 0 ≤ i / 64 by omega)
  have hql : q < xs.length := by omega
  have hql' : (q : Int) < (xs.length : Int) := by omega
  have hqw := div_wrap i q h0 him hq
  obtain ⟨g', cap', he, hBg, hgs, hcg, hfg⟩ := ho.at (by omega)
  simp only [Value.slice.injEq, Option.some.injEq, Addr.mk.injEq, true_and, and_true] at he
  obtain ⟨rfl, rfl⟩ := he
  have hcell := hcg q hql
  have hfz := hfg q
  have hx := ho.1.get q
  have hmk := mask_num i
  have hor := or_num (xs.getD q 0) i hx
  have R := hide (set_store (on := true) h0 hq ho.1 hBg ho (Below.refl B w)).1
  have RG := hide (fun u => gb_setCell w g q u)
  have HE : Hid (setI xs i true = setB xs b true) := hide (by unfold setI; rw [if_neg (by omega), hi, Int.toNat_natCast])
  generalize (2 ^ (i % 64).toNat : Nat) = mk at *
  generalize xs.getD q 0 = x at *
  generalize setW x (i % 64).toNat true = y at *
  clear hcg hfg ho hb hi
  go_enter Tryd.func45, Tryd.ntmps45
  go_wp2
  go_end0
  exact ⟨rfl, by rw [← unhide HE]; exact unhide R, unhide RG _⟩

theorem drop_small {xs : List Nat} (h : smalls xs) (ys : List Nat) (k : Nat) : smalls (dropTo xs ys k) := by
  intro x hx
  obtain ⟨i, hi, rfl⟩ := List.getElem_of_mem hx
  have hl : i < xs.length := by rwa [dropTo_length] at hi
  have := dropTo_getD xs ys k i hl
  rw [List.getD_eq_getElem?_getD, List.getElem?_eq_getElem hi] at this
  simp only [Option.getD_some] at this
  rw [this]
  split
  · exact anW_lt _ _ (h.get i)
  · exact h.get i
theorem drop_round {wr : World} {B g cap : Nat} {xs ys : List Nat} {k : Nat} (hx : smalls xs) (hk : k < xs.length) (ho : Own wr B (.slice (some ⟨g, 0, none⟩) xs.length cap) (dropTo xs ys k)) :
    Own (wr.setCell ⟨g, k, none⟩ (.int .u64 ((anW (xs.getD k 0) (ys.getD k 0) : Nat) : Int))) B (.slice (some ⟨g, 0, none⟩) xs.length cap) (dropTo xs ys (k + 1)) := by
  have hl := dropTo_length xs ys k
  rw [← hl] at ho
  have := ho.stored k (anW (xs.getD k 0) (ys.getD k 0)) (anW_lt _ _ (hx.get k))
  rw [dropTo_succ xs ys k hk, hl] at this
  exact this

set_option maxHeartbeats 1000000 in
theorem drop_any (B : Nat) (a : Option Addr) (c : Nat) (xs : List Nat) (a' : Option Addr) (m c' : Nat) (ys : List Nat) (w : World) (ho : Own w B (.slice a xs.length c) xs) (h' : RowAt w a' m ys)
    (hap : m = 0 ∨ ∀ ad, a' = some ad → some ad.block ≠ (Value.slice a xs.length c).ownBlock) (hn : xs.length ≤ 1048576) (hm : m ≤ 1048576) :
    Calls Tryd.prog 33 #[.slice a xs.length c, .slice a' m c'] w fun e w' => e = .returned (.tuple #[]) ∧ Own w' B (.slice a xs.length c) (dropL xs ys) ∧ w.grownBy w' (Value.slice a xs.length c).ownBlock := by
  obtain rfl : m = ys.length := h'.1.symm
  have hmin := fun wx ts t => min_run xs.length ys.length ts t wx
  obtain ⟨mn, hmn⟩ : ∃ mn, mn = min xs.length ys.length := ⟨_, rfl⟩
  rw [← hmn] at hmin
  have hml : mn ≤ xs.length ∧ mn ≤ ys.length := by omega
  have HME := hide hmn
  clear hmn
  go_enter Tryd.func33, Tryd.ntmps33
  go_wp2
  go_loopw [10] (fun i wr => ∃ k : Nat, k ≤ mn ∧ i = .int .i64 k ∧ Hid (Own wr B (.slice a xs.length c) (dropTo xs ys k)) ∧ Hid (w.grownBy wr (Value.slice a xs.length c).ownBlock)) (fun i _ => mn - (intOf i).toNat)
  case atStart => exact ⟨0, Nat.zero_le _, rfl, hide (by rw [dropTo_zero]; exact ho), hide (gb_refl _ _)⟩
  case round =>
    obtain ⟨k, hk, rfl, HO, HB⟩ := hrel
    by_cases hlt : k < mn
    · obtain ⟨b', off', rfl, hc'⟩ := (h'.kept (unhide HB) hap).at (i := k) (by omega)
      have hkn : k < xs.length := by omega
      have hky : (k : Int) < (ys.length : Int) := by omega
      have hkx : (k : Int) < (xs.length : Int) := by omega
      obtain ⟨g, cap, he, hBg, hgs, hcg, hfg⟩ := (unhide HO).at (by rw [dropTo_length]; omega)
      rw [dropTo_length] at he
      simp only [Value.slice.injEq, true_and] at he
      obtain ⟨rfl, rfl⟩ := he
      have hcell' := hc' k (by omega)
      have hcell := hcg k (by rw [dropTo_length]; omega)
      have hfz := hfg k
      rw [dropTo_getD xs ys k k (by omega), if_neg (by omega)] at hcell
      have hxo := anW_num (xs.getD k 0) (ys.getD k 0) (ho.1.get k) (h'.2.1.get k)
      have R := hide (drop_round ho.1 hkn (unhide HO))
      have RG := hide (fun u => gb_trans (unhide HB) (gb_setCell _ g k u) (.inl rfl))
      generalize anW (xs.getD k 0) (ys.getD k 0) = z at *
      generalize xs.getD k 0 = x at *
      generalize ys.getD k 0 = y at *
      clear hc' hcg hfg h' HO ho hap
      have hlt' : (k : Int) < (mn : Int) := by omega
      go_wp2
      go_region
      all_goals go_wp2
      all_goals go_roundw
      all_goals first | exact ⟨k + 1, by omega, by go_num, hide (unhide R).drew, hide (gb_drew (unhide RG _))⟩ | (simp [intOf]; omega)
    · have hke : k = mn := by omega
      subst hke
      rw [dropTo_all xs ys _ (by have := unhide HME; omega)] at HO
      clear h' hap ho
      go_wp2
      go_end0
      exact ⟨rfl, unhide HO, unhide HB⟩
end Go.Proofs.YtcokmaofgfhapaaDoor
