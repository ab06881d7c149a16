/-
  The walk of the law XorTrue: for every input it tells true and writes nothing that was there.
-/
import Derived.Test.YtikogkbabikkoaaLX
namespace Go.Proofs.Ytikogkbabikkoaa
open Go.RowKit Go.Sort
set_option linter.unusedVariables false
set_option maxRecDepth 4000

theorem ofAll {ss : List ByteArray} {rs : List RV} (h : ∀ j, j < rs.length → holdsB ss (rs.getD j .dflt).xs (rs.getD j .dflt).s = true) : holdsB ss (vecL rs) (st (sumL (rs.map fun r => r.s))) = true := by
  refine holds_all ss rs fun r hr => ?_
  obtain ⟨i, hi, rfl⟩ := List.mem_iff_getElem.1 hr
  have := h i hi
  rwa [List.getD_eq_getElem?_getD, List.getElem?_eq_getElem hi] at this
theorem shortR.len {ss : List RV} (h : shortR ss) (i : Nat) : (ss.getD i .dflt).n ≤ 1048576 ∧ (ss.getD i .dflt).s.size ≤ 1048576 := by
  have := h i
  omega
theorem vecL_short {w : World} {a : Option Addr} {n : Nat} {rs : List RV} (h : RowsAt w a n rs) (hs : shortR rs) : (vecL rs).length ≤ 1048576 := by
  have := vecL_len rs (fun r hr => by
    obtain ⟨i, hi, rfl⟩ := List.mem_iff_getElem.1 hr
    have h1 := (hs i).1
    have h2 := (h.2.1 i (by rw [← h.1]; exact hi)).1
    rw [List.getD_eq_getElem?_getD, List.getElem?_eq_getElem hi] at h1 h2
    simp only [Option.getD_some] at h1 h2
    omega)
  omega
theorem sum_short {rs : List RV} (hs : shortR rs) : (st (sumL (rs.map fun r => r.s))).size ≤ 1048576 := by
  rw [st_size (sumL_bytes _)]
  have := sumL_len (rs.map fun r => r.s) (fun t ht => by
    obtain ⟨r, hr, rfl⟩ := List.mem_map.1 ht
    obtain ⟨i, hi, rfl⟩ := List.mem_iff_getElem.1 hr
    have h1 := (hs i).2
    rw [List.getD_eq_getElem?_getD, List.getElem?_eq_getElem hi] at h1
    simp only [Option.getD_some] at h1
    omega) rs.length
  rwa [List.take_of_length_le (by simp)] at this

set_option maxHeartbeats 1000000 in
theorem true_walk (l : Option Addr) (n c : Nat) (ss : List ByteArray) (a' : Option Addr) (m c' : Nat) (rs : List RV) (w : World) (h : TextsAt w l n ss) (hn : n ≤ 9223372036854775807) (h' : RowsAt w a' m rs) (hm : m ≤ 9223372036854775807) (hmc : m ≤ c') (hcc : c' ≤ 9223372036854775807)
    (hbig : ∀ i, (rs.getD i .dflt).n ≤ 9223372036854775807 ∧ (rs.getD i .dflt).s.size ≤ 9223372036854775807) :
    Calls Try.prog 7 #[.slice l n c, .slice a' m c'] w fun e w' => e = .returned (.bool true) ∧ Below w.heap.size w w' := by
  have H := hide h
  have H' := hide h'
  have HBG := hide hbig
  clear h h' hbig
  go_enter Try.func7, Try.ntmps7
  go_wp2_with fail
  refine (few_any _ _ _ ss _ (unhide H) hn).mono ?_
  rintro e w0 ⟨⟨bf, rfl, hf⟩, hw⟩
  subst hw
  cases bf
  · clear hf
    go_wp2_with fail
    refine (awake_any _).mono ?_
    rintro e w1 ⟨rfl, hb1⟩
    go_wp2
    go_ret
    exact ⟨rfl, hb1⟩
  have F := hide (hf.1 rfl)
  have hn1 : n ≤ 1048576 := by rw [← (unhide H).1]; have := (unhide F).1; omega
  clear hf
  go_wp2_with fail
  refine (fewR_any _ _ _ rs _ (unhide H') hm (unhide HBG)).mono ?_
  rintro e w0 ⟨hf, hw⟩
  subst hw
  rcases hf with ⟨rfl, hf⟩ | ⟨rfl, hf⟩
  rotate_left
  · clear hf
    go_wp2_with fail
    refine (awake_any _).mono ?_
    rintro e w1 ⟨rfl, hb1⟩
    go_wp2
    go_ret
    exact ⟨rfl, hb1⟩
  have G := hide hf
  have hm1 : m ≤ 1048576 := by rw [← (unhide H').1]; have := (unhide G).1; omega
  clear hf HBG
  go_wp2
  go_loopw [5] (fun i wr => ∃ k : Nat, k ≤ m ∧ i = .int .i64 k ∧ Hid (Below w0.heap.size w0 wr) ∧ Hid (∀ j, j < k → holdsB ss (rs.getD j .dflt).xs (rs.getD j .dflt).s = true)) (fun i _ => m - (intOf i).toNat)
  case atStart => exact ⟨0, Nat.zero_le _, rfl, hide (Below.refl _ _), hide (fun j hj => by omega)⟩
  case round =>
    obtain ⟨k, hk, rfl, HB, HZ⟩ := hrel
    by_cases hlt : k < m
    · have HR := hide ((unhide H').below (unhide HB))
      obtain ⟨b, off, rfl, hcl⟩ := (unhide HR).at hlt
      obtain ⟨hc0, hc1⟩ := hcl k hlt
      have hlt' : (k : Int) < (m : Int) := by omega
      have hsr := (unhide G).2.len k
      have hrow := hide ((unhide HR).2.1 k hlt)
      have HT := hide ((unhide H).below (unhide HB))
      clear hcl HR
      go_wp2_with fail
      refine (rholds_any _ _ _ ss _ _ _ _ _ _ (unhide HT) (unhide F).shorts hn1 (unhide hrow) hsr.1 hsr.2).mono ?_
      rintro e w1 ⟨rfl, hb1⟩
      have HB1 := hide (below0 (unhide HB) hb1)
      clear hb1 HB HT hrow hsr hc0 hc1
      cases hg : holdsB ss (rs.getD k .dflt).xs (rs.getD k .dflt).s
      · go_wp2_with fail
        refine (awake_any _).mono ?_
        rintro e w2 ⟨rfl, hb2⟩
        have HB2 := hide (below0 (unhide HB1) hb2)
        clear hb2 HB1
        go_wp2
        go_ret
        exact ⟨rfl, unhide HB2⟩
      · have HS := hide (show ∀ j, j < k + 1 → holdsB ss (rs.getD j .dflt).xs (rs.getD j .dflt).s = true from fun j hj => by
          by_cases e : j = k
          · rw [e]; exact hg
          · exact unhide HZ j (by omega))
        clear hg HZ
        go_wp2
        go_roundw
        case rel => exact ⟨k + 1, by omega, by go_num, HB1, HS⟩
        case measure => simp [intOf]; omega
    · have hke : k = m := by omega
      subst hke
      have HA := hide (ofAll (ss := ss) (rs := rs) (fun j hj => unhide HZ j (by rw [← (unhide H').1]; exact hj)))
      have HR := hide ((unhide H').below (unhide HB))
      have HT := hide ((unhide H).below (unhide HB))
      have hvl := hide (vecL_short (unhide H') (unhide G).2)
      have hsl := hide (sum_short (unhide G).2)
      clear HZ
      go_wp2_with fail
      refine (row_any _ _ _ rs _ (unhide HR) (unhide G).2 hm1 hmc hcc).mono ?_
      rintro e w1 ⟨v, rfl, ho, hb1⟩
      obtain ⟨a1, c1, rfl, hr1⟩ := ho.row
      have HO := hide hr1
      have HT1 := hide ((unhide HT).below hb1)
      have HB1 := hide (below0 (unhide HB) hb1)
      clear ho hr1 hb1 HB HR HT
      go_wp2_with fail
      refine (holds_any _ _ _ ss _ _ _ _ _ _ (unhide HT1) (unhide F).shorts hn1 (unhide HO) (unhide hvl) (unhide hsl)).mono ?_
      rintro e w2 ⟨rfl, hb2⟩
      rw [unhide HA]
      have HB2 := hide (below0 (unhide HB1) hb2)
      clear hb2 HB1 HT1 HO
      go_wp2_with fail
      refine (awake_any _).mono ?_
      rintro e w3 ⟨rfl, hb3⟩
      have HB3 := hide (below0 (unhide HB2) hb3)
      clear hb3 HB2
      go_wp2
      go_ret
      exact ⟨rfl, unhide HB3⟩
end Go.Proofs.Ytikogkbabikkoaa
