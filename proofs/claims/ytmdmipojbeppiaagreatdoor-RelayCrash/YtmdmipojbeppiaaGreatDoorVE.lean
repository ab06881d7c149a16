/-
  Contracts of bucketlineref18.sum, both Degree: the xor of the rows at the places, and its degree. Conditions: at most 300 rows of at most 10 words and 1000 bytes, at most 300 places.
-/
import Derived.Test.YtmdmipojbeppiaaGreatDoorVC
import Derived.Test.YtmdmipojbeppiaaGreatDoorM17
namespace Go.Proofs.YtmdmipojbeppiaaGreatDoor
open Go.RowKit
set_option linter.unusedVariables false
set_option maxRecDepth 4000

theorem short_mem {rs : List RV} (h : shortR rs) {r : RV} (hr : r ∈ rs) : r.n ≤ 10 ∧ r.s.size ≤ 1000 := by
  obtain ⟨i, hi, rfl⟩ := List.mem_iff_getElem.1 hr
  have := h i
  rwa [List.getD_eq_getElem?_getD, List.getElem?_eq_getElem hi] at this
theorem short_of {rs : List RV} (h : ∀ r ∈ rs, r.n ≤ 10 ∧ r.s.size ≤ 1000) : shortR rs := fun i => by
  by_cases hi : i < rs.length
  · rw [List.getD_eq_getElem?_getD, List.getElem?_eq_getElem hi]
    exact h _ (List.getElem_mem hi)
  · rw [List.getD_eq_getElem?_getD, List.getElem?_eq_none (by omega)]
    exact ⟨Nat.zero_le _, Nat.zero_le _⟩
theorem short_sub {rs us : List RV} (h : shortR rs) (hs : ∀ r ∈ us, r ∈ rs) : shortR us := short_of fun r hr => short_mem h (hs r hr)
theorem RowsIn.sub {w : World} {rs us : List RV} (h : RowsIn w rs) (hs : ∀ r ∈ us, r ∈ rs) : RowsIn w us := fun r hr => h r (hs r hr)
theorem sel_take {α : Type} {dd : α} (l : List α) (ws : List Int) (k : Nat) (hk : k < ws.length) : selL dd l (ws.take (k + 1)) = if 0 ≤ ws.getD k 0 ∧ ws.getD k 0 < (l.length : Int) then selL dd l (ws.take k) ++ [l.getD (ws.getD k 0).toNat dd] else selL dd l (ws.take k) := by
  have e : ws.take (k + 1) = ws.take k ++ [ws.getD k 0] := by
    rw [List.take_succ_eq_append_getElem hk]
    simp [List.getD_eq_getElem?_getD, List.getElem?_eq_getElem hk]
  rw [e, selL_snoc]
theorem vecL_fold (rs : List RV) : vecL rs = xFold (fun r : RV => r.xs) rs := rfl
theorem sumL_fold (rs : List RV) : sumL (rs.map fun r => r.s) = xFold (fun r : RV => tx r.s) rs := by
  unfold sumL xFold
  rw [List.foldl_map]
theorem vecs_short {rs : List RV} {w : World} (hr : RowsIn w rs) (h : shortR rs) : (vecL rs).length ≤ 10 := vecL_len rs fun r hm => by rw [(hr r hm).1.1]; exact (short_mem h hm).1

set_option maxHeartbeats 4000000 in
theorem rsum18_any (a : Option Addr) (n c : Nat) (rs : List RV) (a' : Option Addr) (m c' : Nat) (ws : List Int) (w : World) (h : RowsAt w a n rs) (hcap : CapR rs) (hs : shortR rs) (hw : IntzAt w a' m ws) (hn : n ≤ 300) (hm : m ≤ 300) :
    Calls Tryz.prog 63 #[.slice a n c, .slice a' m c'] w fun e w' => ∃ v, e = .returned (.agg #[v, .string (st (sumL ((selL .dflt rs ws).map fun r => r.s)))]) ∧ Own w' w.heap.size v (vecL (selL .dflt rs ws)) ∧ Below w.heap.size w w' := by
  obtain rfl := h.1
  obtain rfl := hw.1
  have hb0 := (Below.refl w.heap.size w).alloc (Nat.le_refl _) (.cells #[.slice none 0 0, .string ⟨#[]⟩] 40)
  have hX := boxW_new w (.slice none 0 0) (.string ⟨#[]⟩)
  have hsz : (w.alloc (.cells #[.slice none 0 0, .string ⟨#[]⟩] 40)).heap.size = w.heap.size + 1 := by simp
  have hR := h.below hb0
  have HW := hide (hw.below hb0)
  generalize hWW : w.alloc (.cells #[.slice none 0 0, .string ⟨#[]⟩] 40) = W at *
  have HR := hide hR
  have HX := hide hX
  have HB0 := hide hb0
  have HSZ := hide hsz
  have HRI := hide (RowsIn.of hR hcap)
  have HS := hide hs
  clear h hw hR hX hb0 hsz hs hcap
  go_enter Tryz.func63, Tryz.ntmps63
  go_wp2
  clear hWW
  go_loopw [5, 6] (fun o i wr => ∃ k : Nat, ∃ a1 : Option Addr, ∃ m1 c1 : Nat, k ≤ ws.length ∧ i = .int .i64 k ∧ o = .slice a1 m1 c1 ∧ Hid (OwnS wr W.heap.size (.slice a1 m1 c1) (selL .dflt rs (ws.take k)) ∧ Below W.heap.size W wr)) (fun _ i _ => ws.length - (intOf i).toNat)
  case atStart => exact ⟨0, none, 0, 0, Nat.zero_le _, rfl, rfl, hide ⟨OwnS.nil _ _, Below.refl _ _⟩⟩
  case round =>
    obtain ⟨k, a1, m1, c1, hk, rfl, rfl, HT⟩ := hrel
    by_cases hlt : k < ws.length
    · obtain ⟨b, off, rfl, hcl⟩ := ((unhide HW).below (unhide HT).2).at hlt
      have hcell := hcl k hlt
      have hlt' : (k : Int) < (ws.length : Int) := by omega
      have HN := hide (sel_take (dd := .dflt) rs ws k hlt)
      have hlen : (selL .dflt rs (ws.take k)).length ≤ 300 := by
        have h1 := selL_len (dd := .dflt) rs (ws.take k)
        have h2 := List.length_take_le k ws
        omega
      generalize ws.getD k 0 = i at *
      generalize hQ : selL .dflt rs (ws.take k) = us at *
      clear hcl hQ
      by_cases h0 : 0 ≤ i
      · by_cases h1 : i < (rs.length : Int)
        · obtain ⟨j, rfl⟩ : ∃ j : Nat, i = (j : Int) := ⟨i.toNat, by omega⟩
          have hj : j < rs.length := by omega
          obtain ⟨b2, off2, rfl, hcl2⟩ := ((unhide HR).below (unhide HT).2).at hj
          obtain ⟨hc0, hc1⟩ := hcl2 j hj
          have HE := hide (show selL .dflt rs (ws.take (k + 1)) = us ++ [rs.getD j .dflt] from by rw [unhide HN, if_pos ⟨h0, h1⟩]; rfl)
          clear HN hcl2
          generalize rs.getD j .dflt = r at *
          go_wp2_with (first | (at_builtin; refine wpList_pushS rfl (.tmp 27) (.tmp 35) rfl W.heap.size (.slice a1 m1 c1) us r rfl rfl (unhide HT).1 (unhide HT).2.size (by omega) ?_; intro v4 w4 ho4 hg4 hb4; obtain ⟨a4, m4, c4, rfl⟩ : ∃ a m c, v4 = Value.slice a m c := ⟨_, _, _, ho4.shape.choose_spec.choose_spec⟩; have HT4 := hide (And.intro ho4 ((unhide HT).2.trans hb4)); clear ho4 hg4 hb4))
          go_roundw
          case rel => exact ⟨k + 1, a4, m4, c4, by omega, by go_num, rfl, hide (by rw [unhide HE]; exact unhide HT4)⟩
          case measure => simp [intOf]; omega
        · have HE := hide (show selL .dflt rs (ws.take (k + 1)) = us from by rw [unhide HN, if_neg (fun e => h1 e.2)])
          clear HN
          go_wp2
          go_roundw
          case rel => exact ⟨k + 1, a1, m1, c1, by omega, by go_num, rfl, hide (by rw [unhide HE]; exact unhide HT)⟩
          case measure => simp [intOf]; omega
      · have HE := hide (show selL .dflt rs (ws.take (k + 1)) = us from by rw [unhide HN, if_neg (fun e => h0 e.1)])
        clear HN
        go_wp2
        go_roundw
        case rel => exact ⟨k + 1, a1, m1, c1, by omega, by go_num, rfl, hide (by rw [unhide HE]; exact unhide HT)⟩
        case measure => simp [intOf]; omega
    · have hke : ws.take k = ws := List.take_of_length_le (by omega)
      rw [hke] at HT
      have hsub : ∀ r ∈ selL .dflt rs ws, r ∈ rs := fun r hr => selL_mem hr
      have HS2 := hide (short_sub (unhide HS) hsub)
      have hin := ((unhide HRI).sub hsub).below (unhide HT).2
      have hlen : (selL .dflt rs ws).length ≤ 300 := by have h1 := selL_len (dd := .dflt) rs ws; omega
      obtain ⟨hr1, hm1, _, _⟩ := (unhide HT).1.at' hin
      have HC := hide (rrow_any a1 m1 c1 (selL .dflt rs ws) wr hr1 (unhide HS2) (by omega))
      have HX1 := hide ((unhide HX).below (unhide HT).2)
      have HB1 := hide ((unhide HB0).trans ((unhide HT).2.mono (by have := unhide HSZ; omega)))
      have hz1 : w.heap.size + 1 ≤ wr.heap.size := by have h1 := unhide HSZ; have h2 := (unhide HT).2.size; omega
      clear hke hsub hin hr1 hm1 HT HX HB0 HSZ HRI HS HR HW
      go_wp2_with (go_at_call 80; refine (unhide HC).mono ?_; rintro e w3 ⟨v, rfl, ho3, hb3⟩; obtain ⟨a2, m2, c2, rfl⟩ : ∃ a m c, v = Value.slice a m c := (by obtain ⟨a, c, e, _⟩ := ho3.row; exact ⟨a, _, c, e⟩); obtain ⟨⟨x0, x1⟩, f0, f1⟩ := (unhide HX1).below hb3; have HB3 := hide (below0 (unhide HB1) hb3); have HO3 := hide ho3; clear ho3 hb3 HC)
      have y1 := World.cell?_setCell_same (w3.setCell ⟨w.heap.size, 0, none⟩ (.slice a2 m2 c2)) ⟨w.heap.size, 1, none⟩ (.string (st (sumL ((selL .dflt rs ws).map fun r => r.s)))) ((World.cell?_setCell_other (h := by simp) ..).trans x1)
      have y0 : ((w3.setCell ⟨w.heap.size, 0, none⟩ (.slice a2 m2 c2)).setCell ⟨w.heap.size, 1, none⟩ (.string (st (sumL ((selL .dflt rs ws).map fun r => r.s))))).cell? ⟨w.heap.size, 0, none⟩ = some (.slice a2 m2 c2) :=
        (World.cell?_setCell_other (h := by simp) ..).trans (World.cell?_setCell_same _ _ _ x0)
      exact bodyPost_ret (v := .agg #[.slice a2 m2 c2, .string (st (sumL ((selL .dflt rs ws).map fun r => r.s)))]) (by simp [results, Tryz.results63, go_sem, y0, y1]) rfl
        ⟨_, rfl, (((unhide HO3).other (g := w.heap.size) 0 _ (by omega)).other (g := w.heap.size) 1 _ (by omega)).mono (by omega), ((unhide HB3).setCell (Nat.le_refl _) _).setCell (Nat.le_refl _) _⟩

theorem field_row (a : Option Addr) (n c : Nat) (s : ByteArray) (w : World) : (Instr.field 40 (.agg #[.slice a n c, .string s]) 0).run Tryz.prog w = .ok (.slice a n c) w := by kernel_rfl
/-- The degree of the xor at the places. -/
def degL18 (rs : List RV) (ws : List Int) : Nat := cnt (vecL (selL .dflt rs ws))
end Go.Proofs.YtmdmipojbeppiaaGreatDoor
