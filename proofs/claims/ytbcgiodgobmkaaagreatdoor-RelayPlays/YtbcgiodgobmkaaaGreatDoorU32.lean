/-
  Contracts of bucketlineref18.sum, both Degree: the xor of the rows at the places, and its degree. Conditions: at most 300 rows of at most 10 words and 1000 bytes, at most 300 places.
  Contract of recode.at at packets: what stands at the places. Conditions: at most 300 packets, at most 300 places.
-/
import Derived.Test.YtbcgiodgobmkaaaGreatDoorU30
import Derived.Test.YtbcgiodgobmkaaaGreatDoorXI
import Derived.Test.YtbcgiodgobmkaaaGreatDoorU8
namespace Go.Proofs.YtbcgiodgobmkaaaGreatDoor
open Go.RowKit
set_option linter.unusedVariables false
set_option linter.unusedSimpArgs false
set_option maxRecDepth 4000

theorem short_mem {rs : List RV} (h : shortR rs) {r : RV} (hr : r ∈ rs) : r.n ≤ 10 ∧ r.s.size ≤ 1000 := by
  obtain ⟨i, hi, rfl⟩ := List.mem_iff_getElem.1 hr
  have := h i
  rwa [List.getD_eq_getElem?_getD, List.getElem?_eq_getElem hi] at this
theorem short_of {rs : List RV} (h : ∀ r ∈ rs, r.n ≤ 10 ∧ r.s.size ≤ 1000) : shortR rs := fun i => by
  by_cases hi : i < rs.length
  · rw [List.getD_eq_getElem?_getD, List.getElem?_eq_getElem hi]
    exact h _ (List.getElem_mem hi)
  · rw [List.getD_eq_getElem?_getD, List.getElem?_eq_none (by omega)]
    exact ⟨Nat.zero_le _, Nat.zero_le _⟩
theorem short_sub {rs us : List RV} (h : shortR rs) (hs : ∀ r ∈ us, r ∈ rs) : shortR us := short_of fun r hr => short_mem h (hs r hr)
theorem RowsIn.sub {w : World} {rs us : List RV} (h : RowsIn w rs) (hs : ∀ r ∈ us, r ∈ rs) : RowsIn w us := fun r hr => h r (hs r hr)
theorem sel_take {α : Type} {dd : α} (l : List α) (ws : List Int) (k : Nat) (hk : k < ws.length) : selL dd l (ws.take (k + 1)) = if 0 ≤ ws.getD k 0 ∧ ws.getD k 0 < (l.length : Int) then selL dd l (ws.take k) ++ [l.getD (ws.getD k 0).toNat dd] else selL dd l (ws.take k) := by
  have e : ws.take (k + 1) = ws.take k ++ [ws.getD k 0] := by
    rw [List.take_succ_eq_append_getElem hk]
    simp [List.getD_eq_getElem?_getD, List.getElem?_eq_getElem hk]
  rw [e, selL_snoc]
theorem vecs_short {rs : List RV} {w : World} (hr : RowsIn w rs) (h : shortR rs) : (vecL rs).length ≤ 10 := vecL_len rs fun r hm => by rw [(hr r hm).1.1]; exact (short_mem h hm).1

set_option maxHeartbeats 4000000 in
theorem rsum18_any (a : Option Addr) (n c : Nat) (rs : List RV) (a' : Option Addr) (m c' : Nat) (ws : List Int) (w : World) (h : RowsAt w a n rs) (hcap : CapR rs) (hs : shortR rs) (hw : IntzAt w a' m ws) (hn : n ≤ 300) (hm : m ≤ 300) :
    Calls Tryz.prog 55 #[.slice a n c, .slice a' m c'] w fun e w' => ∃ v, e = .returned (.agg #[v, .string (st (sumL ((selL .dflt rs ws).map fun r => r.s)))]) ∧ Own w' w.heap.size v (vecL (selL .dflt rs ws)) ∧ Below w.heap.size w w' := by
  obtain rfl := h.1
  obtain rfl := hw.1
  have hb0 := (Below.refl w.heap.size w).alloc (Nat.le_refl _) (.cells #[.slice none 0 0, .string ⟨#[]⟩] 40)
  have hX := boxW_new w (.slice none 0 0) (.string ⟨#[]⟩)
  have hsz : (w.alloc (.cells #[.slice none 0 0, .string ⟨#[]⟩] 40)).heap.size = w.heap.size + 1 := by simp
  have hR := h.below hb0
  have HW := hide (hw.below hb0)
  generalize hWW : w.alloc (.cells #[.slice none 0 0, .string ⟨#[]⟩] 40) = W at *
  have HR := hide hR
  have HX := hide hX
  have HB0 := hide hb0
  have HSZ := hide hsz
  have HRI := hide (RowsIn.of hR hcap)
  have HS := hide hs
  clear h hw hR hX hb0 hsz hs hcap
  go_enter Tryz.func55, Tryz.ntmps55
  go_wp2
  clear hWW
  go_loopw [5, 6] (fun o i wr => ∃ k : Nat, ∃ a1 : Option Addr, ∃ m1 c1 : Nat, k ≤ ws.length ∧ i = .int .i64 k ∧ o = .slice a1 m1 c1 ∧ Hid (OwnS wr W.heap.size (.slice a1 m1 c1) (selL .dflt rs (ws.take k)) ∧ Below W.heap.size W wr)) (fun _ i _ => ws.length - (intOf i).toNat)
  case atStart => exact ⟨0, none, 0, 0, Nat.zero_le _, rfl, rfl, hide ⟨OwnS.nil _ _, Below.refl _ _⟩⟩
  case round =>
    obtain ⟨k, a1, m1, c1, hk, rfl, rfl, HT⟩ := hrel
    by_cases hlt : k < ws.length
    · obtain ⟨b, off, rfl, hcl⟩ := ((unhide HW).below (unhide HT).2).at hlt
      have hcell := hcl k hlt
      have hlt' : (k : Int) < (ws.length : Int) := by omega
      have HN := hide (sel_take (dd := .dflt) rs ws k hlt)
      have hlen : (selL .dflt rs (ws.take k)).length ≤ 300 := by
        have h1 := selL_len (dd := .dflt) rs (ws.take k)
        have h2 := List.length_take_le k ws
        omega
      generalize ws.getD k 0 = i at *
      generalize hQ : selL .dflt rs (ws.take k) = us at *
      clear hcl hQ
      by_cases h0 : 0 ≤ i
      · by_cases h1 : i < (rs.length : Int)
        · obtain ⟨j, rfl⟩ : ∃ j : Nat, i = (j : Int) := ⟨i.toNat, by omega⟩
          have hj : j < rs.length := by omega
          obtain ⟨b2, off2, rfl, hcl2⟩ := ((unhide HR).below (unhide HT).2).at hj
          obtain ⟨hc0, hc1⟩ := hcl2 j hj
          have HE := hide (show selL .dflt rs (ws.take (k + 1)) = us ++ [rs.getD j .dflt] from by rw [unhide HN, if_pos ⟨h0, h1⟩]; rfl)
          clear HN hcl2
          generalize rs.getD j .dflt = r at *
          go_wp2_with (first | (at_builtin; refine wpList_pushS rfl (.tmp 27) (.tmp 35) rfl W.heap.size (.slice a1 m1 c1) us r rfl rfl (unhide HT).1 (unhide HT).2.size (by omega) ?_; intro v4 w4 ho4 hg4 hb4; obtain ⟨a4, m4, c4, rfl⟩ : ∃ a m c, v4 = Value.slice a m c := ⟨_, _, _, ho4.shape.choose_spec.choose_spec⟩; have HT4 := hide (And.intro ho4 ((unhide HT).2.trans hb4)); clear ho4 hg4 hb4))
          go_roundw
          case rel => exact ⟨k + 1, a4, m4, c4, by omega, by go_num, rfl, hide (by rw [unhide HE]; exact unhide HT4)⟩
          case measure => simp [intOf]; omega
        · have HE := hide (show selL .dflt rs (ws.take (k + 1)) = us from by rw [unhide HN, if_neg (fun e => h1 e.2)])
          clear HN
          go_wp2
          go_roundw
          case rel => exact ⟨k + 1, a1, m1, c1, by omega, by go_num, rfl, hide (by rw [unhide HE]; exact unhide HT)⟩
          case measure => simp [intOf]; omega
      · have HE := hide (show selL .dflt rs (ws.take (k + 1)) = us from by rw [unhide HN, if_neg (fun e => h0 e.1)])
        clear HN
        go_wp2
        go_roundw
        case rel => exact ⟨k + 1, a1, m1, c1, by omega, by go_num, rfl, hide (by rw [unhide HE]; exact unhide HT)⟩
        case measure => simp [intOf]; omega
    · have hke : ws.take k = ws := List.take_of_length_le (by omega)
      rw [hke] at HT
      have hsub : ∀ r ∈ selL .dflt rs ws, r ∈ rs := fun r hr => selL_mem hr
      have HS2 := hide (short_sub (unhide HS) hsub)
      have hin := ((unhide HRI).sub hsub).below (unhide HT).2
      have hlen : (selL .dflt rs ws).length ≤ 300 := by have h1 := selL_len (dd := .dflt) rs ws; omega
      obtain ⟨hr1, hm1, _, _⟩ := (unhide HT).1.at' hin
      have HC := hide (rrow_any a1 m1 c1 (selL .dflt rs ws) wr hr1 (unhide HS2) (by omega))
      have HX1 := hide ((unhide HX).below (unhide HT).2)
      have HB1 := hide ((unhide HB0).trans ((unhide HT).2.mono (by have := unhide HSZ; omega)))
      have hz1 : w.heap.size + 1 ≤ wr.heap.size := by have h1 := unhide HSZ; have h2 := (unhide HT).2.size; omega
      clear hke hsub hin hr1 hm1 HT HX HB0 HSZ HRI HS HR HW
      go_wp2_with (go_at_call 72; refine (unhide HC).mono ?_; rintro e w3 ⟨v, rfl, ho3, hb3⟩; obtain ⟨a2, m2, c2, rfl⟩ : ∃ a m c, v = Value.slice a m c := (by obtain ⟨a, c, e, _⟩ := ho3.row; exact ⟨a, _, c, e⟩); obtain ⟨⟨x0, x1⟩, f0, f1⟩ := (unhide HX1).below hb3; have HB3 := hide (below0 (unhide HB1) hb3); have HO3 := hide ho3; clear ho3 hb3 HC)
      have y1 := World.cell?_setCell_same (w3.setCell ⟨w.heap.size, 0, none⟩ (.slice a2 m2 c2)) ⟨w.heap.size, 1, none⟩ (.string (st (sumL ((selL .dflt rs ws).map fun r => r.s)))) ((World.cell?_setCell_other (h := by simp) ..).trans x1)
      have y0 : ((w3.setCell ⟨w.heap.size, 0, none⟩ (.slice a2 m2 c2)).setCell ⟨w.heap.size, 1, none⟩ (.string (st (sumL ((selL .dflt rs ws).map fun r => r.s))))).cell? ⟨w.heap.size, 0, none⟩ = some (.slice a2 m2 c2) :=
        (World.cell?_setCell_other (h := by simp) ..).trans (World.cell?_setCell_same _ _ _ x0)
      exact bodyPost_ret (v := .agg #[.slice a2 m2 c2, .string (st (sumL ((selL .dflt rs ws).map fun r => r.s)))]) (by simp [results, Tryz.results55, go_sem, y0, y1]) rfl
        ⟨_, rfl, (((unhide HO3).other (g := w.heap.size) 0 _ (by omega)).other (g := w.heap.size) 1 _ (by omega)).mono (by omega), ((unhide HB3).setCell (Nat.le_refl _) _).setCell (Nat.le_refl _) _⟩

end Go.Proofs.YtbcgiodgobmkaaaGreatDoor
namespace Go.Proofs.YtbcgiodgobmkaaaGreatDoor
open Go.RowKit
set_option linter.unusedVariables false
set_option linter.unusedSimpArgs false
set_option maxRecDepth 4000

theorem OwnP.grownLow {w w' : World} {B : Nat} {v : Value} {ps : List PKV} (h : OwnP w B v ps) (hg : w.grownBy w' v.ownBlock) (hB : B ≤ w.heap.size) : Below B w w' := gb_below hg hB fun k hk => (World.ownsRow.lt h k hk).1

set_option maxHeartbeats 4000000 in
theorem atP_any (a : Option Addr) (n c : Nat) (ps : List PKV) (a' : Option Addr) (m c' : Nat) (ws : List Int) (w : World) (h : PksAt w a n ps) (hw : IntzAt w a' m ws) (hn : n ≤ 300) (hm : m ≤ 300) :
    Calls Tryz.prog 48 #[.slice a n c, .slice a' m c'] w fun e w' => ∃ v, e = .returned v ∧ OwnP w' w.heap.size v (atL .dflt ps ws) ∧ Below w.heap.size w w' := by
  obtain rfl := h.1
  obtain rfl := hw.1
  have hmk := make_intz ps.length (by omega) w
  have HS := hide (TimS.new w ps.length (by omega))
  have Hh := hide h
  have HW := hide hw
  clear h hw
  go_enter Tryz.func48, Tryz.ntmps48
  go_wp2
  go_loopw [16] (fun i wr => ∃ k : Nat, k ≤ ws.length ∧ i = .int .i64 k ∧ Hid (TimS w wr ps.length (timesL ps.length (ws.take k)))) (fun i _ => ws.length - (intOf i).toNat)
  case atStart => exact ⟨0, Nat.zero_le _, rfl, HS⟩
  case round =>
    obtain ⟨k, hk, rfl, HT⟩ := hrel
    clear HS
    by_cases hlt : k < ws.length
    · obtain ⟨b, off, rfl, hcl⟩ := ((unhide HW).below (unhide HT).2.1).at hlt
      have hcell := hcl k hlt
      have hlt' : (k : Int) < (ws.length : Int) := by omega
      have HN := hide (times_take ps.length ws k hlt)
      have HL := hide (times_le ps.length (ws.take k))
      have HLN := hide (times_len ps.length (ws.take k))
      generalize ws.getD k 0 = i at *
      generalize hQ : timesL ps.length (ws.take k) = q at *
      clear hcl hQ
      by_cases h0 : 0 ≤ i
      · by_cases h1 : i < (ps.length : Int)
        · obtain ⟨j, rfl⟩ : ∃ j : Nat, i = (j : Int) := ⟨i.toNat, by omega⟩
          have hj : j < ps.length := by omega
          obtain ⟨hc2, hf2⟩ := (unhide HT).cell (unhide HLN) hj
          have hle : q.getD j 0 ≤ 300 := by
            have h5 := unhide HL j
            have h6 := List.length_take_le k ws
            omega
          have HE := hide (show timesL ps.length (ws.take (k + 1)) = q.set j (q.getD j 0 + 1) from by rw [unhide HN, if_pos ⟨h0, h1⟩]; rfl)
          generalize q.getD j 0 = x at *
          clear HN HL
          go_wp2
          go_roundw
          case rel => exact ⟨k + 1, by omega, by go_num, hide (by rw [unhide HE]; exact (unhide HT).more j (x + 1))⟩
          case measure => simp [intOf]; omega
        · have HE := hide (show timesL ps.length (ws.take (k + 1)) = q from by rw [unhide HN, if_neg (fun e => h1 e.2)])
          clear HN HL
          go_wp2
          go_roundw
          case rel => exact ⟨k + 1, by omega, by go_num, hide (by rw [unhide HE]; exact unhide HT)⟩
          case measure => simp [intOf]; omega
      · have HE := hide (show timesL ps.length (ws.take (k + 1)) = q from by rw [unhide HN, if_neg (fun e => h0 e.1)])
        clear HN HL
        go_wp2
        go_roundw
        case rel => exact ⟨k + 1, by omega, by go_num, hide (by rw [unhide HE]; exact unhide HT)⟩
        case measure => simp [intOf]; omega
    · have hke : ws.take k = ws := List.take_of_length_le (by omega)
      rw [hke] at HT
      obtain ⟨wo, rfl⟩ : ∃ wo, wo = wr := ⟨wr, rfl⟩
      have HLN := hide (times_len ps.length ws)
      have HLE := hide (times_le ps.length ws)
      have HAL := hide (show atTo .dflt ps (timesL ps.length ws) ps.length = atL .dflt ps ws from rfl)
      generalize timesL ps.length ws = q at *
      have HC := hide (fun (wx : World) (hb : Below (w.heap.size + 1) wo wx) (t : Nat) (ht : t < ps.length) => (hb.cell (p := ⟨w.heap.size, t, none⟩) (Nat.lt_succ_self _)).trans ((unhide HT).cell (unhide HLN) ht).1)
      have HB0 := hide (unhide HT).2.1
      have hs0 := (unhide HT).2.2
      clear HT hke HW
      go_wp2
      go_loopw [8, 37] (fun o i wx => ∃ t : Nat, ∃ a1 : Option Addr, ∃ m1 c1 : Nat, t ≤ ps.length ∧ i = .int .i64 t ∧ o = .slice a1 m1 c1 ∧ Hid (OwnP wx (w.heap.size + 1) (.slice a1 m1 c1) (atTo .dflt ps q t) ∧ Below (w.heap.size + 1) wo wx)) (fun _ i _ => ps.length - (intOf i).toNat)
      case atStart => exact ⟨0, none, 0, 0, Nat.zero_le _, rfl, rfl, hide ⟨OwnP.nil _ _, Below.refl _ _⟩⟩
      case round =>
        obtain ⟨t, a1, m1, c1, ht, rfl, rfl, HR⟩ := hrel
        by_cases htn : t < ps.length
        · have hcell := unhide HC _ (unhide HR).2 t htn
          have hR := (unhide HB0).trans ((unhide HR).2.mono (Nat.le_succ _))
          obtain ⟨b, off, rfl, hcl⟩ := (unhide Hh).at htn
          have hbl : b < w.heap.size := World.block_lt_of_cell? w _ (hcl t htn).1
          obtain ⟨hc0, hc1, hc2, hc3, hc4, hc5, hc6⟩ := (hcl t htn).belowB hR hbl
          have htn' : (t : Int) < (ps.length : Int) := by omega
          have hsz : w.heap.size + 1 ≤ wr.heap.size := Nat.le_trans hs0 (unhide HR).2.size
          have hlen : (atTo .dflt ps q t).length ≤ 600 := by
            have : ∀ t, (atTo .dflt ps q t).length ≤ 2 * t := fun t => by
              induction t with
              | zero => exact Nat.zero_le _
              | succ t ih =>
                by_cases z : q.getD t 0 = 0
                · rw [atTo_no z]; omega
                · by_cases z2 : q.getD t 0 % 2 = 0
                  · rw [atTo_even z z2]; simp only [List.length_append, List.length_singleton]; omega
                  · rw [atTo_odd z z2]; simp only [List.length_append, List.length_singleton]; omega
            have := this t
            omega
          clear hR hcl
          have HNO := hide (fun h => atTo_no (dd := .dflt) (l := ps) (c := q) (k := t) h)
          have HEV := hide (fun h h2 => atTo_even (dd := .dflt) (l := ps) (c := q) (k := t) h h2)
          have HOD := hide (fun h h2 => atTo_odd (dd := .dflt) (l := ps) (c := q) (k := t) h h2)
          have hx3 := unhide HLE t
          generalize q.getD t 0 = x at *
          generalize ps.getD t .dflt = p at *
          generalize hT : atTo .dflt ps q t = us at *
          by_cases z : x = 0
          · subst z
            have HE := hide (unhide HNO rfl)
            clear HNO HEV HOD
            go_wp2
            go_roundw
            case rel => exact ⟨t + 1, a1, m1, c1, by omega, by go_num, rfl, hide (by rw [unhide HE]; exact unhide HR)⟩
            case measure => simp [intOf]; omega
          · have z' : ¬ ((x : Int) = 0) := by omega
            by_cases z2 : x % 2 = 0
            · have HE := hide (unhide HEV z z2)
              clear HNO HEV HOD
              have hrem : ((x : Nat) : Int).tmod 2 = 0 := by rw [show ((x : Nat) : Int).tmod 2 = ((x % 2 : Nat) : Int) from (Int.ofNat_tmod x 2).symm]; omega
              go_wp2_with (first | (at_builtin; refine wpList_pushP rfl (.tmp 44) (.tmp 49) rfl (w.heap.size + 1) (.slice a1 m1 c1) us p rfl rfl (unhide HR).1 hsz (by omega) ?_; intro g4 c4 w4 ho4 hg4 _; have hb4 := OwnP.grownLow (unhide HR).1 hg4 hsz; obtain ⟨m4, hm4⟩ : ∃ m, m = us.length + 1 := ⟨_, rfl⟩; rw [← hm4] at ho4; rw [← hm4]; clear hm4; have HR4 := hide (And.intro ho4 ((unhide HR).2.trans hb4)); obtain ⟨hd0, hd1, hd2, hd3, hd4, hd5, hd6⟩ := PkCells.belowB (p := p) ⟨hc0, hc1, hc2, hc3, hc4, hc5, hc6⟩ hb4 (Nat.lt_succ_of_lt hbl); clear ho4 hg4 hb4) | (at_builtin; refine wpList_pushP rfl (.tmp 54) (.tmp 59) rfl (w.heap.size + 1) (.slice (some ⟨g4, 0, none⟩) m4 c4) (us ++ [p]) p rfl rfl (unhide HR4).1 (Nat.le_trans hs0 (unhide HR4).2.size) (by simp; omega) ?_; intro g5 c5 w5 ho5 hg5 _; have hb5 := OwnP.grownLow (unhide HR4).1 hg5 (Nat.le_trans hs0 (unhide HR4).2.size); obtain ⟨m5, hm5⟩ : ∃ m, m = (us ++ [p]).length + 1 := ⟨_, rfl⟩; rw [← hm5] at ho5; rw [← hm5]; clear hm5; have HR5 := hide (And.intro ho5 ((unhide HR4).2.trans hb5)); clear ho5 hg5 hb5))
              go_roundw
              case rel => exact ⟨t + 1, some ⟨g5, 0, none⟩, m5, c5, by omega, by go_num, rfl, hide (by rw [unhide HE]; exact unhide HR5)⟩
              case measure => simp [intOf]; omega
            · have HE := hide (unhide HOD z z2)
              clear HNO HEV HOD
              have hrem : ¬ ((x : Nat) : Int).tmod 2 = 0 := by rw [show ((x : Nat) : Int).tmod 2 = ((x % 2 : Nat) : Int) from (Int.ofNat_tmod x 2).symm]; omega
              go_wp2_with (first | (at_builtin; refine wpList_pushP rfl (.tmp 44) (.tmp 49) rfl (w.heap.size + 1) (.slice a1 m1 c1) us p rfl rfl (unhide HR).1 hsz (by omega) ?_; intro g4 c4 w4 ho4 hg4 _; have hb4 := OwnP.grownLow (unhide HR).1 hg4 hsz; obtain ⟨m4, hm4⟩ : ∃ m, m = us.length + 1 := ⟨_, rfl⟩; rw [← hm4] at ho4; rw [← hm4]; clear hm4; have HR4 := hide (And.intro ho4 ((unhide HR).2.trans hb4)); clear ho4 hg4 hb4))
              go_roundw
              case rel => exact ⟨t + 1, some ⟨g4, 0, none⟩, m4, c4, by omega, by go_num, rfl, hide (by rw [unhide HE]; exact unhide HR4)⟩
              case measure => simp [intOf]; omega
        · obtain rfl : t = ps.length := by omega
          rw [unhide HAL] at HR
          go_wp2
          go_ret
          exact ⟨_, rfl, (unhide HR).1.mono (Nat.le_succ _), (unhide HB0).trans ((unhide HR).2.mono (Nat.le_succ _))⟩
end Go.Proofs.YtbcgiodgobmkaaaGreatDoor
