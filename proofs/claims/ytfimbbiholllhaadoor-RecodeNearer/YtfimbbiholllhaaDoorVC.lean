/-
  Contract of recode.at at rows: what stands at the places. Conditions: at most 300 rows, at most 300 places.
-/
import Derived.Test.YtfimbbiholllhaaDoorM5
import Derived.Test.YtfimbbiholllhaaDoorM4
import Derived.Test.YtfimbbiholllhaaDoorM3
namespace Go.Proofs.YtfimbbiholllhaaDoor
open Go.RowKit
set_option linter.unusedVariables false
set_option maxRecDepth 4000

/-- How often each place is named, in memory: the first block that is made. -/
def TimS (w wr : World) (n : Nat) (c : List Nat) : Prop := OwnZ wr w.heap.size (.slice (some ⟨w.heap.size, 0, none⟩) n n) (castZ c) ∧ Below w.heap.size w wr ∧ w.heap.size < wr.heap.size
theorem TimS.new (w : World) (n : Nat) (hn : n ≤ 1048576) : TimS w (w.alloc (.cells (madeCells #[.int .i64 0] n) 3)) n (List.replicate n 0) :=
  ⟨made_intz w n hn _ (by simp [castZ]), (Below.refl _ _).alloc (Nat.le_refl _) _, by simp⟩
theorem TimS.cell {w wr : World} {n : Nat} {c : List Nat} (h : TimS w wr n c) (hl : c.length = n) {i : Nat} (hi : i < n) : wr.cell? ⟨w.heap.size, i, none⟩ = some (.int .i64 ((c.getD i 0 : Nat) : Int)) ∧ wr.frozen? ⟨w.heap.size, i, none⟩ = false := by
  obtain ⟨g, cap, e, _, _, h1, h2⟩ := h.1.at (by rw [castZ_length]; omega)
  simp only [Value.slice.injEq, Option.some.injEq, Addr.mk.injEq] at e
  obtain ⟨⟨rfl, _⟩, _⟩ := e
  exact ⟨by rw [h1 i (by rw [castZ_length]; omega), castZ_getD], h2 i⟩
theorem castZ_set (c : List Nat) (i x : Nat) : (castZ c).set i ((x : Nat) : Int) = castZ (c.set i x) := by unfold castZ; rw [List.map_set]
theorem TimS.more {w wr : World} {n : Nat} {c : List Nat} (h : TimS w wr n c) (i x : Nat) : TimS w (wr.setCell ⟨w.heap.size, i, none⟩ (.int .i64 ((x : Nat) : Int))) n (c.set i x) := by
  refine ⟨?_, h.2.1.setCell (p := ⟨w.heap.size, i, none⟩) (Nat.le_refl _) _, by rw [World.size_setCell]; exact h.2.2⟩
  have := h.1.stored i ((x : Nat) : Int)
  rwa [castZ_set] at this
theorem times_take (n : Nat) (ws : List Int) (k : Nat) (hk : k < ws.length) : timesL n (ws.take (k + 1)) = if 0 ≤ ws.getD k 0 ∧ ws.getD k 0 < (n : Int) then (timesL n (ws.take k)).set (ws.getD k 0).toNat ((timesL n (ws.take k)).getD (ws.getD k 0).toNat 0 + 1) else timesL n (ws.take k) := by
  have e : ws.take (k + 1) = ws.take k ++ [ws.getD k 0] := by
    rw [List.take_succ_eq_append_getElem hk]
    simp [List.getD_eq_getElem?_getD, List.getElem?_eq_getElem hk]
  rw [e, times_snoc]
theorem rem_two (x : Nat) : (((x : Nat) : Int).tmod 2 == 0) = decide (x % 2 = 0) := by
  have : ((x : Nat) : Int).tmod 2 = ((x % 2 : Nat) : Int) := (Int.ofNat_tmod x 2).symm
  rw [this]
  by_cases h : x % 2 = 0
  · rw [h]; rfl
  · have h1 : x % 2 = 1 := by omega
    rw [h1]; rfl

set_option maxHeartbeats 4000000 in
theorem atR_any (a : Option Addr) (n c : Nat) (rs : List RV) (a' : Option Addr) (m c' : Nat) (ws : List Int) (w : World) (h : RowsAt w a n rs) (hw : IntzAt w a' m ws) (hn : n ≤ 300) (hm : m ≤ 300) :
    Calls Tryd.prog 31 #[.slice a n c, .slice a' m c'] w fun e w' => ∃ v, e = .returned v ∧ OwnS w' w.heap.size v (atL .dflt rs ws) ∧ Below w.heap.size w w' := by
  obtain rfl := h.1
  obtain rfl := hw.1
  have hmk := make_intz rs.length (by omega) w
  have HS := hide (TimS.new w rs.length (by omega))
  have Hh := hide h
  have HW := hide hw
  clear h hw
  go_enter Tryd.func31, Tryd.ntmps31
  go_wp2
  go_loopw [16] (fun i wr => ∃ k : Nat, k ≤ ws.length ∧ i = .int .i64 k ∧ Hid (TimS w wr rs.length (timesL rs.length (ws.take k)))) (fun i _ => ws.length - (intOf i).toNat)
  case atStart => exact ⟨0, Nat.zero_le _, rfl, HS⟩
  case round =>
    obtain ⟨k, hk, rfl, HT⟩ := hrel
    clear HS
    by_cases hlt : k < ws.length
    · obtain ⟨b, off, rfl, hcl⟩ := ((unhide HW).below (unhide HT).2.1).at hlt
      have hcell := hcl k hlt
      have hlt' : (k : Int) < (ws.length : Int) := by omega
      have HN := hide (times_take rs.length ws k hlt)
      have HL := hide (times_le rs.length (ws.take k))
      have HLN := hide (times_len rs.length (ws.take k))
      generalize ws.getD k 0 = i at *
      generalize hQ : timesL rs.length (ws.take k) = q at *
      clear hcl hQ
      by_cases h0 : 0 ≤ i
      · by_cases h1 : i < (rs.length : Int)
        · obtain ⟨j, rfl⟩ : ∃ j : Nat, i = (j : Int) := ⟨i.toNat, by omega⟩
          have hj : j < rs.length := by omega
          obtain ⟨hc2, hf2⟩ := (unhide HT).cell (unhide HLN) hj
          have hle : q.getD j 0 ≤ 300 := by
            have h5 := unhide HL j
            have h6 := List.length_take_le k ws
            omega
          have HE := hide (show timesL rs.length (ws.take (k + 1)) = q.set j (q.getD j 0 + 1) from by rw [unhide HN, if_pos ⟨h0, h1⟩]; rfl)
          generalize q.getD j 0 = x at *
          clear HN HL
          go_wp2
          go_roundw
          case rel => exact ⟨k + 1, by omega, by go_num, hide (by rw [unhide HE]; exact (unhide HT).more j (x + 1))⟩
          case measure => simp [intOf]; omega
        · have HE := hide (show timesL rs.length (ws.take (k + 1)) = q from by rw [unhide HN, if_neg (fun e => h1 e.2)])
          clear HN HL
          go_wp2
          go_roundw
          case rel => exact ⟨k + 1, by omega, by go_num, hide (by rw [unhide HE]; exact unhide HT)⟩
          case measure => simp [intOf]; omega
      · have HE := hide (show timesL rs.length (ws.take (k + 1)) = q from by rw [unhide HN, if_neg (fun e => h0 e.1)])
        clear HN HL
        go_wp2
        go_roundw
        case rel => exact ⟨k + 1, by omega, by go_num, hide (by rw [unhide HE]; exact unhide HT)⟩
        case measure => simp [intOf]; omega
    · have hke : ws.take k = ws := List.take_of_length_le (by omega)
      rw [hke] at HT
      obtain ⟨wo, rfl⟩ : ∃ wo, wo = wr := ⟨wr, rfl⟩
      have HLN := hide (times_len rs.length ws)
      have HLE := hide (times_le rs.length ws)
      have HAL := hide (show atTo .dflt rs (timesL rs.length ws) rs.length = atL .dflt rs ws from rfl)
      generalize timesL rs.length ws = q at *
      have HC := hide (fun (wx : World) (hb : Below (w.heap.size + 1) wo wx) (t : Nat) (ht : t < rs.length) => (hb.cell (p := ⟨w.heap.size, t, none⟩) (Nat.lt_succ_self _)).trans ((unhide HT).cell (unhide HLN) ht).1)
      have HB0 := hide (unhide HT).2.1
      have hs0 := (unhide HT).2.2
      clear HT hke HW
      go_wp2
      go_loopw [8, 37] (fun o i wx => ∃ t : Nat, ∃ a1 : Option Addr, ∃ m1 c1 : Nat, t ≤ rs.length ∧ i = .int .i64 t ∧ o = .slice a1 m1 c1 ∧ Hid (OwnS wx (w.heap.size + 1) (.slice a1 m1 c1) (atTo .dflt rs q t) ∧ Below (w.heap.size + 1) wo wx)) (fun _ i _ => rs.length - (intOf i).toNat)
      case atStart => exact ⟨0, none, 0, 0, Nat.zero_le _, rfl, rfl, hide ⟨OwnS.nil _ _, Below.refl _ _⟩⟩
      case round =>
        obtain ⟨t, a1, m1, c1, ht, rfl, rfl, HR⟩ := hrel
        by_cases htn : t < rs.length
        · have hcell := unhide HC _ (unhide HR).2 t htn
          have hR := (unhide HB0).trans ((unhide HR).2.mono (Nat.le_succ _))
          obtain ⟨b, off, rfl, hcl⟩ := (unhide Hh).at htn
          have hbl : b < w.heap.size := World.block_lt_of_cell? w _ (hcl t htn).1
          have hc0 := (hR.cell (p := ⟨b, off + t * 2, none⟩) hbl).trans (hcl t htn).1
          have hc1 := (hR.cell (p := ⟨b, off + t * 2 + 1, none⟩) hbl).trans (hcl t htn).2
          have htn' : (t : Int) < (rs.length : Int) := by omega
          have hsz : w.heap.size + 1 ≤ wr.heap.size := Nat.le_trans hs0 (unhide HR).2.size
          have hlen : (atTo .dflt rs q t).length ≤ 600 := by
            have : ∀ t, (atTo .dflt rs q t).length ≤ 2 * t := fun t => by
              induction t with
              | zero => exact Nat.zero_le _
              | succ t ih =>
                by_cases z : q.getD t 0 = 0
                · rw [atTo_no z]; omega
                · by_cases z2 : q.getD t 0 % 2 = 0
                  · rw [atTo_even z z2]; simp only [List.length_append, List.length_singleton]; omega
                  · rw [atTo_odd z z2]; simp only [List.length_append, List.length_singleton]; omega
            have := this t
            omega
          clear hR hcl
          have HNO := hide (fun h => atTo_no (dd := .dflt) (l := rs) (c := q) (k := t) h)
          have HEV := hide (fun h h2 => atTo_even (dd := .dflt) (l := rs) (c := q) (k := t) h h2)
          have HOD := hide (fun h h2 => atTo_odd (dd := .dflt) (l := rs) (c := q) (k := t) h h2)
          have hx3 := unhide HLE t
          generalize q.getD t 0 = x at *
          generalize rs.getD t .dflt = r at *
          generalize hT : atTo .dflt rs q t = us at *
          by_cases z : x = 0
          · subst z
            have HE := hide (unhide HNO rfl)
            clear HNO HEV HOD
            go_wp2
            go_roundw
            case rel => exact ⟨t + 1, a1, m1, c1, by omega, by go_num, rfl, hide (by rw [unhide HE]; exact unhide HR)⟩
            case measure => simp [intOf]; omega
          · have z' : ¬ ((x : Int) = 0) := by omega
            by_cases z2 : x % 2 = 0
            · have HE := hide (unhide HEV z z2)
              clear HNO HEV HOD
              have hrem : ((x : Nat) : Int).tmod 2 = 0 := by rw [show ((x : Nat) : Int).tmod 2 = ((x % 2 : Nat) : Int) from (Int.ofNat_tmod x 2).symm]; omega
              go_wp2_with (first | (at_builtin; refine wpList_pushS rfl (.tmp 44) (.tmp 49) rfl (w.heap.size + 1) (.slice a1 m1 c1) us r rfl rfl (unhide HR).1 hsz (by omega) ?_; intro v4 w4 ho4 hg4 hb4; obtain ⟨a4, m4, c4, rfl⟩ : ∃ a m c, v4 = Value.slice a m c := ⟨_, _, _, ho4.shape.choose_spec.choose_spec⟩; have HR4 := hide (And.intro ho4 ((unhide HR).2.trans hb4)); have hd0 := (hb4.cell (p := ⟨b, off + t * 2, none⟩) (Nat.lt_succ_of_lt hbl)).trans hc0; have hd1 := (hb4.cell (p := ⟨b, off + t * 2 + 1, none⟩) (Nat.lt_succ_of_lt hbl)).trans hc1; clear ho4 hg4 hb4) | (at_builtin; refine wpList_pushS rfl (.tmp 54) (.tmp 59) rfl (w.heap.size + 1) (.slice a4 m4 c4) (us ++ [r]) r rfl rfl (unhide HR4).1 (Nat.le_trans hs0 (unhide HR4).2.size) (by simp; omega) ?_; intro v5 w5 ho5 hg5 hb5; obtain ⟨a5, m5, c5, rfl⟩ : ∃ a m c, v5 = Value.slice a m c := ⟨_, _, _, ho5.shape.choose_spec.choose_spec⟩; have HR5 := hide (And.intro ho5 ((unhide HR4).2.trans hb5)); clear ho5 hg5 hb5))
              go_roundw
              case rel => exact ⟨t + 1, a5, m5, c5, by omega, by go_num, rfl, hide (by rw [unhide HE]; exact unhide HR5)⟩
              case measure => simp [intOf]; omega
            · have HE := hide (unhide HOD z z2)
              clear HNO HEV HOD
              have hrem : ¬ ((x : Nat) : Int).tmod 2 = 0 := by rw [show ((x : Nat) : Int).tmod 2 = ((x % 2 : Nat) : Int) from (Int.ofNat_tmod x 2).symm]; omega
              go_wp2_with (first | (at_builtin; refine wpList_pushS rfl (.tmp 44) (.tmp 49) rfl (w.heap.size + 1) (.slice a1 m1 c1) us r rfl rfl (unhide HR).1 hsz (by omega) ?_; intro v4 w4 ho4 hg4 hb4; obtain ⟨a4, m4, c4, rfl⟩ : ∃ a m c, v4 = Value.slice a m c := ⟨_, _, _, ho4.shape.choose_spec.choose_spec⟩; have HR4 := hide (And.intro ho4 ((unhide HR).2.trans hb4)); clear ho4 hg4 hb4))
              go_roundw
              case rel => exact ⟨t + 1, a4, m4, c4, by omega, by go_num, rfl, hide (by rw [unhide HE]; exact unhide HR4)⟩
              case measure => simp [intOf]; omega
        · obtain rfl : t = rs.length := by omega
          rw [unhide HAL] at HR
          go_wp2
          go_ret
          exact ⟨_, rfl, (unhide HR).1.mono (Nat.le_succ _), (unhide HB0).trans ((unhide HR).2.mono (Nat.le_succ _))⟩
end Go.Proofs.YtfimbbiholllhaaDoor
