/-
  Contract of choice.next: the row to be chosen now. Conditions: at most 300 rows of at most 10 words, a target from -2^40 to 2^40.
-/
import Derived.Test.YtmdmipojbeppiaaGreatDoorM16
import Derived.Test.YtmdmipojbeppiaaGreatDoorM2
namespace Go.Proofs.YtmdmipojbeppiaaGreatDoor
open Go.RowKit Go.Sort
set_option linter.unusedVariables false
set_option maxRecDepth 4000

/-- A place, or -1. -/
def nextZ : Option Nat → Int
  | none => -1
  | some b => b
def vecsR (rs : List RV) : List (List Nat) := rs.map fun r => r.xs
theorem vecsR_len (rs : List RV) : (vecsR rs).length = rs.length := by simp [vecsR]
theorem vecsR_get {rs : List RV} {i : Nat} (hi : i < rs.length) : (vecsR rs).getD i [] = (rs.getD i .dflt).xs := by
  unfold vecsR
  rw [List.getD_eq_getElem?_getD, List.getElem?_map, List.getElem?_eq_getElem hi, List.getD_eq_getElem?_getD, List.getElem?_eq_getElem hi]
  rfl
theorem near_pos (V : List (List Nat)) (ch : List Bool) (v : List Nat) (t : Int) : ∀ n, 0 ≤ (nearTo V ch v t n).2
  | 0 => distZ_pos _ _
  | n + 1 => by
    by_cases h : nearer V ch v t n (nearTo V ch v t n).2
    · rw [nearTo_yes h]; exact distZ_pos _ _
    · rw [nearTo_no h]; exact near_pos V ch v t n

set_option maxHeartbeats 8000000 in
theorem cnext_any (g : Nat) (L : List Int) (k : Nat) (sv : Value) (xs : List Nat) (a : Option Addr) (n c : Nat) (rs : List RV) (t : Int) (ch : List Bool) (ps : List Nat) (w : World) (h : CcAt w g L k sv xs (cnt xs)) (hr : RowsAt w a n rs) (hs : shortR rs) (hn : n ≤ 300) (hx : xs.length ≤ 10) (hk : k ≤ 32) (hC : Chn n ch ps) (hL : L.take k = castZ ps) (ht : -1099511627776 ≤ t ∧ t ≤ 1099511627776) :
    Calls Tryz.prog 52 #[.pointer (some ⟨g, 0, none⟩), .slice a n c, .int .i64 t] w fun e w' => e = .returned (.int .i64 (if k = 32 then -1 else nextZ (nearTo (vecsR rs) ch xs t n).1)) ∧ Below w.heap.size w w' := by
  obtain rfl := hr.1
  obtain ⟨q0, q1, q2⟩ := h.at
  by_cases hk2 : k = 32
  · subst hk2
    rw [if_pos rfl]
    have q0' : w.cell? ⟨g, 32, none⟩ = some (.int .i64 32) := q0
    clear q0 h hr hC hL
    go_enter Tryz.func52, Tryz.ntmps52
    go_wp2
    go_ret
    exact ⟨rfl, Below.refl _ _⟩
  · rw [if_neg hk2]
    have hk3 : ¬ ((k : Int) = 32) := by omega
    have hc1 : cnt xs ≤ 1048576 := by have := cnt_le xs; omega
    have HD0 := hide (distance_any (cnt xs) t hc1 ht w)
    have Hh := hide h
    have HR := hide hr
    have HS := hide hs
    have HCH := hide (show ∀ i, i < rs.length → decide ((i : Int) ∈ L.take k) = ch.getD i false from fun i hi => by rw [hL, has_cast, hC.mem i hi])
    have HN0 := hide (show (distN (cnt xs) t : Int) = ((nearTo (vecsR rs) ch xs t 0).2.toNat : Int) from rfl)
    generalize hd : cnt xs = d at *
    clear h hr hs hC hL
    go_enter Tryz.func52, Tryz.ntmps52
    go_wp2_with (go_at_call 70; refine (unhide HD0).mono ?_; rintro e w1 ⟨rfl, hw1⟩; obtain rfl := hw1.symm; clear hw1 HD0)
    go_loopw [7, 8, 26] (fun b l i wr => ∃ m : Nat, m ≤ rs.length ∧ i = .int .i64 m ∧ b = .int .i64 (nextZ (nearTo (vecsR rs) ch xs t m).1) ∧ l = .int .u64 ((nearTo (vecsR rs) ch xs t m).2.toNat : Int) ∧ Hid (Below w.heap.size w wr)) (fun _ _ i _ => rs.length - (intOf i).toNat)
    case atStart => exact ⟨0, Nat.zero_le _, rfl, rfl, by rw [unhide HN0], hide (Below.refl _ _)⟩
    case round =>
      obtain ⟨m, hm, rfl, rfl, rfl, HB⟩ := hrel
      clear HN0
      by_cases hlt : m < rs.length
      · have hR := (unhide HR).below (unhide HB)
        obtain ⟨b, off, rfl, hcl⟩ := hR.at hlt
        obtain ⟨hc0, hc1'⟩ := hcl m hlt
        have hrow := hR.2.1 m hlt
        have hsh := (unhide HS m).1
        have hlt' : (m : Int) < (rs.length : Int) := by omega
        have hH := (unhide Hh).below (unhide HB)
        have hbrd : brD (vecsR rs) xs m = cnt (xorL xs (rs.getD m .dflt).xs) := by unfold brD; rw [vecsR_get hlt]
        have hrl := hrow.1
        have HYS := hide (fun hh => nearTo_yes (V := vecsR rs) (ch := ch) (v := xs) (t := t) (i := m) hh)
        have HNO := hide (fun hh => nearTo_no (V := vecsR rs) (ch := ch) (v := xs) (t := t) (i := m) hh)
        have hnp := near_pos (vecsR rs) ch xs t m
        have hchm := unhide HCH m hlt
        clear hcl hR
        generalize rs.getD m .dflt = r at *
        have hb2 : Below wr.heap.size wr (wr.alloc (.cells #[.slice r.a r.n r.c, .string r.s] 40)) := (Below.refl _ _).alloc (Nat.le_refl _) _
        have hb3 := box_new wr (.slice r.a r.n r.c) (.string r.s)
        generalize hW2 : wr.alloc (.cells #[.slice r.a r.n r.c, .string r.s] 40) = w2 at *
        have hH2 := hH.below hb2
        have HHS := hide (has_any g L k sv xs d (m : Int) w2 hH2 hk)
        have HB2 := hide (below0 (unhide HB) hb2)
        have HDW := hide (fun wx (hbx : Below w2.heap.size w2 wx) => degWith_any g L k sv xs r.a r.n r.c r.xs wx (hd ▸ hH2.below hbx) ((hrow.below hb2).below hbx) hx hsh)
        have HBX := hide (fun wx (hbx : Below w2.heap.size w2 wx) => hb3.below hbx)
        have hdl : cnt (xorL xs r.xs) ≤ 1048576 := by have h1 := cnt_le (xorL xs r.xs); rw [xorL_length] at h1; omega
        have HBR := hide hbrd
        clear hH hH2 hrow hb2 hb3 hbrd
        generalize cnt (xorL xs r.xs) = e1 at *
        have HDI := hide (fun wx => distance_any e1 t hdl ht wx)
        cases hcm : ch.getD m false
        · rw [hcm] at hchm
          rw [hchm] at HHS
          have HNR := hide (show nearer (vecsR rs) ch xs t m (nearTo (vecsR rs) ch xs t m).2 ↔ 0 < e1 ∧ distN e1 t < (nearTo (vecsR rs) ch xs t m).2.toNat from by
            unfold nearer
            rw [unhide HBR, hcm]
            have h5 := distN_cast e1 t
            constructor
            · rintro ⟨_, h1, h2⟩; exact ⟨h1, by omega⟩
            · rintro ⟨h1, h2⟩; exact ⟨rfl, h1, by omega⟩)
          have HD2 := hide (show (distZ (brD (vecsR rs) xs m) t).toNat = distN e1 t from by rw [unhide HBR]; rfl)
          generalize hZ : nearTo (vecsR rs) ch xs t m = Z at *
          generalize distN e1 t = f1 at *
          by_cases h1 : 0 < e1
          · have h1' : (0 : Int) < (e1 : Int) := by omega
            by_cases h2 : f1 < Z.2.toNat
            · have h2' : (f1 : Int) < (Z.2.toNat : Int) := by omega
              have HE := hide (unhide HYS ((unhide HNR).2 ⟨h1, h2⟩))
              clear HYS HNO HNR
              go_wp2_with (first
                | (go_at_call 71; refine (unhide HHS).mono ?_; rintro e w3 ⟨rfl, hb3⟩; have HB3 := hide hb3; obtain ⟨x0, x1⟩ := unhide HBX w3 hb3; clear hb3)
                | (go_at_call 72; refine (unhide HDW _ (unhide HB3)).mono ?_; rintro e w4 ⟨rfl, hb4⟩; have HB4 := hide (below0 (unhide HB3) hb4); clear hb4)
                | (go_at_call 70; refine (unhide HDI _).mono ?_; rintro e w5 ⟨rfl, hw5⟩; obtain rfl := hw5.symm; clear hw5))
              go_roundw
              case rel => exact ⟨m + 1, by omega, by go_num, by rw [unhide HE]; rfl, by rw [unhide HE]; show _ = Value.int .u64 (((distZ (brD (vecsR rs) xs m) t).toNat : Nat) : Int); rw [unhide HD2], hide (below0 (unhide HB2) (unhide HB4))⟩
              case measure => simp [intOf]; omega
            · have h2' : ¬ (f1 : Int) < (Z.2.toNat : Int) := by omega
              have HE := hide (unhide HNO fun hh => h2 ((unhide HNR).1 hh).2)
              clear HYS HNO HNR
              go_wp2_with (first
                | (go_at_call 71; refine (unhide HHS).mono ?_; rintro e w3 ⟨rfl, hb3⟩; have HB3 := hide hb3; obtain ⟨x0, x1⟩ := unhide HBX w3 hb3; clear hb3)
                | (go_at_call 72; refine (unhide HDW _ (unhide HB3)).mono ?_; rintro e w4 ⟨rfl, hb4⟩; have HB4 := hide (below0 (unhide HB3) hb4); clear hb4)
                | (go_at_call 70; refine (unhide HDI _).mono ?_; rintro e w5 ⟨rfl, hw5⟩; obtain rfl := hw5.symm; clear hw5))
              go_roundw
              case rel => exact ⟨m + 1, by omega, by go_num, by rw [unhide HE], by rw [unhide HE, Int.ofNat_toNat], hide (below0 (unhide HB2) (unhide HB4))⟩
              case measure => simp [intOf]; omega
          · have h1' : ¬ (0 : Int) < (e1 : Int) := by omega
            have HE := hide (unhide HNO fun hh => h1 ((unhide HNR).1 hh).1)
            clear HYS HNO HNR
            go_wp2_with (first
              | (go_at_call 71; refine (unhide HHS).mono ?_; rintro e w3 ⟨rfl, hb3⟩; have HB3 := hide hb3; obtain ⟨x0, x1⟩ := unhide HBX w3 hb3; clear hb3)
              | (go_at_call 72; refine (unhide HDW _ (unhide HB3)).mono ?_; rintro e w4 ⟨rfl, hb4⟩; have HB4 := hide (below0 (unhide HB3) hb4); clear hb4)
              | (go_at_call 70; refine (unhide HDI _).mono ?_; rintro e w5 ⟨rfl, hw5⟩; obtain rfl := hw5.symm; clear hw5))
            go_roundw
            case rel => exact ⟨m + 1, by omega, by go_num, by rw [unhide HE], by rw [unhide HE, Int.ofNat_toNat], hide (below0 (unhide HB2) (unhide HB4))⟩
            case measure => simp [intOf]; omega
        · rw [hcm] at hchm
          rw [hchm] at HHS
          have HE := hide (unhide HNO fun hh => absurd (hcm.symm.trans hh.1) (by decide))
          clear HYS HNO
          go_wp2_with (first
            | (go_at_call 71; refine (unhide HHS).mono ?_; rintro e w3 ⟨rfl, hb3⟩; have HB3 := hide hb3; clear hb3))
          go_roundw
          case rel => exact ⟨m + 1, by omega, by go_num, by rw [unhide HE], by rw [unhide HE, Int.ofNat_toNat], hide (below0 (unhide HB2) (unhide HB3))⟩
          case measure => simp [intOf]; omega
      · obtain rfl : m = rs.length := by omega
        go_wp2
        go_ret
        exact ⟨rfl, unhide HB⟩
end Go.Proofs.YtmdmipojbeppiaaGreatDoor
