/-
  Contract of choice.next: the row to be chosen now. Conditions: at most 300 rows of at most 10 words, a target from -2^40 to 2^40.
  slices.Sort at []int in this program: the shelf's contract, laid at this program's own numbers, and what it leaves of a slice of the call's own. Condition: at most 2^20 numbers.
-/
import Derived.Test.YtbcgiodgobmkaaaGreatDoorU27
import Derived.Test.YtbcgiodgobmkaaaGreatDoorU3
import Derived.Test.YtbcgiodgobmkaaaGreatDoorU6
import Derived.Shelf.Sort.Plain
import Derived.Shelf.Slices.In.SortNone
import Derived.Sort.OwnSortedInts
namespace Go.Proofs.YtbcgiodgobmkaaaGreatDoor
open Go.RowKit Go.Sort
set_option linter.unusedVariables false
set_option linter.unusedSimpArgs false
set_option maxRecDepth 4000

/-- A place, or -1. -/
def nextZ : Option Nat → Int
  | none => -1
  | some b => b
def vecsR (rs : List RV) : List (List Nat) := rs.map fun r => r.xs
theorem vecsR_len (rs : List RV) : (vecsR rs).length = rs.length := by simp [vecsR]
theorem vecsR_get {rs : List RV} {i : Nat} (hi : i < rs.length) : (vecsR rs).getD i [] = (rs.getD i .dflt).xs := by
  unfold vecsR
  rw [List.getD_eq_getElem?_getD, List.getElem?_map, List.getElem?_eq_getElem hi, List.getD_eq_getElem?_getD, List.getElem?_eq_getElem hi]
  rfl
theorem near_pos (V : List (List Nat)) (ch : List Bool) (v : List Nat) (t : Int) : ∀ n, 0 ≤ (nearTo V ch v t n).2
  | 0 => distZ_pos _ _
  | n + 1 => by
    by_cases h : nearer V ch v t n (nearTo V ch v t n).2
    · rw [nearTo_yes h]; exact distZ_pos _ _
    · rw [nearTo_no h]; exact near_pos V ch v t n

set_option maxHeartbeats 8000000 in
theorem cnext_any (g : Nat) (L : List Int) (k : Nat) (sv : Value) (xs : List Nat) (a : Option Addr) (n c : Nat) (rs : List RV) (t : Int) (ch : List Bool) (ps : List Nat) (w : World) (h : CcAt w g L k sv xs (cnt xs)) (hr : RowsAt w a n rs) (hs : shortR rs) (hn : n ≤ 300) (hx : xs.length ≤ 10) (hk : k ≤ 32) (hC : Chn n ch ps) (hL : L.take k = castZ ps) (ht : -1099511627776 ≤ t ∧ t ≤ 1099511627776) :
    Calls Tryz.prog 44 #[.pointer (some ⟨g, 0, none⟩), .slice a n c, .int .i64 t] w fun e w' => e = .returned (.int .i64 (if k = 32 then -1 else nextZ (nearTo (vecsR rs) ch xs t n).1)) ∧ Below w.heap.size w w' := by
  obtain rfl := hr.1
  obtain ⟨q0, q1, q2⟩ := h.at
  by_cases hk2 : k = 32
  · subst hk2
    rw [if_pos rfl]
    have q0' : w.cell? ⟨g, 32, none⟩ = some (.int .i64 32) := q0
    clear q0 h hr hC hL
    go_enter Tryz.func44, Tryz.ntmps44
    go_wp2
    go_ret
    exact ⟨rfl, Below.refl _ _⟩
  · rw [if_neg hk2]
    have hk3 : ¬ ((k : Int) = 32) := by omega
    have hc1 : cnt xs ≤ 1048576 := by have := cnt_le xs; omega
    have HD0 := hide (distance_any (cnt xs) t hc1 ht w)
    have Hh := hide h
    have HR := hide hr
    have HS := hide hs
    have HCH := hide (show ∀ i, i < rs.length → decide ((i : Int) ∈ L.take k) = ch.getD i false from fun i hi => by rw [hL, has_cast, hC.mem i hi])
    have HN0 := hide (show (distN (cnt xs) t : Int) = ((nearTo (vecsR rs) ch xs t 0).2.toNat : Int) from rfl)
    generalize hd : cnt xs = d at *
    clear h hr hs hC hL
    go_enter Tryz.func44, Tryz.ntmps44
    go_wp2_with (go_at_call 62; refine (unhide HD0).mono ?_; rintro e w1 ⟨rfl, hw1⟩; obtain rfl := hw1.symm; clear hw1 HD0)
    go_loopw [7, 8, 26] (fun b l i wr => ∃ m : Nat, m ≤ rs.length ∧ i = .int .i64 m ∧ b = .int .i64 (nextZ (nearTo (vecsR rs) ch xs t m).1) ∧ l = .int .u64 ((nearTo (vecsR rs) ch xs t m).2.toNat : Int) ∧ Hid (Below w.heap.size w wr)) (fun _ _ i _ => rs.length - (intOf i).toNat)
    case atStart => exact ⟨0, Nat.zero_le _, rfl, rfl, by rw [unhide HN0], hide (Below.refl _ _)⟩
    case round =>
      obtain ⟨m, hm, rfl, rfl, rfl, HB⟩ := hrel
      clear HN0
      by_cases hlt : m < rs.length
      · have hR := (unhide HR).below (unhide HB)
        obtain ⟨b, off, rfl, hcl⟩ := hR.at hlt
        obtain ⟨hc0, hc1'⟩ := hcl m hlt
        have hrow := hR.2.1 m hlt
        have hsh := (unhide HS m).1
        have hlt' : (m : Int) < (rs.length : Int) := by omega
        have hH := (unhide Hh).below (unhide HB)
        have hbrd : brD (vecsR rs) xs m = cnt (xorL xs (rs.getD m .dflt).xs) := by unfold brD; rw [vecsR_get hlt]
        have hrl := hrow.1
        have HYS := hide (fun hh => nearTo_yes (V := vecsR rs) (ch := ch) (v := xs) (t := t) (i := m) hh)
        have HNO := hide (fun hh => nearTo_no (V := vecsR rs) (ch := ch) (v := xs) (t := t) (i := m) hh)
        have hnp := near_pos (vecsR rs) ch xs t m
        have hchm := unhide HCH m hlt
        clear hcl hR
        generalize rs.getD m .dflt = r at *
        have hb2 : Below wr.heap.size wr (wr.alloc (.cells #[.slice r.a r.n r.c, .string r.s] 40)) := (Below.refl _ _).alloc (Nat.le_refl _) _
        have hb3 := box_new wr (.slice r.a r.n r.c) (.string r.s)
        generalize hW2 : wr.alloc (.cells #[.slice r.a r.n r.c, .string r.s] 40) = w2 at *
        have hH2 := hH.below hb2
        have HHS := hide (has_any g L k sv xs d (m : Int) w2 hH2 hk)
        have HB2 := hide (below0 (unhide HB) hb2)
        have HDW := hide (fun wx (hbx : Below w2.heap.size w2 wx) => degWith_any g L k sv xs r.a r.n r.c r.xs wx (hd ▸ hH2.below hbx) ((hrow.below hb2).below hbx) hx hsh)
        have HBX := hide (fun wx (hbx : Below w2.heap.size w2 wx) => hb3.below hbx)
        have hdl : cnt (xorL xs r.xs) ≤ 1048576 := by have h1 := cnt_le (xorL xs r.xs); rw [xorL_length] at h1; omega
        have HBR := hide hbrd
        clear hH hH2 hrow hb2 hb3 hbrd
        generalize cnt (xorL xs r.xs) = e1 at *
        have HDI := hide (fun wx => distance_any e1 t hdl ht wx)
        cases hcm : ch.getD m false
        · rw [hcm] at hchm
          rw [hchm] at HHS
          have HNR := hide (show nearer (vecsR rs) ch xs t m (nearTo (vecsR rs) ch xs t m).2 ↔ 0 < e1 ∧ distN e1 t < (nearTo (vecsR rs) ch xs t m).2.toNat from by
            unfold nearer
            rw [unhide HBR, hcm]
            have h5 := distN_cast e1 t
            constructor
            · rintro ⟨_, h1, h2⟩; exact ⟨h1, by omega⟩
            · rintro ⟨h1, h2⟩; exact ⟨rfl, h1, by omega⟩)
          have HD2 := hide (show (distZ (brD (vecsR rs) xs m) t).toNat = distN e1 t from by rw [unhide HBR]; rfl)
          generalize hZ : nearTo (vecsR rs) ch xs t m = Z at *
          generalize distN e1 t = f1 at *
          by_cases h1 : 0 < e1
          · have h1' : (0 : Int) < (e1 : Int) := by omega
            by_cases h2 : f1 < Z.2.toNat
            · have h2' : (f1 : Int) < (Z.2.toNat : Int) := by omega
              have HE := hide (unhide HYS ((unhide HNR).2 ⟨h1, h2⟩))
              clear HYS HNO HNR
              go_wp2_with (first
                | (go_at_call 63; refine (unhide HHS).mono ?_; rintro e w3 ⟨rfl, hb3⟩; have HB3 := hide hb3; obtain ⟨x0, x1⟩ := unhide HBX w3 hb3; clear hb3)
                | (go_at_call 64; refine (unhide HDW _ (unhide HB3)).mono ?_; rintro e w4 ⟨rfl, hb4⟩; have HB4 := hide (below0 (unhide HB3) hb4); clear hb4)
                | (go_at_call 62; refine (unhide HDI _).mono ?_; rintro e w5 ⟨rfl, hw5⟩; obtain rfl := hw5.symm; clear hw5))
              go_roundw
              case rel => exact ⟨m + 1, by omega, by go_num, by rw [unhide HE]; rfl, by rw [unhide HE]; show _ = Value.int .u64 (((distZ (brD (vecsR rs) xs m) t).toNat : Nat) : Int); rw [unhide HD2], hide (below0 (unhide HB2) (unhide HB4))⟩
              case measure => simp [intOf]; omega
            · have h2' : ¬ (f1 : Int) < (Z.2.toNat : Int) := by omega
              have HE := hide (unhide HNO fun hh => h2 ((unhide HNR).1 hh).2)
              clear HYS HNO HNR
              go_wp2_with (first
                | (go_at_call 63; refine (unhide HHS).mono ?_; rintro e w3 ⟨rfl, hb3⟩; have HB3 := hide hb3; obtain ⟨x0, x1⟩ := unhide HBX w3 hb3; clear hb3)
                | (go_at_call 64; refine (unhide HDW _ (unhide HB3)).mono ?_; rintro e w4 ⟨rfl, hb4⟩; have HB4 := hide (below0 (unhide HB3) hb4); clear hb4)
                | (go_at_call 62; refine (unhide HDI _).mono ?_; rintro e w5 ⟨rfl, hw5⟩; obtain rfl := hw5.symm; clear hw5))
              go_roundw
              case rel => exact ⟨m + 1, by omega, by go_num, by rw [unhide HE], by rw [unhide HE, Int.ofNat_toNat], hide (below0 (unhide HB2) (unhide HB4))⟩
              case measure => simp [intOf]; omega
          · have h1' : ¬ (0 : Int) < (e1 : Int) := by omega
            have HE := hide (unhide HNO fun hh => h1 ((unhide HNR).1 hh).1)
            clear HYS HNO HNR
            go_wp2_with (first
              | (go_at_call 63; refine (unhide HHS).mono ?_; rintro e w3 ⟨rfl, hb3⟩; have HB3 := hide hb3; obtain ⟨x0, x1⟩ := unhide HBX w3 hb3; clear hb3)
              | (go_at_call 64; refine (unhide HDW _ (unhide HB3)).mono ?_; rintro e w4 ⟨rfl, hb4⟩; have HB4 := hide (below0 (unhide HB3) hb4); clear hb4)
              | (go_at_call 62; refine (unhide HDI _).mono ?_; rintro e w5 ⟨rfl, hw5⟩; obtain rfl := hw5.symm; clear hw5))
            go_roundw
            case rel => exact ⟨m + 1, by omega, by go_num, by rw [unhide HE], by rw [unhide HE, Int.ofNat_toNat], hide (below0 (unhide HB2) (unhide HB4))⟩
            case measure => simp [intOf]; omega
        · rw [hcm] at hchm
          rw [hchm] at HHS
          have HE := hide (unhide HNO fun hh => absurd (hcm.symm.trans hh.1) (by decide))
          clear HYS HNO
          go_wp2_with (first
            | (go_at_call 63; refine (unhide HHS).mono ?_; rintro e w3 ⟨rfl, hb3⟩; have HB3 := hide hb3; clear hb3))
          go_roundw
          case rel => exact ⟨m + 1, by omega, by go_num, by rw [unhide HE], by rw [unhide HE, Int.ofNat_toNat], hide (below0 (unhide HB2) (unhide HB3))⟩
          case measure => simp [intOf]; omega
      · obtain rfl : m = rs.length := by omega
        go_wp2
        go_ret
        exact ⟨rfl, unhide HB⟩
end Go.Proofs.YtbcgiodgobmkaaaGreatDoor
namespace Go.Proofs.YtbcgiodgobmkaaaGreatDoor
open Go.RowKit Go.Shelf Go.Sort
set_option linter.unusedVariables false
set_option linter.unusedSimpArgs false
set_option maxRecDepth 4000

def sren : Ren := ⟨fun | 125 => 78 | 128 => 95 | 129 => 96 | 189 => 67 | 215 => 105 | 216 => 92 | 257 => 77 | 294 => 86 | 295 => 87 | 296 => 88 | 297 => 89 | 298 => 90 | 299 => 91 | 300 => 93 | 301 => 94 | 328 => 100 | 329 => 101 | 330 => 102 | 331 => 103 | 332 => 104 | 343 => 107 | n => n, fun | 0 => 0 | 3 => 3 | 4 => 4 | 5 => 5 | 9 => 9 | 28 => 72 | 46 => 107 | 51 => 141 | 53 => 59 | 131 => 138 | 182 => 133 | 183 => 134 | 218 => 143 | 222 => 146 | 228 => 148 | 229 => 149 | n => n, fun | n => n⟩
theorem slays189 : Lays.n189 Tryz.prog sren := {
  mixed := by kernel_rfl
  f125 := Tryz.func78.trans (congrArg some (by kernel_rfl))
  f128 := Tryz.func95.trans (congrArg some (by kernel_rfl))
  f129 := Tryz.func96.trans (congrArg some (by kernel_rfl))
  f189 := Tryz.func67.trans (congrArg some (by kernel_rfl))
  f215 := Tryz.func105.trans (congrArg some (by kernel_rfl))
  f216 := Tryz.func92.trans (congrArg some (by kernel_rfl))
  f257 := Tryz.func77.trans (congrArg some (by kernel_rfl))
  f294 := Tryz.func86.trans (congrArg some (by kernel_rfl))
  f295 := Tryz.func87.trans (congrArg some (by kernel_rfl))
  f296 := Tryz.func88.trans (congrArg some (by kernel_rfl))
  f297 := Tryz.func89.trans (congrArg some (by kernel_rfl))
  f298 := Tryz.func90.trans (congrArg some (by kernel_rfl))
  f299 := Tryz.func91.trans (congrArg some (by kernel_rfl))
  f300 := Tryz.func93.trans (congrArg some (by kernel_rfl))
  f301 := Tryz.func94.trans (congrArg some (by kernel_rfl))
  f328 := Tryz.func100.trans (congrArg some (by kernel_rfl))
  f329 := Tryz.func101.trans (congrArg some (by kernel_rfl))
  f330 := Tryz.func102.trans (congrArg some (by kernel_rfl))
  f331 := Tryz.func103.trans (congrArg some (by kernel_rfl))
  f332 := Tryz.func104.trans (congrArg some (by kernel_rfl))
  f343 := Tryz.func107.trans (congrArg some (by kernel_rfl))
  t0 := Tryz.underlying0
  a0 := Tryz.isAgg0
  z0 := Tryz.sizeOf0
  v0 := Tryz.zeroValue0
  t3 := Tryz.underlying3
  a3 := Tryz.isAgg3
  z3 := Tryz.sizeOf3
  v3 := Tryz.zeroValue3
  t4 := Tryz.underlying4
  a4 := Tryz.isAgg4
  z4 := Tryz.sizeOf4
  v4 := Tryz.zeroValue4
  t5 := Tryz.underlying5
  a5 := Tryz.isAgg5
  z5 := Tryz.sizeOf5
  v5 := Tryz.zeroValue5
  t9 := Tryz.underlying9
  a9 := Tryz.isAgg9
  z9 := Tryz.sizeOf9
  v9 := Tryz.zeroValue9
  t28 := Tryz.underlying72
  a28 := Tryz.isAgg72
  z28 := Tryz.sizeOf72
  v28 := Tryz.zeroValue72
  t46 := Tryz.underlying107
  a46 := Tryz.isAgg107
  z46 := Tryz.sizeOf107
  v46 := Tryz.zeroValue107
  t51 := Tryz.underlying141
  a51 := Tryz.isAgg141
  z51 := Tryz.sizeOf141
  v51 := Tryz.zeroValue141
  t53 := Tryz.underlying59
  a53 := Tryz.isAgg59
  z53 := Tryz.sizeOf59
  v53 := Tryz.zeroValue59
  t131 := Tryz.underlying138
  a131 := Tryz.isAgg138
  z131 := Tryz.sizeOf138
  v131 := Tryz.zeroValue138
  t182 := Tryz.underlying133
  a182 := Tryz.isAgg133
  z182 := Tryz.sizeOf133
  v182 := Tryz.zeroValue133
  t183 := Tryz.underlying134
  a183 := Tryz.isAgg134
  z183 := Tryz.sizeOf134
  v183 := Tryz.zeroValue134
  t218 := Tryz.underlying143
  a218 := Tryz.isAgg143
  z218 := Tryz.sizeOf143
  v218 := Tryz.zeroValue143
  t222 := Tryz.underlying146
  a222 := Tryz.isAgg146
  z222 := Tryz.sizeOf146
  v222 := Tryz.zeroValue146
  t228 := Tryz.underlying148
  a228 := Tryz.isAgg148
  z228 := Tryz.sizeOf148
  v228 := Tryz.zeroValue148
  t229 := Tryz.underlying149
  a229 := Tryz.isAgg149
  z229 := Tryz.sizeOf149
  v229 := Tryz.zeroValue149 }

theorem cellsZ_map (xs : List Int) : cellsZ xs = xs.map (Value.int .i64) := rfl
/-- slices.Sort of a slice of the call's own. -/
theorem sort_any (B : Nat) (v : Value) (xs : List Int) (w : World) (h : OwnZ w B v xs) (hn : xs.length ≤ 1048576) :
    Calls Tryz.prog 67 #[v] w fun e w' => e = .returned (.tuple #[]) ∧ OwnZ w' B v (xs.mergeSort fun x y => decide (x ≤ y)) ∧ w.grownBy w' v.ownBlock := by
  have h0 : w.ownsRow B 3 1 v xs.length (cellsZ xs) := h
  rcases h0.2 with ⟨rfl, hz⟩ | ⟨g, cap, cur, rfl, hb, hg, hn1, hm, hsz, ht⟩
  · obtain rfl : xs = [] := List.eq_nil_of_length_eq_zero hz
    refine (calls_of_every_depth fun D => AnyS.slices_Sort_int_none_in slays189 D none 0 w).mono ?_
    rintro e w' ⟨rfl, hw⟩
    obtain rfl := hw.symm
    exact ⟨rfl, by simpa using h, gb_refl _ _⟩
  · have hH : Holds (Value.int .i64) w g 0 xs.toArray := holds_of_blockI hg (by simpa [cellsZ_map] using ht)
    refine (Any.slices_Sort_int slays189 g 0 cap xs w hH (Array.getElem?_eq_some_iff.1 hg).1 (by omega)).mono ?_
    rintro e w' ⟨rfl, q, os, rfl⟩
    have hl : (xs.mergeSort fun x y => decide (x ≤ y)).length = xs.length := by simp
    refine ⟨rfl, ?_, by simpa [Value.ownBlock] using grownBy_sortedI _⟩
    show World.ownsRow _ B 3 1 _ (xs.mergeSort fun x y => decide (x ≤ y)).length _
    have := ownsRow_sortedI (n := q) (os := os) hl hb hg hn1 hm hsz
    rw [hl, cellsZ_map]
    exact this
end Go.Proofs.YtbcgiodgobmkaaaGreatDoor
