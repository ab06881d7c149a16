/-
  Contract of recode.mixed; what Mix makes, case by case ('mix_case'). Conditions: at most 300 packets whose rows have at most 10 words and 1000 bytes.
  What chapter 18's Choose and Mix make of all that a relay keeps is 'emitD'. No condition.
-/
import Derived.Test.YtbcgiodgobmkaaaGreatDoorVL
import Derived.Test.YtbcgiodgobmkaaaGreatDoorU32
import Derived.Test.YtbcgiodgobmkaaaGreatDoorVJ
namespace Go.Proofs.YtbcgiodgobmkaaaGreatDoor
open Go.RowKit Go.Sort
set_option linter.unusedVariables false
set_option linter.unusedSimpArgs false
set_option maxRecDepth 4000

def rowsK (ps : List PKV) : List RV := ps.map PKV.r
theorem rowsK_len (ps : List PKV) : (rowsK ps).length = ps.length := by simp [rowsK]
theorem rowsK_get {ps : List PKV} {i : Nat} (hi : i < ps.length) : (rowsK ps).getD i .dflt = (ps.getD i .dflt).r := by
  unfold rowsK
  rw [List.getD_eq_getElem?_getD, List.getElem?_map, List.getElem?_eq_getElem hi, List.getD_eq_getElem?_getD, List.getElem?_eq_getElem hi]
  rfl
theorem KsIn.rows {w : World} {ps : List PKV} (h : KsIn w ps) : RowsIn w (rowsK ps) := fun r hr => by
  obtain ⟨p, hp, rfl⟩ := List.mem_map.1 hr
  exact h p hp
theorem shortP_mem {ps : List PKV} (h : shortP ps) {p : PKV} (hp : p ∈ ps) : p.r.n ≤ 10 ∧ p.r.s.size ≤ 1000 := by
  obtain ⟨i, hi, rfl⟩ := List.mem_iff_getElem.1 hp
  have := h i
  rwa [List.getD_eq_getElem?_getD, List.getElem?_eq_getElem hi] at this
theorem shortP_rows {ps : List PKV} (h : ∀ p ∈ ps, p.r.n ≤ 10 ∧ p.r.s.size ≤ 1000) : shortR (rowsK ps) := short_of fun r hr => by
  obtain ⟨p, hp, rfl⟩ := List.mem_map.1 hr
  exact h p hp
theorem vecX_rows (ps : List PKV) : vecX (ps.map PKV.pd) = vecL (rowsK ps) := by
  unfold vecX vecL rowsK
  rw [List.foldl_map, List.foldl_map]
  rfl
theorem txtX_rows (ps : List PKV) : txtX (ps.map PKV.pd) = sumL ((rowsK ps).map fun r => r.s) := by
  unfold txtX sumL rowsK
  rw [List.foldl_map, List.map_map, List.foldl_map]
  rfl
theorem mix_case {us : List PKV} (h : 0 < us.length) : mixL (us.map PKV.pd) = if allK us = true ∧ 0 < cnt (vecL (rowsK us)) ∧ hopX (us.map PKV.pd) < 15 then some ⟨(us.getD 0 .dflt).o, (us.getD 0 .dflt).l, (us.getD 0 .dflt).k, (us.getD 0 .dflt).z, IntKind.i64.wrap (hopX (us.map PKV.pd) + 1), vecL (rowsK us), st (sumL ((rowsK us).map fun r => r.s))⟩ else none := by
  cases us with
  | nil => simp at h
  | cons p Q =>
    rw [← vecX_rows, ← txtX_rows]
    rw [List.map_cons, mixL_cons]
    have e : (∀ r ∈ Q.map PKV.pd, alkD p.pd r = true) ↔ allK (p :: Q) = true := by
      unfold allK
      rw [List.all_eq_true]
      constructor
      · intro h1 x hx
        rcases List.mem_cons.1 hx with rfl | hx
        · exact alk_refl _
        · exact h1 _ (List.mem_map_of_mem hx)
      · intro h1 x hx
        obtain ⟨y, hy, rfl⟩ := List.mem_map.1 hx
        exact h1 y (List.mem_cons_of_mem _ hy)
    simp only [e]
    rfl

set_option maxHeartbeats 4000000 in
theorem mixed_any (a : Option Addr) (n c : Nat) (ps : List PKV) (w : World) (h : PksAt w a n ps) (hk : KsIn w ps) (hs : ∀ p ∈ ps, p.r.n ≤ 10 ∧ p.r.s.size ≤ 1000) (hn : n ≤ 300) :
    Calls Tryz.prog 51 #[.slice a n c] w fun e w' => ∃ v, e = .returned (.agg #[v, .string (st (sumL ((rowsK ps).map fun r => r.s)))]) ∧ Own w' w.heap.size v (vecL (rowsK ps)) ∧ Below w.heap.size w w' := by
  obtain rfl := h.1
  have hb0 := (Below.refl w.heap.size w).alloc (Nat.le_refl _) (.cells #[.slice none 0 0, .string ⟨#[]⟩] 40)
  have hX := boxW_new w (.slice none 0 0) (.string ⟨#[]⟩)
  have hsz : (w.alloc (.cells #[.slice none 0 0, .string ⟨#[]⟩] 40)).heap.size = w.heap.size + 1 := by simp
  have hP := h.below hb0
  have hK := hk.below hb0
  generalize hWW : w.alloc (.cells #[.slice none 0 0, .string ⟨#[]⟩] 40) = W at *
  have HP := hide hP
  have HK := hide hK
  have HX := hide hX
  have HB0 := hide hb0
  have HSZ := hide hsz
  have HS := hide (shortP_rows hs)
  have hmk := make_r ps.length (by omega) W
  rw [hsz] at hmk
  have hmd := made_r W ps.length (by omega) (filR (rowsK ps) 0) (by rw [filR_zero, rowsK_len])
  have hbm : Below W.heap.size W (W.alloc (.cells (madeCells #[.slice none 0 0, .string ⟨#[]⟩] (ps.length * 2)) 40)) := (Below.refl _ _).alloc (Nat.le_refl _) _
  rw [hsz] at hmd
  have HM := hide hmd
  have HBM := hide hbm
  generalize hW2 : W.alloc (.cells (madeCells #[.slice none 0 0, .string ⟨#[]⟩] (ps.length * 2)) 40) = W2 at *
  clear h hk hs hb0 hX hP hK hmd hbm hsz
  go_enter Tryz.func51, Tryz.ntmps51
  go_wp2
  clear hWW hW2 hmk
  go_loopw [11] (fun i wr => ∃ k : Nat, k ≤ ps.length ∧ i = .int .i64 k ∧ Hid (OwnS wr (w.heap.size + 1) (.slice (some ⟨w.heap.size + 1, 0, none⟩) ps.length ps.length) (filR (rowsK ps) k)) ∧ Hid (Below W.heap.size W wr)) (fun i _ => ps.length - (intOf i).toNat)
  case atStart => exact ⟨0, Nat.zero_le _, rfl, HM, HBM⟩
  case round =>
    obtain ⟨k, hk, rfl, HI, HB⟩ := hrel
    clear HM HBM
    by_cases hlt : k < ps.length
    · obtain ⟨b, off, rfl, hcl⟩ := ((unhide HP).below (unhide HB)).at hlt
      obtain ⟨c0, c1, c2, c3, c4, c5, c6⟩ := hcl k hlt
      have hlt' : (k : Int) < (ps.length : Int) := by omega
      have hS := filR_succ (rowsK ps) k (by rw [rowsK_len]; exact hlt)
      rw [rowsK_get hlt] at hS
      clear hcl
      generalize ps.getD k .dflt = p at *
      have hb3 : Below wr.heap.size wr (wr.alloc (.cells #[.int .i64 p.o, .int .i64 p.l, .int .i64 p.k, .int .i64 p.z, .int .i64 p.h, .slice p.r.a p.r.n p.r.c, .string p.r.s] 42)) := (Below.refl _ _).alloc (Nat.le_refl _) _
      have hpp := pkb_new wr (.int .i64 p.o) (.int .i64 p.l) (.int .i64 p.k) (.int .i64 p.z) (.int .i64 p.h) (.slice p.r.a p.r.n p.r.c) (.string p.r.s)
      obtain ⟨x0, x1, x2, x3, x4, x5, x6⟩ := hpp.at
      have hI := (unhide HI).below hb3
      have HB3 := hide (below0 (unhide HB) hb3)
      generalize hw3 : wr.alloc (.cells #[.int .i64 p.o, .int .i64 p.l, .int .i64 p.k, .int .i64 p.z, .int .i64 p.h, .slice p.r.a p.r.n p.r.c, .string p.r.s] 42) = w3 at *
      have hfl : (filR (rowsK ps) k).length = ps.length := by rw [filR_length _ _ (by rw [rowsK_len]; exact hk), rowsK_len]
      have hcg := cellsR_get (filR (rowsK ps) k) k (by omega)
      have hcell0 := hI.cellAt hcg.1
      have hcell1 := hI.cellAt hcg.2
      have hI' : w3.ownsRow (w.heap.size + 1) 40 2 (.slice (some ⟨w.heap.size + 1, 0, none⟩) ps.length ps.length) ps.length (cellsR (filR (rowsK ps) k)) := by
        have : w3.ownsRow (w.heap.size + 1) 40 2 (.slice (some ⟨w.heap.size + 1, 0, none⟩) ps.length ps.length) (filR (rowsK ps) k).length (cellsR (filR (rowsK ps) k)) := hI
        rwa [hfl] at this
      have hfz0 := hI'.frozenAt (k * 2)
      have hfz1 := hI'.frozenAt (k * 2 + 1)
      have hs2 := hI.stored k p.r
      rw [hS] at hs2
      have HS2 := hide hs2
      have hge : W.heap.size ≤ w.heap.size + 1 := by have := unhide HSZ; omega
      have HB2 := hide (((unhide HB3).setCell (p := ⟨w.heap.size + 1, k * 2, none⟩) hge (.slice p.r.a p.r.n p.r.c)).setCell (p := ⟨w.heap.size + 1, k * 2 + 1, none⟩) hge (.string p.r.s))
      clear hI hI' hs2 hS hcg hfl HI HB hpp hb3 HB3
      generalize (filR (rowsK ps) k).getD k .dflt = z at *
      go_wp2
      go_roundw
      case rel => exact ⟨k + 1, by omega, by go_num, HS2, HB2⟩
      case measure => simp [intOf]; omega
    · obtain rfl : k = ps.length := by omega
      have hI := unhide HI
      rw [show filR (rowsK ps) ps.length = rowsK ps from by rw [← rowsK_len ps, filR_all]] at hI
      have hin := (unhide HK).rows.below (unhide HB)
      obtain ⟨hr1, hm1, hc1, hd1⟩ := hI.at' hin
      have HC := hide (row_any (some ⟨w.heap.size + 1, 0, none⟩) ps.length ps.length (rowsK ps) wr hr1 (unhide HS) (by omega) hc1 hd1)
      have HX1 := hide ((unhide HX).below (unhide HB))
      have HB1 := hide ((unhide HB0).trans ((unhide HB).mono (by have := unhide HSZ; omega)))
      have hz1 : w.heap.size + 1 ≤ wr.heap.size := by have h1 := unhide HSZ; have h2 := (unhide HB).size; omega
      clear hin hr1 hm1 hc1 hd1 HB HX HB0 HSZ HS HP HK hI HI
      go_wp2_with (go_at_call 70; refine (unhide HC).mono ?_; rintro e w3 ⟨v, rfl, ho3, hb3⟩; obtain ⟨a2, m2, c2, rfl⟩ : ∃ a m c, v = Value.slice a m c := (by obtain ⟨a, c, e, _⟩ := ho3.row; exact ⟨a, _, c, e⟩); obtain ⟨⟨x0, x1⟩, f0, f1⟩ := (unhide HX1).below hb3; have HB3 := hide (below0 (unhide HB1) hb3); have HO3 := hide ho3; clear ho3 hb3 HC)
      have y1 := World.cell?_setCell_same (w3.setCell ⟨w.heap.size, 0, none⟩ (.slice a2 m2 c2)) ⟨w.heap.size, 1, none⟩ (.string (st (sumL ((rowsK ps).map fun r => r.s)))) ((World.cell?_setCell_other (h := by simp) ..).trans x1)
      have y0 : ((w3.setCell ⟨w.heap.size, 0, none⟩ (.slice a2 m2 c2)).setCell ⟨w.heap.size, 1, none⟩ (.string (st (sumL ((rowsK ps).map fun r => r.s))))).cell? ⟨w.heap.size, 0, none⟩ = some (.slice a2 m2 c2) :=
        (World.cell?_setCell_other (h := by simp) ..).trans (World.cell?_setCell_same _ _ _ x0)
      exact bodyPost_ret (v := .agg #[.slice a2 m2 c2, .string (st (sumL ((rowsK ps).map fun r => r.s)))]) (by simp [results, Tryz.results51, go_sem, y0, y1]) rfl
        ⟨_, rfl, (((unhide HO3).other (g := w.heap.size) 0 _ (by omega)).other (g := w.heap.size) 1 _ (by omega)).mono (by omega), ((unhide HB3).setCell (Nat.le_refl _) _).setCell (Nat.le_refl _) _⟩
end Go.Proofs.YtbcgiodgobmkaaaGreatDoor
namespace Go.Proofs.YtbcgiodgobmkaaaGreatDoor
open Go.RowKit Go.Sort
set_option linter.unusedVariables false
set_option linter.unusedSimpArgs false
set_option maxRecDepth 4000

theorem place_in {b n : Nat} (h : b < n) : placeN (b : Int) n = b := by
  have h1 : (b : Int).tmod n = b := by
    rw [← Int.ofNat_tmod, Nat.mod_eq_of_lt h]
  have h2 : ((b : Int) + n).tmod n = b := by
    have h3 : ((b : Int) + n) = ((b + n : Nat) : Int) := by omega
    rw [h3, ← Int.ofNat_tmod, Nat.add_mod_right, Nat.mod_eq_of_lt h]
  unfold placeN
  rw [h1, h2]
  omega
theorem vecs_rows (ps : List PKV) : vecsR (rowsK ps) = vecsD (ps.map PKV.pd) := by
  unfold vecsR rowsK vecsD
  rw [List.map_map, List.map_map]
  rfl
theorem emit_is {ps : List PKV} {b : Nat} {t : Int} (hb : b < ps.length) : mixD (ps.map PKV.pd) (chooseL (rowsK ps) (b : Int) t) = emitD (ps.map PKV.pd) b t := by
  unfold chooseL emitD
  rw [rowsK_len, if_neg (by omega), place_in hb, vecs_rows, List.length_map]
/-- A target, brought within its bounds. -/
def clampT (t : Int) : Int := min (max t (-1099511627776)) 1099511627776
end Go.Proofs.YtbcgiodgobmkaaaGreatDoor
