/-
  Contract of recode.at at rows: what stands at the places. Conditions: at most 300 rows, at most 300 places.
  Contract of xor.Row.
-/
import Derived.Test.YtbcgiodgobmkaaaGreatDoorGE
import Derived.Test.YtbcgiodgobmkaaaGreatDoorU29
import Derived.Test.YtbcgiodgobmkaaaGreatDoorU11
import Derived.Test.YtbcgiodgobmkaaaGreatDoorU8
import Derived.Test.YtbcgiodgobmkaaaGreatDoorU9
import Derived.Test.YtbcgiodgobmkaaaGreatDoorU31
namespace Go.Proofs.YtbcgiodgobmkaaaGreatDoor
open Go.RowKit
set_option linter.unusedVariables false
set_option linter.unusedSimpArgs false
set_option maxRecDepth 4000

/-- How often each place is named, in memory: the first block that is made. -/
def TimS (w wr : World) (n : Nat) (c : List Nat) : Prop := OwnZ wr w.heap.size (.slice (some ⟨w.heap.size, 0, none⟩) n n) (castZ c) ∧ Below w.heap.size w wr ∧ w.heap.size < wr.heap.size
theorem TimS.new (w : World) (n : Nat) (hn : n ≤ 1048576) : TimS w (w.alloc (.cells (madeCells #[.int .i64 0] n) 3)) n (List.replicate n 0) :=
  ⟨made_intz w n hn _ (by simp [castZ]), (Below.refl _ _).alloc (Nat.le_refl _) _, by simp⟩
theorem TimS.cell {w wr : World} {n : Nat} {c : List Nat} (h : TimS w wr n c) (hl : c.length = n) {i : Nat} (hi : i < n) : wr.cell? ⟨w.heap.size, i, none⟩ = some (.int .i64 ((c.getD i 0 : Nat) : Int)) ∧ wr.frozen? ⟨w.heap.size, i, none⟩ = false := by
  obtain ⟨g, cap, e, _, _, h1, h2⟩ := h.1.at (by rw [castZ_length]; omega)
  simp only [Value.slice.injEq, Option.some.injEq, Addr.mk.injEq] at e
  obtain ⟨⟨rfl, _⟩, _⟩ := e
  exact ⟨by rw [h1 i (by rw [castZ_length]; omega), castZ_getD], h2 i⟩
theorem castZ_set (c : List Nat) (i x : Nat) : (castZ c).set i ((x : Nat) : Int) = castZ (c.set i x) := by unfold castZ; rw [List.map_set]
theorem TimS.more {w wr : World} {n : Nat} {c : List Nat} (h : TimS w wr n c) (i x : Nat) : TimS w (wr.setCell ⟨w.heap.size, i, none⟩ (.int .i64 ((x : Nat) : Int))) n (c.set i x) := by
  refine ⟨?_, h.2.1.setCell (p := ⟨w.heap.size, i, none⟩) (Nat.le_refl _) _, by rw [World.size_setCell]; exact h.2.2⟩
  have := h.1.stored i ((x : Nat) : Int)
  rwa [castZ_set] at this
theorem times_take (n : Nat) (ws : List Int) (k : Nat) (hk : k < ws.length) : timesL n (ws.take (k + 1)) = if 0 ≤ ws.getD k 0 ∧ ws.getD k 0 < (n : Int) then (timesL n (ws.take k)).set (ws.getD k 0).toNat ((timesL n (ws.take k)).getD (ws.getD k 0).toNat 0 + 1) else timesL n (ws.take k) := by
  have e : ws.take (k + 1) = ws.take k ++ [ws.getD k 0] := by
    rw [List.take_succ_eq_append_getElem hk]
    simp [List.getD_eq_getElem?_getD, List.getElem?_eq_getElem hk]
  rw [e, times_snoc]

end Go.Proofs.YtbcgiodgobmkaaaGreatDoor
namespace Go.Proofs.YtbcgiodgobmkaaaGreatDoor
open Go.RowKit Go.Sort
set_option linter.unusedVariables false
set_option linter.unusedSimpArgs false
set_option maxRecDepth 4000

/-- A new block of texts. -/
def TextsW (w : World) (g : Nat) (ss : List ByteArray) : Prop := ∀ i, i < ss.length → w.cell? ⟨g, i, none⟩ = some (.string (ss.getD i ByteArray.empty)) ∧ w.frozen? ⟨g, i, none⟩ = false
theorem TextsW.texts {w : World} {g : Nat} {ss : List ByteArray} (h : TextsW w g ss) : TextsAt w (some ⟨g, 0, none⟩) ss.length ss :=
  ⟨rfl, .inr ⟨g, 0, rfl, fun i hi => by rw [Nat.zero_add]; exact (h i hi).1⟩⟩
theorem TextsW.alloc {w : World} {g : Nat} {ss : List ByteArray} (h : TextsW w g ss) (hg : g < w.heap.size) (o : Obj) : TextsW (w.alloc o) g ss := fun i hi =>
  ⟨(World.cell?_alloc_lt (h := by exact hg) ..).trans (h i hi).1, (World.frozen?_alloc_old (h := by exact Nat.ne_of_lt hg) ..).trans (h i hi).2⟩
theorem getD_set_t (ss : List ByteArray) (k i : Nat) (z : ByteArray) (hk : k < ss.length) : (ss.set k z).getD i ByteArray.empty = if i = k then z else ss.getD i ByteArray.empty := by
  simp only [List.getD_eq_getElem?_getD, List.getElem?_set]
  by_cases h : k = i
  · subst h; simp [hk]
  · simp [h, Ne.symm h]
theorem TextsW.stored {w : World} {g : Nat} {ss : List ByteArray} (h : TextsW w g ss) (k : Nat) (z : ByteArray) (hk : k < ss.length) : TextsW (w.setCell ⟨g, k, none⟩ (.string z)) g (ss.set k z) := by
  intro i hi
  rw [List.length_set] at hi
  refine ⟨?_, by rw [World.frozen?_setCell]; exact (h i hi).2⟩
  rw [getD_set_t ss k i z hk]
  by_cases e : i = k
  · subst e
    rw [if_pos rfl]
    exact World.cell?_setCell_same _ _ _ (h i hi).1
  · rw [if_neg e]
    have h0 : (⟨g, k, none⟩ : Addr) ≠ ⟨g, i, none⟩ := fun h => e (by injection h with _ h; exact h.symm)
    exact (World.cell?_setCell_other (h := h0) ..).trans (h i hi).1
/-- The texts of the first k rows, and nothing of the others. -/
def datK (rs : List RV) (k : Nat) : List ByteArray := (List.range rs.length).map fun i => if i < k then (rs.getD i .dflt).s else ByteArray.empty
theorem datK_length (rs : List RV) (k : Nat) : (datK rs k).length = rs.length := by simp [datK]
theorem datK_getD (rs : List RV) (k i : Nat) : (datK rs k).getD i ByteArray.empty = if i < k ∧ i < rs.length then (rs.getD i .dflt).s else ByteArray.empty := by
  unfold datK
  rw [List.getD_eq_getElem?_getD]
  by_cases hi : i < rs.length
  · simp [hi]
  · simp [hi]
theorem ext_t {a b : List ByteArray} (hl : a.length = b.length) (h : ∀ i, i < a.length → a.getD i ByteArray.empty = b.getD i ByteArray.empty) : a = b := by
  apply List.ext_getElem hl
  intro i h1 h2
  have := h i h1
  simpa [List.getD_eq_getElem?_getD, List.getElem?_eq_getElem h1, List.getElem?_eq_getElem h2] using this
theorem datK_succ (rs : List RV) (k : Nat) (hk : k < rs.length) : (datK rs k).set k (rs.getD k .dflt).s = datK rs (k + 1) := by
  apply ext_t
  · rw [List.length_set, datK_length, datK_length]
  · intro i hi
    rw [List.length_set, datK_length] at hi
    rw [getD_set_t _ _ _ _ (by rw [datK_length]; exact hk), datK_getD, datK_getD]
    by_cases e : i = k
    · subst e; simp [hi]
    · rw [if_neg e]
      by_cases h2 : i < k
      · rw [if_pos ⟨h2, hi⟩, if_pos ⟨by omega, hi⟩]
      · rw [if_neg (by omega), if_neg (by omega)]
theorem datK_all (rs : List RV) : datK rs rs.length = rs.map fun r => r.s := by
  apply ext_t
  · simp [datK_length]
  · intro i hi
    rw [datK_length] at hi
    rw [datK_getD, if_pos ⟨hi, hi⟩]
    simp [List.getD_eq_getElem?_getD, List.getElem?_eq_getElem hi]
theorem row_round {w wr : World} {g g0 k : Nat} {rs : List RV} {x y u v : Value} (hT : TextsW wr g (datK rs k)) (hk : k < rs.length) (hg : g < wr.heap.size) (hX : BoxW wr g0 x y) (hne : g ≠ g0) (hb : Below w.heap.size w wr) (hgw : w.heap.size ≤ g) :
    TextsW ((wr.setCell ⟨g, k, none⟩ (.string (rs.getD k .dflt).s)).alloc (.cells #[u, v] 40)) g (datK rs (k + 1)) ∧
    BoxW ((wr.setCell ⟨g, k, none⟩ (.string (rs.getD k .dflt).s)).alloc (.cells #[u, v] 40)) g0 x y ∧
    Below w.heap.size w ((wr.setCell ⟨g, k, none⟩ (.string (rs.getD k .dflt).s)).alloc (.cells #[u, v] 40)) ∧
    g < ((wr.setCell ⟨g, k, none⟩ (.string (rs.getD k .dflt).s)).alloc (.cells #[u, v] 40)).heap.size := by
  have hb1 := hb.setCell (p := ⟨g, k, none⟩) (by exact hgw) (.string (rs.getD k .dflt).s)
  refine ⟨?_, (hX.other _ _ hne).alloc _, hb1.alloc hb1.size _, by simp; omega⟩
  rw [← datK_succ rs k hk]
  exact (hT.stored k _ (by rw [datK_length]; exact hk)).alloc (by simpa using hg) _
theorem info_str : (Tryz.prog.info? 9).map (fun i => (i.zero, i.size, i.bytes)) = some (some (.string ByteArray.empty), 1, 16) := by kernel_rfl
theorem made_textsW (w : World) (n : Nat) (rs : List RV) (hn : rs.length = n) : TextsW (w.alloc (.cells (madeCells (Value.string ByteArray.empty).cells (n * 1)) 9)) w.heap.size (datK rs 0) := by
  intro i hi
  rw [datK_length] at hi
  refine ⟨?_, by simp⟩
  rw [World.cell?_alloc_new, datK_getD, if_neg (by omega)]
  rw [show (Value.string ByteArray.empty).cells = #[Value.string ByteArray.empty] from rfl, ← Array.getElem?_toList, toList_madeCells_one, Nat.mul_one]
  simp [show i < n from by omega]

set_option maxHeartbeats 1000000 in
theorem row_any (a : Option Addr) (n c : Nat) (rs : List RV) (w : World) (h : RowsAt w a n rs) (hs : shortR rs) (hn : n ≤ 1048576) (hc : n ≤ c) (hcc : c ≤ 9223372036854775807) :
    Calls Tryz.prog 70 #[.slice a n c] w fun e w' => ∃ v, e = .returned (.agg #[v, .string (st (sumL (rs.map fun r => r.s)))]) ∧ Own w' w.heap.size v (vecL rs) ∧ Below w.heap.size w w' := by
  obtain rfl := h.1
  obtain ⟨i0, hi0, hz0, hz1, hz2⟩ := info_parts info_str
  have hrun := run_make (P := Tryz.prog) (w.alloc (.cells #[.slice none 0 0, .string ⟨#[]⟩] 40)) 54 9 i0 (.string ByteArray.empty) Tryz.underlying54 hi0 hz0 .i64 .i64 (rs.length : Int) (rs.length : Int) (by omega) (by omega) (by rw [hz2]; omega) (by omega)
  simp only [Int.toNat_natCast] at hrun
  rw [hz1] at hrun
  have hX := (boxW_new w (.slice none 0 0) (.string ⟨#[]⟩)).alloc (.cells (madeCells (Value.string ByteArray.empty).cells (rs.length * 1)) 9)
  have hT := made_textsW (w.alloc (.cells #[.slice none 0 0, .string ⟨#[]⟩] 40)) rs.length rs rfl
  have hb := below2 (Below.refl _ w) (Below.refl ((w.alloc (.cells #[.slice none 0 0, .string ⟨#[]⟩] 40)).alloc (.cells (madeCells (Value.string ByteArray.empty).cells (rs.length * 1)) 9)).heap.size _)
  have hgs : (w.alloc (.cells #[.slice none 0 0, .string ⟨#[]⟩] 40)).heap.size < ((w.alloc (.cells #[.slice none 0 0, .string ⟨#[]⟩] 40)).alloc (.cells (madeCells (Value.string ByteArray.empty).cells (rs.length * 1)) 9)).heap.size := by simp
  rw [alloc_size] at hrun hT hgs
  generalize ((w.alloc (.cells #[.slice none 0 0, .string ⟨#[]⟩] 40)).alloc (.cells (madeCells (Value.string ByteArray.empty).cells (rs.length * 1)) 9)) = w1 at *
  have HX := hide hX
  have HT := hide hT
  have HB := hide hb
  have HG := hide hgs
  clear hX hT hb hgs hi0 hz0 hz1 hz2
  go_enter Tryz.func70, Tryz.ntmps70
  go_wp2
  go_loopw [11] (fun i wr => ∃ k : Nat, k ≤ rs.length ∧ i = .int .i64 k ∧ Hid (TextsW wr (w.heap.size + 1) (datK rs k)) ∧ Hid (BoxW wr w.heap.size (.slice none 0 0) (.string ⟨#[]⟩)) ∧ Hid (Below w.heap.size w wr) ∧ Hid (w.heap.size + 1 < wr.heap.size)) (fun i _ => rs.length - (intOf i).toNat)
  case atStart => exact ⟨0, Nat.zero_le _, rfl, HT, HX, HB, HG⟩
  case round =>
    obtain ⟨k, hk, rfl, HT', HX', HB', HG'⟩ := hrel
    clear HT HX HB HG hrun
    by_cases hlt : k < rs.length
    · obtain ⟨b, off, rfl, hcl⟩ := (h.below (unhide HB')).at hlt
      obtain ⟨hc0, hc1⟩ := hcl k hlt
      have hlt' : (k : Int) < (rs.length : Int) := by omega
      have R := hide (row_round (u := .slice (rs.getD k .dflt).a (rs.getD k .dflt).n (rs.getD k .dflt).c) (v := .string (rs.getD k .dflt).s) (unhide HT') hlt (unhide HG') (unhide HX') (by omega) (unhide HB') (by omega))
      have hold := (unhide HT') k (by rw [datK_length]; exact hlt)
      obtain ⟨hcd, hfd⟩ := hold
      have hgs := unhide HG'
      have Hh := hide h
      have Hs := hide hs
      clear h hcl hs HT' HX' HB' HG'
      generalize rs.getD k .dflt = r at *
      go_wp2
      go_roundw
      case rel => exact ⟨k + 1, by omega, by go_num, hide (unhide R).1, hide (unhide R).2.1, hide (unhide R).2.2.1, hide (unhide R).2.2.2⟩
      case measure => simp [intOf]; omega
    · have hke : k = rs.length := by omega
      subst hke
      rw [datK_all] at HT'
      have HR := hide (h.below (unhide HB'))
      have HS : Hid (∀ r ∈ rs, r.xs.length ≤ 10) := hide (fun r hr => by
        obtain ⟨i, hi, rfl⟩ := List.mem_iff_getElem.1 hr
        have h1 := (hs i).1
        have h2 := (h.2.1 i hi).1
        rw [List.getD_eq_getElem?_getD, List.getElem?_eq_getElem hi] at h1 h2
        simp only [Option.getD_some] at h1 h2
        omega)
      have HS2 : Hid (shorts (rs.map fun r => r.s)) := hide (fun t ht => by
        obtain ⟨r, hr, rfl⟩ := List.mem_map.1 ht
        obtain ⟨i, hi, rfl⟩ := List.mem_iff_getElem.1 hr
        have h1 := (hs i).2
        rw [List.getD_eq_getElem?_getD, List.getElem?_eq_getElem hi] at h1
        simp only [Option.getD_some] at h1
        omega)
      have hlm : Hid ((rs.map fun r => r.s).length = rs.length) := hide (by simp)
      clear h hs hlt
      go_wp2_with fail
      refine (vecs_any rs.length a rs.length c rs _ (Nat.le_refl _) (unhide HR) (unhide HS) hn hc hcc).mono ?_
      rintro e w2 ⟨v2, rfl, ho2, hb2⟩
      obtain ⟨a2, c2, rfl, hr2⟩ := ho2.row
      clear hr2
      have ht2 := (unhide HT').texts.below hb2
      rw [unhide hlm] at ht2
      have HT2 := hide ht2
      have HX2 := hide ((unhide HX').below hb2)
      have HB2 := hide (below0 (unhide HB') hb2)
      have HO2 := hide (ho2.mono (show w.heap.size + 1 ≤ _ from by have := unhide HG'; omega))
      clear ho2 hb2 ht2 HT' HX' HB' HR
      go_wp2_with fail
      refine (sum_any _ _ _ _ _ (unhide HT2) (unhide HS2) hn).mono ?_
      rintro e w3 ⟨rfl, hb3⟩
      obtain ⟨⟨x0, x1⟩, f0, f1⟩ := (unhide HX2).below hb3
      have HB3 := hide (below0 (unhide HB2) hb3)
      have HO3 := hide ((unhide HO2).below hb3)
      clear HX2 HT2 HB2 HO2 hb3
      go_wp2
      have y1 := World.cell?_setCell_same (w3.setCell ⟨w.heap.size, 0, none⟩ (.slice a2 (vecL rs).length c2)) ⟨w.heap.size, 1, none⟩ (.string (st (sumL (rs.map fun r => r.s)))) ((World.cell?_setCell_other (h := by simp) ..).trans x1)
      have y0 : ((w3.setCell ⟨w.heap.size, 0, none⟩ (.slice a2 (vecL rs).length c2)).setCell ⟨w.heap.size, 1, none⟩ (.string (st (sumL (rs.map fun r => r.s))))).cell? ⟨w.heap.size, 0, none⟩ = some (.slice a2 (vecL rs).length c2) :=
        (World.cell?_setCell_other (h := by simp) ..).trans (World.cell?_setCell_same _ _ _ x0)
      exact bodyPost_ret (v := .agg #[.slice a2 (vecL rs).length c2, .string (st (sumL (rs.map fun r => r.s)))]) (by simp [results, Tryz.results70, go_sem, y0, y1]) rfl
        ⟨_, rfl, (((unhide HO3).other _ _ (by omega)).other _ _ (by omega)).mono (by omega), ((unhide HB3).setCell (Nat.le_refl _) _).setCell (Nat.le_refl _) _⟩
end Go.Proofs.YtbcgiodgobmkaaaGreatDoor
