/-
  Contract of xor.Row.
  Contract of bucketlineref02.Row.
-/
import Derived.Test.YtmdmipojbeppiaaGreatDoorM15
import Derived.Test.YtmdmipojbeppiaaGreatDoorM3
namespace Go.Proofs.YtmdmipojbeppiaaGreatDoor
open Go.RowKit Go.Sort
set_option linter.unusedVariables false
set_option maxRecDepth 4000

/-- A new block of texts. -/
def TextsW (w : World) (g : Nat) (ss : List ByteArray) : Prop := ∀ i, i < ss.length → w.cell? ⟨g, i, none⟩ = some (.string (ss.getD i ByteArray.empty)) ∧ w.frozen? ⟨g, i, none⟩ = false
theorem TextsW.texts {w : World} {g : Nat} {ss : List ByteArray} (h : TextsW w g ss) : TextsAt w (some ⟨g, 0, none⟩) ss.length ss :=
  ⟨rfl, .inr ⟨g, 0, rfl, fun i hi => by rw [Nat.zero_add]; exact (h i hi).1⟩⟩
theorem TextsW.alloc {w : World} {g : Nat} {ss : List ByteArray} (h : TextsW w g ss) (hg : g < w.heap.size) (o : Obj) : TextsW (w.alloc o) g ss := fun i hi =>
  ⟨(World.cell?_alloc_lt (h := by exact hg) ..).trans (h i hi).1, (World.frozen?_alloc_old (h := by exact Nat.ne_of_lt hg) ..).trans (h i hi).2⟩
theorem getD_set_t (ss : List ByteArray) (k i : Nat) (z : ByteArray) (hk : k < ss.length) : (ss.set k z).getD i ByteArray.empty = if i = k then z else ss.getD i ByteArray.empty := by
  simp only [List.getD_eq_getElem?_getD, List.getElem?_set]
  by_cases h : k = i
  · subst h; simp [hk]
  · simp [h, Ne.symm h]
theorem TextsW.stored {w : World} {g : Nat} {ss : List ByteArray} (h : TextsW w g ss) (k : Nat) (z : ByteArray) (hk : k < ss.length) : TextsW (w.setCell ⟨g, k, none⟩ (.string z)) g (ss.set k z) := by
  intro i hi
  rw [List.length_set] at hi
  refine ⟨?_, by rw [World.frozen?_setCell]; exact (h i hi).2⟩
  rw [getD_set_t ss k i z hk]
  by_cases e : i = k
  · subst e
    rw [if_pos rfl]
    exact World.cell?_setCell_same _ _ _ (h i hi).1
  · rw [if_neg e]
    have h0 : (⟨g, k, none⟩ : Addr) ≠ ⟨g, i, none⟩ := fun h => e (by injection h with _ h; exact h.symm)
    exact (World.cell?_setCell_other (h := h0) ..).trans (h i hi).1
/-- The texts of the first k rows, and nothing of the others. -/
def datK (rs : List RV) (k : Nat) : List ByteArray := (List.range rs.length).map fun i => if i < k then (rs.getD i .dflt).s else ByteArray.empty
theorem datK_length (rs : List RV) (k : Nat) : (datK rs k).length = rs.length := by simp [datK]
theorem datK_getD (rs : List RV) (k i : Nat) : (datK rs k).getD i ByteArray.empty = if i < k ∧ i < rs.length then (rs.getD i .dflt).s else ByteArray.empty := by
  unfold datK
  rw [List.getD_eq_getElem?_getD]
  by_cases hi : i < rs.length
  · simp [hi]
  · simp [hi]
theorem ext_t {a b : List ByteArray} (hl : a.length = b.length) (h : ∀ i, i < a.length → a.getD i ByteArray.empty = b.getD i ByteArray.empty) : a = b := by
  apply List.ext_getElem hl
  intro i h1 h2
  have := h i h1
  simpa [List.getD_eq_getElem?_getD, List.getElem?_eq_getElem h1, List.getElem?_eq_getElem h2] using this
theorem datK_succ (rs : List RV) (k : Nat) (hk : k < rs.length) : (datK rs k).set k (rs.getD k .dflt).s = datK rs (k + 1) := by
  apply ext_t
  · rw [List.length_set, datK_length, datK_length]
  · intro i hi
    rw [List.length_set, datK_length] at hi
    rw [getD_set_t _ _ _ _ (by rw [datK_length]; exact hk), datK_getD, datK_getD]
    by_cases e : i = k
    · subst e; simp [hi]
    · rw [if_neg e]
      by_cases h2 : i < k
      · rw [if_pos ⟨h2, hi⟩, if_pos ⟨by omega, hi⟩]
      · rw [if_neg (by omega), if_neg (by omega)]
theorem datK_all (rs : List RV) : datK rs rs.length = rs.map fun r => r.s := by
  apply ext_t
  · simp [datK_length]
  · intro i hi
    rw [datK_length] at hi
    rw [datK_getD, if_pos ⟨hi, hi⟩]
    simp [List.getD_eq_getElem?_getD, List.getElem?_eq_getElem hi]
theorem row_round {w wr : World} {g g0 k : Nat} {rs : List RV} {x y u v : Value} (hT : TextsW wr g (datK rs k)) (hk : k < rs.length) (hg : g < wr.heap.size) (hX : BoxW wr g0 x y) (hne : g ≠ g0) (hb : Below w.heap.size w wr) (hgw : w.heap.size ≤ g) :
    TextsW ((wr.setCell ⟨g, k, none⟩ (.string (rs.getD k .dflt).s)).alloc (.cells #[u, v] 40)) g (datK rs (k + 1)) ∧
    BoxW ((wr.setCell ⟨g, k, none⟩ (.string (rs.getD k .dflt).s)).alloc (.cells #[u, v] 40)) g0 x y ∧
    Below w.heap.size w ((wr.setCell ⟨g, k, none⟩ (.string (rs.getD k .dflt).s)).alloc (.cells #[u, v] 40)) ∧
    g < ((wr.setCell ⟨g, k, none⟩ (.string (rs.getD k .dflt).s)).alloc (.cells #[u, v] 40)).heap.size := by
  have hb1 := hb.setCell (p := ⟨g, k, none⟩) (by exact hgw) (.string (rs.getD k .dflt).s)
  refine ⟨?_, (hX.other _ _ hne).alloc _, hb1.alloc hb1.size _, by simp; omega⟩
  rw [← datK_succ rs k hk]
  exact (hT.stored k _ (by rw [datK_length]; exact hk)).alloc (by simpa using hg) _
theorem info_str : (Tryz.prog.info? 9).map (fun i => (i.zero, i.size, i.bytes)) = some (some (.string ByteArray.empty), 1, 16) := by kernel_rfl
theorem made_texts (w : World) (n : Nat) (rs : List RV) (hn : rs.length = n) : TextsW (w.alloc (.cells (madeCells (Value.string ByteArray.empty).cells (n * 1)) 9)) w.heap.size (datK rs 0) := by
  intro i hi
  rw [datK_length] at hi
  refine ⟨?_, by simp⟩
  rw [World.cell?_alloc_new, datK_getD, if_neg (by omega)]
  rw [show (Value.string ByteArray.empty).cells = #[Value.string ByteArray.empty] from rfl, ← Array.getElem?_toList, toList_madeCells_one, Nat.mul_one]
  simp [show i < n from by omega]

set_option maxHeartbeats 1000000 in
theorem row_any (a : Option Addr) (n c : Nat) (rs : List RV) (w : World) (h : RowsAt w a n rs) (hs : shortR rs) (hn : n ≤ 1048576) (hc : n ≤ c) (hcc : c ≤ 9223372036854775807) :
    Calls Tryz.prog 78 #[.slice a n c] w fun e w' => ∃ v, e = .returned (.agg #[v, .string (st (sumL (rs.map fun r => r.s)))]) ∧ Own w' w.heap.size v (vecL rs) ∧ Below w.heap.size w w' := by
  obtain rfl := h.1
  obtain ⟨i0, hi0, hz0, hz1, hz2⟩ := info_parts info_str
  have hrun := run_make (P := Tryz.prog) (w.alloc (.cells #[.slice none 0 0, .string ⟨#[]⟩] 40)) 62 9 i0 (.string ByteArray.empty) Tryz.underlying62 hi0 hz0 .i64 .i64 (rs.length : Int) (rs.length : Int) (by omega) (by omega) (by rw [hz2]; omega) (by omega)
  simp only [Int.toNat_natCast] at hrun
  rw [hz1] at hrun
  have hX := (boxW_new w (.slice none 0 0) (.string ⟨#[]⟩)).alloc (.cells (madeCells (Value.string ByteArray.empty).cells (rs.length * 1)) 9)
  have hT := made_texts (w.alloc (.cells #[.slice none 0 0, .string ⟨#[]⟩] 40)) rs.length rs rfl
  have hb := below2 (Below.refl _ w) (Below.refl ((w.alloc (.cells #[.slice none 0 0, .string ⟨#[]⟩] 40)).alloc (.cells (madeCells (Value.string ByteArray.empty).cells (rs.length * 1)) 9)).heap.size _)
  have hgs : (w.alloc (.cells #[.slice none 0 0, .string ⟨#[]⟩] 40)).heap.size < ((w.alloc (.cells #[.slice none 0 0, .string ⟨#[]⟩] 40)).alloc (.cells (madeCells (Value.string ByteArray.empty).cells (rs.length * 1)) 9)).heap.size := by simp
  rw [alloc_size] at hrun hT hgs
  generalize ((w.alloc (.cells #[.slice none 0 0, .string ⟨#[]⟩] 40)).alloc (.cells (madeCells (Value.string ByteArray.empty).cells (rs.length * 1)) 9)) = w1 at *
  have HX := hide hX
  have HT := hide hT
  have HB := hide hb
  have HG := hide hgs
  clear hX hT hb hgs hi0 hz0 hz1 hz2
  go_enter Tryz.func78, Tryz.ntmps78
  go_wp2
  go_loopw [11] (fun i wr => ∃ k : Nat, k ≤ rs.length ∧ i = .int .i64 k ∧ Hid (TextsW wr (w.heap.size + 1) (datK rs k)) ∧ Hid (BoxW wr w.heap.size (.slice none 0 0) (.string ⟨#[]⟩)) ∧ Hid (Below w.heap.size w wr) ∧ Hid (w.heap.size + 1 < wr.heap.size)) (fun i _ => rs.length - (intOf i).toNat)
  case atStart => exact ⟨0, Nat.zero_le _, rfl, HT, HX, HB, HG⟩
  case round =>
    obtain ⟨k, hk, rfl, HT', HX', HB', HG'⟩ := hrel
    clear HT HX HB HG hrun
    by_cases hlt : k < rs.length
    · obtain ⟨b, off, rfl, hcl⟩ := (h.below (unhide HB')).at hlt
      obtain ⟨hc0, hc1⟩ := hcl k hlt
      have hlt' : (k : Int) < (rs.length : Int) := by omega
      have R := hide (row_round (u := .slice (rs.getD k .dflt).a (rs.getD k .dflt).n (rs.getD k .dflt).c) (v := .string (rs.getD k .dflt).s) (unhide HT') hlt (unhide HG') (unhide HX') (by omega) (unhide HB') (by omega))
      have hold := (unhide HT') k (by rw [datK_length]; exact hlt)
      obtain ⟨hcd, hfd⟩ := hold
      have hgs := unhide HG'
      have Hh := hide h
      have Hs := hide hs
      clear h hcl hs HT' HX' HB' HG'
      generalize rs.getD k .dflt = r at *
      go_wp2
      go_roundw
      case rel => exact ⟨k + 1, by omega, by go_num, hide (unhide R).1, hide (unhide R).2.1, hide (unhide R).2.2.1, hide (unhide R).2.2.2⟩
      case measure => simp [intOf]; omega
    · have hke : k = rs.length := by omega
      subst hke
      rw [datK_all] at HT'
      have HR := hide (h.below (unhide HB'))
      have HS : Hid (∀ r ∈ rs, r.xs.length ≤ 10) := hide (fun r hr => by
        obtain ⟨i, hi, rfl⟩ := List.mem_iff_getElem.1 hr
        have h1 := (hs i).1
        have h2 := (h.2.1 i hi).1
        rw [List.getD_eq_getElem?_getD, List.getElem?_eq_getElem hi] at h1 h2
        simp only [Option.getD_some] at h1 h2
        omega)
      have HS2 : Hid (shorts (rs.map fun r => r.s)) := hide (fun t ht => by
        obtain ⟨r, hr, rfl⟩ := List.mem_map.1 ht
        obtain ⟨i, hi, rfl⟩ := List.mem_iff_getElem.1 hr
        have h1 := (hs i).2
        rw [List.getD_eq_getElem?_getD, List.getElem?_eq_getElem hi] at h1
        simp only [Option.getD_some] at h1
        omega)
      have hlm : Hid ((rs.map fun r => r.s).length = rs.length) := hide (by simp)
      clear h hs hlt
      go_wp2_with fail
      refine (vecs_any rs.length a rs.length c rs _ (Nat.le_refl _) (unhide HR) (unhide HS) hn hc hcc).mono ?_
      rintro e w2 ⟨v2, rfl, ho2, hb2⟩
      obtain ⟨a2, c2, rfl, hr2⟩ := ho2.row
      clear hr2
      have ht2 := (unhide HT').texts.below hb2
      rw [unhide hlm] at ht2
      have HT2 := hide ht2
      have HX2 := hide ((unhide HX').below hb2)
      have HB2 := hide (below0 (unhide HB') hb2)
      have HO2 := hide (ho2.mono (show w.heap.size + 1 ≤ _ from by have := unhide HG'; omega))
      clear ho2 hb2 ht2 HT' HX' HB' HR
      go_wp2_with fail
      refine (sum_any _ _ _ _ _ (unhide HT2) (unhide HS2) hn).mono ?_
      rintro e w3 ⟨rfl, hb3⟩
      obtain ⟨⟨x0, x1⟩, f0, f1⟩ := (unhide HX2).below hb3
      have HB3 := hide (below0 (unhide HB2) hb3)
      have HO3 := hide ((unhide HO2).below hb3)
      clear HX2 HT2 HB2 HO2 hb3
      go_wp2
      have y1 := World.cell?_setCell_same (w3.setCell ⟨w.heap.size, 0, none⟩ (.slice a2 (vecL rs).length c2)) ⟨w.heap.size, 1, none⟩ (.string (st (sumL (rs.map fun r => r.s)))) ((World.cell?_setCell_other (h := by simp) ..).trans x1)
      have y0 : ((w3.setCell ⟨w.heap.size, 0, none⟩ (.slice a2 (vecL rs).length c2)).setCell ⟨w.heap.size, 1, none⟩ (.string (st (sumL (rs.map fun r => r.s))))).cell? ⟨w.heap.size, 0, none⟩ = some (.slice a2 (vecL rs).length c2) :=
        (World.cell?_setCell_other (h := by simp) ..).trans (World.cell?_setCell_same _ _ _ x0)
      exact bodyPost_ret (v := .agg #[.slice a2 (vecL rs).length c2, .string (st (sumL (rs.map fun r => r.s)))]) (by simp [results, Tryz.results78, go_sem, y0, y1]) rfl
        ⟨_, rfl, (((unhide HO3).other _ _ (by omega)).other _ _ (by omega)).mono (by omega), ((unhide HB3).setCell (Nat.le_refl _) _).setCell (Nat.le_refl _) _⟩
end Go.Proofs.YtmdmipojbeppiaaGreatDoor
namespace Go.Proofs.YtmdmipojbeppiaaGreatDoor
open Go.RowKit Go.Sort
set_option linter.unusedVariables false
set_option maxRecDepth 4000

theorem vecL_take (rs : List RV) (k : Nat) (h : k < rs.length) : vecL (rs.take (k + 1)) = xorL (vecL (rs.take k)) (rs.getD k .dflt).xs := by
  unfold vecL
  rw [List.take_succ_eq_append_getElem h, List.foldl_append]
  simp [List.getD_eq_getElem?_getD, List.getElem?_eq_getElem h]
theorem vecL_take_len {rs : List RV} (h : ∀ r ∈ rs, r.xs.length ≤ 10) (k : Nat) : (vecL (rs.take k)).length ≤ 10 := vecL_len _ (fun r hr => h r (List.mem_of_mem_take hr))
theorem getD_map_s (rs : List RV) (k : Nat) (h : k < rs.length) : (rs.map fun r => r.s).getD k ByteArray.empty = (rs.getD k .dflt).s := by
  simp [List.getD_eq_getElem?_getD, List.getElem?_eq_getElem h]

theorem sum_take_short {rs : List RV} (hs : shortR rs) (k : Nat) : (st (sumL ((rs.map fun r => r.s).take k))).size ≤ 1048576 := by
  rw [st_size (sumL_bytes _)]
  refine sumL_len _ (fun t ht => ?_) k
  obtain ⟨r, hr, rfl⟩ := List.mem_map.1 ht
  obtain ⟨i, hi, rfl⟩ := List.mem_iff_getElem.1 hr
  have h1 := (hs i).2
  rw [List.getD_eq_getElem?_getD, List.getElem?_eq_getElem hi] at h1
  simp only [Option.getD_some] at h1
  omega
/-- What a round of bucketlineref02.Row leaves. -/
def RowK (w wr : World) (rs : List RV) (k : Nat) (a1 : Option Addr) (c1 : Nat) (t : ByteArray) : Prop :=
  BoxW wr (w.heap.size + 1) (.slice a1 (vecL (rs.take k)).length c1) (.string t) ∧ Own wr (w.heap.size + 2) (.slice a1 (vecL (rs.take k)).length c1) (vecL (rs.take k)) ∧
  t = st (sumL ((rs.map fun r => r.s).take k)) ∧ BoxW wr w.heap.size (.slice none 0 0) (.string ⟨#[]⟩) ∧ Below w.heap.size w wr ∧ w.heap.size + 2 ≤ wr.heap.size
theorem RowK.round {w wr w1 w2 : World} {rs : List RV} {k : Nat} {a1 a2 : Option Addr} {c1 c2 : Nat} {t : ByteArray} {n2 : Nat} {r : RV} (hrk : rs.getD k .dflt = r) (h : RowK w wr rs k a1 c1 t) (hk : k < rs.length) (hb1 : Below wr.heap.size wr w1)
    (ho : Own w1 wr.heap.size (.slice a2 n2 c2) (xorL (vecL (rs.take k)) r.xs))
    (hb2 : Below (w1.setCell ⟨w.heap.size + 1, 0, none⟩ (.slice a2 n2 c2)).heap.size (w1.setCell ⟨w.heap.size + 1, 0, none⟩ (.slice a2 n2 c2)) w2) :
    BoxW w2 (w.heap.size + 1) (.slice a2 n2 c2) (.string t) ∧ (n2 = (vecL (rs.take (k + 1))).length → RowK w (w2.setCell ⟨w.heap.size + 1, 1, none⟩ (.string (xorS t r.s))) rs (k + 1) a2 c2 (xorS t r.s)) := by
  subst hrk
  obtain ⟨hX, hO, ht, hX0, hB, hS⟩ := h
  have hX1 := ((hX.below hb1).set0 (.slice a2 n2 c2)).below hb2
  refine ⟨hX1, fun hn => ⟨?_, ?_, ?_, ?_, ?_, ?_⟩⟩
  · rw [← hn]; exact hX1.set1 _
  · rw [← hn]
    rw [← vecL_take rs k hk] at ho
    exact (((ho.mono hS).other _ _ (by omega)).below hb2).other _ _ (by omega)
  · rw [ht, xorS_st (sumL_bytes _), sumL_take _ _ (by simpa using hk), getD_map_s rs k hk]
  · exact (((hX0.below hb1).other _ _ (by omega)).below hb2).other _ _ (by omega)
  · have B1 := (below0 hB hb1).setCell (p := ⟨w.heap.size + 1, 0, none⟩) (Nat.le_succ _) (.slice a2 n2 c2)
    exact (below0 B1 hb2).setCell (p := ⟨w.heap.size + 1, 1, none⟩) (Nat.le_succ _) _
  · have := hb1.size
    have := hb2.size
    simp at this ⊢
    omega

set_option maxHeartbeats 4000000 in
theorem rrow_any (a : Option Addr) (n c : Nat) (rs : List RV) (w : World) (h : RowsAt w a n rs) (hs : shortR rs) (hn : n ≤ 1048576) :
    Calls Tryz.prog 80 #[.slice a n c] w fun e w' => ∃ v, e = .returned (.agg #[v, .string (st (sumL (rs.map fun r => r.s)))]) ∧ Own w' w.heap.size v (vecL rs) ∧ Below w.heap.size w w' := by
  obtain rfl := h.1
  have hb := below2 (o := .cells #[.slice none 0 0, .string ⟨#[]⟩] 40) (o' := .cells #[.slice none 0 0, .string ⟨#[]⟩] 40) (Below.refl _ w) (Below.refl _ _)
  have hX0 := (boxW_new w (.slice none 0 0) (.string ⟨#[]⟩)).alloc (.cells #[.slice none 0 0, .string ⟨#[]⟩] 40)
  have hX1 := boxW_new (w.alloc (.cells #[.slice none 0 0, .string ⟨#[]⟩] 40)) (.slice none 0 0) (.string ⟨#[]⟩)
  rw [alloc_size] at hX1
  have HK : Hid (RowK w ((w.alloc (.cells #[.slice none 0 0, .string ⟨#[]⟩] 40)).alloc (.cells #[.slice none 0 0, .string ⟨#[]⟩] 40)) rs 0 none 0 ⟨#[]⟩) := hide ⟨hX1, Own.nil _ _, rfl, hX0, hb, by simp⟩
  have HS : Hid (∀ r ∈ rs, r.xs.length ≤ 10) := hide (fun r hr => by
    obtain ⟨i, hi, rfl⟩ := List.mem_iff_getElem.1 hr
    have h1 := (hs i).1
    have h2 := (h.2.1 i hi).1
    rw [List.getD_eq_getElem?_getD, List.getElem?_eq_getElem hi] at h1 h2
    simp only [Option.getD_some] at h1 h2
    omega)
  have Hh := hide h
  have Hs := hide hs
  clear hb hX0 hX1 h hs
  go_enter Tryz.func80, Tryz.ntmps80
  go_wp2
  go_loopw [4] (fun i wr => ∃ k : Nat, ∃ a1 : Option Addr, ∃ c1 : Nat, ∃ t : ByteArray, k ≤ rs.length ∧ i = .int .i64 k ∧ Hid (RowK w wr rs k a1 c1 t)) (fun i _ => rs.length - (intOf i).toNat)
  case atStart => exact ⟨0, none, 0, _, Nat.zero_le _, rfl, HK⟩
  case round =>
    obtain ⟨k, a1, c1, t, hk, rfl, HK'⟩ := hrel
    clear HK
    by_cases hlt : k < rs.length
    · have hK := unhide HK'
      have hR := (unhide Hh).below hK.2.2.2.2.1
      obtain ⟨b, off, rfl, hcl⟩ := hR.at hlt
      obtain ⟨hc0, hc1⟩ := hcl k hlt
      obtain ⟨hx0, hx1⟩ := hK.1.1
      have hlt' : (k : Int) < (rs.length : Int) := by omega
      have hbd := (Below.refl wr.heap.size wr).drew
      obtain ⟨_, _, hv, hr1⟩ := hK.2.1.row
      simp only [Value.slice.injEq, true_and] at hv
      obtain ⟨rfl, rfl⟩ := hv
      have KX := hide (rxor_any a1 _ c1 _ (rs.getD k .dflt).a (rs.getD k .dflt).n (rs.getD k .dflt).c (rs.getD k .dflt).xs wr.drew (hr1.below hbd) ((hR.2.1 k hlt).below hbd) (by have := vecL_take_len (unhide HS) k; omega) (by have := ((unhide Hs) k).1; omega))
      have hsz1 := hide (show t.size ≤ 1048576 from by rw [hK.2.2.1]; exact sum_take_short (unhide Hs) k)
      have hsz2 := hide (show (rs.getD k .dflt).s.size ≤ 1048576 from by have := ((unhide Hs) k).2; omega)
      have HRK := hide (show ∀ w1, Below wr.drew.heap.size wr.drew w1 → w1.cell? ⟨b, off + k * 2, none⟩ = some (.slice (rs.getD k .dflt).a (rs.getD k .dflt).n (rs.getD k .dflt).c) ∧ w1.cell? ⟨b, off + k * 2 + 1, none⟩ = some (.string (rs.getD k .dflt).s) from
        fun w1 hb1 => ⟨(hb1.cell (World.block_lt_of_cell? wr _ hc0)).trans hc0, (hb1.cell (World.block_lt_of_cell? wr _ hc1)).trans hc1⟩)
      have hne : Hid (w.heap.size + 1 ≠ b ∧ b < w.heap.size) := hide (by
        obtain ⟨b', off', he, hcl'⟩ := (unhide Hh).at hlt
        simp only [Option.some.injEq, Addr.mk.injEq, and_true] at he
        have := World.block_lt_of_cell? w _ (hcl' k hlt).1
        have e := he.1
        simp at this
        omega)
      clear hcl hr1 hbd hR hK
      obtain ⟨r, hrk⟩ : ∃ r, rs.getD k .dflt = r := ⟨_, rfl⟩
      rw [hrk] at KX hsz2 HRK hc0 hc1
      have HRE := hide hrk
      clear hrk
      go_wp2_with fail
      refine wp_region_any (by kernel_rfl) ?_
      change wpAny _ _ _ _ _ _ _ (World.drew _)
      refine wpAny_take (i := 0) (v := ?_) rfl (by kernel_rfl) (by kernel_rfl) (by kernel_rfl) (fun _ _ _ h => h) (Or.inl ⟨by rfl, ?f0⟩) ?_
      case f0 => (intro w; go_simp; try with_reducible rfl)
      refine wpAny_take (i := 2) (v := ?_) rfl (by kernel_rfl) (by kernel_rfl) (by kernel_rfl) (fun _ _ _ h => h) (Or.inl ⟨by rfl, ?f2⟩) ?_
      case f2 => (intro w; go_simp; try with_reducible rfl)
      refine wpAny_take (i := 3) (v := ?_) rfl (by kernel_rfl) (by kernel_rfl) (by kernel_rfl) (fun _ _ _ h => h) (Or.inl ⟨by rfl, ?f3⟩) ?_
      case f3 => (intro w; go_simp; try with_reducible rfl)
      refine wpAny_take (i := 4) (v := ?_) rfl (by kernel_rfl) (by kernel_rfl) (by kernel_rfl) (fun _ _ _ h => h) (Or.inl ⟨by rfl, ?f4⟩) ?_
      case f4 => (intro w; go_simp; try with_reducible rfl)
      refine wpAny_take (i := 5) (v := ?_) rfl (by kernel_rfl) (by kernel_rfl) (by kernel_rfl) (fun _ _ _ h => h) (Or.inl ⟨by rfl, ?f5⟩) ?_
      case f5 => (intro w; go_simp; try with_reducible rfl)
      refine wpAny_ready (rs := [1, 6]) (by kernel_rfl) (by simp) ?_
      refine AllReady.cons rfl (fun K hK => ?_) (AllReady.cons rfl (fun K hK => ?_) AllReady.nil)
      go_simp
      refine hK _ _ ?_
      clear hK K
      refine wpAny_ready (rs := [6]) (by kernel_rfl) (by simp) ?_
      refine AllReady.cons rfl (fun K hK => ?_) AllReady.nil
      go_simp
      refine hK _ _ ?_
      clear hK K
      rotate_left
      go_simp
      refine hK _ _ ?_
      clear hK K
      refine wpAny_ready (rs := [1]) (by kernel_rfl) (by simp) ?_
      refine AllReady.cons rfl (fun K hK => ?_) AllReady.nil
      go_simp
      refine hK _ _ ?_
      clear hK K
      rotate_left
      all_goals
        refine wpAny_ready (rs := [7]) (by kernel_rfl) (by simp) ?_
        refine AllReady.cons rfl (fun K hK => ?_) AllReady.nil
        go_simp
        refine (unhide KX).mono ?_
        rintro e w1 ⟨v1, rfl, ho1, hb1⟩
        obtain ⟨a2, c2, rfl, hr1⟩ := ho1.row
        clear hr1
        have hb1w : Below wr.heap.size wr w1 := below0 ((Below.refl wr.heap.size wr).drew) hb1
        obtain ⟨⟨y0, y1⟩, f0, f1⟩ := (unhide HK').1.below hb1w
        obtain ⟨z0, z1⟩ := unhide HRK w1 hb1
        have HO1 : Hid (Own w1 wr.heap.size _ _) := hide ho1
        have HB1 := hide hb1w
        clear ho1 hb1 hb1w KX HRK hx0 hx1 hc0 hc1
        refine hK _ _ ?_
        clear hK K
        refine wpAny_take (i := 8) (v := ?_) rfl (by kernel_rfl) (by kernel_rfl) (by kernel_rfl) (fun _ _ _ h => h) (Or.inl ⟨by rfl, ?f8⟩) ?_
        case f8 => (intro w; go_simp; try with_reducible rfl)
        refine wpAny_ready (rs := [9]) (by kernel_rfl) (by simp) ?_
        refine AllReady.cons rfl (fun K hK => ?_) AllReady.nil
        go_simp
        refine hK _ _ ?_
        clear hK K
        refine wpAny_done (by kernel_rfl) ?_ _
        have p1 : (w1.setCell ⟨w.heap.size + 1, 0, none⟩ (.slice a2 (xorL (vecL (rs.take k)) r.xs).length c2)).cell? ⟨w.heap.size + 1, 1, none⟩ = some (.string t) := (World.cell?_setCell_other (h := by simp) ..).trans y1
        have p2 : (w1.setCell ⟨w.heap.size + 1, 0, none⟩ (.slice a2 (xorL (vecL (rs.take k)) r.xs).length c2)).cell? ⟨b, off + k * 2 + 1, none⟩ = some (.string r.s) := (World.cell?_setCell_other (h := fun h => (unhide hne).1 (by injection h)) ..).trans z1
        have HRR := hide (fun w2 hb2 => RowK.round (w2 := w2) (unhide HRE) (unhide HK') hlt (unhide HB1) (unhide HO1) hb2)
        have hnl := hide (show (xorL (vecL (rs.take k)) r.xs).length = (vecL (rs.take (k + 1))).length from by rw [vecL_take rs k hlt, unhide HRE])
        clear y0 y1 z0 z1 f0 f1 HO1 HB1 HK' hne
        go_wp2_with fail
        generalize (w1.setCell ⟨w.heap.size + 1, 0, none⟩ (.slice a2 (xorL (vecL (rs.take k)) r.xs).length c2)) = W1 at *
        refine wp_region_any (by kernel_rfl) ?_
        change wpAny _ _ _ _ _ _ _ (World.drew _)
        refine wpAny_take (i := 0) (v := ?_) rfl (by kernel_rfl) (by kernel_rfl) (by kernel_rfl) (fun _ _ _ h => h) (Or.inl ⟨by rfl, ?f0⟩) ?_
        case f0 => (intro w; go_simp; try with_reducible rfl)
        refine wpAny_take (i := 2) (v := ?_) rfl (by kernel_rfl) (by kernel_rfl) (by kernel_rfl) (fun _ _ _ h => h) (Or.inl ⟨by rfl, ?f2⟩) ?_
        case f2 => (intro w; go_simp; try with_reducible rfl)
        refine wpAny_take (i := 3) (v := ?_) rfl (by kernel_rfl) (by kernel_rfl) (by kernel_rfl) (fun _ _ _ h => h) (Or.inl ⟨by rfl, ?f3⟩) ?_
        case f3 => (intro w; go_simp; try with_reducible rfl)
        refine wpAny_take (i := 4) (v := ?_) rfl (by kernel_rfl) (by kernel_rfl) (by kernel_rfl) (fun _ _ _ h => h) (Or.inl ⟨by rfl, ?f4⟩) ?_
        case f4 => (intro w; go_simp; try with_reducible rfl)
        refine wpAny_take (i := 5) (v := ?_) rfl (by kernel_rfl) (by kernel_rfl) (by kernel_rfl) (fun _ _ _ h => h) (Or.inl ⟨by rfl, ?f5⟩) ?_
        case f5 => (intro w; go_simp; try with_reducible rfl)
        refine wpAny_ready (rs := [1, 6]) (by kernel_rfl) (by simp) ?_
        refine AllReady.cons rfl (fun K hK => ?_) (AllReady.cons rfl (fun K hK => ?_) AllReady.nil)
        go_simp
        refine hK _ _ ?_
        clear hK K
        refine wpAny_ready (rs := [6]) (by kernel_rfl) (by simp) ?_
        refine AllReady.cons rfl (fun K hK => ?_) AllReady.nil
        go_simp
        refine hK _ _ ?_
        clear hK K
        rotate_left
        go_simp
        refine hK _ _ ?_
        clear hK K
        refine wpAny_ready (rs := [1]) (by kernel_rfl) (by simp) ?_
        refine AllReady.cons rfl (fun K hK => ?_) AllReady.nil
        go_simp
        refine hK _ _ ?_
        clear hK K
        rotate_left
        all_goals
          refine wpAny_ready (rs := [7]) (by kernel_rfl) (by simp) ?_
          refine AllReady.cons rfl (fun K hK => ?_) AllReady.nil
          go_simp
          refine (rx_any _ _ _ (unhide hsz1) (unhide hsz2)).mono ?_
          rintro e w2 ⟨rfl, hb2⟩
          have hb2w : Below W1.heap.size W1 w2 := below0 ((Below.refl W1.heap.size W1).drew) hb2
          obtain ⟨⟨⟨q0, q1⟩, g0, g1⟩, hrr⟩ := unhide HRR w2 hb2w
          have HR2 := hide (hrr (unhide hnl))
          clear hb2 hb2w hrr HRR p1 p2
          refine hK _ _ ?_
          clear hK K
          refine wpAny_take (i := 8) (v := ?_) rfl (by kernel_rfl) (by kernel_rfl) (by kernel_rfl) (fun _ _ _ h => h) (Or.inl ⟨by rfl, ?f8⟩) ?_
          case f8 => (intro w; go_simp; try with_reducible rfl)
          refine wpAny_ready (rs := [9]) (by kernel_rfl) (by simp) ?_
          refine AllReady.cons rfl (fun K hK => ?_) AllReady.nil
          go_simp
          refine hK _ _ ?_
          clear hK K
          refine wpAny_done (by kernel_rfl) ?_ _
          go_wp2
          go_roundw
          case rel => exact ⟨k + 1, a2, c2, _, by omega, by go_num, HR2⟩
          case measure => simp [intOf]; omega
    · have hke : k = rs.length := by omega
      subst hke
      have hK := unhide HK'
      rw [RowK, List.take_of_length_le (Nat.le_refl _), List.take_of_length_le (by simp)] at hK
      obtain ⟨⟨⟨x0, x1⟩, _, _⟩, hO, rfl, ⟨⟨x2, x3⟩, f2, f3⟩, hB, _⟩ := hK
      have HO := hide hO
      have HB := hide hB
      clear hO hB HK' Hh HS Hs
      go_wp2
      have y1 := World.cell?_setCell_same (wr.setCell ⟨w.heap.size, 0, none⟩ (.slice a1 (vecL rs).length c1)) ⟨w.heap.size, 1, none⟩ (.string (st (sumL (rs.map fun r => r.s)))) ((World.cell?_setCell_other (h := by simp) ..).trans x3)
      have y0 : ((wr.setCell ⟨w.heap.size, 0, none⟩ (.slice a1 (vecL rs).length c1)).setCell ⟨w.heap.size, 1, none⟩ (.string (st (sumL (rs.map fun r => r.s))))).cell? ⟨w.heap.size, 0, none⟩ = some (.slice a1 (vecL rs).length c1) :=
        (World.cell?_setCell_other (h := by simp) ..).trans (World.cell?_setCell_same _ _ _ x2)
      exact bodyPost_ret (v := .agg #[.slice a1 (vecL rs).length c1, .string (st (sumL (rs.map fun r => r.s)))]) (by simp [results, Tryz.results80, go_sem, y0, y1]) rfl
        ⟨_, rfl, (((unhide HO).other _ _ (by omega)).other _ _ (by omega)).mono (by omega), ((unhide HB).setCell (Nat.le_refl _) _).setCell (Nat.le_refl _) _⟩
end Go.Proofs.YtmdmipojbeppiaaGreatDoor
