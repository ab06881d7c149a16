/-
  Contracts of slices.IndexFunc over insert's closure, of echelon.insert, Basis, Rank: for rows of at most 2^20 words, fewer than 2^20 rows, in every world that holds the table of math/bits.
-/
import Derived.Test.YtohiiagpfepjnaaDoorEB
namespace Go.Proofs.YtohiiagpfepjnaaDoor
open Go.RowKit
set_option linter.unusedVariables false

theorem Tab.belowB {w w' : World} {B : Nat} (h : Tab w) (hb : Below B w w') (hB : 0 < B) : Tab w' := fun i hi => (hb.cell (p := ⟨0, i, none⟩) hB).trans (h i hi)
theorem idx_step (f : Int) (rs : List (List Nat)) (k : Nat) (h : ∀ j, j < k → firstI (rs.getD j []) ≤ f) (h0 : firstI (rs.getD k []) ≤ f) : ∀ j, j < k + 1 → firstI (rs.getD j []) ≤ f := by
  intro j hj
  by_cases e : j = k
  · rw [e]; exact h0
  · exact h j (by omega)
/-- What IndexFunc tells. -/
def idxI (f : Int) (rs : List (List Nat)) : Int := if idxL f rs < rs.length then (idxL f rs : Int) else -1
theorem idxI_at {f : Int} {rs : List (List Nat)} {k : Nat} (hk : k < rs.length) (h : ∀ j, j < k → firstI (rs.getD j []) ≤ f) (h2 : f < firstI (rs.getD k [])) : (k : Int) = idxI f rs := by
  unfold idxI
  rw [idxL_of f rs k (by omega) (fun j hj => by have := h j hj; omega) (fun _ => h2), if_pos hk]
theorem idxI_none {f : Int} {rs : List (List Nat)} {k : Nat} (hk : rs.length ≤ k) (h : ∀ j, j < k → firstI (rs.getD j []) ≤ f) : (-1 : Int) = idxI f rs := by
  unfold idxI
  rw [if_neg]
  intro h1
  have := idxL_at f rs h1
  have := h _ (Nat.lt_of_lt_of_le h1 hk)
  omega
set_option maxHeartbeats 1000000 in
theorem indexf_any (a : Option Addr) (n c q : Nat) (rs : List (List Nat)) (f : Int) (w : World) (ht : Tab w) (h : VecsAt w a n rs) (hf : Fit 1048576 rs) (hq : w.cell? ⟨q, 0, none⟩ = some (.int .i64 f)) (hn : n ≤ 1048576) :
    Calls Tryd.prog 26 #[.slice a n c, .func (.func 27) #[] #[.pointer (some ⟨q, 0, none⟩)]] w fun e w' => e = .returned (.int .i64 (idxI f rs)) ∧ Below w.heap.size w w' := by
  go_enter Tryd.func26, Tryd.ntmps26
  go_wp2
  go_loopw [8] (fun i wr => ∃ k : Nat, k ≤ n ∧ i = .int .i64 k ∧ Hid (∀ j, j < k → firstI (rs.getD j []) ≤ f) ∧ Hid (Below w.heap.size w wr)) (fun i _ => n - (intOf i).toNat)
  case atStart => exact ⟨0, Nat.zero_le _, rfl, hide (fun j hj => by omega), hide (Below.refl _ _)⟩
  case round =>
    obtain ⟨k, hk, rfl, HZ, HB⟩ := hrel
    by_cases hlt : k < n
    · have hB := unhide HB
      obtain ⟨b, off, rfl, hc⟩ := (h.below hB).at hlt
      obtain ⟨ai, ci, hcell, hrow⟩ := hc k hlt
      have hq' : wr.cell? ⟨q, 0, none⟩ = some (.int .i64 f) := (hB.cell (World.block_lt_of_cell? w _ hq)).trans hq
      have hG := greater_any ai (rs.getD k []).length ci q (rs.getD k []) f wr (ht.below hB) hrow hq' (hf.getD k).2
      by_cases h0 : f < firstI (rs.getD k [])
      · rw [show decide (f < firstI (rs.getD k [])) = true by simpa using h0] at hG
        have HG := hide hG
        have HI := hide (idxI_at (by rw [h.1]; exact hlt) (unhide HZ) h0)
        clear hc hrow h hG h0 hq hq' HZ
        generalize rs.getD k [] = y at *
        go_wp2_with (go_at_call 27; refine (unhide HG).mono ?_; rintro e w1 ⟨rfl, d, rfl⟩)
        go_ret
        exact ⟨ret_int (unhide HI), below_drewN hB d⟩
      · rw [show decide (f < firstI (rs.getD k [])) = false by simpa using h0] at hG
        have HG := hide hG
        have HS := hide (idx_step f rs k (unhide HZ) (by omega))
        clear hc hrow h hG h0 hq hq' HZ
        generalize rs.getD k [] = y at *
        go_wp2_with (go_at_call 27; refine (unhide HG).mono ?_; rintro e w1 ⟨rfl, d, rfl⟩)
        go_roundw
        case rel => exact ⟨k + 1, by omega, by go_num, HS, hide (below_drewN hB d)⟩
        case measure => simp [intOf]; omega
    · have HI := hide (idxI_none (by rw [h.1]; omega) (unhide HZ))
      clear h
      go_wp2
      go_ret
      exact ⟨ret_int (unhide HI), unhide HB⟩

theorem OwnV.cell {w : World} {B g n cap : Nat} {vs : List Value} {rs : List (List Nat)} (h : OwnV w B (.slice (some ⟨g, 0, none⟩) n cap) vs rs) {k : Nat} {u : Value} (hu : vs[k]? = some u) :
    w.cell? ⟨g, k, none⟩ = some u ∧ w.frozen? ⟨g, k, none⟩ = false := by
  rcases h.top.2 with ⟨h0, _⟩ | ⟨g', cap', cur, h0, hb, hg, hnc, hcm, hcs, ht⟩
  · cases h0
  · simp only [Value.slice.injEq, Option.some.injEq, Addr.mk.injEq, and_true] at h0
    obtain ⟨rfl, _, rfl⟩ := h0
    have hk : k < vs.length := (List.getElem?_eq_some_iff.1 hu).1
    have hl := h.len
    refine ⟨?_, by simp [World.frozen?, hg]⟩
    rw [cell_of_row w g k _ _ _ hg, ← Array.getElem?_toList, ← hu, ← ht, List.getElem?_take_of_lt (by omega)]
theorem OwnV.some {w : World} {B n c : Nat} {a : Option Addr} {vs : List Value} {rs : List (List Nat)} (h : OwnV w B (.slice a n c) vs rs) (h0 : 0 < rs.length) : ∃ g, a = Option.some ⟨g, 0, none⟩ := by
  rcases h.top.2 with ⟨_, h1⟩ | ⟨g', cap', cur, h1, _⟩
  · omega
  · simp only [Value.slice.injEq] at h1
    exact ⟨g', h1.1⟩
theorem OwnV.one {w : World} {B : Nat} {v : Value} {vs : List Value} {rs : List (List Nat)} (h : OwnV w B v vs rs) : ∀ u ∈ vs, u.oneCell' = true := by
  intro u hu
  obtain ⟨i, hi, rfl⟩ := List.getElem_of_mem hu
  obtain ⟨a, c, e, _⟩ := (h.rows i _ (List.getElem?_eq_getElem hi)).row
  rw [e]; rfl
theorem Own.keeps {w w' : World} {B : Nat} {v : Value} {xs : List Nat} {l0 l : List Value} (h : Own w B v xs) (k : Keeps w w' l0 l) (ho : ∀ b, v.ownBlock = some b → Off l0 b) : Own w' B v xs := by
  refine ⟨h.1, h.2.1, ?_⟩
  rcases h.2.2 with h0 | ⟨g, cap, cur, h1, hg, hgg, r⟩
  · exact .inl h0
  · exact .inr ⟨g, cap, cur, h1, hg, (k.block g (Array.getElem?_eq_some_iff.1 hgg).1 (ho g (by rw [h1]; rfl))).1.trans hgg, r⟩
theorem ByAt.keeps {w w' : World} {lo p : Nat} {a : Option Addr} {n c : Nat} {l0 l : List Value} (h : ByAt w lo p a n c) (k : Keeps w w' l0 l) (hp : Off l0 p) : ByAt w' lo p a n c :=
  ⟨h.1, k.cell h.2 hp⟩

theorem OwnV.cell_turned {w w' : World} {B g n cap : Nat} {vs : List Value} {rs : List (List Nat)} (h : OwnV w B (.slice (Option.some ⟨g, 0, none⟩) n cap) vs rs) {k : Nat} {u v : Value} (hu : vs[k]? = Option.some u) (ht : Turned w w' u v) :
    w'.cell? ⟨g, k, none⟩ = Option.some u ∧ w'.frozen? ⟨g, k, none⟩ = false := by
  obtain ⟨h1, h2⟩ := h.cell hu
  have hg : Option.some g ≠ u.ownBlock := by
    intro e
    rcases h.dis hu with hd | hd
    · rw [hd] at e; cases e
    · exact hd e.symm
  exact ⟨ht.1.cell h1 hg, (World.frozen?_of_block (ht.1.block g (World.block_lt_of_cell? w _ h1) hg)).trans h2⟩

/-- The rows so far. -/
def stepped (r : List Nat) (rs : List (List Nat)) (k : Nat) : List (List Nat) := (rs.map fun b => stepL b r).take k ++ rs.drop k
theorem stepped_zero (r : List Nat) (rs : List (List Nat)) : stepped r rs 0 = rs := by simp [stepped]
theorem stepped_all (r : List Nat) (rs : List (List Nat)) : stepped r rs rs.length = rs.map fun b => stepL b r := by
  unfold stepped
  rw [List.drop_length, List.append_nil, List.take_of_length_le (by simp)]
theorem stepped_length (r : List Nat) (rs : List (List Nat)) (k : Nat) (hk : k ≤ rs.length) : (stepped r rs k).length = rs.length := by simp [stepped]; omega
theorem stepped_at (r : List Nat) (rs : List (List Nat)) (k : Nat) (hk : k < rs.length) : (stepped r rs k).getD k [] = rs.getD k [] := by
  unfold stepped
  rw [List.getD_eq_getElem?_getD, List.getElem?_append_right (by simp; omega), List.length_take, List.length_map, Nat.min_eq_left (by omega), Nat.sub_self, List.getElem?_drop, Nat.add_zero, ← List.getD_eq_getElem?_getD]
theorem stepped_succ (r : List Nat) (rs : List (List Nat)) (k : Nat) (hk : k < rs.length) : (stepped r rs k).set k (stepL (rs.getD k []) r) = stepped r rs (k + 1) := by
  unfold stepped
  have hl : ((rs.map fun b => stepL b r).take k).length = k := by simp; omega
  rw [List.set_append_right _ _ (by omega), hl, Nat.sub_self, List.drop_eq_getElem_cons hk, List.set_cons_zero, List.take_succ_eq_append_getElem (by simpa using hk), List.append_assoc]
  simp [List.getD_eq_getElem?_getD, List.getElem?_eq_getElem hk]

set_option maxHeartbeats 1000000 in
theorem einsert_no (B : Nat) (a : Option Addr) (c : Nat) (vs : List Value) (rs : List (List Nat)) (a' : Option Addr) (m c' : Nat) (xs : List Nat) (w : World) (ht : Tab w) (hB : B ≤ w.heap.size)
    (h : OwnV w B (.slice a rs.length c) vs rs) (hf : Fit 1048576 rs) (h' : RowAt w a' m xs) (hn : rs.length ≤ 1000000) (hm : m ≤ 1048576) (hneg : firstI (reduceL rs xs) < 0) :
    Calls Tryd.prog 19 #[.slice a rs.length c, .slice a' m c'] w fun e w' => e = .returned (.tuple #[.slice a rs.length c, .bool false]) ∧ OwnV w' B (.slice a rs.length c) vs rs ∧ Below B w w' := by
  obtain ⟨a0, c0, e0, hv⟩ := h.vecs
  simp only [Value.slice.injEq, true_and] at e0
  obtain ⟨rfl, rfl⟩ := e0
  have HR := hide (reduce_any a rs.length c rs a' m c' xs w ht hv hf h' (by omega) hm)
  obtain ⟨hrs, hrl⟩ := reduce_small hf h'.2.1 (by rw [h'.1]; exact hm)
  have hfl := firstI_le hrs
  generalize reduceL rs xs = r at *
  have HF := hide (fun (w1 : World) (ar : Option Addr) (cr : Nat) (hb : Below w.heap.size w w1) (hr : RowAt w1 ar r.length r) => first_any ar r.length cr r w1 (ht.below hb) hr hrl)
  clear hv h' hf
  generalize firstI r = f at *
  go_enter Tryd.func19, Tryd.ntmps19
  go_wp2_with fail
  refine (unhide HR).mono ?_
  rintro e w1 ⟨v, rfl, ho, hb⟩
  obtain ⟨ar, cr, rfl, hr⟩ := ho.row
  have HF1 := hide (unhide HF w1 ar cr hb hr)
  have HB := hide hb
  clear HF hr ho HR hb
  go_wp2_with (go_at_call 23; refine (unhide HF1).mono ?_; rintro e w2 ⟨rfl, rfl⟩)
  go_ret2
  have hbA : Below w.heap.size w (w2.alloc (.cells #[.int .i64 f] 3)) := (unhide HB).alloc (unhide HB).size _
  exact ⟨rfl, h.below hbA, hbA.mono hB⟩

set_option maxHeartbeats 4000000 in
theorem einsert_yes (B : Nat) (a : Option Addr) (c : Nat) (vs : List Value) (rs : List (List Nat)) (a' : Option Addr) (m c' : Nat) (xs : List Nat) (w : World) (ht : Tab w) (hB0 : 0 < B) (hB : B ≤ w.heap.size)
    (h : OwnV w B (.slice a rs.length c) vs rs) (hf : Fit 1048576 rs) (h' : RowAt w a' m xs) (hn : rs.length ≤ 1000000) (hm : m ≤ 1048576) (hpos : 0 ≤ firstI (reduceL rs xs)) :
    Calls Tryd.prog 19 #[.slice a rs.length c, .slice a' m c'] w fun e w' => ∃ v' vs', e = .returned (.tuple #[v', .bool true]) ∧ OwnV w' B v' vs' (insertL rs xs) ∧ Below B w w' := by
  have hmf : ∀ (fn : Fn) (first cap : Array Value) (w : World), (Instr.makeFunc fn first cap).run Tryd.prog w = .ok (.func fn first cap) w := fun _ _ _ _ => rfl
  obtain ⟨a0, c0, e0, hv⟩ := h.vecs
  simp only [Value.slice.injEq, true_and] at e0
  obtain ⟨rfl, rfl⟩ := e0
  have HR := hide (reduce_any a rs.length c rs a' m c' xs w ht hv hf h' (by omega) hm)
  obtain ⟨hrs, hrl⟩ := reduce_small hf h'.2.1 (by rw [h'.1]; exact hm)
  have hfl := firstI_le hrs
  have HI : insertL rs xs = insAt (reduceL rs xs) (idxL (firstI (reduceL rs xs)) (rs.map fun b => stepL b (reduceL rs xs))) (rs.map fun b => stepL b (reduceL rs xs)) := by
    unfold insertL
    rw [if_neg (by omega)]
  rw [HI]
  clear HI hv h'
  generalize reduceL rs xs = r at *
  have HF := hide (fun (w1 : World) (ar : Option Addr) (cr : Nat) (hb : Below w.heap.size w w1) (hr : RowAt w1 ar r.length r) => first_any ar r.length cr r w1 (ht.below hb) hr hrl)
  have HBY := hide (fun (w1 : World) (ar : Option Addr) (cr : Nat) => by_any ar r.length cr w1)
  have HST := hide (fun (lo p : Nat) (a1 : Option Addr) (c1 : Nat) (ys : List Nat) (ar : Option Addr) (cr : Nat) (w1 : World) (ht1 : Tab w1) (ho : Own w1 B (.slice a1 ys.length c1) ys) (hB1 : B ≤ w1.heap.size) (hr : RowAt w1 ar r.length r) (hby : ByAt w1 lo p ar r.length cr) (hcr : r.length ≤ cr) => estep_any B lo p a1 c1 ys ar r.length cr r w1 ht1 ho hB1 hr hby hcr)
  have HC := hide (hf.map hrs hrl)
  have hcl : (rs.map fun b => stepL b r).length = rs.length := by simp
  have hSA := stepped_all r rs
  have hil := idxL_le (firstI r) (rs.map fun b => stepL b r)
  rw [hcl] at hil
  have HIX : Hid (idxI (firstI r) (rs.map fun b => stepL b r) = if idxL (firstI r) (rs.map fun b => stepL b r) < rs.length then (idxL (firstI r) (rs.map fun b => stepL b r) : Int) else -1) := by unfold idxI; rw [hcl]; rfl
  have HSA := hide hSA
  have HCL := hide hcl
  clear hSA hcl
  generalize hCe : (rs.map fun b => stepL b r) = C at *
  clear hCe
  generalize firstI r = f at *
  go_enter Tryd.func19, Tryd.ntmps19
  go_wp2_with fail
  refine (unhide HR).mono ?_
  rintro e w1 ⟨v, rfl, ho, hb⟩
  obtain ⟨ar, cr, rfl, hr⟩ := ho.row
  have HF1 := hide (unhide HF w1 ar cr hb hr)
  clear HF HR
  go_wp2_with fail
  refine (unhide HF1).mono ?_
  rintro e w2 ⟨rfl, hw⟩
  obtain rfl := hw.symm
  go_wp2_with fail
  have hbW : Below w1.heap.size w1 (w1.alloc (.cells #[.int .i64 f] 3)) := (Below.refl _ _).alloc (Nat.le_refl _) _
  have hbWw := below0 hb hbW
  have hcW : (w1.alloc (.cells #[.int .i64 f] 3)).cell? ⟨w1.heap.size, 0, none⟩ = some (.int .i64 f) := by rw [World.cell?_alloc_at _ _ _ _ rfl]; rfl
  have HSZ := hide (alloc_size w1 (.cells #[.int .i64 f] 3))
  have HBY1 := hide (unhide HBY (w1.alloc (.cells #[.int .i64 f] 3)) ar cr)
  have hoW := ho.below hbW
  have hq7 := hb.size
  clear HBY HF1 ho hr hbW hb
  generalize w1.alloc (.cells #[.int .i64 f] 3) = W at *
  generalize w1.heap.size = q7 at *
  refine (unhide HBY1).mono ?_
  rintro e w2 ⟨rfl, hby, hb2⟩
  have hB2 := below0 hbWw hb2
  have h2 := h.below hB2
  have ho2 := hoW.below hb2
  have hc2 : w2.cell? ⟨q7, 0, none⟩ = some (.int .i64 f) := (hb2.cell (World.block_lt_of_cell? W _ hcW)).trans hcW
  have HC2 := hide hc2
  have offV : Hid (∀ b, w.heap.size ≤ b → Off (.slice a rs.length c :: vs) b) := hide (fun b hb => h.off (.inr hb))
  have offB : Hid (∀ b, b < B → Off (.slice a rs.length c :: vs) b) := hide (fun b hb => h.off (.inl hb))
  have ht2 := ht.below hB2
  have hszW := hbWw.size
  have HO2 := hide ho2
  have HBY2 := hide hby
  have HB2 := hide hB2
  clear HBY1 hoW hc2 hcW hby hb2 hbWw ho2 hB2 HSZ
  generalize W.heap.size = pW at *
  go_wp2
  go_loopw [24] (fun i wr => ∃ k : Nat, k ≤ rs.length ∧ i = .int .i64 k ∧ ∃ vs', Hid (OwnV wr B (.slice a rs.length c) vs' (stepped r rs k) ∧ Keeps w2 wr (.slice a rs.length c :: vs) (.slice a rs.length c :: vs'))) (fun i _ => rs.length - (intOf i).toNat)
  case atStart => exact ⟨0, Nat.zero_le _, rfl, vs, hide ⟨by rw [stepped_zero]; exact h2, Keeps.refl _ _⟩⟩
  case round =>
    obtain ⟨k, hk, rfl, vs', HV⟩ := hrel
    obtain ⟨hV, hK⟩ := unhide HV
    clear HV h h2
    have hor := (unhide HO2).keeps hK (fun b hb => unhide offV b ((unhide HO2).lt hb).1)
    have hrw : RowAt wr ar r.length r := by
      obtain ⟨a1, c1, e1, hrr⟩ := hor.row
      simp only [Value.slice.injEq] at e1
      rw [e1.1]; exact hrr
    have hoff' : Hid (∀ ad, ar = some ad → ∀ u ∈ vs', u.ownBlock ≠ some ad.block) := hide (fun ad e u hu => by
      have hob : (Value.slice ar r.length cr).ownBlock = some ad.block := by rw [e]; rfl
      have hl := (unhide HO2).lt hob
      exact (hK.block ad.block hl.2 (unhide offV _ hl.1)).2 u (List.mem_cons_of_mem _ hu))
    have hBr := hK.below (Nat.le_trans hB (unhide HB2).size) (unhide offB)
    have hBwr : B ≤ wr.heap.size := Nat.le_trans hB (Nat.le_trans (unhide HB2).size hK.size)
    by_cases hlt : k < rs.length
    · have hby := (unhide HBY2).keeps hK (unhide offV _ hszW)
      have hsl := stepped_length r rs k hk
      obtain ⟨g, rfl⟩ := hV.some (by rw [hsl]; omega)
      have hvl := hV.len
      obtain ⟨u, hu⟩ : ∃ u, vs'[k]? = some u := ⟨_, List.getElem?_eq_getElem (by omega)⟩
      have hou := hV.rows k u hu
      rw [stepped_at r rs k hlt] at hou
      obtain ⟨hcell, hfz⟩ := hV.cell hu
      obtain ⟨ak, ck, rfl, _⟩ := hou.row
      have HS := hide (unhide HST _ _ ak ck (rs.getD k []) ar cr wr (ht2.belowB hBr hB0) hou hBwr hrw hby (unhide HO2).cap (.inr fun ad e e2 => unhide hoff' ad e _ (List.mem_of_getElem? hu) e2.symm) (hf.getD k).2 hrl)
      have HT := hide (fun w3 v3 (ho3 : Own w3 B v3 (stepL (rs.getD k []) r)) ht3 => hV.turn hu ho3 ht3)
      have H3 := hide (fun w3 v3 (ht3 : Turned wr w3 (.slice ak (rs.getD k []).length ck) v3) => hV.cell_turned hu ht3)
      have HSS := hide (stepped_succ r rs k hlt)
      have HK := hide hK
      clear hV hou hu hor hrw hoff' hBr hby hvl hsl hK HBY2 HO2 HC2 offV offB HST hfz
      generalize rs.getD k [] = y at *
      go_wp2_with fail
      refine (unhide HS).mono ?_
      rintro e w3 ⟨v3, rfl, ho3, ht3⟩
      obtain ⟨hc3, hf3⟩ := unhide H3 w3 v3 ht3
      obtain ⟨hV3, hK3⟩ := unhide HT w3 v3 ho3 ht3
      obtain ⟨a3, c3, rfl, _⟩ := ho3.row
      rw [unhide HSS] at hV3
      have HN := hide (And.intro hV3 ((unhide HK).trans hK3))
      clear hV3 hK3 ho3 ht3 HS HT H3 HSS HK hcell
      go_wp2
      go_roundw
      case rel => exact ⟨k + 1, by omega, by go_num, _, HN⟩
      case measure => simp [intOf]; omega
    · have hke : k = rs.length := by omega
      subst hke
      rw [unhide HSA] at hV
      have hcl := unhide HCL
      obtain ⟨a1, c1, e1, hvec⟩ := hV.vecs
      rw [hcl] at hvec e1
      simp only [Value.slice.injEq, true_and] at e1
      obtain ⟨rfl, rfl⟩ := e1
      have htr := ht2.belowB hBr hB0
      have hc7 := hK.cell (unhide HC2) (unhide offV q7 hq7)
      have HX := hide (indexf_any a rs.length c q7 C f wr htr hvec (unhide HC) hc7 (by omega))
      have hBw := ((unhide HB2).mono hB).trans hBr
      have HBw := hide hBw
      have HV := hide hV
      have HOR := hide hor
      have HCL2 := hide hcl
      clear hV hvec hc7 hor hrw hBr hBw HBY2 HO2 HC2 offV offB HST hcl hK HC
      go_wp2_with fail
      refine (unhide HX).mono ?_
      rintro e w4 ⟨rfl, hb4⟩
      have hV4 := (unhide HV).below hb4
      have hb5 : Below w4.heap.size w4 (w4.alloc (.cells #[.slice ar r.length cr] 31)) := (Below.refl _ _).alloc (Nat.le_refl _) _
      have hV5 := hV4.below hb5
      have hO5 := (((unhide HOR).mono hB).below hb4).below hb5
      have hBw5 := ((unhide HBw).trans (hb4.mono hBwr)).trans (hb5.mono (Nat.le_trans hBwr hb4.size))
      have hd5 : ∀ u ∈ vs', Dis u (.slice ar r.length cr) := fun u hu => by
        cases har : ar with
        | none => exact Dis.symm (.inl rfl)
        | some ad => exact .inr (unhide hoff' ad har u hu)
      have htop5 := hV5.top
      rw [unhide HCL2] at htop5
      have HIN := hide (insert_lib B a rs.length c vs' (idxL f C) w4.heap.size (.slice ar r.length cr) _ htop5 (Nat.le_trans hBwr (Nat.le_trans hb4.size hb5.size)) hil (by omega) (heap_alloc_new w4 _) (fun e => hV4.off (.inr (Nat.le_refl _)) _ List.mem_cons_self e.symm) rfl hV5.one)
      have HFIN := hide (fun w6 s6 (h6 : World.ownsRow w6 B 31 1 s6 (rs.length + 1) (vs'.take (idxL f C) ++ .slice ar r.length cr :: vs'.drop (idxL f C))) (hg6 : World.grownBy _ w6 (Value.slice a rs.length c).ownBlock) =>
        And.intro (hV5.insert hO5 hd5 (by rw [unhide HCL2]; exact hil) (by rw [unhide HCL2]; exact h6) hg6) (hBw5.trans (gb_below hg6 (Nat.le_trans hBwr (Nat.le_trans hb4.size hb5.size)) (fun k hk => (hV5.top.lt k hk).1))))
      clear hV4 hV5 hO5 hBw5 hd5 htop5 hoff' HV HOR HBw HX hb5
      by_cases hidx : idxL f C < rs.length
      · have e := unhide HIX
        rw [if_pos hidx] at e
        obtain ⟨p, hp⟩ : ∃ p, idxL f C = p := ⟨_, rfl⟩
        rw [hp] at HIN HFIN hidx hil e
        rw [e]
        have HP := hide hp
        clear e HIX hp
        go_wp2_with fail
        refine (unhide HIN).mono ?_
        rintro e w6 ⟨s6, rfl, h6, hg6⟩
        obtain ⟨hF, hBB⟩ := unhide HFIN w6 s6 h6 hg6
        rw [← unhide HP] at hF
        have HF := hide hF
        have HBB := hide hBB
        clear hF hBB h6 hg6 HFIN HIN HP
        go_wp2
        go_ret2
        exact ⟨_, _, rfl, unhide HF, unhide HBB⟩
      · have e := unhide HIX
        rw [if_neg hidx] at e
        rw [e]
        have hp : idxL f C = rs.length := by omega
        rw [hp] at HIN HFIN
        clear e HIX
        go_wp2_with fail
        refine (unhide HIN).mono ?_
        rintro e w6 ⟨s6, rfl, h6, hg6⟩
        obtain ⟨hF, hBB⟩ := unhide HFIN w6 s6 h6 hg6
        rw [← hp] at hF
        have HF := hide hF
        have HBB := hide hBB
        clear hF hBB h6 hg6 HFIN HIN hp
        go_wp2
        go_ret2
        exact ⟨_, _, rfl, unhide HF, unhide HBB⟩

/-- Add of a row to a basis of the call's own. -/
theorem einsert_any (B : Nat) (a : Option Addr) (c : Nat) (vs : List Value) (rs : List (List Nat)) (a' : Option Addr) (m c' : Nat) (xs : List Nat) (w : World) (ht : Tab w) (hB0 : 0 < B) (hB : B ≤ w.heap.size)
    (h : OwnV w B (.slice a rs.length c) vs rs) (hf : Fit 1048576 rs) (h' : RowAt w a' m xs) (hn : rs.length ≤ 1000000) (hm : m ≤ 1048576) :
    Calls Tryd.prog 19 #[.slice a rs.length c, .slice a' m c'] w fun e w' => ∃ v' vs', e = .returned (.tuple #[v', .bool (decide (0 ≤ firstI (reduceL rs xs)))]) ∧ OwnV w' B v' vs' (insertL rs xs) ∧ Below B w w' := by
  by_cases hneg : firstI (reduceL rs xs) < 0
  · rw [show decide (0 ≤ firstI (reduceL rs xs)) = false by simp; omega, show insertL rs xs = rs by unfold insertL; rw [if_pos hneg]]
    refine (einsert_no B a c vs rs a' m c' xs w ht hB h hf h' hn hm hneg).mono ?_
    rintro e w' ⟨rfl, h1, h2⟩
    exact ⟨_, _, rfl, h1, h2⟩
  · rw [show decide (0 ≤ firstI (reduceL rs xs)) = true by simp; omega]
    exact einsert_yes B a c vs rs a' m c' xs w ht hB0 hB h hf h' hn hm (by omega)

set_option maxHeartbeats 1000000 in
theorem basis_any (a : Option Addr) (n c : Nat) (rs : List (List Nat)) (w : World) (ht : Tab w) (h : VecsAt w a n rs) (hf : Fit 1048576 rs) (hn : n ≤ 100000) :
    Calls Tryd.prog 9 #[.slice a n c] w fun e w' => ∃ v vs, e = .returned v ∧ OwnV w' w.heap.size v vs (basisL rs) ∧ Below w.heap.size w w' := by
  have hB0 : 0 < w.heap.size := World.block_lt_of_cell? w _ (ht 0 (by omega))
  go_enter Tryd.func9, Tryd.ntmps9
  go_wp2
  go_loopw [3, 8] (fun b i wr => ∃ k : Nat, k ≤ n ∧ i = .int .i64 k ∧ ∃ a1 c1 vs, b = .slice a1 (basisL (rs.take k)).length c1 ∧ Hid (OwnV wr w.heap.size (.slice a1 (basisL (rs.take k)).length c1) vs (basisL (rs.take k))) ∧ Hid (Below w.heap.size w wr)) (fun _ i _ => n - (intOf i).toNat)
  case atStart => exact ⟨0, Nat.zero_le _, rfl, none, 0, [], rfl, hide (OwnV.nil _ _), hide (Below.refl _ _)⟩
  case round =>
    obtain ⟨k, hk, rfl, a1, c1, vs, rfl, HV, HB⟩ := hrel
    by_cases hlt : k < n
    · have hB := unhide HB
      obtain ⟨b, off, rfl, hc⟩ := (h.below hB).at hlt
      obtain ⟨ai, ci, hcell, hrow⟩ := hc k hlt
      have hfk := hf.take k
      have hbl := basis_len hfk
      have htk : (rs.take k).length ≤ k := List.length_take_le _ _
      have HX := hide (einsert_any w.heap.size a1 c1 vs (basisL (rs.take k)) ai _ ci (rs.getD k []) wr (ht.below hB) hB0 hB.size (unhide HV) (basis_fit hfk) hrow (by omega) (hf.getD k).2)
      have HE := hide (basis_take (show k < rs.length by rw [h.1]; exact hlt))
      clear hc hrow h HV hfk hbl htk
      generalize rs.getD k [] = y at *
      generalize basisL (rs.take k) = bk at *
      go_wp2_with fail
      refine (unhide HX).mono ?_
      rintro e w1 ⟨v1, vs1, rfl, hV1, hb1⟩
      rw [← unhide HE] at hV1
      obtain ⟨a2, c2, rfl, _⟩ := hV1.vecs
      have HV1 := hide hV1
      have HB1 := hide (hB.trans hb1)
      clear hV1 hb1 HX hB HB
      go_wp2
      go_roundw
      case rel => exact ⟨k + 1, by omega, by go_num, a2, c2, vs1, rfl, HV1, HB1⟩
      case measure => simp [intOf]; omega
    · have hke : rs.take k = rs := List.take_of_length_le (by rw [h.1]; omega)
      rw [hke] at HV
      rw [hke]
      clear h hke
      go_wp2
      go_ret
      exact ⟨_, _, rfl, unhide HV, unhide HB⟩
set_option maxHeartbeats 400000 in
theorem rank_any (a : Option Addr) (n c : Nat) (rs : List (List Nat)) (w : World) (ht : Tab w) (h : VecsAt w a n rs) (hf : Fit 1048576 rs) (hn : n ≤ 100000) :
    Calls Tryd.prog 11 #[.slice a n c] w fun e w' => e = .returned (.int .i64 ((basisL rs).length : Int)) ∧ Below w.heap.size w w' := by
  have HX := hide (basis_any a n c rs w ht h hf hn)
  clear h hf
  generalize basisL rs = bs at *
  go_enter Tryd.func11, Tryd.ntmps11
  go_wp2_with fail
  refine (unhide HX).mono ?_
  rintro e w1 ⟨v1, vs1, rfl, hV1, hb1⟩
  obtain ⟨a2, c2, rfl, _⟩ := hV1.vecs
  clear hV1 HX
  go_wp2
  go_ret
  exact ⟨rfl, hb1⟩
end Go.Proofs.YtohiiagpfepjnaaDoor
