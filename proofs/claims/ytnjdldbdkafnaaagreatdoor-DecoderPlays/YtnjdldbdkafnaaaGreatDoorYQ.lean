/-
  Contract of bucketlineref13.Peel: the walk.
-/
import Derived.Test.YtnjdldbdkafnaaaGreatDoorU17
namespace Go.Proofs.YtnjdldbdkafnaaaGreatDoor
open Go.RowKit Go.Sort
set_option linter.unusedVariables false
set_option linter.unusedSimpArgs false
set_option maxRecDepth 4000

theorem told_zero (k : Int) (bs : List ByteArray) (m : Nat) : toldTo k (List.replicate (sizeOfK k) 0) bs m = [] := by
  unfold toldTo
  rw [List.filter_eq_nil_iff.2 (fun b _ => by rw [bit_zeros]; simp)]
  rfl
/-- The valid rows, where they lie. -/
structure VsAt (w1 : World) (k : Int) (av : Option Addr) (mv : Nat) (vs : List RV) : Prop where
  rows : RowsAt w1 av mv vs
  inn : RowsIn w1 vs
  good : Good vs
  short : shortR vs
  all : ∀ q, q < mv → validB k (vs.getD q .dflt).xs = true
theorem good_filter {rs : List RV} (h : Good rs) (q : RV → Bool) : Good (rs.filter q) := fun r hr => h r (List.mem_filter.1 hr).1
theorem short_filter {rs : List RV} (h : shortR rs) (q : RV → Bool) : shortR (rs.filter q) := fun i => by
  by_cases hi : i < (rs.filter q).length
  · have hm := (List.mem_filter.1 (List.getElem_mem hi)).1
    obtain ⟨j, hj, e⟩ := List.mem_iff_getElem.1 hm
    have := h j
    rw [List.getD_eq_getElem?_getD, List.getElem?_eq_getElem hj, Option.getD_some, e] at this
    rw [List.getD_eq_getElem?_getD, List.getElem?_eq_getElem hi]
    exact this
  · rw [List.getD_eq_getElem?_getD, List.getElem?_eq_none (by omega)]
    exact ⟨Nat.zero_le _, Nat.zero_le _⟩
theorem VsAt.of {w w1 : World} {k : Int} {a av : Option Addr} {n mv cv : Nat} {rs : List RV} (h : RowsAt w a n rs) (hs : shortR rs) (hG : GaS w w1 av mv cv ((rs.filter fun r => validB k r.xs).map core) (rs.filter fun r => validB k r.xs)) : VsAt w1 k av mv (rs.filter fun r => validB k r.xs) := by
  obtain ⟨a', c', e, hr, _⟩ := hG.1.rows hG.2.1
  simp only [Value.slice.injEq] at e
  obtain ⟨rfl, rfl, rfl⟩ := e
  refine ⟨hr, hG.2.1, good_filter (good_of h hs) _, short_filter hs _, fun q hq => ?_⟩
  have := List.getElem_mem hq
  rw [List.mem_filter] at this
  rw [List.getD_eq_getElem?_getD, List.getElem?_eq_getElem hq]
  exact this.2
/-- A row less the known ones. -/
theorem less_known {w1 wr : World} {k : Int} {av : Option Addr} {mv : Nat} {vs : List RV} {j : Nat} {kn : List Nat} {bs : List ByteArray} {a1 : Option Addr} {m1 : Nat} (c1 : Nat) {ts : List RV} {q : Nat} (hV : VsAt w1 k av mv vs) (hq : q < mv) (hK : KnS w1 wr k kn bs a1 m1 c1 ts) (hR : Run k vs j kn bs) :
    Kn k j kn bs ∧ Calls Tryz.prog 56 #[.slice a1 m1 c1, .agg #[.slice (vs.getD q .dflt).a (vs.getD q .dflt).n (vs.getD q .dflt).c, .string (vs.getD q .dflt).s]] wr fun e w' => ∃ r' : RV, e = .returned (.agg #[.slice r'.a r'.n r'.c, .string r'.s]) ∧ core r' = (dropL (vs.getD q .dflt).xs kn, txtL bs (vs.getD q .dflt).xs (vs.getD q .dflt).s) ∧ RowAt w' r'.a r'.n r'.xs ∧ r'.n ≤ r'.c ∧ r'.n ≤ 10 ∧ Tys w' w1.heap.size [r'] ∧ Below wr.heap.size wr w' := by
  have hv := hV.all q hq
  have hKn := Run.known (valid_size hv).1 hV.good hR
  have hrow1 := (hV.inn.get (i := q) (by rw [hV.rows.1]; exact hq))
  have hrow := hrow1.1.below hK.2.2.2
  have hroom := size_room hKn.size
  have hm : m1 ≤ 128 := by rw [hK.rows.2]; have := told_len hK.2.2.1; omega
  refine ⟨hKn, (less_any a1 m1 c1 ts (vs.getD q .dflt) wr hK.rows.1 (told_short hKn hK.2.1 hK.2.2.1) (by omega) hrow (hV.short q)).mono ?_⟩
  rintro e w' ⟨r', rfl, hL, hc, h1, h2, hb⟩
  refine ⟨r', rfl, ?_, hL.row hrow hb, hL.cap hrow1.2, h1, ?_, hb⟩
  · rw [hc, hK.2.2.1]
    exact less_told hKn hrow1.1.2.1 (valid_size hv).2.1
  · exact hL.tys (tys_old hrow1.1)

theorem InS.yes {w1 wr : World} {k : Int} {vs : List RV} {j i : Nat} {a1 : Option Addr} {m1 c1 : Nat} {ts : List RV} {kn : List Nat} {bs : List ByteArray} (h : InS w1 wr k vs j i true a1 m1 c1 ts kn bs) : KnS w1 wr k kn bs a1 m1 c1 ts ∧ Run k vs (j + 1) kn bs := by
  rcases h.2 with ⟨h2, _⟩ | ⟨_, h2⟩
  · cases h2
  · exact ⟨h.1, h2⟩
theorem InS.no {w1 wr : World} {k : Int} {vs : List RV} {j i : Nat} {a1 : Option Addr} {m1 c1 : Nat} {ts : List RV} {kn : List Nat} {bs : List ByteArray} (h : InS w1 wr k vs j i false a1 m1 c1 ts kn bs) : KnS w1 wr k kn bs a1 m1 c1 ts ∧ Run k vs j kn bs ∧ ∀ q, q < i → tellsB k kn (vs.getD q .dflt) = false := by
  rcases h.2 with ⟨_, h2, h3⟩ | ⟨h2, _⟩
  · exact ⟨h.1, h2, h3⟩
  · cases h2
theorem tag_yes {p q : Prop} (h : (true = true ∧ p) ∨ (true = false ∧ q)) : p := by
  rcases h with ⟨_, h⟩ | ⟨h, _⟩
  · exact h
  · cases h
theorem tag_no {p q : Prop} (h : (false = true ∧ p) ∨ (false = false ∧ q)) : q := by
  rcases h with ⟨h, _⟩ | ⟨_, h⟩
  · cases h
  · exact h

set_option maxHeartbeats 4000000 in
theorem rpeel_any (k : Int) (a : Option Addr) (n c : Nat) (rs : List RV) (w : World) (h : RowsAt w a n rs) (hs : shortR rs) (hcap : CapR rs) (hn : n ≤ 1048576) :
    Calls Tryz.prog 43 #[.int .i64 k, .slice a n c] w fun e w' => ∃ a1 m1 c1 ts1 a2 m2 c2 ts2, e = .returned (.tuple #[.slice a1 m1 c1, .slice a2 m2 c2]) ∧ PeelR w w' k rs a1 m1 c1 ts1 a2 m2 c2 ts2 := by
  have HVL := hide (rvalids_any k a n c rs w h hcap hn)
  have HVS := hide (fun (w1 : World) (av : Option Addr) (mv cv : Nat) hG => VsAt.of (w1 := w1) (av := av) (mv := mv) (cv := cv) (k := k) h hs hG)
  have hvl : (rs.filter fun r => validB k r.xs).length ≤ 1048576 := by
    have h1 := List.length_filter_le (fun r : RV => validB k r.xs) rs
    have := h.1
    omega
  have HEND := hide (fun (kn : List Nat) (bs : List ByteArray) (hp : PeelP k (rs.filter fun r => validB k r.xs) kn bs) => PeelP.valid.1 hp)
  have HRST := hide (fun (kn : List Nat) (bs : List ByteArray) => show (((rs.filter fun r => validB k r.xs).filter (restB k kn)).map fun r => (dropL r.xs kn, txtL bs r.xs r.s)) = restL k rs kn bs by unfold restL; rw [filter_rest])
  clear h hs hcap
  generalize (rs.filter fun r => validB k r.xs) = vs at *
  go_enter Tryz.func43, Tryz.ntmps43
  go_wp2_with (go_at_call 55; refine (unhide HVL).mono ?_; rintro e w1 ⟨av, mv, cv, rfl, hGv⟩; have hV := unhide HVS w1 av mv cv hGv; have hmv : mv = vs.length := hV.rows.1.symm; have HV := hide hV; have HB1 := hide hGv.2.2.2.2; clear hGv hV HVL HVS)
  go_loopg [6, 7] (k.toNat + 1) (fun gk o g wr => ∃ (ag : Bool) (a1 : Option Addr) (m1 c1 : Nat) (ts : List RV) (kn : List Nat) (bs : List ByteArray) (j : Nat), o = .slice a1 m1 c1 ∧ g = .bool ag ∧ Hid (KnS w1 wr k kn bs a1 m1 c1 ts) ∧ Hid (Run k vs j kn bs) ∧ Hid ((ag = true ∧ k.toNat + 1 = gk + j) ∨ (ag = false ∧ vs.find? (tellsB k kn) = none)))
  case atStart => exact ⟨true, none, 0, 0, [], _, _, 0, rfl, rfl, hide ⟨OwnS.nil _ _, RowsIn.nil _, (told_zero k _ _).symm, Below.refl _ _⟩, hide ⟨rfl, rfl⟩, hide (.inl ⟨rfl, by omega⟩)⟩
  case round =>
    obtain ⟨ag, a1, m1, c1, ts, kn, bs, j, rfl, rfl, HK, HR, HG⟩ := hrel
    have hmv' : mv ≤ 1048576 := by omega
    cases ag with
    | true =>
      have HGK : Hid (k.toNat + 1 = gk + j) := hide (tag_yes (unhide HG))
      have HI : Hid (InS w1 wr k vs j 0 false a1 m1 c1 ts kn bs) := hide ⟨unhide HK, .inl ⟨rfl, unhide HR, fun q hq => by omega⟩⟩
      clear HG HK HR
      obtain ⟨wo, hwo⟩ : ∃ wo, wo = wr := ⟨wr, rfl⟩
      rw [← hwo] at HI ⊢
      clear hwo wr
      go_wp2
      go_loopw [6, 7, 8] (fun o g i wr => ∃ (ii : Nat) (ag : Bool) (a1 : Option Addr) (m1 c1 : Nat) (ts : List RV) (kn : List Nat) (bs : List ByteArray), ii ≤ mv ∧ i = .int .i64 ii ∧ g = .bool ag ∧ o = .slice a1 m1 c1 ∧ Hid (InS w1 wr k vs j ii ag a1 m1 c1 ts kn bs)) (fun _ _ i _ => mv - (intOf i).toNat)
      case atStart => exact ⟨0, false, a1, m1, c1, ts, kn, bs, Nat.zero_le _, rfl, rfl, rfl, HI⟩
      case round =>
        clear HI
        obtain ⟨ii, ag, a2, m2, c2, ts2, kn2, bs2, hii, rfl, rfl, rfl, HI⟩ := hrel
        cases ag with
        | true =>
          have HK2 := hide (unhide HI).yes.1
          have HR2 := hide (unhide HI).yes.2
          have HLE := hide (Run.le (unhide HV).good (unhide HR2))
          clear HI
          by_cases hlt : ii < mv
          · have hlt' : (ii : Int) < (mv : Int) := by omega
            go_wp2
            go_roundg (gk - 1)
            case measure => have := unhide HLE; have := unhide HGK; omega
            case rel => exact ⟨true, a2, m2, c2, ts2, kn2, bs2, j + 1, rfl, rfl, HK2, HR2, hide (.inl ⟨rfl, by have := unhide HLE; have := unhide HGK; omega⟩)⟩
          · have hlt' : ¬ (ii : Int) < (mv : Int) := by omega
            go_wp2
            go_roundg (gk - 1)
            case measure => have := unhide HLE; have := unhide HGK; omega
            case rel => exact ⟨true, a2, m2, c2, ts2, kn2, bs2, j + 1, rfl, rfl, HK2, HR2, hide (.inl ⟨rfl, by have := unhide HLE; have := unhide HGK; omega⟩)⟩
        | false =>
          obtain ⟨hK, hRun, hNo⟩ := (unhide HI).no
          by_cases hlt : ii < mv
          · have hlt' : (ii : Int) < (mv : Int) := by omega
            obtain ⟨hKn, hLess⟩ := less_known c2 (unhide HV) hlt hK hRun
            obtain ⟨b, off, rfl, hcl⟩ := ((unhide HV).rows.below hK.2.2.2).at hlt
            obtain ⟨hc0, hc1⟩ := hcl ii hlt
            have hv := (unhide HV).all ii hlt
            have hsm := ((unhide HV).inn.get (i := ii) (by omega)).1.2.1
            have hYes := fun ht => find_at (rs := vs) (f := tellsB k kn2) (p := ii) (by omega) ht hNo
            have hNext := fun (hf : tellsB k kn2 (vs.getD ii .dflt) = false) => show ∀ q, q < ii + 1 → tellsB k kn2 (vs.getD q .dflt) = false from fun q hq => by
              by_cases e : q = ii
              · rw [e]; exact hf
              · exact hNo q (by omega)
            generalize vs.getD ii .dflt = r at *
            have HLE := hide hLess
            have HCT := hide (fun (w2 : World) (r' : RV) (hxs : r'.xs = dropL r.xs kn2) (hrw : RowAt w2 r'.a r'.n r'.xs) (hn10 : r'.n ≤ 10) => show Calls Tryz.prog 38 #[.slice r'.a r'.n r'.c] (w2.alloc (.cells #[.slice r'.a r'.n r'.c, .string r'.s] 29)) fun e w' => e = .returned (.int .i64 ((cnt (dropL r.xs kn2) : Nat) : Int)) ∧ w' = w2.alloc (.cells #[.slice r'.a r'.n r'.c, .string r'.s] 29) by
              have := rcount_any r'.a r'.n r'.c r'.xs _ (hrw.below (alloc_b w2 (.cells #[.slice r'.a r'.n r'.c, .string r'.s] 29))) (by omega)
              rw [hxs] at this
              exact this)
            have HK2 := hide hK
            have HR2 := hide hRun
            by_cases h1 : cnt (dropL r.xs kn2) = 1
            · have ht : tellsB k kn2 r = true := by unfold tellsB; rw [hv, h1]; rfl
              have HR3 := hide (show Run k vs (j + 1) (setB kn2 (blkOf kn2 r) true) (bs2.set (blkOf kn2 r) (txtL bs2 r.xs r.s)) from ⟨kn2, bs2, r, hRun, hYes ht, rfl, rfl⟩)
              have hm2 : m2 ≤ 100000 := by rw [hK.rows.2]; have := told_len hK.2.2.1; have := size_room hKn.size; omega
              have HWT := hide (fun (w2 : World) (r' : RV) (hb : Below wr.heap.size wr w2) (hrw : RowAt w2 r'.a r'.n r'.xs) (hn10 : r'.n ≤ 10) => with_any a2 m2 c2 ts2 r' w2 ((hK.below hb).rows.1) (told_short hKn hK.2.1 hK.2.2.1) hm2 hrw hn10)
              have HKW := hide (fun (w2 w3 : World) (r' : RV) (a3 : Option Addr) (m3 c3 : Nat) (ts3 : List RV) (hb : Below wr.heap.size wr w2) hc hr' hcap ho hW hb3 => (hK.below hb).with (w2 := w3) (r := r) (r' := r') (a2 := a3) (m2 := m3) (c2 := c3) (ts2 := ts3) hKn hsm ht hc hr' hcap ho hW hb3)
              rw [h1] at HCT
              clear hcl hv hsm hYes hNext hNo HI hK hRun hKn hLess ht h1 hm2
              go_wp2_with (first | (go_at_call 56; refine (unhide HLE).mono ?_; rintro e w2 ⟨r', rfl, hco, hrw, hcp, hn10, hty, hb2⟩; have HC := hide (unhide HCT w2 r' (congrArg Prod.fst hco) hrw hn10); have hb2a := below0 hb2 (alloc_b w2 (.cells #[.slice r'.a r'.n r'.c, .string r'.s] 29)); have HW := hide (unhide HWT _ r' hb2a (hrw.below (alloc_b _ _)) hn10); have HKX := hide (fun (w3 : World) (a3 : Option Addr) (m3 c3 : Nat) (ts3 : List RV) ho hW hb3 => unhide HKW _ w3 r' a3 m3 c3 ts3 hb2a hco (hrw.below (alloc_b _ _)) hcp ho hW hb3); clear hco hrw hcp hn10 hty hb2 hb2a HKW HWT) | (go_at_call 38; refine (unhide HC).mono ?_; rintro e w9 ⟨rfl, hw9⟩; obtain rfl := hw9.symm; clear hw9) | (go_at_call 57; refine (unhide HW).mono ?_; rintro e w3 ⟨a3, m3, c3, ts3, rfl, ho3, hW3, hb3⟩; have HK3 := hide (unhide HKX w3 a3 m3 c3 ts3 ho3 hW3 hb3); clear ho3 hW3 hb3))
              go_roundw
              case rel => exact ⟨ii + 1, true, a3, m3, c3, ts3, _, _, by omega, by go_num, rfl, rfl, hide ⟨unhide HK3, .inr ⟨rfl, unhide HR3⟩⟩⟩
              case measure => simp [intOf]; omega
            · have ht : tellsB k kn2 r = false := by unfold tellsB; rw [hv, Bool.true_and, decide_eq_false h1]
              have HNX := hide (hNext ht)
              have hne : ((cnt (dropL r.xs kn2) : Int) == 1) = false := by rw [beq_eq_false_iff_ne]; omega
              clear hcl hv hsm hYes hNext hNo HI hK hRun hKn hLess ht h1
              generalize cnt (dropL r.xs kn2) = cr at *
              go_wp2_with (first | (go_at_call 56; refine (unhide HLE).mono ?_; rintro e w2 ⟨r', rfl, hco, hrw, hcp, hn10, hty, hb2⟩; have HC := hide (unhide HCT w2 r' (congrArg Prod.fst hco) hrw hn10); have HK3 := hide ((unhide HK2).below (below0 hb2 (alloc_b w2 (.cells #[.slice r'.a r'.n r'.c, .string r'.s] 29)))); clear hco hrw hcp hn10 hty hb2) | (go_at_call 38; refine (unhide HC).mono ?_; rintro e w9 ⟨rfl, hw9⟩; obtain rfl := hw9.symm; clear hw9))
              go_roundw
              case rel => exact ⟨ii + 1, false, a2, m2, c2, ts2, kn2, bs2, by omega, by go_num, rfl, rfl, hide ⟨unhide HK3, .inl ⟨rfl, unhide HR2, unhide HNX⟩⟩⟩
              case measure => simp [intOf]; omega
          · have hlt' : ¬ (ii : Int) < (mv : Int) := by omega
            have HFN := hide (find_no (rs := vs) (f := tellsB k kn2) (fun q hq => hNo q (by omega)))
            have HLE := hide (Run.le (unhide HV).good hRun)
            have HK2 := hide hK
            have HR2 := hide hRun
            clear hK hRun hNo HI
            go_wp2
            go_roundg 0
            case measure => have := unhide HLE; have := unhide HGK; omega
            case rel => exact ⟨false, a2, m2, c2, ts2, kn2, bs2, j, rfl, rfl, HK2, HR2, hide (.inr ⟨rfl, unhide HFN⟩)⟩
    | false =>
      have HN : Hid (vs.find? (tellsB k kn) = none) := hide (tag_no (unhide HG))
      clear HG
      have HPP := hide (unhide HEND kn bs ⟨⟨j, unhide HR⟩, unhide HN⟩)
      have HRS := hide (unhide HRST kn bs)
      clear HEND HRST HN
      obtain ⟨wo, hwo⟩ : ∃ wo, wo = wr := ⟨wr, rfl⟩
      rw [← hwo] at HK ⊢
      clear hwo wr
      go_wp2
      go_loopw [10, 11] (fun o i wr => ∃ (ii : Nat) (a3 : Option Addr) (m3 c3 : Nat) (ls : List RV), ii ≤ mv ∧ i = .int .i64 ii ∧ o = .slice a3 m3 c3 ∧ Hid (GaS wo wr a3 m3 c3 (((vs.take ii).filter (restB k kn)).map fun r => (dropL r.xs kn, txtL bs r.xs r.s)) ls)) (fun _ i _ => mv - (intOf i).toNat)
      case atStart => exact ⟨0, none, 0, 0, [], Nat.zero_le _, rfl, rfl, hide (GaS.nil wo)⟩
      case round =>
        obtain ⟨ii, a3, m3, c3, ls, hii, rfl, rfl, HG⟩ := hrel
        by_cases hlt : ii < mv
        · have hlt' : (ii : Int) < (mv : Int) := by omega
          have hK := (unhide HK).below (unhide HG).2.2.2.2
          obtain ⟨hKn, hLess⟩ := less_known c1 (unhide HV) hlt hK (unhide HR)
          obtain ⟨b, off, rfl, hcl⟩ := ((unhide HV).rows.below hK.2.2.2).at hlt
          obtain ⟨hc0, hc1⟩ := hcl ii hlt
          have hv := (unhide HV).all ii hlt
          have HYS := hide (fun h => take_filter_yes (rs := vs) (q := restB k kn) (k := ii) (by omega) h)
          have HNO := hide (fun h => take_filter_no (rs := vs) (q := restB k kn) (k := ii) (by omega) h)
          have hll : ls.length ≤ 1048576 := by
            have h1 := congrArg List.length (unhide HG).2.2.2.1
            rw [List.length_map, List.length_map] at h1
            have h2 := List.length_filter_le (restB k kn) (vs.take ii)
            have h3 := List.length_take_le ii vs
            omega
          generalize vs.getD ii .dflt = r at *
          have HLE := hide hLess
          have HCT := hide (fun (w2 : World) (r' : RV) (hxs : r'.xs = dropL r.xs kn) (hrw : RowAt w2 r'.a r'.n r'.xs) (hn10 : r'.n ≤ 10) => show Calls Tryz.prog 38 #[.slice r'.a r'.n r'.c] (w2.alloc (.cells #[.slice r'.a r'.n r'.c, .string r'.s] 29)) fun e w' => e = .returned (.int .i64 ((cnt (dropL r.xs kn) : Nat) : Int)) ∧ w' = w2.alloc (.cells #[.slice r'.a r'.n r'.c, .string r'.s] 29) by
            have := rcount_any r'.a r'.n r'.c r'.xs _ (hrw.below (alloc_b w2 (.cells #[.slice r'.a r'.n r'.c, .string r'.s] 29))) (by omega)
            rw [hxs] at this
            exact this)
          have HWO := hide (unhide HK).2.2.2.size
          by_cases h1 : 1 < cnt (dropL r.xs kn)
          · have hrb : restB k kn r = true := by unfold restB; rw [hv, decide_eq_false (by omega), decide_eq_false (by omega)]; rfl
            have HE := hide (unhide HYS hrb)
            have hd : decide ((1 : Int) < ((cnt (dropL r.xs kn) : Nat) : Int)) = true := by rw [decide_eq_true_iff]; omega
            clear hcl hv HYS HNO hK hKn hLess hrb h1
            generalize cnt (dropL r.xs kn) = cr at *
            go_wp2_with (first | (go_at_call 56; refine (unhide HLE).mono ?_; rintro e w2 ⟨r', rfl, hco, hrw, hcp, hn10, hty, hb2⟩; have HC := hide (unhide HCT w2 r' (congrArg Prod.fst hco) hrw hn10); have hba := alloc_b w2 (.cells #[.slice r'.a r'.n r'.c, .string r'.s] 29); have HG2 := hide ((unhide HG).below (below0 hb2 hba)); have HRI := hide (RowsIn.one (r := r') (hrw.below hba) hcp); have HTY := hide ((hty.below hba).mono (unhide HWO)); have HCO := hide hco; clear hco hrw hcp hn10 hty hb2 hba) | (go_at_call 38; refine (unhide HC).mono ?_; rintro e w9 ⟨rfl, hw9⟩; obtain rfl := hw9.symm; clear hw9 HC; obtain ⟨z0, z1⟩ := box_new w2 (.slice r'.a r'.n r'.c) (.string r'.s); generalize (w2.alloc (.cells #[.slice r'.a r'.n r'.c, .string r'.s] 29)) = wb at *) | (at_builtin; refine wpList_pushS rfl (.tmp 56) (.tmp 58) rfl wo.heap.size (.slice a3 m3 c3) ls r' rfl rfl (unhide HG2).1 (unhide HG2).2.2.2.2.size hll ?_; intro v4 w4 ho4 hg4 hb4; obtain ⟨a4, m4, c4, rfl, hG4⟩ := (unhide HG2).push (unhide HRI) (unhide HTY) ho4 hg4 hb4; have HG4 := hide hG4; clear ho4 hg4 hb4 hG4))
            go_roundw
            case rel => exact ⟨ii + 1, a4, m4, c4, _, by omega, by go_num, rfl, hide (by rw [unhide HE, List.map_append]; have := unhide HG4; rw [unhide HCO] at this; exact this)⟩
            case measure => simp [intOf]; omega
          · have hrb : restB k kn r = false := by
              unfold restB
              rw [hv]
              by_cases h0 : cnt (dropL r.xs kn) = 0
              · rw [h0]; rfl
              · rw [show cnt (dropL r.xs kn) = 1 by omega]; rfl
            have HE := hide (unhide HNO hrb)
            have hd : decide ((1 : Int) < ((cnt (dropL r.xs kn) : Nat) : Int)) = false := by rw [decide_eq_false_iff_not]; omega
            clear hcl hv HYS HNO hK hKn hLess hrb h1
            generalize cnt (dropL r.xs kn) = cr at *
            go_wp2_with (first | (go_at_call 56; refine (unhide HLE).mono ?_; rintro e w2 ⟨r', rfl, hco, hrw, hcp, hn10, hty, hb2⟩; have HC := hide (unhide HCT w2 r' (congrArg Prod.fst hco) hrw hn10); have HG2 := hide ((unhide HG).below (below0 hb2 (alloc_b w2 (.cells #[.slice r'.a r'.n r'.c, .string r'.s] 29)))); clear hco hrw hcp hn10 hty hb2) | (go_at_call 38; refine (unhide HC).mono ?_; rintro e w9 ⟨rfl, hw9⟩; obtain rfl := hw9.symm; clear hw9))
            go_roundw
            case rel => exact ⟨ii + 1, a3, m3, c3, ls, by omega, by go_num, rfl, hide (by rw [unhide HE]; exact unhide HG2)⟩
            case measure => simp [intOf]; omega
        · have hke : vs.take ii = vs := List.take_of_length_le (by omega)
          rw [hke, unhide HRS] at HG
          have hlt' : ¬ (ii : Int) < (mv : Int) := by omega
          go_wp2
          go_ret2
          have g2 := unhide HG
          have hK := unhide HK
          have hB1 := unhide HB1
          have hb3 := g2.2.2.2.2
          have hE : PeelR w wr k rs a1 m1 c1 ts a3 m3 c3 ls := ⟨kn, bs, unhide HPP, (hK.1.below hb3).mono hB1.size, hK.2.1.below hb3, hK.2.2.1, g2.1.mono (Nat.le_trans hB1.size hK.2.2.2.size), g2.2.1, g2.2.2.2.1, below0 (below0 hB1 hK.2.2.2) hb3⟩
          first | exact ⟨a1, m1, c1, ts, a3, m3, c3, ls, rfl, hE⟩ | exact ⟨a1, m1, c1, ts, a3, m3, c3, rfl, ls, hE⟩ | exact ⟨a1, m1, c1, a3, m3, c3, rfl, ts, ls, hE⟩ | exact ⟨a1, m1, c1, ts, a3, m3, c3, rfl, hE⟩
end Go.Proofs.YtnjdldbdkafnaaaGreatDoor
