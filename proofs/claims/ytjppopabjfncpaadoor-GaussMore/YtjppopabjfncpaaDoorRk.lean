/-
  How many rows bring something anew: contracts of gauss.vecs, gauss.Rank, bucketlineref14.Vecs, Rank; one row more.
-/
import Derived.Test.YtjppopabjfncpaaDoorM23
import Derived.Test.YtjppopabjfncpaaDoorM10
namespace Go.Proofs.YtjppopabjfncpaaDoor
open Go.RowKit Go.Sort
set_option linter.unusedVariables false
set_option maxRecDepth 4000

set_option maxHeartbeats 1000000 in
theorem gvecs_any (a : Option Addr) (n c : Nat) (ts : List RV) (w : World) (h : RowsAt w a n ts) (hn : n ≤ 1048576) :
    Calls Tryd.prog 29 #[.slice a n c] w fun e w' => ∃ v, e = .returned v ∧ OwnW w' w.heap.size v ts ∧ Below w.heap.size w w' := by
  obtain rfl := h.1
  have Hh := hide h
  have hmk := make_v ts.length hn
  have HM := made_v w ts.length hn
  rw [← fillW_zero] at HM
  have HM := hide HM
  have HBM : Hid (Below w.heap.size w (w.alloc (.cells (madeCells #[.slice none 0 0] ts.length) 35))) := hide ((Below.refl _ _).alloc (Nat.le_refl _) _)
  clear h
  go_enter Tryd.func29, Tryd.ntmps29
  go_wp2
  go_loopw [11] (fun i wr => ∃ k : Nat, k ≤ ts.length ∧ i = .int .i64 k ∧ Hid (wr.ownsRow w.heap.size 35 1 (.slice (some ⟨w.heap.size, 0, none⟩) ts.length ts.length) ts.length (fillW ts k)) ∧ Hid (Below w.heap.size w wr)) (fun i _ => ts.length - (intOf i).toNat)
  case atStart => exact ⟨0, Nat.zero_le _, rfl, HM, HBM⟩
  case round =>
    obtain ⟨k, hk, rfl, HI, HB⟩ := hrel
    clear HM HBM
    by_cases hlt : k < ts.length
    · obtain ⟨b, off, rfl, hcl⟩ := ((unhide Hh).below (unhide HB)).at hlt
      obtain ⟨hc0, hc1⟩ := hcl k hlt
      have hlt' : (k : Int) < (ts.length : Int) := by omega
      have hS := fillW_succ ts k hlt
      have hfk : (fillW ts k)[k]? = some (.slice none 0 0) := by
        unfold fillW
        have hl : ((ts.take k).map fun r => Value.slice r.a r.n r.c).length = k := by simp; omega
        rw [List.getElem?_append_right (by omega), hl, Nat.sub_self, List.getElem?_replicate, if_pos (by omega)]
      generalize ts.getD k .dflt = r at *
      have hb1 : Below wr.heap.size wr (wr.alloc (.cells #[.slice r.a r.n r.c, .string r.s] 37)) := (Below.refl _ _).alloc (Nat.le_refl _) _
      have hI := ownsRow_below (unhide HI) hb1
      have hcell := hI.cellAt k (by omega)
      rw [hfk] at hcell
      have hfz := hI.frozenAt k
      have hs2 := (hI.stored k (.slice r.a r.n r.c)).1
      rw [hS] at hs2
      have hB2 := (below0 (unhide HB) hb1).setCell (p := ⟨w.heap.size, k, none⟩) (Nat.le_refl _) (.slice r.a r.n r.c)
      obtain ⟨hx0, hx1⟩ := box_new wr (.slice r.a r.n r.c) (.string r.s)
      have HS := hide hs2
      have HB2 := hide hB2
      clear hcl hI hs2 hB2 hb1 hS hfk HI HB
      go_wp2
      go_roundw
      case rel => exact ⟨k + 1, by omega, by go_num, HS, HB2⟩
      case measure => simp [intOf]; omega
    · obtain rfl : k = ts.length := by omega
      rw [fillW_all] at HI
      go_wp2
      go_ret
      exact ⟨_, rfl, unhide HI, unhide HB⟩
set_option maxHeartbeats 2000000 in
theorem rvecs_any (a : Option Addr) (n c : Nat) (ts : List RV) (w : World) (h : RowsAt w a n ts) (hn : n ≤ 1048576) :
    Calls Tryd.prog 24 #[.slice a n c] w fun e w' => ∃ v, e = .returned v ∧ OwnW w' w.heap.size v ts ∧ Below w.heap.size w w' := by
  obtain rfl := h.1
  have Hh := hide h
  clear h
  go_enter Tryd.func24, Tryd.ntmps24
  go_wp2
  go_loopw [3, 4] (fun o i wr => ∃ (k : Nat) (a1 : Option Addr) (m1 c1 : Nat), k ≤ ts.length ∧ i = .int .i64 k ∧ o = .slice a1 m1 c1 ∧ Hid (OwnW wr w.heap.size (.slice a1 m1 c1) (ts.take k)) ∧ Hid (Below w.heap.size w wr)) (fun _ i _ => ts.length - (intOf i).toNat)
  case atStart => exact ⟨0, none, 0, 0, Nat.zero_le _, rfl, rfl, hide (OwnW.nil _ _), hide (Below.refl _ _)⟩
  case round =>
    obtain ⟨k, a1, m1, c1, hk, rfl, rfl, HO, HB⟩ := hrel
    by_cases hlt : k < ts.length
    · obtain ⟨b, off, rfl, hcl⟩ := ((unhide Hh).below (unhide HB)).at hlt
      obtain ⟨hc0, hc1⟩ := hcl k hlt
      have hlt' : (k : Int) < (ts.length : Int) := by omega
      have HE := hide (take_snocR ts k hlt)
      have htl : (ts.take k).length ≤ 1048576 := by have := List.length_take_le k ts; omega
      generalize ts.getD k .dflt = r at *
      obtain ⟨us, hus⟩ : ∃ us, us = ts.take k := ⟨_, rfl⟩
      rw [← hus] at HO HE htl
      clear hcl hus
      go_wp2_with (first | (at_builtin; refine wpList_pushW rfl (.tmp 11) (.tmp 17) rfl w.heap.size (.slice a1 m1 c1) us r rfl rfl (unhide HO) (unhide HB).size htl ?_; intro v3 w3 ho3 hb3; obtain ⟨a3, m3, c3, rfl⟩ : ∃ a3 m3 c3, v3 = Value.slice a3 m3 c3 := (by rcases ho3.2 with ⟨e3, _⟩ | ⟨g3, cap3, _, e3, _⟩; exact ⟨none, 0, 0, e3⟩; exact ⟨_, _, _, e3⟩); have HO3 := hide ho3; have HB3 := hide ((unhide HB).trans hb3); clear ho3 hb3))
      go_roundw
      case rel => exact ⟨k + 1, a3, m3, c3, by omega, by go_num, rfl, hide (by rw [← unhide HE]; exact unhide HO3), HB3⟩
      case measure => simp [intOf]; omega
    · have hke : ts.take k = ts := List.take_of_length_le (by omega)
      rw [hke] at HO
      go_wp2
      go_ret
      exact ⟨_, rfl, unhide HO, unhide HB⟩
theorem vecsL_len (ts : List RV) : (vecsL ts).length = ts.length := by simp [vecsL]
set_option maxHeartbeats 1000000 in
theorem grank_any (a : Option Addr) (n c : Nat) (ts : List RV) (w : World) (ht : Tab w) (h : RowsAt w a n ts) (hr : RowsIn w ts) (hs : shortR ts) (hn : n ≤ 100000) :
    Calls Tryd.prog 13 #[.slice a n c] w fun e w' => e = .returned (.int .i64 ((keepL (vecsL ts) ts.length).length : Int)) ∧ Below w.heap.size w w' := by
  obtain rfl := h.1
  have HV := hide (gvecs_any a ts.length c ts w h (by omega))
  have HK := hide (fun (w1 : World) (a1 : Option Addr) (c1 : Nat) (hb : Below w.heap.size w w1) (hv : VecsAt w1 a1 ts.length (vecsL ts)) => keep_any a1 ts.length c1 (vecsL ts) w1 (ht.below hb) hv (fit_of hr hs) hn)
  have HR := hide hr
  clear h hr hs ht
  go_enter Tryd.func13, Tryd.ntmps13
  go_wp2_with fail
  refine (unhide HV).mono ?_
  rintro e w1 ⟨v1, rfl, ho1, hb1⟩
  obtain ⟨a1, c1, rfl, hv1⟩ := ho1.vecs ((unhide HR).below hb1)
  have HK1 := unhide HK w1 a1 c1 hb1 hv1
  rw [vecsL_len] at HK1
  have HK1 := hide HK1
  have HB1 := hide hb1
  clear ho1 hb1 hv1 HV HK
  go_wp2_with fail
  refine (unhide HK1).mono ?_
  rintro e w2 ⟨v2, rfl, ho2, hb2⟩
  obtain ⟨a2, c2, rfl, hi2⟩ := ho2.ints
  have HB2 := hide (below0 (unhide HB1) hb2)
  clear ho2 hb2 hi2 HK1 HB1
  go_wp2
  go_ret
  exact ⟨rfl, unhide HB2⟩
set_option maxHeartbeats 1000000 in
theorem rgrank_any (a : Option Addr) (n c : Nat) (ts : List RV) (w : World) (h : RowsAt w a n ts) (hr : RowsIn w ts) (hs : shortR ts) (hn : n ≤ 100000) :
    Calls Tryd.prog 14 #[.slice a n c] w fun e w' => e = .returned (.int .i64 ((basisL (vecsL ts)).length : Int)) ∧ Below w.heap.size w w' := by
  obtain rfl := h.1
  have HV := hide (rvecs_any a ts.length c ts w h (by omega))
  have HK := hide (fun (w1 : World) (a1 : Option Addr) (c1 : Nat) (hb : Below w.heap.size w w1) (hv : VecsAt w1 a1 ts.length (vecsL ts)) => rrank_any a1 ts.length c1 (vecsL ts) w1 hv (fit_of hr hs) hn)
  have HR := hide hr
  clear h hr hs
  go_enter Tryd.func14, Tryd.ntmps14
  go_wp2_with fail
  refine (unhide HV).mono ?_
  rintro e w1 ⟨v1, rfl, ho1, hb1⟩
  obtain ⟨a1, c1, rfl, hv1⟩ := ho1.vecs ((unhide HR).below hb1)
  have HK1 := hide (unhide HK w1 a1 c1 hb1 hv1)
  have HB1 := hide hb1
  clear ho1 hb1 hv1 HV HK
  go_wp2_with fail
  refine (unhide HK1).mono ?_
  rintro e w2 ⟨rfl, hb2⟩
  have HB2 := hide (below0 (unhide HB1) hb2)
  clear hb2 HK1 HB1
  go_wp2
  go_ret
  exact ⟨rfl, unhide HB2⟩
theorem last_split {rs : List RV} {n : Nat} (h : rs.length = n + 1) : rs = rs.take n ++ [rs.getD n .dflt] := by
  rw [take_snocR rs n (by omega), List.take_of_length_le (by omega)]
theorem keep_more_len (V : List (List Nat)) (v : List Nat) : (keepL (V ++ [v]) (V ++ [v]).length).length = (keepL V V.length).length ∨ (keepL (V ++ [v]) (V ++ [v]).length).length = (keepL V V.length).length + 1 := by
  rw [List.length_append, List.length_singleton, keep_more]
  split
  · exact .inl rfl
  · exact .inr (by rw [List.length_append]; rfl)
theorem keepR_more {rs : List RV} {n : Nat} (h : rs.length = n + 1) : (keepL (vecsL rs) rs.length).length = (keepL (vecsL (rs.take n)) (rs.take n).length).length ∨ (keepL (vecsL rs) rs.length).length = (keepL (vecsL (rs.take n)) (rs.take n).length).length + 1 := by
  have := keep_more_len (vecsL (rs.take n)) (rs.getD n .dflt).xs
  have e : vecsL (rs.take n) ++ [(rs.getD n .dflt).xs] = vecsL rs := by
    conv => rhs; rw [last_split h]
    simp [vecsL]
  rw [e, vecsL_len, vecsL_len] at this
  exact this
end Go.Proofs.YtjppopabjfncpaaDoor
