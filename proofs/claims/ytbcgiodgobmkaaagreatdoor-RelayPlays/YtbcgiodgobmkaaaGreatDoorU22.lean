/-
  Contracts of Buffer.All, bucketlineref07.Vecs.
  Contracts of bucketlineref07.sizes, Check, and of bucketlinelaw07.few: for every packet.
-/
import Derived.Test.YtbcgiodgobmkaaaGreatDoorUK
import Derived.Test.YtbcgiodgobmkaaaGreatDoorU17
namespace Go.Proofs.YtbcgiodgobmkaaaGreatDoor
open Go.RowKit Go.Sort
set_option linter.unusedVariables false
set_option linter.unusedSimpArgs false
set_option maxRecDepth 4000

theorem take_snocK (ks : List PKV) (k : Nat) (hk : k < ks.length) : ks.take k ++ [ks.getD k .dflt] = ks.take (k + 1) := by
  rw [List.take_succ_eq_append_getElem hk]
  simp [List.getD_eq_getElem?_getD, List.getElem?_eq_getElem hk]
/-- What is handed out: new packets, each as one of the buffer's. -/
def OutK (w w' : World) (ps : List PKV) (e : Ending) : Prop := ∃ b c us, e = .returned (.slice (some ⟨b, 0, none⟩) ps.length c) ∧ OwnP w' w.heap.size (.slice (some ⟨b, 0, none⟩) ps.length c) us ∧ OwnKs w' w.heap.size us ∧ us.map PKV.pd = ps.map PKV.pd ∧ Below w.heap.size w w'
set_option maxHeartbeats 4000000 in
theorem buall_any (g B m : Nat) (v : Value) (ps : List PKV) (w : World) (h : BfAt w g B m v ps) :
    Calls Tryz.prog 124 #[.pointer (some ⟨g, 0, none⟩)] w fun e w' => OutK w w' ps e := by
  have hln := h.len.2
  obtain ⟨a, c, rfl, hP, -, -⟩ := h.at
  have hmk := make_k ps.length (by omega)
  have HM := hide (made_k w ps.length (by omega) (fillK ps.length []) (fillK_zero _))
  have hbm : Below w.heap.size w (w.alloc (.cells (madeCells #[.int .i64 0, .int .i64 0, .int .i64 0, .int .i64 0, .int .i64 0, .slice none 0 0, .string ⟨#[]⟩] (ps.length * 7)) 42)) := (Below.refl _ _).alloc (Nat.le_refl _) _
  obtain ⟨k0, k1⟩ := h.cells (Below.refl _ _)
  obtain ⟨j0, j1⟩ := h.cells hbm
  have HBM := hide hbm
  have HZ := hide (show w.heap.size + 1 ≤ (w.alloc (.cells (madeCells #[.int .i64 0, .int .i64 0, .int .i64 0, .int .i64 0, .int .i64 0, .slice none 0 0, .string ⟨#[]⟩] (ps.length * 7)) 42)).heap.size by rw [alloc_size]; exact Nat.le_refl _)
  have Hh := hide hP
  have HSH : Hid (∀ i, i < ps.length → (ps.getD i .dflt).r.n ≤ 1048576 ∧ (ps.getD i .dflt).r.s.size ≤ 1048576) := hide fun i hi => by
    have h1 := (h.inv.get (i := i) (by rw [List.length_map]; exact hi)).1
    rw [pdGet hi] at h1
    have h2 := okD_len h1
    have h3 := (hP.2.1 i hi).1
    have h4 : (ps.getD i .dflt).r.xs.length ≤ 2 := h2
    have h5 := okD_valid h1
    have h6 : ((ps.getD i .dflt).r.s.size : Int) = (ps.getD i .dflt).z := h5.2.2.1
    have h7 : (ps.getD i .dflt).z ≤ 64 := h5.2.2.2.2.2
    omega
  clear h hP hbm
  go_enter Tryz.func124, Tryz.ntmps124
  go_wp2
  go_loopw [19] (fun i wr => ∃ us : List PKV, us.length ≤ ps.length ∧ i = .int .i64 us.length ∧ Hid (OwnP wr w.heap.size (.slice (some ⟨w.heap.size, 0, none⟩) ps.length ps.length) (fillK ps.length us)) ∧ Hid (OwnKs wr (w.heap.size + 1) us) ∧ Hid (us.map PKV.pd = (ps.take us.length).map PKV.pd) ∧ Hid (Below w.heap.size w wr) ∧ Hid (w.heap.size + 1 ≤ wr.heap.size)) (fun i _ => ps.length - (intOf i).toNat)
  case atStart => exact ⟨[], Nat.zero_le _, rfl, HM, hide (OwnKs.nil _ _), hide rfl, HBM, HZ⟩
  case round =>
    obtain ⟨us, hk, rfl, HI, HU, HC, HB, HZ2⟩ := hrel
    clear HM HBM HZ
    by_cases hlt : us.length < ps.length
    · obtain ⟨b, off, rfl, hcl⟩ := ((unhide Hh).below (unhide HB)).at hlt
      obtain ⟨hc0, hc1, hc2, hc3, hc4, hc5, hc6⟩ := hcl us.length hlt
      have hlt' : (us.length : Int) < (ps.length : Int) := by omega
      have hrow := ((unhide Hh).below (unhide HB)).2.1 us.length hlt
      have hsh := unhide HSH us.length hlt
      have HTS := hide (take_snocK ps us.length hlt)
      generalize ps.getD us.length .dflt = p at *
      have hb1 := pk_low wr p
      have HCO0 := bcopy_any p _ (hrow.below hb1) hsh.1 hsh.2
      unfold PKV.val at HCO0
      have HCO := hide HCO0
      have HB1 := hide hb1
      obtain ⟨hx0, hx1, hx2, hx3, hx4, hx5, hx6⟩ := pk_new wr (.int .i64 p.o) (.int .i64 p.l) (.int .i64 p.k) (.int .i64 p.z) (.int .i64 p.h) (.slice p.r.a p.r.n p.r.c) (.string p.r.s)
      clear hcl hrow hb1 HCO0 hsh
      go_wp2_with fail
      refine (unhide HCO).mono ?_
      rintro e w2 ⟨a2, c2, rfl, ho2, hb2⟩
      have hB2 := below0 (unhide HB1) hb2
      have hI := (unhide HI).below hB2
      have hfl := fillK_length hk
      have hcg := fun j hj => cellsK_get (fillK ps.length us) us.length j (by omega) hj
      have e0 := hI.cellAt ((hcg 0 (by decide)).trans rfl)
      have e1 := hI.cellAt ((hcg 1 (by decide)).trans rfl)
      have e2 := hI.cellAt ((hcg 2 (by decide)).trans rfl)
      have e3 := hI.cellAt ((hcg 3 (by decide)).trans rfl)
      have e4 := hI.cellAt ((hcg 4 (by decide)).trans rfl)
      have e5 := hI.cellAt ((hcg 5 (by decide)).trans rfl)
      have e6 := hI.cellAt ((hcg 6 (by decide)).trans rfl)
      rw [Nat.add_zero] at e0
      have hI' : w2.ownsRow w.heap.size 42 7 (.slice (some ⟨w.heap.size, 0, none⟩) ps.length ps.length) ps.length (cellsK (fillK ps.length us)) := by
        have : w2.ownsRow w.heap.size 42 7 (.slice (some ⟨w.heap.size, 0, none⟩) ps.length ps.length) (fillK ps.length us).length (cellsK (fillK ps.length us)) := hI
        rwa [hfl] at this
      have hfz : ∀ j, w2.frozen? ⟨w.heap.size, j, none⟩ = false := fun j => hI'.frozenAt j
      have hs2 := hI.stored us.length (p.cop a2 c2)
      rw [fillK_next _ hlt] at hs2
      have hZ := Nat.le_trans (unhide HZ2) (unhide HB1).size
      have hu2 := (((unhide HU).below hB2).snoc (p := p.cop a2 c2) (ho2.mono hZ))
      have HU2 := hide (hu2.setK (us.length * 7) (p.cop a2 c2) (Nat.lt_succ_self _))
      have HC2 := hide (show (us ++ [p.cop a2 c2]).map PKV.pd = (ps.take (us ++ [p.cop a2 c2]).length).map PKV.pd by
        rw [List.length_append, List.length_singleton, ← unhide HTS, List.map_append, List.map_append, unhide HC]; rfl)
      have HS := hide hs2
      have HB2 := hide (belowK (below0 (unhide HB) hB2) (Nat.le_refl _) (us.length * 7) (p.cop a2 c2))
      have HZ3 := hide (show w.heap.size + 1 ≤ (setK w2 w.heap.size (us.length * 7) (p.cop a2 c2)).heap.size by
        rw [setK_size]
        have := hB2.size
        have := unhide HZ2
        omega)
      have HLE := hide (show (us ++ [p.cop a2 c2]).length = us.length + 1 by rw [List.length_append]; rfl)
      clear HCO HB1 ho2 hb2 hB2 hI hI' hfl hcg hs2 hu2 hZ HI HB HU HC HZ2 HTS
      generalize (fillK ps.length us).getD us.length .dflt = zz at *
      go_wp2
      go_roundw
      case rel => exact ⟨us ++ [p.cop a2 c2], by rw [unhide HLE]; omega, by rw [unhide HLE]; go_num, HS, HU2, HC2, HB2, HZ3⟩
      case measure => simp [intOf]; omega
    · have hul : us.length = ps.length := by omega
      rw [fillK_all hul] at HI
      rw [hul, List.take_length] at HC
      go_wp2
      go_ret
      exact ⟨_, _, us, rfl, unhide HI, (unhide HU).mono (Nat.le_succ _), unhide HC, unhide HB⟩
set_option maxHeartbeats 2000000 in
theorem rpvecs_any (a : Option Addr) (n c : Nat) (ps : List PKV) (w : World) (h : PksAt w a n ps) (hn : n ≤ 1048576) :
    Calls Tryz.prog 60 #[.slice a n c] w fun e w' => ∃ v, e = .returned v ∧ OwnW w' w.heap.size v (ps.map PKV.r) ∧ Below w.heap.size w w' := by
  obtain rfl := h.1
  have Hh := hide h
  clear h
  go_enter Tryz.func60, Tryz.ntmps60
  go_wp2
  go_loopw [3, 4] (fun o i wr => ∃ (k : Nat) (a1 : Option Addr) (m1 c1 : Nat), k ≤ ps.length ∧ i = .int .i64 k ∧ o = .slice a1 m1 c1 ∧ Hid (OwnW wr w.heap.size (.slice a1 m1 c1) ((ps.take k).map PKV.r)) ∧ Hid (Below w.heap.size w wr)) (fun _ i _ => ps.length - (intOf i).toNat)
  case atStart => exact ⟨0, none, 0, 0, Nat.zero_le _, rfl, rfl, hide (OwnW.nil _ _), hide (Below.refl _ _)⟩
  case round =>
    obtain ⟨k, a1, m1, c1, hk, rfl, rfl, HO, HB⟩ := hrel
    by_cases hlt : k < ps.length
    · obtain ⟨b, off, rfl, hcl⟩ := ((unhide Hh).below (unhide HB)).at hlt
      obtain ⟨hc0, hc1, hc2, hc3, hc4, hc5, hc6⟩ := hcl k hlt
      have hlt' : (k : Int) < (ps.length : Int) := by omega
      have HE := hide (show (ps.take k).map PKV.r ++ [(ps.getD k .dflt).r] = (ps.take (k + 1)).map PKV.r by rw [← take_snocK ps k hlt, List.map_append]; rfl)
      have htl : ((ps.take k).map PKV.r).length ≤ 1048576 := by rw [List.length_map]; have := List.length_take_le k ps; omega
      generalize ps.getD k .dflt = p at *
      obtain ⟨us, hus⟩ : ∃ us, us = (ps.take k).map PKV.r := ⟨_, rfl⟩
      rw [← hus] at HO HE htl
      clear hcl hus
      go_wp2_with (first | (at_builtin; refine wpList_pushW rfl (.tmp 11) (.tmp 18) rfl w.heap.size (.slice a1 m1 c1) us p.r rfl rfl (unhide HO) (unhide HB).size htl ?_; intro v3 w3 ho3 hb3; obtain ⟨a3, m3, c3, rfl⟩ : ∃ a3 m3 c3, v3 = Value.slice a3 m3 c3 := (by rcases ho3.2 with ⟨e3, _⟩ | ⟨g3, cap3, _, e3, _⟩; exact ⟨none, 0, 0, e3⟩; exact ⟨_, _, _, e3⟩); have HO3 := hide ho3; have HB3 := hide ((unhide HB).trans hb3); clear ho3 hb3))
      go_roundw
      case rel => exact ⟨k + 1, a3, m3, c3, by omega, by go_num, rfl, hide (by rw [← unhide HE]; exact unhide HO3), HB3⟩
      case measure => simp [intOf]; omega
    · have hke : ps.take k = ps := List.take_of_length_le (by omega)
      rw [hke] at HO
      go_wp2
      go_ret
      exact ⟨_, rfl, unhide HO, unhide HB⟩
end Go.Proofs.YtbcgiodgobmkaaaGreatDoor
namespace Go.Proofs.YtbcgiodgobmkaaaGreatDoor
open Go.RowKit
set_option linter.unusedVariables false
set_option linter.unusedSimpArgs false
set_option maxRecDepth 4000

set_option maxHeartbeats 400000 in
theorem rsizes_any (k z : Int) (w : World) (b : Bool) (hb : TB b (shapedP k z)) :
    Calls Tryz.prog 40 #[.int .i64 k, .int .i64 z] w fun e w' => e = .returned (.bool b) ∧ w' = w := by
  have HB := hide hb
  clear hb
  by_cases h1 : 1 ≤ k
  · by_cases h2 : k ≤ 128
    · by_cases h3 : 1 ≤ z
      · by_cases h4 : z ≤ 64
        · go_enter Tryz.func40, Tryz.ntmps40
          go_wp2
          go_ret
          exact ⟨ret_bool ((unhide HB).yes ⟨⟨h1, h2⟩, h3, h4⟩).symm, rfl⟩
        · go_enter Tryz.func40, Tryz.ntmps40
          go_wp2
          go_ret
          exact ⟨ret_bool ((unhide HB).no (fun h => by have := h.2.2; omega)).symm, rfl⟩
      · go_enter Tryz.func40, Tryz.ntmps40
        go_wp2
        go_ret
        exact ⟨ret_bool ((unhide HB).no (fun h => by have := h.2.1; omega)).symm, rfl⟩
    · go_enter Tryz.func40, Tryz.ntmps40
      go_wp2
      go_ret
      exact ⟨ret_bool ((unhide HB).no (fun h => by have := h.1.2; omega)).symm, rfl⟩
  · go_enter Tryz.func40, Tryz.ntmps40
    go_wp2
    go_ret
    exact ⟨ret_bool ((unhide HB).no (fun h => by have := h.1.1; omega)).symm, rfl⟩

set_option maxHeartbeats 2000000 in
theorem rcheck_any (o l k z h : Int) (a : Option Addr) (n c : Nat) (xs : List Nat) (s : ByteArray) (w : World) (hr : RowAt w a n xs) (en : Nat) (hen : CkP en (CheckP o l k z h xs s.size)) :
    Calls Tryz.prog 22 #[.agg #[.int .i64 o, .int .i64 l, .int .i64 k, .int .i64 z, .int .i64 h, .slice a n c, .string s]] w fun e w' => e = .returned (.int .i64 ((en : Nat) : Int)) ∧ Below w.heap.size w w' := by
  have HE := hide hen
  obtain ⟨b1, h1⟩ := tb_ex (shapedP k z)
  have H1 := hide h1
  have HL := hide hr.1
  have HR := hide (row_alloc hr (.cells #[.int .i64 o, .int .i64 l, .int .i64 k, .int .i64 z, .int .i64 h, .slice a n c, .string s] 42))
  have B0 := hide (below_new w (.cells #[.int .i64 o, .int .i64 l, .int .i64 k, .int .i64 z, .int .i64 h, .slice a n c, .string s] 42))
  clear hen hr h1
  by_cases c1 : 0 ≤ o
  case neg =>
    go_enter Tryz.func22, Tryz.ntmps22
    go_wp2
    go_ret
    exact ⟨ret_int (by rw [(unhide HE).no (fun h => by have := h.1.2.1.1; omega)]; rfl), unhide B0⟩
  by_cases c2 : o ≤ 4294967295
  case neg =>
    go_enter Tryz.func22, Tryz.ntmps22
    go_wp2
    go_ret
    exact ⟨ret_int (by rw [(unhide HE).no (fun h => by have := h.1.2.1.2; omega)]; rfl), unhide B0⟩
  go_enter Tryz.func22, Tryz.ntmps22
  go_wp2_with fail
  refine (rsizes_any k z _ b1 (unhide H1)).mono ?_
  rintro e w' ⟨rfl, hw⟩
  obtain rfl := hw.symm
  clear hw
  cases b1
  · go_wp2
    go_ret
    exact ⟨ret_int (by rw [(unhide HE).no (fun h => by simpa using (unhide H1).2 h.1.1)]; rfl), unhide B0⟩
  · have HW := hide (show wrap64 (k * z) = k * z by have hm := mul_le ((unhide H1).1 rfl); unfold wrap64; omega)
    by_cases c4 : 0 ≤ h
    case neg =>
      go_wp2
      go_ret
      exact ⟨ret_int (by rw [(unhide HE).no (fun h => by have := h.1.2.2.2.1; omega)]; rfl), unhide B0⟩
    by_cases c5 : h ≤ 15
    case neg =>
      go_wp2
      go_ret
      exact ⟨ret_int (by rw [(unhide HE).no (fun h => by have := h.1.2.2.2.2; omega)]; rfl), unhide B0⟩
    by_cases c6 : l < 0
    case pos =>
      go_wp2
      go_ret
      exact ⟨ret_int (by rw [(unhide HE).no (fun h => by have := h.1.2.2.1.1; omega)]; rfl), unhide B0⟩
    by_cases c7 : wrap64 (k * z) < l
    case pos =>
      go_wp2
      go_ret
      exact ⟨ret_int (by rw [(unhide HE).no (fun h => by have := h.1.2.2.1.2; have := unhide HW; omega)]; rfl), unhide B0⟩
    have HL7 := hide (show 0 ≤ l ∧ l ≤ k * z by have := unhide HW; omega)
    have HBP := hide (show boundP o l k z h from ⟨(unhide H1).1 rfl, ⟨c1, c2⟩, unhide HL7, c4, c5⟩)
    go_wp2_with fail
    refine (rvalid_any a n c xs k _ (unhide HR)).mono ?_
    rintro e w1 ⟨⟨b2, rfl, hb2⟩, hw⟩
    obtain rfl := hw.symm
    clear hw
    have H2 := hide hb2
    clear hb2
    cases b2
    · go_wp2
      go_ret
      exact ⟨ret_int (by rw [(unhide HE).no (fun h => by simpa using (unhide H2).2 h.2.1)]; rfl), unhide B0⟩
    · have hv := (unhide H2).1 rfl
      have hn : n ≤ 1048576 := by have := valid_len hv; have := unhide HL; omega
      have HC := hide (rcount_any a n c xs _ (unhide HR) hn)
      have HV := hide hv
      clear hv hn
      rcases Nat.eq_zero_or_pos (cnt xs) with hc | hc
      · rw [hc] at HC
        have HZ := hide hc
        clear hc
        go_wp2_with fail
        refine (unhide HC).mono ?_
        rintro e w' ⟨rfl, hw⟩
        obtain rfl := hw.symm
        clear hw
        go_wp2
        go_ret
        exact ⟨ret_int (by rw [(unhide HE).no (fun h => by have := h.2.2.1; have := unhide HZ; omega)]; rfl), unhide B0⟩
      · have HZ := hide hc
        have hc' : (((cnt xs : Nat) : Int) == 0) = false := by rw [beq_eq_false_iff_ne]; omega
        generalize ((cnt xs : Nat) : Int) = m at *
        clear hc
        by_cases hz : (s.size : Int) = z
        · have hz' : ((s.size : Int) != z) = false := by rw [hz]; simp
          have HQ := hide hz
          clear hz
          go_wp2_with fail
          refine (unhide HC).mono ?_
          rintro e w' ⟨rfl, hw⟩
          obtain rfl := hw.symm
          clear hw
          go_wp2
          go_ret
          exact ⟨ret_int (by rw [(unhide HE).yes ⟨unhide HBP, unhide HV, unhide HZ, unhide HQ⟩]; rfl), unhide B0⟩
        · have hz' : ((s.size : Int) != z) = true := by rw [bne_iff_ne]; exact hz
          have HQ := hide hz
          clear hz
          go_wp2_with fail
          refine (unhide HC).mono ?_
          rintro e w' ⟨rfl, hw⟩
          obtain rfl := hw.symm
          clear hw
          go_wp2
          go_ret
          exact ⟨ret_int (by rw [(unhide HE).no (fun h => unhide HQ h.2.2.2)]; rfl), unhide B0⟩

end Go.Proofs.YtbcgiodgobmkaaaGreatDoor
