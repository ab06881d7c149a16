/-
  Contracts of Store.Put, Store.Rows.
  Which packets may be (CheckP); bools and errors' numbers that tell a proposition. No condition.
  Blocks of a text, on plain lists: how many ('kc'), what each holds ('blk'), all of them ('blocksL'), joined. No condition.
-/
import Derived.Test.YtnjdldbdkafnaaaGreatDoorIC
import Derived.Test.YtnjdldbdkafnaaaGreatDoorU8
import Derived.Test.YtnjdldbdkafnaaaGreatDoorU4
import Derived.Test.YtnjdldbdkafnaaaGreatDoorU5
namespace Go.Proofs.YtnjdldbdkafnaaaGreatDoor
open Go.RowKit Go.Sort
set_option linter.unusedVariables false
set_option linter.unusedSimpArgs false
set_option maxRecDepth 4000

/-- What a put leaves. -/
def PutP (w w' : World) (g B : Nat) (k z : Int) (m : Nat) (v : Value) (rs : List RV) (ov : Bool) (x : List Nat × ByteArray) (e : Ending) : Prop :=
  e = .returned (.int .i64 (putE k z m (rs.map core) x)) ∧ ∃ v' rs', StAt w' g B k z m v' rs' (putO k z m (rs.map core) ov x) ∧ rs'.map core = putL k z m (rs.map core) x ∧ Tu (stF g v) w w' ∧ (v'.ownBlock = v.ownBlock ∨ ∀ j, v'.ownBlock = some j → w.heap.size ≤ j)
theorem put_no {k z : Int} {m : Nat} {L : List (List Nat × ByteArray)} {x : List Nat × ByteArray} (h : fitB k z x = false) : putE k z m L x = 1 ∧ putL k z m L x = L ∧ ∀ o, putO k z m L o x = o := by
  unfold putE putL putO
  simp [h]
theorem put_in {k z : Int} {m : Nat} {L : List (List Nat × ByteArray)} {x : List Nat × ByteArray} (h : fitB k z x = true) (hl : L.length < m) : putE k z m L x = 0 ∧ putL k z m L x = L ++ [x] ∧ ∀ o, putO k z m L o x = o := by
  unfold putE putL putO
  simp [h, hl]
theorem put_full {k z : Int} {m : Nat} {L : List (List Nat × ByteArray)} {x : List Nat × ByteArray} (h : fitB k z x = true) (hl : ¬ L.length < m) : putE k z m L x = 5 ∧ putL k z m L x = L ∧ ∀ o, putO k z m L o x = true := by
  unfold putE putL putO
  simp only [h, hl, if_true, if_false, and_false, true_and, not_false_eq_true]
  exact fun _ => trivial
set_option maxHeartbeats 1000000 in
theorem put_any (g B : Nat) (k z : Int) (m : Nat) (v : Value) (rs : List RV) (ov : Bool) (a : Option Addr) (n c : Nat) (xs : List Nat) (s : ByteArray) (w : World) (h : StAt w g B k z m v rs ov) (hr : RowAt w a n xs) (hn : n ≤ 10) (hs : s.size ≤ 1000) :
    Calls Tryz.prog 49 #[.pointer (some ⟨g, 0, none⟩), .agg #[.slice a n c, .string s]] w fun e w' => PutP w w' g B k z m v rs ov (xs, s) e := by
  have hb0 : Below w.heap.size w (w.alloc (.cells #[.slice a n c, .string s] 29)) := (Below.refl _ _).alloc (Nat.le_refl _) _
  have hx := box_new w (.slice a n c) (.string s)
  have hst := h.below hb0
  have HTK := hide (taker_any g B k z m v rs ov a n c xs s _ hst (hr.below hb0) hn hs)
  have HX := hide hx
  have HS := hide hst
  have HR := hide (hr.below hb0)
  have HB0 := hide hb0
  have HLM := hide (show (rs.map core).length = rs.length from List.length_map core)
  obtain ⟨c0, c1⟩ := hx
  clear h hr hst hb0
  go_enter Tryz.func49, Tryz.ntmps49
  go_wp2_with fail
  refine (unhide HTK).mono ?_
  rintro e w1 ⟨rfl, hb1⟩
  obtain ⟨d0, d1⟩ := (unhide HX).below hb1
  have HB1 := hide (below0 (unhide HB0) hb1)
  have HS1 := hide ((unhide HS).below hb1)
  have HR1 := hide ((unhide HR).below hb1)
  clear HTK HX HS HR hb1 c0 c1
  cases hf : fitB k z (xs, s)
  · rw [show takF false (decide (rs.length < m)) = 80 from rfl]
    go_wp2_with (go_at_call 80; refine (refuse_any _ _ _ _).mono ?_; rintro e w2 ⟨rfl, hb2⟩)
    go_ret
    obtain ⟨p1, p2, p3⟩ := put_no (m := m) (L := rs.map core) hf
    refine ⟨by rw [p1]; rfl, v, rs, ?_, p2.symm, Tu.of_below (below0 (unhide HB1) hb2), .inl rfl⟩
    rw [p3]
    exact (unhide HS1).below hb2
  · by_cases hl : rs.length < m
    · rw [show takF true (decide (rs.length < m)) = 82 by rw [decide_eq_true hl]; rfl]
      have HK := hide (stkeep_any g B k z m v rs ov a n c xs s w1 (unhide HS1) (unhide HR1) hn hs hl)
      go_wp2_with (go_at_call 82; refine (unhide HK).mono ?_; rintro e w2 ⟨v2, r2, rfl, hc2, hs2, ht2, hv2⟩)
      go_ret
      obtain ⟨p1, p2, p3⟩ := put_in (m := m) (L := rs.map core) hf (by rw [unhide HLM]; exact hl)
      refine ⟨by rw [p1]; rfl, v2, rs ++ [r2], ?_, ?_, ht2.after (unhide HB1), hv2.imp id fun q j hj => Nat.le_trans (unhide HB1).size (q j hj)⟩
      · rw [p3]; exact hs2
      · rw [p2, List.map_append, ← hc2]; rfl
    · rw [show takF true (decide (rs.length < m)) = 81 by rw [decide_eq_false hl]; rfl]
      have HK := hide (overflow_any g B k z m v rs ov (.slice a n c) (.string s) w1 (unhide HS1))
      go_wp2_with (go_at_call 81; refine (unhide HK).mono ?_; rintro e w2 ⟨rfl, hs2, ht2⟩)
      go_ret
      obtain ⟨p1, p2, p3⟩ := put_full (m := m) (L := rs.map core) hf (by rw [unhide HLM]; exact hl)
      refine ⟨by rw [p1]; rfl, v, rs, ?_, p2.symm, ht2.after (unhide HB1), .inl rfl⟩
      rw [p3]; exact hs2

/-- The cells of a slice that is made and then filled, row by row. -/
def fillS (n : Nat) (us : List RV) : List RV := us ++ List.replicate (n - us.length) zR
theorem fillS_zero (n : Nat) : fillS n [] = List.replicate n zR := by simp [fillS]
theorem fillS_length {n : Nat} {us : List RV} (h : us.length ≤ n) : (fillS n us).length = n := by simp [fillS]; omega
theorem fillS_all {n : Nat} {us : List RV} (h : us.length = n) : fillS n us = us := by simp [fillS, h]
theorem fillS_next {n : Nat} {us : List RV} (r : RV) (h : us.length < n) : (fillS n us).set us.length r = fillS n (us ++ [r]) := by
  unfold fillS
  rw [List.set_append_right _ _ (Nat.le_refl _), Nat.sub_self, List.length_append, List.length_singleton, List.append_assoc, show n - us.length = (n - (us.length + 1)) + 1 by omega, List.replicate_succ, List.set_cons_zero]
  rfl
theorem OwnRs.set {w : World} {B g : Nat} {rs : List RV} (h : OwnRs w B rs) (i : Nat) (u : Value) (hg : g < B) : OwnRs (w.setCell ⟨g, i, none⟩ u) B rs := fun r hr => (h r hr).other i u hg
/-- What is handed out: new rows, each as one of the store's. -/
def OutP (w w' : World) (rs : List RV) (e : Ending) : Prop := ∃ b c us, e = .returned (.slice (some ⟨b, 0, none⟩) rs.length c) ∧ OwnS w' w.heap.size (.slice (some ⟨b, 0, none⟩) rs.length c) us ∧ OwnRs w' w.heap.size us ∧ us.map core = rs.map core ∧ Below w.heap.size w w'
set_option maxHeartbeats 2000000 in
theorem rows_any (g B : Nat) (k z : Int) (m : Nat) (v : Value) (rs : List RV) (ov : Bool) (w : World) (h : StAt w g B k z m v rs ov) :
    Calls Tryz.prog 66 #[.pointer (some ⟨g, 0, none⟩)] w fun e w' => OutP w w' rs e := by
  obtain ⟨a, c, rfl, hR, -, -⟩ := h.at
  obtain ⟨k0, k1, k2, k3, k4⟩ := h.blk.at
  have hln : rs.length ≤ 256 := Nat.le_trans h.le h.most
  have hmk := make_r rs.length (by omega)
  have HM := hide (made_r w rs.length (by omega) (fillS rs.length []) (fillS_zero _))
  have hbm : Below w.heap.size w (w.alloc (.cells (madeCells #[.slice none 0 0, .string ⟨#[]⟩] (rs.length * 2)) 29)) := (Below.refl _ _).alloc (Nat.le_refl _) _
  obtain ⟨j0, j1, j2, j3, j4⟩ := (h.blk.below hbm).at
  have HBM := hide hbm
  have HZ := hide (show w.heap.size + 1 ≤ (w.alloc (.cells (madeCells #[.slice none 0 0, .string ⟨#[]⟩] (rs.length * 2)) 29)).heap.size by rw [alloc_size]; exact Nat.le_refl _)
  have Hh := hide hR
  have HSH := hide h.short
  have HCR := hide h.rows.rows
  clear h hR hbm
  go_enter Tryz.func66, Tryz.ntmps66
  go_wp2
  go_loopw [19] (fun i wr => ∃ us : List RV, us.length ≤ rs.length ∧ i = .int .i64 us.length ∧ Hid (OwnS wr w.heap.size (.slice (some ⟨w.heap.size, 0, none⟩) rs.length rs.length) (fillS rs.length us)) ∧ Hid (OwnRs wr (w.heap.size + 1) us) ∧ Hid (us.map core = (rs.take us.length).map core) ∧ Hid (Below w.heap.size w wr) ∧ Hid (w.heap.size + 1 ≤ wr.heap.size)) (fun i _ => rs.length - (intOf i).toNat)
  case atStart => exact ⟨[], Nat.zero_le _, rfl, HM, hide (OwnRs.nil _ _), hide rfl, HBM, HZ⟩
  case round =>
    obtain ⟨us, hk, rfl, HI, HU, HC, HB, HZ2⟩ := hrel
    clear HM HBM HZ
    by_cases hlt : us.length < rs.length
    · obtain ⟨b, off, rfl, hcl⟩ := ((unhide Hh).below (unhide HB)).at hlt
      obtain ⟨hc0, hc1⟩ := hcl us.length hlt
      have hlt' : (us.length : Int) < (rs.length : Int) := by omega
      have hrow := ((unhide Hh).below (unhide HB)).2.1 us.length hlt
      have hsh := unhide HSH us.length
      have HTS := hide (take_snocR rs us.length hlt)
      generalize rs.getD us.length .dflt = r at *
      have hb1 : Below wr.heap.size wr (wr.alloc (.cells #[.slice r.a r.n r.c, .string r.s] 29)) := (Below.refl _ _).alloc (Nat.le_refl _) _
      have HCO := hide (copyOf_any r.a r.n r.c r.xs r.s _ (hrow.below hb1) (by omega) (by omega))
      have HB1 := hide hb1
      obtain ⟨hx0, hx1⟩ := box_new wr (.slice r.a r.n r.c) (.string r.s)
      clear hcl hrow hb1
      go_wp2_with fail
      refine (unhide HCO).mono ?_
      rintro e w2 ⟨a2, c2, rfl, ho2, hb2⟩
      have hB2 := below0 (unhide HB1) hb2
      have hI := (unhide HI).below hB2
      have hfl := fillS_length hk
      have hcg := cellsR_get (fillS rs.length us) us.length (by omega)
      have hcell0 := hI.cellAt hcg.1
      have hcell1 := hI.cellAt hcg.2
      have hI' : w2.ownsRow w.heap.size 29 2 (.slice (some ⟨w.heap.size, 0, none⟩) rs.length rs.length) rs.length (cellsR (fillS rs.length us)) := by
        have : w2.ownsRow w.heap.size 29 2 (.slice (some ⟨w.heap.size, 0, none⟩) rs.length rs.length) (fillS rs.length us).length (cellsR (fillS rs.length us)) := hI
        rwa [hfl] at this
      have hfz0 := hI'.frozenAt (us.length * 2)
      have hfz1 := hI'.frozenAt (us.length * 2 + 1)
      have hs2 := hI.stored us.length ⟨a2, r.n, c2, r.xs, r.s⟩
      rw [fillS_next _ hlt] at hs2
      have hZ := Nat.le_trans (unhide HZ2) (Nat.le_trans (unhide HB1).size (Nat.le_refl _))
      have hu2 := (((unhide HU).below hB2).snoc (r := ⟨a2, r.n, c2, r.xs, r.s⟩) (ho2.mono hZ))
      have HU2 := hide ((hu2.set (us.length * 2) (.slice a2 r.n c2) (Nat.lt_succ_self _)).set (us.length * 2 + 1) (.string r.s) (Nat.lt_succ_self _))
      have HC2 := hide (show (us ++ [(⟨a2, r.n, c2, r.xs, r.s⟩ : RV)]).map core = (rs.take (us ++ [(⟨a2, r.n, c2, r.xs, r.s⟩ : RV)]).length).map core by
        rw [List.length_append, List.length_singleton, ← unhide HTS, List.map_append, List.map_append, unhide HC]; rfl)
      have HS := hide hs2
      have HB2 := hide (((below0 (unhide HB) hB2).setCell (p := ⟨w.heap.size, us.length * 2, none⟩) (Nat.le_refl _) (.slice a2 r.n c2)).setCell (p := ⟨w.heap.size, us.length * 2 + 1, none⟩) (Nat.le_refl _) (.string r.s))
      have HZ3 := hide (show w.heap.size + 1 ≤ ((w2.setCell ⟨w.heap.size, us.length * 2, none⟩ (.slice a2 r.n c2)).setCell ⟨w.heap.size, us.length * 2 + 1, none⟩ (.string r.s)).heap.size by
        have := hB2.size
        have := unhide HZ2
        simp
        omega)
      have HLE := hide (show (us ++ [(⟨a2, r.n, c2, r.xs, r.s⟩ : RV)]).length = us.length + 1 by rw [List.length_append]; rfl)
      clear HCO HB1 ho2 hb2 hB2 hI hI' hfl hcg hs2 hu2 hZ HI HB HU HC HZ2 HTS
      generalize (fillS rs.length us).getD us.length .dflt = zz at *
      go_wp2
      go_roundw
      case rel => exact ⟨us ++ [⟨a2, r.n, c2, r.xs, r.s⟩], by rw [unhide HLE]; omega, by rw [unhide HLE]; go_num, HS, HU2, HC2, HB2, HZ3⟩
      case measure => simp [intOf]; omega
    · have hul : us.length = rs.length := by omega
      rw [fillS_all hul] at HI
      rw [hul, List.take_length] at HC
      go_wp2
      go_ret
      exact ⟨_, _, us, rfl, unhide HI, (unhide HU).mono (Nat.le_succ _), unhide HC, unhide HB⟩
/-- How many bring something anew, of the rows' cores. -/
def rankC (L : List (List Nat × ByteArray)) : Nat := (keepL (L.map Prod.fst) L.length).length
theorem vecsL_fst (rs : List RV) : vecsL rs = (rs.map core).map Prod.fst := by
  unfold vecsL
  rw [List.map_map]; rfl
theorem rankN_core (rs : List RV) : rankN rs = rankC (rs.map core) := by
  unfold rankN rankC
  rw [vecsL_fst, List.length_map]
theorem StAt.step {w0 w w' : World} {g B : Nat} {k z : Int} {m : Nat} {v : Value} {rs : List RV} {ov : Bool} (h : StAt w g B k z m v rs ov) (hb : Below B w0 w) (ht : Tu (stF g v) w w') : Below B w0 w' := hb.trans (h.keeps ht h.lob)
theorem short_same {w w' : World} {us rs : List RV} (hu : RowsIn w us) (he : us.map core = rs.map core) (hr : RowsIn w' rs) (hs : shortR rs) : shortR us :=
  short_core hu he fun x hx => by
    obtain ⟨r, hm, rfl⟩ := List.mem_map.1 hx
    obtain ⟨i, hi, rfl⟩ := List.mem_iff_getElem.1 hm
    have h1 := (hr _ (List.getElem_mem hi)).1.1
    have h2 := hs i
    rw [List.getD_eq_getElem?_getD, List.getElem?_eq_getElem hi] at h2
    simp only [Option.getD_some] at h2
    exact ⟨by show (rs[i]).xs.length ≤ 10; rw [h1]; exact h2.1, h2.2⟩
/-- What was handed out can be read. -/
theorem OutP.at {w w' : World} {B : Nat} {rs us : List RV} {a : Option Addr} {n c : Nat} (ho : OwnS w' B (.slice a n c) us) (hr : OwnRs w' B us) (he : us.map core = rs.map core) (hi : RowsIn w rs) (hs : shortR rs) : RowsAt w' a n us ∧ RowsIn w' us ∧ shortR us ∧ n = us.length ∧ n ≤ c :=
  ⟨(ho.at' hr.rows).1, hr.rows, short_same hr.rows he hi hs, (ho.at' hr.rows).2.1, (ho.at' hr.rows).2.2.1⟩
theorem StAt.mono {w : World} {g B B' : Nat} {k z : Int} {m : Nat} {v : Value} {rs : List RV} {ov : Bool} (h : StAt w g B k z m v rs ov) (hB : B' ≤ B) : StAt w g B' k z m v rs ov :=
  ⟨h.blk, Nat.le_trans hB h.lo, h.own.mono hB, h.rows.mono hB, h.le, h.most, h.short⟩
end Go.Proofs.YtnjdldbdkafnaaaGreatDoor
namespace Go.Proofs.YtnjdldbdkafnaaaGreatDoor
set_option linter.unusedVariables false
set_option linter.unusedSimpArgs false
set_option maxRecDepth 4000

/-- A bool that tells P. -/
def TB (b : Bool) (P : Prop) : Prop := b = true ↔ P
theorem tb_ex (P : Prop) : ∃ b, TB b P := by
  by_cases h : P
  · exact ⟨true, by simp [TB, h]⟩
  · exact ⟨false, by simp [TB, h]⟩
theorem TB.no {b : Bool} {P : Prop} (h : TB b P) (hp : ¬ P) : b = false := by
  cases b
  · rfl
  · exact absurd (h.1 rfl) hp
theorem TB.yes {b : Bool} {P : Prop} (h : TB b P) (hp : P) : b = true := h.2 hp
/-- The error's number of what may be, or not. -/
def CkP (en : Nat) (P : Prop) : Prop := (P ∧ en = 0) ∨ (¬ P ∧ en = 1)
theorem CkP.yes {en : Nat} {P : Prop} (h : CkP en P) (hp : P) : en = 0 := by
  rcases h with ⟨_, h⟩ | ⟨h, _⟩
  · exact h
  · exact absurd hp h
theorem CkP.no {en : Nat} {P : Prop} (h : CkP en P) (hp : ¬ P) : en = 1 := by
  rcases h with ⟨h, _⟩ | ⟨_, h⟩
  · exact absurd h hp
  · exact h

def shapedP (k z : Int) : Prop := (1 ≤ k ∧ k ≤ 128) ∧ 1 ≤ z ∧ z ≤ 64
def boundP (o l k z h : Int) : Prop := shapedP k z ∧ (0 ≤ o ∧ o ≤ 4294967295) ∧ (0 ≤ l ∧ l ≤ k * z) ∧ 0 ≤ h ∧ h ≤ 15
def rowedP (k z : Int) (xs : List Nat) (n : Nat) : Prop := ValidP k xs ∧ 0 < cnt xs ∧ (n : Int) = z
/-- A packet that may be: n is how many bytes its text has. -/
def CheckP (o l k z h : Int) (xs : List Nat) (n : Nat) : Prop := boundP o l k z h ∧ rowedP k z xs n
theorem mul_le {k z : Int} (h : shapedP k z) : 0 ≤ k * z ∧ k * z ≤ 8192 := by
  obtain ⟨⟨h1, h2⟩, h3, h4⟩ := h
  have e1 : 0 ≤ k * z := Int.mul_nonneg (by omega) (by omega)
  have e2 : k * z ≤ 128 * z := Int.mul_le_mul_of_nonneg_right h2 (by omega)
  omega

end Go.Proofs.YtnjdldbdkafnaaaGreatDoor
namespace Go.Proofs.YtnjdldbdkafnaaaGreatDoor
open Go.RowKit
set_option linter.unusedVariables false
set_option linter.unusedSimpArgs false
set_option maxRecDepth 4000

/-- How many blocks of z bytes n bytes have. -/
def kc (n z : Nat) : Nat := if 0 < n % z ∨ n / z = 0 then n / z + 1 else n / z
theorem kc_pos (n z : Nat) : 1 ≤ kc n z := by
  unfold kc
  generalize n / z = q
  generalize n % z = r
  split <;> rename_i h <;> omega
theorem kc_enough (n z : Nat) (hz : 0 < z) : n ≤ kc n z * z := by
  have h1 := Nat.div_add_mod n z
  have h2 := Nat.mod_lt n hz
  rw [Nat.mul_comm] at h1
  unfold kc
  split
  · rw [Nat.add_mul]; omega
  · rename_i h
    have : n % z = 0 := by omega
    omega
theorem kc_least (n z k : Nat) (hz : 0 < z) (hk : 1 ≤ k) (h : n ≤ k * z) : kc n z ≤ k := by
  have h1 := Nat.div_add_mod n z
  have h2 := Nat.mod_lt n hz
  rw [Nat.mul_comm] at h1
  unfold kc
  split
  · rename_i hc
    rcases hc with hc | hc
    · rcases Nat.lt_or_ge (n / z) k with h' | h'
      · omega
      · have := Nat.mul_le_mul_right z h'
        omega
    · omega
  · rename_i hc
    rcases Nat.lt_or_ge k (n / z) with h' | h'
    · have := Nat.mul_le_mul_right z (Nat.succ_le_of_lt h')
      rw [Nat.succ_mul] at this
      omega
    · exact h'
theorem kc_great (n z k : Nat) (hz : 0 < z) (hk : 1 ≤ k) : k < kc n z ↔ k * z < n := by
  constructor
  · intro h
    rcases Nat.lt_or_ge (k * z) n with h' | h'
    · exact h'
    · have := kc_least n z k hz hk h'
      omega
  · intro h
    have h1 := kc_enough n z hz
    rcases Nat.lt_or_ge k (kc n z) with h' | h'
    · exact h'
    · have := Nat.mul_le_mul_right z h'
      omega
theorem kc_eq (n z k : Nat) (hz : 0 < z) (hk : 1 ≤ k) (h : n ≤ k * z) (hl : k = 1 ∨ (k - 1) * z < n) : kc n z = k := by
  have h1 := kc_least n z k hz hk h
  rcases hl with rfl | hl
  · have := kc_pos n z; omega
  · by_cases e : k = 1
    · subst e; have := kc_pos n z; omega
    · have := (kc_great n z (k - 1) hz (by omega)).2 hl
      omega

/-- The error's number, and how many blocks. -/
def planE (n z : Int) : Int := if n < 0 ∨ z < 1 ∨ 64 < z then 1 else if 128 < kc n.toNat z.toNat then 2 else 0
def planK (n z : Int) : Int := if planE n z = 0 then (kc n.toNat z.toNat : Int) else 0
theorem plan_arg {n z : Int} (h : n < 0 ∨ z < 1 ∨ 64 < z) : planE n z = 1 ∧ planK n z = 0 := by
  have e : planE n z = 1 := if_pos h
  exact ⟨e, by unfold planK; rw [e]; rfl⟩
theorem plan_size {n z : Nat} (h1 : 1 ≤ z) (h2 : z ≤ 64) (h : 128 < kc n z) : planE (n : Int) (z : Int) = 2 ∧ planK (n : Int) (z : Int) = 0 := by
  have e : planE (n : Int) (z : Int) = 2 := by
    unfold planE
    rw [if_neg (by omega), if_pos (by simpa using h)]
  exact ⟨e, by unfold planK; rw [e]; rfl⟩
theorem plan_ok {n z : Nat} (h1 : 1 ≤ z) (h2 : z ≤ 64) (h : kc n z ≤ 128) : planE (n : Int) (z : Int) = 0 ∧ planK (n : Int) (z : Int) = (kc n z : Int) := by
  have e : planE (n : Int) (z : Int) = 0 := by
    unfold planE
    rw [if_neg (by omega), if_neg (by simp; omega)]
  exact ⟨e, by unfold planK; rw [e]; simp⟩
/-- What is asked of n and z where there are blocks. -/
theorem plan_yes {n : Nat} {z : Int} (h : planE (n : Int) z = 0) : ∃ Z : Nat, z = (Z : Int) ∧ 1 ≤ Z ∧ Z ≤ 64 ∧ kc n Z ≤ 128 := by
  unfold planE at h
  split at h
  · omega
  · rename_i hc
    obtain ⟨Z, rfl⟩ : ∃ Z : Nat, z = (Z : Int) := ⟨z.toNat, by omega⟩
    split at h
    · omega
    · rename_i hk
      simp only [Int.toNat_natCast] at hk
      exact ⟨Z, rfl, by omega, by omega, by omega⟩

/-- The block i of xs, zeros behind. -/
def pad (z : Nat) (t : List Nat) : List Nat := t ++ List.replicate (z - t.length) 0
def blk (xs : List Nat) (z i : Nat) : List Nat := pad z ((xs.drop (i * z)).take z)
def blocksL (xs : List Nat) (z k : Nat) : List ByteArray := (List.range k).map fun i => st (blk xs z i)
theorem pad_length (z : Nat) (t : List Nat) (h : t.length ≤ z) : (pad z t).length = z := by
  unfold pad
  rw [List.length_append, List.length_replicate]
  omega
theorem blk_length (xs : List Nat) (z i : Nat) : (blk xs z i).length = z := pad_length _ _ (List.length_take_le _ _)
theorem blocksL_length (xs : List Nat) (z k : Nat) : (blocksL xs z k).length = k := by simp [blocksL]
theorem blocksL_succ (xs : List Nat) (z k : Nat) : blocksL xs z (k + 1) = blocksL xs z k ++ [st (blk xs z k)] := by
  simp [blocksL, List.range_succ]
theorem pad_bytes {z : Nat} {t : List Nat} (h : bytes t) : bytes (pad z t) := by
  intro x hx
  rcases List.mem_append.1 hx with hx | hx
  · exact h x hx
  · rw [(List.mem_replicate.1 hx).2]; decide
theorem blk_bytes {xs : List Nat} (h : bytes xs) (z i : Nat) : bytes (blk xs z i) := pad_bytes (bytes_take (bytes_drop h _) _)
theorem getD_pad (z : Nat) (t : List Nat) (j : Nat) : (pad z t).getD j 0 = t.getD j 0 := by
  unfold pad
  rw [List.getD_eq_getElem?_getD, List.getD_eq_getElem?_getD]
  by_cases h : j < t.length
  · rw [List.getElem?_append_left h]
  · rw [List.getElem?_append_right (by omega), List.getElem?_eq_none (l := t) (by omega), List.getElem?_replicate]
    split <;> rfl
theorem getD_take (xs : List Nat) (k j : Nat) : (xs.take k).getD j 0 = if j < k then xs.getD j 0 else 0 := by
  rw [List.getD_eq_getElem?_getD, List.getD_eq_getElem?_getD, List.getElem?_take]
  split <;> rfl
theorem getD_drop (xs : List Nat) (k j : Nat) : (xs.drop k).getD j 0 = xs.getD (k + j) 0 := by
  rw [List.getD_eq_getElem?_getD, List.getD_eq_getElem?_getD, List.getElem?_drop]
theorem blk_getD (xs : List Nat) (z i j : Nat) (h : j < z) : (blk xs z i).getD j 0 = xs.getD (i * z + j) 0 := by
  unfold blk
  rw [getD_pad, getD_take, if_pos h, getD_drop]
/-- Cut out of the text with all zeros behind it. -/
theorem blk_ref (xs : List Nat) (z k i : Nat) (hi : i < k) : ((pad (k * z) xs).drop (i * z)).take z = blk xs z i := by
  have h1 : (i + 1) * z ≤ k * z := Nat.mul_le_mul_right z hi
  rw [Nat.add_mul] at h1
  apply ext_getD
  · rw [blk_length, List.length_take, List.length_drop]
    have : k * z ≤ (pad (k * z) xs).length := by
      unfold pad
      rw [List.length_append, List.length_replicate]
      omega
    omega
  · intro j hj
    have hj' : j < z := by
      rw [List.length_take] at hj
      omega
    rw [getD_take, if_pos hj', getD_drop, getD_pad, blk_getD _ _ _ _ hj']
/-- All blocks, one behind the other. -/
def joinL (ss : List ByteArray) : List Nat := ss.flatMap tx
theorem joinL_snoc (ss : List ByteArray) (s : ByteArray) : joinL (ss ++ [s]) = joinL ss ++ tx s := by simp [joinL]
theorem joinL_take (ss : List ByteArray) (k : Nat) (h : k < ss.length) : joinL (ss.take (k + 1)) = joinL (ss.take k) ++ tx (ss.getD k ByteArray.empty) := by
  rw [List.take_succ_eq_append_getElem h, joinL_snoc]
  simp [List.getD_eq_getElem?_getD, List.getElem?_eq_getElem h]
theorem joinL_blocks {xs : List Nat} (hx : bytes xs) (z : Nat) : ∀ k, k * z ≤ xs.length → joinL (blocksL xs z k) = xs.take (k * z)
  | 0, _ => by simp [blocksL, joinL]
  | k + 1, h => by
    rw [Nat.add_mul, Nat.one_mul] at h
    rw [blocksL_succ, joinL_snoc, joinL_blocks hx z k (by omega), tx_st (blk_bytes hx z k), Nat.add_mul, Nat.one_mul, List.take_add]
    congr 1
    unfold blk pad
    rw [List.length_take, List.length_drop]
    rw [show z - min z (xs.length - k * z) = 0 by omega]
    simp
/-- Joined, and cut to what they were. -/
theorem join_back {xs : List Nat} (hx : bytes xs) (z k : Nat) (hk : 1 ≤ k) (h : xs.length ≤ k * z) (hl : k = 1 ∨ (k - 1) * z < xs.length) : (joinL (blocksL xs z k)).take xs.length = xs := by
  obtain ⟨j, rfl⟩ : ∃ j, k = j + 1 := ⟨k - 1, by omega⟩
  have hj : j * z ≤ xs.length := by
    rcases hl with hl | hl
    · obtain rfl : j = 0 := by omega
      omega
    · simp at hl; omega
  rw [blocksL_succ, joinL_snoc, joinL_blocks hx z j hj, tx_st (blk_bytes hx z j)]
  rw [Nat.add_mul, Nat.one_mul] at h
  have e : (xs.drop (j * z)).take z = xs.drop (j * z) := List.take_of_length_le (by rw [List.length_drop]; omega)
  unfold blk pad
  rw [e, ← List.append_assoc, List.take_append_drop, List.take_append_of_le_length (Nat.le_refl _), List.take_length]
theorem blocks_get (xs : List Nat) (z k i : Nat) (h : i < k) : (blocksL xs z k).getD i ByteArray.empty = st (blk xs z i) := by
  unfold blocksL
  rw [List.getD_eq_getElem?_getD, List.getElem?_map, List.getElem?_range h]
  rfl
end Go.Proofs.YtnjdldbdkafnaaaGreatDoor
