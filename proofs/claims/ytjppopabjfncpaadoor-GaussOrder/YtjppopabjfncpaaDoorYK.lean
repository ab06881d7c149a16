/-
  Contracts of bucketlineref13.Valid, less.
-/
import Derived.Test.YtjppopabjfncpaaDoorM5
import Derived.Test.YtjppopabjfncpaaDoorXI
namespace Go.Proofs.YtjppopabjfncpaaDoor
open Go.RowKit Go.Sort
set_option linter.unusedVariables false
set_option maxRecDepth 4000

theorem take_filter_yes {rs : List RV} {q : RV → Bool} {k : Nat} (hk : k < rs.length) (h : q (rs.getD k .dflt) = true) : (rs.take (k + 1)).filter q = (rs.take k).filter q ++ [rs.getD k .dflt] := by
  rw [List.take_succ_eq_append_getElem hk, List.filter_append]
  rw [List.getD_eq_getElem?_getD, List.getElem?_eq_getElem hk] at h ⊢
  simp only [Option.getD_some] at h ⊢
  simp [h]
theorem take_filter_no {rs : List RV} {q : RV → Bool} {k : Nat} (hk : k < rs.length) (h : q (rs.getD k .dflt) = false) : (rs.take (k + 1)).filter q = (rs.take k).filter q := by
  rw [List.take_succ_eq_append_getElem hk, List.filter_append]
  rw [List.getD_eq_getElem?_getD, List.getElem?_eq_getElem hk] at h
  simp only [Option.getD_some] at h
  simp [h]

set_option maxHeartbeats 2000000 in
theorem rvalids_any (k : Int) (a : Option Addr) (n c : Nat) (rs : List RV) (w : World) (h : RowsAt w a n rs) (hcap : CapR rs) (hn : n ≤ 1048576) :
    Calls Tryd.prog 18 #[.int .i64 k, .slice a n c] w fun e w' => ∃ a1 m1 c1, e = .returned (.slice a1 m1 c1) ∧ GaS w w' a1 m1 c1 ((rs.filter fun r => validB k r.xs).map core) (rs.filter fun r => validB k r.xs) := by
  obtain rfl := h.1
  have Hh := hide h
  have HC := hide hcap
  clear h hcap
  go_enter Tryd.func18, Tryd.ntmps18
  go_wp2
  go_loopw [5, 6] (fun o i wr => ∃ m : Nat, ∃ a1 : Option Addr, ∃ m1 c1 : Nat, m ≤ rs.length ∧ i = .int .i64 m ∧ o = .slice a1 m1 c1 ∧ Hid (GaS w wr a1 m1 c1 (((rs.take m).filter fun r => validB k r.xs).map core) ((rs.take m).filter fun r => validB k r.xs))) (fun _ i _ => rs.length - (intOf i).toNat)
  case atStart => exact ⟨0, none, 0, 0, Nat.zero_le _, rfl, rfl, hide (GaS.nil w)⟩
  case round =>
    obtain ⟨m, a1, m1, c1, hm, rfl, rfl, HG⟩ := hrel
    by_cases hlt : m < rs.length
    · have hR := (unhide Hh).below (unhide HG).2.2.2.2
      obtain ⟨b, off, rfl, hcl⟩ := hR.at hlt
      obtain ⟨hc0, hc1⟩ := hcl m hlt
      have hrow := hR.2.1 m hlt
      have hrow0 := (unhide Hh).2.1 m hlt
      have hcp := unhide HC m hlt
      have hlt' : (m : Int) < (rs.length : Int) := by omega
      have HYS := hide (fun h => take_filter_yes (q := fun r => validB k r.xs) hlt h)
      have HNO := hide (fun h => take_filter_no (q := fun r => validB k r.xs) hlt h)
      have hfl : ((rs.take m).filter fun r => validB k r.xs).length ≤ 1048576 := by
        have h1 := List.length_filter_le (fun r : RV => validB k r.xs) (rs.take m)
        have h2 := List.length_take_le m rs
        omega
      generalize rs.getD m .dflt = r at *
      have HV := hide (rvalid_any r.a r.n r.c r.xs k wr hrow)
      have HR1 := hide (RowsIn.one (r := r) hrow hcp)
      have HT1 := hide (tys_old (w' := wr) hrow0)
      clear hR hcl hrow hrow0 hcp
      generalize ((rs.take m).filter fun r => validB k r.xs) = ts at *
      cases hv : validB k r.xs
      · have HE := hide (unhide HNO hv)
        clear HYS HNO HR1 HT1
        go_wp2_with (go_at_call 34; refine (unhide HV).mono ?_; rintro e w9 ⟨he, hw9⟩; obtain rfl := hw9.symm; obtain rfl := retV he; rw [hv]; clear hw9 he)
        go_roundw
        case rel => exact ⟨m + 1, a1, m1, c1, by omega, by go_num, rfl, hide (by rw [unhide HE]; exact unhide HG)⟩
        case measure => simp [intOf]; omega
      · have HE := hide (unhide HYS hv)
        clear HYS HNO
        go_wp2_with (first | (go_at_call 34; refine (unhide HV).mono ?_; rintro e w9 ⟨he, hw9⟩; obtain rfl := hw9.symm; obtain rfl := retV he; rw [hv]; clear hw9 he) | (at_builtin; refine wpList_pushS rfl (.tmp 20) (.tmp 25) rfl w.heap.size (.slice a1 m1 c1) ts r rfl rfl (unhide HG).1 (unhide HG).2.2.2.2.size hfl ?_; intro v3 w3 ho3 hg3 hb3; obtain ⟨a3, m3, c3, rfl, hG3⟩ := (unhide HG).push (unhide HR1) (unhide HT1) ho3 hg3 hb3; have HG3 := hide hG3; clear ho3 hg3 hb3 hG3))
        go_roundw
        case rel => exact ⟨m + 1, a3, m3, c3, by omega, by go_num, rfl, hide (by rw [unhide HE, List.map_append]; exact unhide HG3)⟩
        case measure => simp [intOf]; omega
    · have hke : rs.take m = rs := List.take_of_length_le (by omega)
      rw [hke] at HG
      go_wp2
      go_ret
      exact ⟨a1, m1, c1, rfl, unhide HG⟩

/-- The row as it was, or a new one. -/
def LeR (w w' : World) (B : Nat) (r r' : RV) : Prop := (r'.a = r.a ∧ r'.n = r.n ∧ r'.c = r.c ∧ r'.xs = r.xs) ∨ Own w' B (.slice r'.a r'.n r'.c) r'.xs
theorem LeR.row {w w' : World} {B : Nat} {r r' : RV} (h : LeR w w' B r r') (hr : RowAt w r.a r.n r.xs) (hb : Below w.heap.size w w') : RowAt w' r'.a r'.n r'.xs := by
  rcases h with ⟨h1, h2, h3, h4⟩ | h
  · rw [h1, h2, h4]; exact hr.below hb
  · have := h.at'; exact this.1 ▸ this.2
theorem LeR.below {w w' w2 : World} {B : Nat} {r r' : RV} (h : LeR w w' B r r') (hb : Below w'.heap.size w' w2) : LeR w w2 B r r' := h.imp id fun h => h.below hb
theorem LeR.mono {w w' : World} {B B' : Nat} {r r' : RV} (h : LeR w w' B r r') (hb : B' ≤ B) : LeR w w' B' r r' := h.imp id fun h => h.mono hb
theorem LeR.tys {w w' : World} {B B' : Nat} {r r' : RV} (h : LeR w w' B r r') (ht : Tys w' B' [r]) : Tys w' B' [r'] := fun x hx => by
  rw [List.mem_singleton.1 hx]
  rcases h with ⟨h1, h2, h3, h4⟩ | h
  · rcases ht r List.mem_cons_self with h0 | ⟨b, off, e, h0⟩
    · exact .inl (by rw [h2]; exact h0)
    · exact .inr ⟨b, off, by rw [h1]; exact e, h0⟩
  · exact Tys.own (s := r'.s) h r' (by rw [show (⟨r'.a, r'.n, r'.c, r'.xs, r'.s⟩ : RV) = r' from rfl]; exact List.mem_cons_self)
theorem LeR.cap {w w' : World} {B : Nat} {r r' : RV} (h : LeR w w' B r r') (hc : r.n ≤ r.c) : r'.n ≤ r'.c := by
  rcases h with ⟨h1, h2, h3, h4⟩ | h
  · rw [h2, h3]; exact hc
  · exact h.cap
/-- What a round of less leaves. -/
def LeS (w wr : World) (ks : List RV) (r : RV) (k : Nat) (r' : RV) : Prop :=
  BoxW wr w.heap.size (.slice r'.a r'.n r'.c) (.string r'.s) ∧ BoxW wr (w.heap.size + 1) (.slice none 0 0) (.string ⟨#[]⟩) ∧ LeR w wr (w.heap.size + 2) r r' ∧ core r' = lessL ((ks.take k).map core) (core r) ∧ r'.n ≤ 10 ∧ r'.s.size ≤ 1000 ∧ Below w.heap.size w wr ∧ w.heap.size + 2 ≤ wr.heap.size
theorem map_take_core (ks : List RV) (k : Nat) (hk : k < ks.length) : (ks.take (k + 1)).map core = (ks.take k).map core ++ [core (ks.getD k .dflt)] := by
  rw [List.take_succ_eq_append_getElem hk, List.map_append]
  simp [List.getD_eq_getElem?_getD, List.getElem?_eq_getElem hk]
theorem LeS.skip {w wr w1 : World} {ks : List RV} {r r' : RV} {k : Nat} (h : LeS w wr ks r k r') (hk : k < ks.length) (hno : getI r'.xs (firstI (ks.getD k .dflt).xs) = false) (hb : Below wr.heap.size wr w1) : LeS w w1 ks r (k + 1) r' := by
  obtain ⟨h1, h2, h3, h4, h5, h6, h7, h8⟩ := h
  refine ⟨h1.below hb, h2.below hb, h3.below hb, ?_, h5, h6, below0 h7 hb, Nat.le_trans h8 hb.size⟩
  rw [map_take_core ks k hk, lessL_snoc, ← h4]
  unfold lessStep core
  rw [hno]; rfl
theorem LeS.more {w wr w1 : World} {ks : List RV} {r r' : RV} {k : Nat} {a2 : Option Addr} {c2 : Nat} (h : LeS w wr ks r k r') (hk : k < ks.length) (hyes : getI r'.xs (firstI (ks.getD k .dflt).xs) = true) (hl : (ks.getD k .dflt).xs.length ≤ 10) (hs : (ks.getD k .dflt).s.size ≤ 1000) (hrl : r'.n = r'.xs.length) (hb : Below wr.heap.size wr w1)
    (ho : Own w1 wr.heap.size (.slice a2 (xorL r'.xs (ks.getD k .dflt).xs).length c2) (xorL r'.xs (ks.getD k .dflt).xs)) :
    LeS w ((w1.setCell ⟨w.heap.size, 0, none⟩ (.slice a2 (xorL r'.xs (ks.getD k .dflt).xs).length c2)).setCell ⟨w.heap.size, 1, none⟩ (.string (xorS r'.s (ks.getD k .dflt).s))) ks r (k + 1) ⟨a2, (xorL r'.xs (ks.getD k .dflt).xs).length, c2, xorL r'.xs (ks.getD k .dflt).xs, xorS r'.s (ks.getD k .dflt).s⟩ := by
  obtain ⟨h1, h2, h3, h4, h5, h6, h7, h8⟩ := h
  refine ⟨((h1.below hb).set0 _).set1 _, ((h2.below hb).other _ _ (by omega)).other _ _ (by omega), .inr (((ho.mono h8).other _ _ (by omega)).other _ _ (by omega)), ?_, ?_, ?_, ((below0 h7 hb).setCell (p := ⟨w.heap.size, 0, none⟩) (Nat.le_refl _) _).setCell (p := ⟨w.heap.size, 1, none⟩) (Nat.le_refl _) _, ?_⟩
  · rw [map_take_core ks k hk, lessL_snoc, ← h4]
    unfold lessStep core
    rw [hyes]; rfl
  · show (xorL _ _).length ≤ 10
    rw [xorL_length]
    omega
  · show (xorS _ _).size ≤ 1000
    rw [xorS_size]
    omega
  · have := hb.size
    simp
    omega
end Go.Proofs.YtjppopabjfncpaaDoor
