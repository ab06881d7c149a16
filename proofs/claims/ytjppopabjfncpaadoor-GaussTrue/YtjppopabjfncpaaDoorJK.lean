/-
  The example of the chapter: bucketlinelaw14.awake tells true.
-/
import Derived.Test.YtjppopabjfncpaaDoorJJ
namespace Go.Proofs.YtjppopabjfncpaaDoor
open Go.RowKit Go.Sort
set_option linter.unusedVariables false
set_option maxRecDepth 4000

def awG (a1 a2 : Option Addr) : List RV := [⟨a1, 1, 1, [3], ⟨#[3]⟩⟩, ⟨a2, 1, 1, [1], ⟨#[97]⟩⟩]
theorem awg_lit (w : World) : RowsAt (((w.alloc (.cells #[.int .u64 3] 33)).alloc (.cells #[.int .u64 1] 33)).alloc (.cells #[.slice (some ⟨w.heap.size, 0, none⟩) 1 1, .string ⟨#[3]⟩, .slice (some ⟨w.heap.size + 1, 0, none⟩) 1 1, .string ⟨#[97]⟩] 37)) (some ⟨w.heap.size + 1 + 1, 0, none⟩) 2 (awG (some ⟨w.heap.size, 0, none⟩) (some ⟨w.heap.size + 1, 0, none⟩)) ∧
    Below w.heap.size w (((w.alloc (.cells #[.int .u64 3] 33)).alloc (.cells #[.int .u64 1] 33)).alloc (.cells #[.slice (some ⟨w.heap.size, 0, none⟩) 1 1, .string ⟨#[3]⟩, .slice (some ⟨w.heap.size + 1, 0, none⟩) 1 1, .string ⟨#[97]⟩] 37)) := by
  have r1 := row_lit w 3 (by decide)
  have r2 := row_lit (w.alloc (.cells #[.int .u64 3] 33)) 1 (by decide)
  have h := rows_two (w := (w.alloc (.cells #[.int .u64 3] 33)).alloc (.cells #[.int .u64 1] 33)) (r := ⟨_, 1, 1, [3], ⟨#[3]⟩⟩) (q := ⟨_, 1, 1, [1], ⟨#[97]⟩⟩) (r1.below (alloc_b _ _)) r2
  simp only [alloc_size] at h
  exact ⟨h, below0 (below0 (alloc_b _ _) (alloc_b _ _)) (alloc_b _ _)⟩
def awB : List ByteArray := [⟨#[97]⟩, ⟨#[98]⟩]
theorem awg_each {P : RV → Prop} {a1 a2 : Option Addr} (h1 : P ⟨a1, 1, 1, [3], ⟨#[3]⟩⟩) (h2 : P ⟨a2, 1, 1, [1], ⟨#[97]⟩⟩) : ∀ r ∈ awG a1 a2, P r := fun r hr => by
  rcases List.mem_cons.1 hr with rfl | hr
  · exact h1
  · rw [List.mem_singleton.1 hr]; exact h2
theorem awg_good (a1 a2 : Option Addr) : Good (awG a1 a2) := awg_each ⟨by intro x hx; rw [List.mem_singleton.1 hx]; show 3 < 18446744073709551616; decide, by show (1 : Nat) ≤ 1000; decide⟩ ⟨by intro x hx; rw [List.mem_singleton.1 hx]; show 1 < 18446744073709551616; decide, by show (1 : Nat) ≤ 1000; decide⟩
theorem awg_len (a1 a2 : Option Addr) : ∀ r ∈ awG a1 a2, r.xs.length ≤ 10 := awg_each (by show (1 : Nat) ≤ 10; decide) (by show (1 : Nat) ≤ 10; decide)
theorem awg_size (a1 a2 : Option Addr) : ∀ r ∈ awG a1 a2, r.s.size = 1 := awg_each rfl rfl
theorem awg_h1 : holdsB awB [3] ⟨#[3]⟩ = true := by kernel_rfl
theorem awg_h2 : holdsB awB [1] ⟨#[97]⟩ = true := by kernel_rfl
theorem awg_holds (a1 a2 : Option Addr) : ∀ r ∈ awG a1 a2, holdsB awB r.xs r.s = true := awg_each awg_h1 awg_h2
theorem awg_v3 : validB 2 [3] = true := by decide
theorem awg_v1 : validB 2 [1] = true := by decide
theorem awg_filter (a1 a2 : Option Addr) : ((awG a1 a2).filter fun r => validB 2 r.xs) = awG a1 a2 := List.filter_eq_self.2 (awg_each awg_v3 awg_v1)
theorem awg_rk : (basisL [[3], [1]]).length = 2 := by decide
theorem awg_rank (a1 a2 : Option Addr) : rankV 2 (awG a1 a2) = 2 := by
  unfold rankV
  rw [awg_filter]
  exact awg_rk
theorem awg_kp : (keepL [[3], [1]] 2).length = 2 := by decide
theorem awg_kp1 : (keepL [[3]] 1).length = 1 := by decide
theorem awg_keep (a1 a2 : Option Addr) : (keepL (vecsL (awG a1 a2)) (awG a1 a2).length).length = 2 := awg_kp
theorem awg_short (a1 a2 : Option Addr) : shortR (awG a1 a2) := fun i => by
  match i with
  | 0 => exact ⟨by show (1 : Nat) ≤ 10; decide, by show (1 : Nat) ≤ 1000; decide⟩
  | 1 => exact ⟨by show (1 : Nat) ≤ 10; decide, by show (1 : Nat) ≤ 1000; decide⟩
  | i + 2 => exact ⟨Nat.zero_le _, Nat.zero_le _⟩
theorem awg_cap (a1 a2 : Option Addr) : CapR (awG a1 a2) := fun i hi => by
  match i, hi with
  | 0, _ => exact Nat.le_refl _
  | 1, _ => exact Nat.le_refl _
theorem awg_no (a1 a2 : Option Addr) : okC 2 (validC 2 ((awG a1 a2).take 1)) = false := by
  have : validC 2 ((awG a1 a2).take 1) = [([3], ⟨#[3]⟩)] := by
    unfold validC
    rw [List.filter_eq_self.2 (fun r hr => by rw [List.mem_singleton.1 hr]; exact awg_v3)]
    rfl
  rw [this]
  decide
theorem awg_ms : ∀ b, b < awB.length → (awB.getD b ByteArray.empty).size = 1 := fun b hb => by
  match b, hb with
  | 0, _ => rfl
  | 1, _ => rfl
theorem awg_z : 0 < sizeOfK (awB.length : Int) := by decide
theorem awg_sol (a1 a2 : Option Addr) : okC 2 (validC 2 (awG a1 a2)) = true ∧ solveC 2 (validC 2 (awG a1 a2)) = awB := by
  have := sol_true (ss := awB) (awg_good a1 a2) (awg_len a1 a2) (by show (2 : Nat) ≤ 300; decide) awg_z (awg_holds a1 a2) (awg_size a1 a2) awg_ms
  rw [show ((awB.length : Nat) : Int) = 2 from rfl, awg_rank] at this
  exact ⟨this.1, this.2⟩
theorem awg_dec (a1 a2 : Option Addr) {kn : List Nat} {bs : List ByteArray} (hP : PeelP 2 (awG a1 a2) kn bs) : okC 2 (peelC 2 (awG a1 a2) kn bs) = true ∧ solveC 2 (peelC 2 (awG a1 a2) kn bs) = awB := by
  have := dec_true (ss := awB) hP (awg_good a1 a2) (awg_len a1 a2) (by show (2 : Nat) ≤ 300; decide) awg_z (awg_holds a1 a2) (awg_size a1 a2) awg_ms
  rw [show ((awB.length : Nat) : Int) = 2 from rfl, awg_rank] at this
  exact ⟨this.1, this.2⟩

set_option maxHeartbeats 2000000 in
theorem awake_any (w : World) (ht : Tab w) : Calls Tryd.prog 9 #[] w fun e w' => e = .returned (.bool true) ∧ Below w.heap.size w w' := by
  obtain ⟨hR, hb0⟩ := awg_lit w
  obtain ⟨W, hW⟩ : ∃ W, W = ((w.alloc (.cells #[.int .u64 3] 33)).alloc (.cells #[.int .u64 1] 33)).alloc (.cells #[.slice (some ⟨w.heap.size, 0, none⟩) 1 1, .string ⟨#[3]⟩, .slice (some ⟨w.heap.size + 1, 0, none⟩) 1 1, .string ⟨#[97]⟩] 37) := ⟨_, rfl⟩
  have HWE := hide hW
  rw [← hW] at hR hb0
  have hs1 := slice_hi (w.heap.size + 1 + 1) 0 2 2 1 (by omega)
  generalize hg : w.heap.size + 1 + 1 = g at *
  obtain ⟨rs, hrs⟩ : ∃ rs, rs = awG (some ⟨w.heap.size, 0, none⟩) (some ⟨w.heap.size + 1, 0, none⟩) := ⟨_, rfl⟩
  obtain ⟨kn, bs, hPP⟩ := peel_is (k := 2) (awg_good (some ⟨w.heap.size, 0, none⟩) (some ⟨w.heap.size + 1, 0, none⟩))
  have hsol := awg_sol (some ⟨w.heap.size, 0, none⟩) (some ⟨w.heap.size + 1, 0, none⟩)
  have hdec := awg_dec (some ⟨w.heap.size, 0, none⟩) (some ⟨w.heap.size + 1, 0, none⟩) hPP
  have hno := awg_no (some ⟨w.heap.size, 0, none⟩) (some ⟨w.heap.size + 1, 0, none⟩)
  have hkp := awg_keep (some ⟨w.heap.size, 0, none⟩) (some ⟨w.heap.size + 1, 0, none⟩)
  have hsh := awg_short (some ⟨w.heap.size, 0, none⟩) (some ⟨w.heap.size + 1, 0, none⟩)
  have hcp := awg_cap (some ⟨w.heap.size, 0, none⟩) (some ⟨w.heap.size + 1, 0, none⟩)
  rw [← hrs] at hR hPP hsol hdec hno hkp hsh hcp
  have ht0 := ht.below hb0
  have HS := hide (solve_any 2 (some ⟨g, 0, none⟩) 2 2 rs W ht0 hR hcp hsh (by omega))
  rw [hsol.1, hsol.2] at HS
  have HD := hide (fun (w1 : World) (hb : Below W.heap.size W w1) => decode_any 2 (some ⟨g, 0, none⟩) 2 2 rs kn bs hPP w1 (ht0.below hb) (hR.below hb) hsh (by omega))
  rw [hdec.1, hdec.2] at HD
  have hcp1 : CapR (rs.take 1) := fun i hi => by
    have h1 : i < 1 := by have := List.length_take_le 1 rs; omega
    have h2 := hcp i (by have := hR.1; omega)
    rw [List.getD_eq_getElem?_getD, List.getElem?_take_of_lt h1, ← List.getD_eq_getElem?_getD]
    exact h2
  have hsh1 : shortR (rs.take 1) := fun i => by
    by_cases h1 : i < 1
    · have h2 := hsh i
      rw [List.getD_eq_getElem?_getD, List.getElem?_take_of_lt h1, ← List.getD_eq_getElem?_getD]
      exact h2
    · rw [List.getD_eq_getElem?_getD, List.getElem?_eq_none (by have := List.length_take_le 1 rs; omega)]
      exact short_nil 0
  have HN := hide (fun (w1 : World) (hb : Below W.heap.size W w1) => solve_any 2 (some ⟨g, 0, none⟩) 1 2 (rs.take 1) w1 (ht0.below hb) ((hR.below hb).take 1 (by omega)) hcp1 hsh1 (by omega))
  rw [hno] at HN
  have HK := hide (fun (w1 : World) (hb : Below W.heap.size W w1) => grank_any (some ⟨g, 0, none⟩) 2 2 rs w1 (ht0.below hb) (hR.below hb) (RowsIn.of (hR.below hb) hcp) hsh (by omega))
  rw [hkp] at HK
  have HB0 := hide hb0
  clear hR hb0 hsol hdec hno hkp hsh hcp ht0 hcp1 hsh1 hPP ht hrs
  go_enter Tryd.func9, Tryd.ntmps9
  go_wp2_with fail
  rw [← unhide HWE]
  refine (unhide HS).mono ?_
  rintro e w1 ⟨a1, m1, c1, rfl, ho1, hb1⟩
  obtain ⟨a1', c1', e1, hT1⟩ := ho1.texts
  simp only [Value.slice.injEq] at e1
  obtain ⟨rfl, rfl, rfl⟩ := e1
  have HT1 := hide hT1
  have HB1 := hide hb1
  have HD1 := hide (unhide HD w1 hb1)
  clear ho1 hT1 hb1 HS HWE hW HD
  go_wp2_with fail
  refine (unhide HD1).mono ?_
  rintro e w2 ⟨a2, m2, c2, rfl, ho2, hb2⟩
  obtain ⟨a2', c2', e2, hT2⟩ := ho2.texts
  simp only [Value.slice.injEq] at e2
  obtain ⟨rfl, rfl, rfl⟩ := e2
  have HT2 := hide hT2
  have HT12 := hide ((unhide HT1).below hb2)
  have HB2 := hide (below0 (unhide HB1) hb2)
  have HN2 := hide (unhide HN w2 (unhide HB2))
  clear ho2 hT2 hb2 HD1 HN HT1 HB1
  go_wp2_with fail
  refine (unhide HN2).mono ?_
  rintro e w3 ⟨a3, m3, c3, rfl, ho3, hb3⟩
  have hT1 := (unhide HT12).below hb3
  have hT2 := (unhide HT2).below hb3
  have HB3 := hide (below0 (unhide HB2) hb3)
  have hba : Below w3.heap.size w3 (w3.alloc (.cells #[.string ⟨#[97]⟩, .string ⟨#[98]⟩] 9)) := alloc_b _ _
  have HX1 := hide (texts2_any a1 awB.length c1 awB (some ⟨w3.heap.size, 0, none⟩) 2 2 awB (w3.alloc (.cells #[.string ⟨#[97]⟩, .string ⟨#[98]⟩] 9)) (hT1.below hba) (texts_lit2 w3 ⟨#[97]⟩ ⟨#[98]⟩) (by show (2 : Nat) ≤ 1048576; decide) (by omega))
  have HX2 := hide (fun (w4 : World) (hb : Below w3.heap.size w3 w4) => texts2_any a2 awB.length c2 awB a1 awB.length c1 awB w4 (hT2.below hb) (hT1.below hb) (by show (2 : Nat) ≤ 1048576; decide) (by show (2 : Nat) ≤ 1048576; decide))
  rw [decide_eq_true rfl] at HX1 HX2
  have HK3 := hide (fun (w4 : World) (hb : Below w3.heap.size w3 w4) => unhide HK w4 (below0 (unhide HB3) hb))
  have HBA := hide hba
  clear ho3 hb3 hT1 hT2 hba HN2 HK HT12 HT2 HB2
  rw [show awB.length = 2 from rfl] at HX1 HX2
  have HF1 : Hid True := hide trivial
  go_wp2_with (first | (go_at_call 12; clear HF1; refine (unhide HX1).mono ?_; rintro e w4 ⟨rfl, hb4⟩; have HB4 := hide (below0 (unhide HBA) hb4); have HX3 := hide (unhide HX2 w4 (unhide HB4)); clear hb4) | (go_at_call 12; refine (unhide HX3).mono ?_; rintro e w5 ⟨rfl, hb5⟩; have HB5 := hide (below0 (unhide HB4) hb5); have HK5 := hide (unhide HK3 w5 (unhide HB5)); clear hb5) | (go_at_call 13; refine (unhide HK5).mono ?_; rintro e w6 ⟨rfl, hb6⟩; have HB6 := hide (below0 (unhide HB5) hb6); clear hb6))
  go_ret
  exact ⟨rfl, below0 (unhide HB0) (below0 (unhide HB3) (unhide HB6))⟩
end Go.Proofs.YtjppopabjfncpaaDoor
