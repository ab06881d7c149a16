/-
  The example of the chapter: bucketlinelaw15.awake tells true; ranks of rows by their cores.
-/
import Derived.Test.YtbfkhioljpgjjaaDoorID
namespace Go.Proofs.YtbfkhioljpgjjaaDoor
open Go.RowKit Go.Sort
set_option linter.unusedVariables false
set_option maxRecDepth 4000

def xA : ByteArray := ⟨#[120]⟩
theorem aw_f3 : fitB 2 1 ([3], ⟨#[120]⟩) = true := by decide
theorem aw_f1 : fitB 2 1 ([1], ⟨#[120]⟩) = true := by decide
theorem aw_f4 : fitB 2 1 ([4], ⟨#[120]⟩) = false := by decide
theorem aw_rank : rankC [([3], ⟨#[120]⟩)] = 1 := by decide

set_option maxHeartbeats 4000000 in
theorem awake_any (w : World) (ht : Tab w) : Calls Tryd.prog 9 #[] w fun e w' => e = .returned (.bool true) ∧ Below w.heap.size w w' := by
  have HT := hide ht
  clear ht
  go_enter Tryd.func9, Tryd.ntmps9
  go_wp2_with fail
  refine (stnew_any 2 1 1 w).mono ?_
  rintro e w1 ⟨rfl, hs1, hb1⟩
  rw [show capN 1 = 1 from rfl] at hs1
  have hsa := hs1.below (alloc_low w1 (.cells #[.int .u64 3] 46))
  have HP := hide (put_any _ _ 2 1 1 _ [] false (some ⟨w1.heap.size, 0, none⟩) 1 1 [3] ⟨#[120]⟩ _ hsa (row_lit w1 3 (by decide)) (by decide) (by decide))
  have HSA := hide hsa
  have HBA := hide (hb1.trans ((alloc_low w1 (.cells #[.int .u64 3] 46)).mono hb1.size))
  clear hs1 hb1 hsa
  go_wp2_with fail
  refine (unhide HP).mono ?_
  rintro e w2 ⟨he, v2, rs2, hs2, hc2, ht2, -⟩
  obtain ⟨p1, p2, p3⟩ := put_in (m := 1) (L := []) aw_f3 (by decide)
  rw [List.map_nil, p1] at he
  rw [List.map_nil, p3] at hs2
  rw [List.map_nil, p2] at hc2
  subst he
  have hb2 := (unhide HSA).step (unhide HBA) ht2
  have hsb := hs2.below (alloc_low w2 (.cells #[.int .u64 1] 46))
  have HP2 := hide (put_any _ _ 2 1 1 _ rs2 false (some ⟨w2.heap.size, 0, none⟩) 1 1 [1] ⟨#[120]⟩ _ hsb (row_lit w2 1 (by decide)) (by decide) (by decide))
  have HC2 := hide hc2
  have HSB := hide hsb
  have HBB := hide (hb2.trans ((alloc_low w2 (.cells #[.int .u64 1] 46)).mono hb2.size))
  clear hs2 hc2 ht2 hb2 hsb p1 p2 p3 HP HSA HBA
  go_wp2_with fail
  refine (unhide HP2).mono ?_
  rintro e w3 ⟨he, v3, rs3, hs3, hc3, ht3, -⟩
  obtain ⟨p1, p2, p3⟩ := put_full (m := 1) (L := [] ++ [([3], ⟨#[120]⟩)]) aw_f1 (by decide)
  rw [unhide HC2, p1] at he
  rw [unhide HC2, p3] at hs3
  rw [unhide HC2, p2] at hc3
  subst he
  have hb3 := (unhide HSB).step (unhide HBB) ht3
  have hsc := hs3.below (alloc_low w3 (.cells #[.int .u64 4] 46))
  have HP3 := hide (put_any _ _ 2 1 1 _ rs3 true (some ⟨w3.heap.size, 0, none⟩) 1 1 [4] ⟨#[120]⟩ _ hsc (row_lit w3 4 (by decide)) (by decide) (by decide))
  have HC3 := hide hc3
  have HSC := hide hsc
  have HBC := hide (hb3.trans ((alloc_low w3 (.cells #[.int .u64 4] 46)).mono hb3.size))
  clear hs3 hc3 ht3 hb3 hsc p1 p2 p3 HP2 HSB HBB HC2
  go_wp2_with fail
  refine (unhide HP3).mono ?_
  rintro e w4 ⟨he, v4, rs4, hs4, hc4, ht4, -⟩
  obtain ⟨p1, p2, p3⟩ := put_no (m := 1) (L := [] ++ [([3], ⟨#[120]⟩)]) aw_f4
  rw [unhide HC3, p1] at he
  rw [unhide HC3, p3] at hs4
  rw [unhide HC3, p2] at hc4
  subst he
  have hb4 := (unhide HSC).step (unhide HBC) ht4
  have hl4 : rs4.length = 1 := by rw [← List.length_map core, hc4]; rfl
  have hr4 : rankN rs4 = 1 := by rw [rankN_core, hc4]; exact aw_rank
  have HLN := len_any _ _ 2 1 1 v4 rs4 true w4 hs4
  have HOV := hide (over_any _ _ 2 1 1 v4 rs4 true w4 hs4)
  have HRK := rank_any _ _ 2 1 1 v4 rs4 true w4 ((unhide HT).below hb4) hs4
  have HRW := hide (fun wx (hb : Below w4.heap.size w4 wx) => rows_any _ _ 2 1 1 v4 rs4 true wx (hs4.below hb))
  rw [hl4] at HLN
  rw [hr4] at HRK
  have HLN := hide HLN
  have HRK := hide HRK
  have HB4 := hide hb4
  have HL4 := hide hl4
  clear hs4 hc4 ht4 hb4 p1 p2 p3 HP3 HSC HBC HC3 hl4 hr4
  have HF1 : Hid True := hide trivial
  go_wp2_with (first
    | (go_at_call 14; refine (unhide HLN).mono ?_; rintro e w5 ⟨rfl, hw⟩; obtain rfl := hw.symm; clear hw)
    | (go_at_call 15; refine (unhide HOV).mono ?_; rintro e w5 ⟨rfl, hw⟩; obtain rfl := hw.symm; clear hw)
    | (go_at_call 18; refine (unhide HRK).mono ?_; rintro e w5 ⟨rfl, hb5⟩; have HB5 := hide hb5; clear hb5)
    | (go_at_call 17; refine (unhide HRW _ (unhide HB5)).mono ?_; rintro e w6 ⟨a6, c6, us6, rfl, -, -, -, hb6⟩; rw [unhide HL4]; have HB6 := hide (below0 (below0 (unhide HB4) (unhide HB5)) hb6); clear hb6)
    | (go_at_call 10; refine (stnew_any 2 1 0 _).mono ?_; rintro e w7 ⟨rfl, hs7, hb7⟩; rw [show capN 0 = 0 from rfl] at hs7; have hsd := hs7.below (alloc_low w7 (.cells #[.int .u64 1] 46)); have HSD := hide hsd; have HBD := hide (below0 (below0 (unhide HB6) hb7) (alloc_low w7 (.cells #[.int .u64 1] 46))); have HP7 := hide (put_any _ _ 2 1 0 _ [] false (some ⟨w7.heap.size, 0, none⟩) 1 1 [1] ⟨#[120]⟩ _ hsd (row_lit w7 1 (by decide)) (by decide) (by decide)); have HZ7 := hide (unhide HB6).size; clear hs7 hb7 hsd)
    | (go_at_call 13; refine (unhide HP7).mono ?_; rintro e w8 ⟨he, v8, rs8, hs8, hc8, ht8, -⟩; rw [List.map_nil, (put_full (m := 0) (L := []) aw_f1 (by decide)).1] at he; subst he; have HB8 := hide ((unhide HBD).trans (((unhide HSD).keeps ht8 (unhide HSD).lob).mono (unhide HZ7))); clear hs8 hc8 ht8))
  go_ret
  exact ⟨rfl, unhide HB8⟩
end Go.Proofs.YtbfkhioljpgjjaaDoor
