/-
  Contract of bucketlinelaw04.awake.
-/
import Derived.Test.YtobelbmcbgfdhaaDoorKJ
namespace Go.Proofs.YtobelbmcbgfdhaaDoor
open Go.RowKit Go.Sort
set_option linter.unusedVariables false

theorem aw_lit (w : World) :
    VecsAt (((((w.alloc (.cells #[.int .u64 3] 37)).alloc (.cells #[.int .u64 3] 37)).alloc (.cells #[.int .u64 1] 37)).alloc (.cells #[.slice (some ⟨w.heap.size, 0, none⟩) 1 1, .slice (some ⟨w.heap.size + 1, 0, none⟩) 1 1, .slice (some ⟨w.heap.size + 1 + 1, 0, none⟩) 1 1] 23)).alloc (.cells #[.int .u64 2] 37)) (some ⟨w.heap.size + 1 + 1 + 1, 0, none⟩) 3 [[3], [3], [1]] ∧
    RowAt (((((w.alloc (.cells #[.int .u64 3] 37)).alloc (.cells #[.int .u64 3] 37)).alloc (.cells #[.int .u64 1] 37)).alloc (.cells #[.slice (some ⟨w.heap.size, 0, none⟩) 1 1, .slice (some ⟨w.heap.size + 1, 0, none⟩) 1 1, .slice (some ⟨w.heap.size + 1 + 1, 0, none⟩) 1 1] 23)).alloc (.cells #[.int .u64 2] 37)) (some ⟨w.heap.size + 1 + 1 + 1 + 1, 0, none⟩) 1 [2] ∧
    Below w.heap.size w (((((w.alloc (.cells #[.int .u64 3] 37)).alloc (.cells #[.int .u64 3] 37)).alloc (.cells #[.int .u64 1] 37)).alloc (.cells #[.slice (some ⟨w.heap.size, 0, none⟩) 1 1, .slice (some ⟨w.heap.size + 1, 0, none⟩) 1 1, .slice (some ⟨w.heap.size + 1 + 1, 0, none⟩) 1 1] 23)).alloc (.cells #[.int .u64 2] 37)) := by
  have h := lit_three w 3 3 1 (by decide) (by decide) (by decide)
  have hs : ((((w.alloc (.cells #[.int .u64 3] 37)).alloc (.cells #[.int .u64 3] 37)).alloc (.cells #[.int .u64 1] 37)).alloc (.cells #[.slice (some ⟨w.heap.size, 0, none⟩) 1 1, .slice (some ⟨w.heap.size + 1, 0, none⟩) 1 1, .slice (some ⟨w.heap.size + 1 + 1, 0, none⟩) 1 1] 23)).heap.size = w.heap.size + 1 + 1 + 1 + 1 := by
    rw [alloc_size, alloc_size, alloc_size, alloc_size]
  have h2 := lit1 ((((w.alloc (.cells #[.int .u64 3] 37)).alloc (.cells #[.int .u64 3] 37)).alloc (.cells #[.int .u64 1] 37)).alloc (.cells #[.slice (some ⟨w.heap.size, 0, none⟩) 1 1, .slice (some ⟨w.heap.size + 1, 0, none⟩) 1 1, .slice (some ⟨w.heap.size + 1 + 1, 0, none⟩) 1 1] 23)) 2 (by decide)
  rw [hs] at h2
  exact ⟨h.below (alloc_below _ _), h2, a5_below _ _ _ _ _ _⟩
theorem lit_int (w : World) (x : Nat) (z : Int) (hz : z = (x : Int)) (hx : x < 18446744073709551616) : RowAt (w.alloc (.cells #[.int .u64 z] 37)) (some ⟨w.heap.size, 0, none⟩) 1 [x] := by
  rw [hz]; exact lit1 w x hx
set_option maxHeartbeats 2000000 in
theorem awake4_any (w : World) (ht : Tab w) :
    Calls Tryd.prog 9 #[] w fun e w' => e = .returned (.bool true) ∧ Below w.heap.size w w' := by
  obtain ⟨rs, hrs⟩ : ∃ rs : List (List Nat), rs = [[3], [3], [1]] := ⟨_, rfl⟩
  obtain ⟨x2, hx2⟩ : ∃ x : List Nat, x = [2] := ⟨_, rfl⟩
  obtain ⟨x4, hx4⟩ : ∃ x : List Nat, x = [4] := ⟨_, rfl⟩
  obtain ⟨x0, hx0⟩ : ∃ x : List Nat, x = [] := ⟨_, rfl⟩
  have hl := aw_lit w
  rw [← hrs, ← hx2] at hl
  have HL4 : Hid (∀ w : World, RowAt (w.alloc (.cells #[.int .u64 4] 37)) (some ⟨w.heap.size, 0, none⟩) 1 x4) := hide (fun w => by rw [hx4]; exact lit_int w 4 4 rfl (by decide))
  have HL0 := hide (fun w => show RowAt w none 0 x0 from hx0 ▸ row_nil w)
  have HE2 := hide (aw_e2 rs hrs x2 hx2)
  have HE4 := hide (aw_e4 rs hrs x4 hx4)
  have HK := hide (aw_k rs hrs)
  have HF4 := hide (aw_f4 rs hrs x4 hx4)
  have HF0 := hide (aw_f0 rs hrs x0 hx0)
  have HL := hide hl
  clear hrs hx2 hx4 hx0 hl
  go_enter Tryd.func9, Tryd.ntmps9
  go_wp2_with fail
  obtain ⟨hl1, hl2, hl3⟩ := unhide HL
  clear HL
  generalize ((((w.alloc (.cells #[.int .u64 3] 37)).alloc (.cells #[.int .u64 3] 37)).alloc (.cells #[.int .u64 1] 37)).alloc (.cells #[.slice (some ⟨w.heap.size, 0, none⟩) 1 1, .slice (some ⟨w.heap.size + 1, 0, none⟩) 1 1, .slice (some ⟨w.heap.size + 1 + 1, 0, none⟩) 1 1] 23)).alloc (.cells #[.int .u64 2] 37) = W5 at *
  generalize w.heap.size + 1 + 1 + 1 + 1 = g4 at *
  generalize w.heap.size + 1 + 1 + 1 = g at *
  refine (unhide HE2 _ _ _ _ _ (ht.below hl3) hl1 hl2).mono ?_
  rintro e w1 ⟨a1, c1, rfl, hi1, hb1⟩
  have HB1 := hide (below0 hl3 hb1)
  have HV1 := hide (hl1.below hb1)
  clear hl1 hl2 hl3
  have HI1 := hide hi1
  clear hi1 hb1 HE2
  go_wp2_with fail
  refine (unhide HE4 _ _ _ _ _ (ht.below (below0 (unhide HB1) (alloc_below _ _))) ((unhide HV1).below (alloc_below _ _)) (unhide HL4 _)).mono ?_
  rintro e w2 ⟨a2, l2, c2, rfl, hb2⟩
  have HB2 := hide (below1 (unhide HB1) hb2)
  have HV2 := hide (((unhide HV1).below (alloc_below _ _)).below hb2)
  have HI2 := hide (((unhide HI1).below (alloc_below _ _)).below hb2)
  clear hb2 HB1 HV1 HI1 HE4
  go_wp2_with fail
  refine (unhide HK _ _ _ (ht.below (unhide HB2)) (unhide HV2)).mono ?_
  rintro e w3 ⟨a3, c3, rfl, hi3, hb3⟩
  have HB3 := hide (below0 (unhide HB2) hb3)
  have HV3 := hide ((unhide HV2).below hb3)
  have HI3 := hide ((unhide HI2).below hb3)
  have HK3 := hide hi3
  clear hi3 hb3 HB2 HV2 HI2 HK
  go_wp2_with fail
  refine (ints_any _ 2 _ [0, 2] _ 2 _ [0, 2] _ ((unhide HK3).below (alloc_below _ _)) (lit_ints w3 0 2) rfl (by omega)).mono ?_
  rintro e w4 ⟨rfl, hb4⟩
  have HB4 := hide (below1 (unhide HB3) hb4)
  have HV4 := hide (((unhide HV3).below (alloc_below _ _)).below hb4)
  have HI4 := hide (((unhide HI3).below (alloc_below _ _)).below hb4)
  clear hb4 HB3 HV3 HI3 HK3
  go_wp2_with fail
  refine (ints_any _ 2 _ [0, 2] _ 2 _ [0, 2] _ ((unhide HI4).below (alloc_below _ _)) (lit_ints w4 0 2) rfl (by omega)).mono ?_
  rintro e w5 ⟨rfl, hb5⟩
  have HB5 := hide (below1 (unhide HB4) hb5)
  have HV5 := hide (((unhide HV4).below (alloc_below _ _)).below hb5)
  clear hb5 HB4 HV4 HI4
  go_wp2_with fail
  refine (unhide HF4 _ _ _ _ _ (ht.below (below0 (unhide HB5) (alloc_below _ _))) ((unhide HV5).below (alloc_below _ _)) (unhide HL4 _)).mono ?_
  rintro e w6 ⟨rfl, hb6⟩
  have HB6 := hide (below1 (unhide HB5) hb6)
  have HV6 := hide (((unhide HV5).below (alloc_below _ _)).below hb6)
  clear hb6 HB5 HV5 HF4
  go_wp2_with fail
  refine (unhide HF0 _ _ _ _ _ (ht.below (unhide HB6)) (unhide HV6) (unhide HL0 _)).mono ?_
  rintro e w7 ⟨rfl, hb7⟩
  have HB7 := hide (below0 (unhide HB6) hb7)
  clear hb7 HB6 HV6
  go_wp2
  go_ret
  exact ⟨rfl, unhide HB7⟩
end Go.Proofs.YtobelbmcbgfdhaaDoor
