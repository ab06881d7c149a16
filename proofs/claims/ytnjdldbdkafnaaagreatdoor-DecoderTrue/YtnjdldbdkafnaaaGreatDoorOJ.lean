/-
  The example of the chapter: bucketlinelaw16.awake tells true.
-/
import Derived.Test.YtnjdldbdkafnaaaGreatDoorU43
namespace Go.Proofs.YtnjdldbdkafnaaaGreatDoor
open Go.RowKit Go.Sort
set_option linter.unusedVariables false
set_option linter.unusedSimpArgs false
set_option maxRecDepth 4000

theorem BkA.row1 {w : World} {b x : Nat} (h : BkA 53 w b [.int .u64 (x : Int)]) (hx : x < 2 ^ 64) : RowAt w (some ⟨b, 0, none⟩) 1 [x] := by
  refine ⟨rfl, fun y hy => by rw [List.mem_singleton.1 hy]; exact hx, .inr ⟨b, 0, rfl, fun i hi => ?_⟩⟩
  obtain rfl : i = 0 := by omega
  exact h.at 0 rfl
theorem BkA.rowD {w wx : World} {b x : Nat} {g B : Nat} {M : Int} {s : DS} {gs : Nat} {v : Value} {rs : List RV} (h : BkA 53 w b [.int .u64 (x : Int)]) (hx : x < 2 ^ 64) (hd : DcAt w g B M s gs v rs) (ht : Tu (dcF g gs v) w wx) : RowAt wx (some ⟨b, 0, none⟩) 1 [x] :=
  (h.tu ht (hd.words b _ h)).row1 hx
def awP (a : Option Addr) : PKV := ⟨0, 2, 2, 1, 0, ⟨a, 1, 1, [1], ⟨#[97]⟩⟩⟩
def awX (a : Option Addr) : PKV := ⟨5, 2, 2, 1, 0, ⟨a, 1, 1, [1], ⟨#[97]⟩⟩⟩
def awQ (a : Option Addr) : PKV := ⟨0, 2, 2, 1, 0, ⟨a, 1, 1, [3], ⟨#[3]⟩⟩⟩
def awS : DS := ⟨true, 0, 2, 2, 1, [([1], ⟨#[97]⟩)], false, false, ⟨#[]⟩⟩
theorem aw_r1 : rankC [([1], ⟨#[97]⟩)] = 1 := by decide
theorem aw_r2 : rankC [([1], ⟨#[97]⟩), ([3], ⟨#[3]⟩)] = 2 := by decide
theorem aw_a1 (a : Option Addr) : admB zDS (awP a) = true := show admB zDS (awP none) = true by decide
theorem aw_a2 (a : Option Addr) : admB awS (awX a) = false := show admB awS (awX none) = false by decide
theorem aw_a3 (a : Option Addr) : admB awS (awQ a) = true := show admB awS (awQ none) = true by decide
theorem aw_p1 (a : Option Addr) (ob : ByteArray) : dput 9 zDS (awP a) ob = awS ∧ dputE 9 zDS (awP a) = 0 := by
  rw [(dput_yes (aw_a1 a)).1, (dput_yes (ob := ob) (aw_a1 a)).2]
  have h := keepS_in (M := 9) (s := begS zDS (awP a)) (x := ([1], ⟨#[97]⟩)) (ob := ob) rfl (by show 0 < capN 9; decide) (by
    show ¬ (rankC [([1], ⟨#[97]⟩)] : Int) = 2
    rw [aw_r1]; decide)
  exact ⟨h.1, h.2.1⟩
theorem aw_p3 (a : Option Addr) (ob : ByteArray) : dput 9 awS (awQ a) ob = ⟨true, 0, 2, 2, 1, [([1], ⟨#[97]⟩), ([3], ⟨#[3]⟩)], false, true, ob⟩ ∧ dputE 9 awS (awQ a) = 0 ∧ newlyB 9 (begS awS (awQ a)) ([3], ⟨#[3]⟩) = true := by
  rw [(dput_yes (aw_a3 a)).1, (dput_yes (ob := ob) (aw_a3 a)).2]
  have h := keepS_new (M := 9) (s := begS awS (awQ a)) (x := ([3], ⟨#[3]⟩)) (ob := ob) rfl (by show 1 < capN 9; decide) (by
    show (rankC [([1], ⟨#[97]⟩), ([3], ⟨#[3]⟩)] : Int) = 2
    rw [aw_r2]; rfl)
  exact ⟨h.1, h.2.1, h.2.2⟩
theorem sm_one {x : Nat} (h : x < 2 ^ 64) : smalls [x] := fun y hy => by rw [List.mem_singleton.1 hy]; exact h
theorem aw_sm : ∀ x ∈ [(([1] : List Nat), (⟨#[97]⟩ : ByteArray)), ([3], ⟨#[3]⟩)], smalls x.1 ∧ x.2.size ≤ 1000 ∧ x.1.length ≤ 10 := fun x hx => by
  rcases List.mem_cons.1 hx with rfl | hx
  · exact ⟨sm_one (by decide), by decide, by decide⟩
  · rw [List.mem_singleton.1 hx]; exact ⟨sm_one (by decide), by decide, by decide⟩
theorem aw_ob {ob : ByteArray} (h : ObjP 2 2 [([1], ⟨#[97]⟩), ([3], ⟨#[3]⟩)] ob) : ob = ⟨#[97, 98]⟩ := by
  have := obj_true (ss := [⟨#[97]⟩, ⟨#[98]⟩]) (m := 1) h (by decide) aw_sm (by decide) (by decide) (by decide) (by decide) (by decide) aw_r2
  rw [this]
  decide
theorem aw_lit (w : World) : ∃ W, W = (((((w.alloc (.cells #[.int .u64 1] 53)).alloc (.cells #[.int .i64 0, .int .i64 2, .int .i64 2, .int .i64 1, .int .i64 0, .slice (some ⟨w.heap.size, 0, none⟩) 1 1, .string ⟨#[97]⟩] 31)).alloc (.cells #[.int .i64 0, .int .i64 2, .int .i64 2, .int .i64 1, .int .i64 0, .slice (some ⟨w.heap.size + 1 + 1 + 1, 0, none⟩) 1 1, .string ⟨#[3]⟩] 31)).alloc (.cells #[.int .u64 3] 53)).alloc (.cells #[.int .i64 5, .int .i64 2, .int .i64 2, .int .i64 1, .int .i64 0, .slice (some ⟨w.heap.size, 0, none⟩) 1 1, .string ⟨#[97]⟩] 31)) ∧
    BkA 53 W w.heap.size [.int .u64 ((1 : Nat) : Int)] ∧ BkA 31 W (w.heap.size + 1) [.int .i64 0, .int .i64 2, .int .i64 2, .int .i64 1, .int .i64 0, .slice (some ⟨w.heap.size, 0, none⟩) 1 1, .string ⟨#[97]⟩] ∧
      BkA 31 W (w.heap.size + 1 + 1) [.int .i64 0, .int .i64 2, .int .i64 2, .int .i64 1, .int .i64 0, .slice (some ⟨w.heap.size + 1 + 1 + 1, 0, none⟩) 1 1, .string ⟨#[3]⟩] ∧ BkA 53 W (w.heap.size + 1 + 1 + 1) [.int .u64 ((3 : Nat) : Int)] ∧
        BkA 31 W (w.heap.size + 1 + 1 + 1 + 1) [.int .i64 5, .int .i64 2, .int .i64 2, .int .i64 1, .int .i64 0, .slice (some ⟨w.heap.size, 0, none⟩) 1 1, .string ⟨#[97]⟩] ∧ Below w.heap.size w W := by
  have l1 := alloc_low w (.cells #[.int .u64 1] 53)
  have b1 : BkA 53 (w.alloc (.cells #[.int .u64 1] 53)) w.heap.size [.int .u64 ((1 : Nat) : Int)] := bkA_new 53 w [.int .u64 1]
  have z1 := alloc_size w (.cells #[.int .u64 1] 53)
  generalize w.alloc (.cells #[.int .u64 1] 53) = w1 at *
  have l2 := alloc_low w1 (.cells #[.int .i64 0, .int .i64 2, .int .i64 2, .int .i64 1, .int .i64 0, .slice (some ⟨w.heap.size, 0, none⟩) 1 1, .string ⟨#[97]⟩] 31)
  have b2 : BkA 31 (w1.alloc (.cells #[.int .i64 0, .int .i64 2, .int .i64 2, .int .i64 1, .int .i64 0, .slice (some ⟨w.heap.size, 0, none⟩) 1 1, .string ⟨#[97]⟩] 31)) w1.heap.size _ := bkA_new 31 w1 [.int .i64 0, .int .i64 2, .int .i64 2, .int .i64 1, .int .i64 0, .slice (some ⟨w.heap.size, 0, none⟩) 1 1, .string ⟨#[97]⟩]
  have z2 := alloc_size w1 (.cells #[.int .i64 0, .int .i64 2, .int .i64 2, .int .i64 1, .int .i64 0, .slice (some ⟨w.heap.size, 0, none⟩) 1 1, .string ⟨#[97]⟩] 31)
  generalize w1.alloc (.cells #[.int .i64 0, .int .i64 2, .int .i64 2, .int .i64 1, .int .i64 0, .slice (some ⟨w.heap.size, 0, none⟩) 1 1, .string ⟨#[97]⟩] 31) = w2 at *
  have l3 := alloc_low w2 (.cells #[.int .i64 0, .int .i64 2, .int .i64 2, .int .i64 1, .int .i64 0, .slice (some ⟨w.heap.size + 1 + 1 + 1, 0, none⟩) 1 1, .string ⟨#[3]⟩] 31)
  have b3 : BkA 31 (w2.alloc (.cells #[.int .i64 0, .int .i64 2, .int .i64 2, .int .i64 1, .int .i64 0, .slice (some ⟨w.heap.size + 1 + 1 + 1, 0, none⟩) 1 1, .string ⟨#[3]⟩] 31)) w2.heap.size _ := bkA_new 31 w2 [.int .i64 0, .int .i64 2, .int .i64 2, .int .i64 1, .int .i64 0, .slice (some ⟨w.heap.size + 1 + 1 + 1, 0, none⟩) 1 1, .string ⟨#[3]⟩]
  have z3 := alloc_size w2 (.cells #[.int .i64 0, .int .i64 2, .int .i64 2, .int .i64 1, .int .i64 0, .slice (some ⟨w.heap.size + 1 + 1 + 1, 0, none⟩) 1 1, .string ⟨#[3]⟩] 31)
  generalize w2.alloc (.cells #[.int .i64 0, .int .i64 2, .int .i64 2, .int .i64 1, .int .i64 0, .slice (some ⟨w.heap.size + 1 + 1 + 1, 0, none⟩) 1 1, .string ⟨#[3]⟩] 31) = w3 at *
  have l4 := alloc_low w3 (.cells #[.int .u64 3] 53)
  have b4 : BkA 53 (w3.alloc (.cells #[.int .u64 3] 53)) w3.heap.size [.int .u64 ((3 : Nat) : Int)] := bkA_new 53 w3 [.int .u64 3]
  have z4 := alloc_size w3 (.cells #[.int .u64 3] 53)
  generalize w3.alloc (.cells #[.int .u64 3] 53) = w4 at *
  have l5 := alloc_low w4 (.cells #[.int .i64 5, .int .i64 2, .int .i64 2, .int .i64 1, .int .i64 0, .slice (some ⟨w.heap.size, 0, none⟩) 1 1, .string ⟨#[97]⟩] 31)
  have b5 : BkA 31 (w4.alloc (.cells #[.int .i64 5, .int .i64 2, .int .i64 2, .int .i64 1, .int .i64 0, .slice (some ⟨w.heap.size, 0, none⟩) 1 1, .string ⟨#[97]⟩] 31)) w4.heap.size _ := bkA_new 31 w4 [.int .i64 5, .int .i64 2, .int .i64 2, .int .i64 1, .int .i64 0, .slice (some ⟨w.heap.size, 0, none⟩) 1 1, .string ⟨#[97]⟩]
  refine ⟨_, rfl, (((b1.below l2).below l3).below l4).below l5, ?_, ?_, ?_, ?_, below0 (below0 (below0 (below0 l1 l2) l3) l4) l5⟩
  · have := ((b2.below l3).below l4).below l5
    rwa [z1] at this
  · have := (b3.below l4).below l5
    rwa [z2, z1] at this
  · have := b4.below l5
    rwa [z3, z2, z1] at this
  · rwa [z4, z3, z2, z1] at b5

set_option maxHeartbeats 4000000 in
theorem awake_any (w : World) (ht : Tab w) : Calls Tryz.prog 7 #[] w fun e w' => e = .returned (.bool true) ∧ Below w.heap.size w w' := by
  have HT := hide ht
  clear ht
  go_enter Tryz.func7, Tryz.ntmps7
  go_wp2_with fail
  refine (denew_any 9 w).mono ?_
  rintro e w1 ⟨rfl, hd1, hb1⟩
  have HD1 := hide hd1
  have HB1 := hide hb1
  clear hd1 hb1
  go_wp2_with fail
  obtain ⟨W, hW, k1, kp, kq, k3, kx, hbW⟩ := aw_lit w1
  rw [← hW]
  clear hW
  have hdW := (unhide HD1).below hbW
  have hbw := below0 (unhide HB1) hbW
  clear HD1 HB1 hbW
  generalize w1.heap.size + 1 + 1 + 1 + 1 = X at *
  generalize w1.heap.size + 1 + 1 + 1 = U at *
  generalize w1.heap.size + 1 + 1 = Q at *
  generalize w1.heap.size + 1 = P at *
  generalize w1.heap.size = H at *
  have HTA := hide (fun wx (hb : Below w.heap.size W wx) => (unhide HT).below (hbw.trans hb))
  refine (dput_any w.heap.size w.heap.size 9 zDS w.heap.size (.slice none 0 0) [] (awP (some ⟨H, 0, none⟩)) W (unhide HTA) hdW (fun wx ht => k1.rowD (by decide) hdW ht) (show 1 ≤ 10 by decide) (show 1 ≤ 1000 by decide)).mono ?_
  rintro e w2 ⟨gs2, v2, rs2, ob2, he, -, hd2, ht2, -⟩
  rw [(aw_p1 _ ob2).2] at he
  rw [(aw_p1 _ ob2).1] at hd2
  obtain rfl := he
  have hb2 := hdW.step hbw ht2
  have k1 := k1.tu ht2 (hdW.words _ _ k1)
  have k3 := k3.tu ht2 (hdW.words _ _ k3)
  have kq := kq.tu ht2 (hdW.out kq (by decide) (by decide) (by decide))
  have kx := kx.tu ht2 (hdW.out kx (by decide) (by decide) (by decide))
  clear hdW ht2 hbw HTA kp
  have x0 := kx.at 0 rfl
  have x1 := kx.at 1 rfl
  have x2 := kx.at 2 rfl
  have x3 := kx.at 3 rfl
  have x4 := kx.at 4 rfl
  have x5 := kx.at 5 rfl
  have x6 := kx.at 6 rfl
  have HDN := hide (dedone_any _ _ _ _ _ _ _ _ hd2)
  have HTA := hide (fun wx (hb : Below w.heap.size w2 wx) => (unhide HT).below (hb2.trans hb))
  have HPX := hide (dput_any w.heap.size w.heap.size 9 awS gs2 v2 rs2 (awX (some ⟨H, 0, none⟩)) w2 (unhide HTA) hd2 (fun wx ht => k1.rowD (by decide) hd2 ht) (show 1 ≤ 10 by decide) (show 1 ≤ 1000 by decide))
  have HD2 := hide hd2
  have HB2 := hide hb2
  have HK3 := hide k3
  have HKQ := hide kq
  clear hd2 hb2 k1 k3 kq kx
  go_wp2_with fail
  refine (unhide HDN).mono ?_
  rintro e w3 ⟨rfl, hw⟩
  obtain rfl := hw.symm
  clear hw HDN
  go_wp2_with fail
  refine (unhide HPX).mono ?_
  rintro e w3 ⟨gs3, v3, rs3, ob3, he, -, hd3, ht3, -⟩
  have hno := dput_no (M := 9) (ob := ob3) (aw_a2 (some ⟨H, 0, none⟩))
  rw [hno.2] at he
  rw [hno.1] at hd3
  obtain rfl := he
  have hb3 := (unhide HD2).step (unhide HB2) ht3
  have k3 := (unhide HK3).tu ht3 ((unhide HD2).words _ _ (unhide HK3))
  have kq := (unhide HKQ).tu ht3 ((unhide HD2).out (unhide HKQ) (by decide) (by decide) (by decide))
  clear ht3 hno HPX HTA HD2 HB2 HK3 HKQ x0 x1 x2 x3 x4 x5 x6
  have x0 := kq.at 0 rfl
  have x1 := kq.at 1 rfl
  have x2 := kq.at 2 rfl
  have x3 := kq.at 3 rfl
  have x4 := kq.at 4 rfl
  have x5 := kq.at 5 rfl
  have x6 := kq.at 6 rfl
  have HTA := hide (fun wx (hb : Below w.heap.size w3 wx) => (unhide HT).below (hb3.trans hb))
  have HPQ := hide (dput_any w.heap.size w.heap.size 9 awS gs3 v3 rs3 (awQ (some ⟨U, 0, none⟩)) w3 (unhide HTA) hd3 (fun wx ht => k3.rowD (by decide) hd3 ht) (show 1 ≤ 10 by decide) (show 1 ≤ 1000 by decide))
  have HD3 := hide hd3
  have HB3 := hide hb3
  clear hd3 hb3 k3 kq
  go_wp2_with fail
  refine (unhide HPQ).mono ?_
  rintro e w4 ⟨gs4, v4, rs4, ob4, he, hT4, hd4, ht4, -⟩
  have hp3 := aw_p3 (some ⟨U, 0, none⟩) ob4
  have hob := aw_ob (hT4 (aw_a3 _) hp3.2.2)
  rw [hp3.2.1] at he
  rw [hp3.1] at hd4
  obtain rfl := hob
  obtain rfl := he
  have hb4 := (unhide HD3).step (unhide HB3) ht4
  have HTB := hide ((unhide HT).below hb4)
  have HDN := hide (dedone_any _ _ _ _ _ _ _ _ hd4)
  have HOB := hide (deobj_any _ _ _ _ _ _ _ _ hd4)
  have hRK := fun wx (hb : Below w4.heap.size w4 wx) => derank_any _ _ _ _ _ _ _ wx ((unhide HTB).below hb) (hd4.below hb)
  have HKP := hide (fun wx (hb : Below w4.heap.size w4 wx) => dekept_any _ _ _ _ _ _ _ wx (hd4.below hb))
  have HOV := hide (fun wx (hb : Below w4.heap.size w4 wx) => deover_any _ _ _ _ _ _ _ wx (hd4.below hb))
  rw [aw_r2] at hRK
  have HRK := hide hRK
  have HB4 := hide hb4
  clear hd4 hb4 ht4 hT4 hp3 hRK HPQ HTA HD3 HB3 HTB x0 x1 x2 x3 x4 x5 x6
  go_wp2_with (first
    | (go_at_call 13; refine (unhide HDN).mono ?_; rintro e w5 ⟨rfl, hw⟩; obtain rfl := hw.symm; clear hw)
    | (go_at_call 14; refine (unhide HOB).mono ?_; rintro e w5 ⟨rfl, hb5⟩; have HB5 := hide hb5; clear hb5)
    | (go_at_call 12; refine (unhide HRK _ (unhide HB5)).mono ?_; rintro e w6 ⟨rfl, hb6⟩; have HB6 := hide (below0 (unhide HB5) hb6); clear hb6)
    | (go_at_call 15; refine (unhide HKP _ (unhide HB6)).mono ?_; rintro e w7 ⟨rfl, hw⟩; obtain rfl := hw.symm; clear hw)
    | (go_at_call 16; refine (unhide HOV _ (unhide HB6)).mono ?_; rintro e w7 ⟨rfl, hw⟩; obtain rfl := hw.symm; clear hw))
  go_ret
  exact ⟨rfl, below0 (unhide HB4) (unhide HB6)⟩
end Go.Proofs.YtnjdldbdkafnaaaGreatDoor
