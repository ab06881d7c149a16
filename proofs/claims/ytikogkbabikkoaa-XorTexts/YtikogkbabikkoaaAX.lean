/-
  Contract of bucketlinelaw02.awake: in every world it tells true.
-/
import Derived.Test.YtikogkbabikkoaaXH
namespace Go.Proofs.Ytikogkbabikkoaa
open Go.RowKit Go.Sort
set_option linter.unusedVariables false
set_option maxRecDepth 4000

theorem texts_new3 (w : World) (x y z : ByteArray) : TextsAt (w.alloc (.cells #[.string x, .string y, .string z] 9)) (some ⟨w.heap.size, 0, none⟩) 3 [x, y, z] := by
  refine ⟨rfl, .inr ⟨w.heap.size, 0, rfl, fun i hi => ?_⟩⟩
  match i, hi with
  | 0, _ => simp
  | 1, _ => simp
  | 2, _ => simp
theorem rows_new2 (w : World) (p q : RV) (hp : RowAt w p.a p.n p.xs) (hq : RowAt w q.a q.n q.xs) :
    RowsAt (w.alloc (.cells #[.slice p.a p.n p.c, .string p.s, .slice q.a q.n q.c, .string q.s] 35)) (some ⟨w.heap.size, 0, none⟩) 2 [p, q] := by
  refine ⟨rfl, fun i hi => ?_, .inr ⟨w.heap.size, 0, rfl, fun i hi => ?_⟩⟩
  · match i, hi with
    | 0, _ => exact row_alloc hp _
    | 1, _ => exact row_alloc hq _
  · match i, hi with
    | 0, _ => simp
    | 1, _ => simp

theorem short_two (p q : RV) (hp : p.n ≤ 10 ∧ p.s.size ≤ 1000) (hq : q.n ≤ 10 ∧ q.s.size ≤ 1000) : shortR [p, q] := by
  intro i
  match i with
  | 0 => exact hp
  | 1 => exact hq
  | i + 2 => exact ⟨Nat.zero_le _, Nat.zero_le _⟩
theorem vec_two (p q : RV) (xs : List Nat) (h : xorL (xorL [] p.xs) q.xs = xs) : vecL [p, q] = xs := h
theorem shorts3 : shorts [⟨#[97]⟩, ⟨#[98]⟩, ⟨#[99]⟩] := by
  intro s hs
  simp only [List.mem_cons, List.mem_nil_iff, or_false] at hs
  rcases hs with rfl | rfl | rfl <;> decide
def t3 : List ByteArray := [⟨#[97]⟩, ⟨#[98]⟩, ⟨#[99]⟩]
theorem e_xor : xorS ⟨#[97]⟩ ⟨#[98]⟩ = ⟨#[3]⟩ := by decide +kernel
theorem e_of : st (ofL [⟨#[97]⟩, ⟨#[98]⟩, ⟨#[99]⟩] [5] 3) = ⟨#[2]⟩ := by decide +kernel
theorem e_sum : st (sumL [⟨#[97]⟩, ⟨#[98]⟩, ⟨#[99]⟩]) = ⟨#[96]⟩ := by decide +kernel
theorem e_sum2 : st (sumL [⟨#[97]⟩, ⟨#[98]⟩]) = ⟨#[3]⟩ := by decide +kernel
theorem e_h1 : holdsB [⟨#[97]⟩, ⟨#[98]⟩, ⟨#[99]⟩] [1] ⟨#[97]⟩ = true := by decide +kernel
theorem e_h2 : holdsB [⟨#[97]⟩, ⟨#[98]⟩, ⟨#[99]⟩] [8] ⟨#[97]⟩ = false := by decide +kernel
theorem e_h3 : holdsB [⟨#[97]⟩, ⟨#[98]⟩, ⟨#[99]⟩] [1] ⟨#[98]⟩ = false := by decide +kernel
theorem e_vec : xorL (xorL [] [1]) [3] = [2] := by decide +kernel
theorem e_same : (decide (cnt (xorL [2] [2]) = 0) && decide ((⟨#[3]⟩ : ByteArray) = ⟨#[3]⟩)) = true := by decide +kernel
theorem q_same (s : ByteArray) : (s.toList == s.toList) = true := by simp

set_option maxRecDepth 20000 in
set_option maxHeartbeats 2000000 in
theorem awake_any (w : World) :
    Calls Try.prog 9 #[] w fun e w' => e = .returned (.bool true) ∧ Below w.heap.size w w' := by
  go_enter Try.func9, Try.ntmps9
  go_wp2_with fail
  have b0 := Below.refl w.heap.size w
  have b1 := b0.alloc b0.size (.cells #[.string ⟨#[97]⟩, .string ⟨#[98]⟩, .string ⟨#[99]⟩] 9)
  have b2 := b1.alloc b1.size (.cells #[.int .u64 ((1 : Nat) : Int)] 40)
  have b3 := b2.alloc b2.size (.cells #[.int .u64 ((3 : Nat) : Int)] 40)
  have t1 := texts_new3 w ⟨#[97]⟩ ⟨#[98]⟩ ⟨#[99]⟩
  have r1 := row_new1 (w.alloc (.cells #[.string ⟨#[97]⟩, .string ⟨#[98]⟩, .string ⟨#[99]⟩] 9)) 1 (by decide)
  have r2 := row_new1 ((w.alloc (.cells #[.string ⟨#[97]⟩, .string ⟨#[98]⟩, .string ⟨#[99]⟩] 9)).alloc (.cells #[.int .u64 ((1 : Nat) : Int)] 40)) 3 (by decide)
  have r1' := row_alloc r1 (.cells #[.int .u64 ((3 : Nat) : Int)] 40)
  have rr := rows_new2 _ ⟨_, 1, 1, [1], ⟨#[97]⟩⟩ ⟨_, 1, 1, [3], ⟨#[98]⟩⟩ r1' r2
  simp only [alloc_size] at rr
  refine (row_any _ 2 2 _ _ rr (short_two _ _ ⟨show (1 : Nat) ≤ 10 by decide, show (ByteArray.mk #[97]).size ≤ 1000 by decide⟩ ⟨show (1 : Nat) ≤ 10 by decide, show (ByteArray.mk #[98]).size ≤ 1000 by decide⟩) (by decide) (by decide) (by decide)).mono ?_
  rintro e w1 ⟨v, rfl, ho, hb⟩
  rw [vec_two _ _ _ e_vec] at ho
  simp only [List.map_cons, List.map_nil]
  rw [e_sum2]
  obtain ⟨a1, c1, rfl, hr⟩ := ho.row
  have HR := hide hr
  have HT := hide (((((t1.alloc _).alloc _).alloc _)).below hb)
  have HB := hide ((b3.alloc b3.size _).trans (hb.mono (by have := (b3.alloc b3.size (.cells #[.slice (some ⟨w.heap.size + 1, 0, none⟩) 1 1, .string ⟨#[97]⟩, .slice (some ⟨w.heap.size + 1 + 1, 0, none⟩) 1 1, .string ⟨#[98]⟩] 35)).size; exact this)))
  clear b0 b1 b2 b3 t1 r1 r2 r1' rr ho hr hb
  have h3 := q_same ⟨#[3]⟩
  have h2 := q_same ⟨#[2]⟩
  have h96 := q_same ⟨#[96]⟩
  go_wp2_with fail
  refine (xx_any _ _ _ (by decide) (by decide)).mono ?_
  rintro e w2 ⟨rfl, hb2⟩
  rw [e_xor]
  have T2 := hide (((unhide HT).alloc _).below hb2)
  have R2 := hide ((row_alloc (unhide HR) _).below hb2)
  have X2 := hide ((box_new w1 _ _).below hb2)
  have B2 := hide (below1 (unhide HB) hb2)
  clear HT HR HB hb2
  go_wp2_with fail
  refine (of_any _ 3 _ _ _ 1 _ [5] _ ((unhide T2).alloc _) shorts3 (by decide) (row_new1 w2 5 (by decide)) (by decide)).mono ?_
  rintro e w3 ⟨rfl, hb3⟩
  rw [e_of]
  have T3 := hide (((unhide T2).alloc _).below hb3)
  have R3 := hide ((row_alloc (unhide R2) _).below hb3)
  have X3 := hide (((unhide X2).alloc _).below hb3)
  have B3 := hide (below1 (unhide B2) hb3)
  clear T2 R2 X2 B2 hb3
  go_wp2_with fail
  refine (sum_any _ 3 _ _ _ (unhide T3) shorts3 (by decide)).mono ?_
  rintro e w4 ⟨rfl, hb4⟩
  rw [e_sum]
  have T4 := hide ((unhide T3).below hb4)
  have R4 := hide ((unhide R3).below hb4)
  obtain ⟨x0, x1⟩ := (unhide X3).below hb4
  have B4 := hide (below0 (unhide B3) hb4)
  clear T3 R3 X3 B3 hb4
  go_wp2_with fail
  refine (rsame2_any _ _ _ [2] _ _ _ _ [2] _ _ (row_alloc (unhide R4) _) (row_new1 w4 2 (by decide)) (by decide) (by decide)).mono ?_
  rintro e w5 ⟨rfl, hb5⟩
  rw [e_same]
  have T5 := hide (((unhide T4).alloc _).below hb5)
  have B5 := hide (below1 (unhide B4) hb5)
  clear T4 R4 B4 hb5 x0 x1
  go_wp2_with fail
  refine (holds_any _ 3 _ _ _ 1 _ [1] ⟨#[97]⟩ _ ((unhide T5).alloc _) shorts3 (by decide) (row_new1 w5 1 (by decide)) (by decide) (by decide)).mono ?_
  rintro e w6 ⟨rfl, hb6⟩
  rw [e_h1]
  have T6 := hide (((unhide T5).alloc _).below hb6)
  have B6 := hide (below1 (unhide B5) hb6)
  clear hb6 T5 B5
  go_wp2_with fail
  refine (holds_any _ 3 _ _ _ 1 _ [8] ⟨#[97]⟩ _ ((unhide T6).alloc _) shorts3 (by decide) (row_new1 w6 8 (by decide)) (by decide) (by decide)).mono ?_
  rintro e w7 ⟨rfl, hb7⟩
  rw [e_h2]
  have T7 := hide (((unhide T6).alloc _).below hb7)
  have B7 := hide (below1 (unhide B6) hb7)
  clear hb7 T6 B6
  go_wp2_with fail
  refine (holds_any _ 3 _ _ _ 1 _ [1] ⟨#[98]⟩ _ ((unhide T7).alloc _) shorts3 (by decide) (row_new1 w7 1 (by decide)) (by decide) (by decide)).mono ?_
  rintro e w8 ⟨rfl, hb8⟩
  rw [e_h3]
  have T8 := hide (((unhide T7).alloc _).below hb8)
  have B8 := hide (below1 (unhide B7) hb8)
  clear hb8 T7 B7
  go_wp2
  go_ret
  exact ⟨rfl, unhide B8⟩
end Go.Proofs.Ytikogkbabikkoaa
