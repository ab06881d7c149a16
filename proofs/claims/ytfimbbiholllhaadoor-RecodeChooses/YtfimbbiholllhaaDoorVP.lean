/-
  Contract of bucketlinelaw18.awake: in every world that holds the table it tells true.
-/
import Derived.Test.YtfimbbiholllhaaDoorVO
import Derived.Test.YtfimbbiholllhaaDoorVK
import Derived.Test.YtfimbbiholllhaaDoorM11
namespace Go.Proofs.YtfimbbiholllhaaDoor
open Go.RowKit Go.Sort
set_option linter.unusedVariables false
set_option maxRecDepth 4000

def exP : PD := ⟨0, 0, 1, 1, 2, [1], ⟨#[97]⟩⟩
theorem ex_mix1 : mixD [exP] [0] = some ⟨0, 0, 1, 1, 3, [1], ⟨#[97]⟩⟩ := by kernel_rfl
theorem ex_mix2 : mixD [exP] [0, 0] = none := by kernel_rfl
theorem ex_ch : (nearTo [[7], [3], [1]] (chTo [[7], [3], [1]] 1 0 1).ch (chTo [[7], [3], [1]] 1 0 1).v 1 3).1 = none := by kernel_rfl
theorem ex_ch2 : castZ (placesCh (chTo [[7], [3], [1]] 1 0 1).ch 3) = [0, 1] := by kernel_rfl
def exR (a x : Nat) : RV := ⟨some ⟨a, 0, none⟩, 1, 1, [x], ⟨#[]⟩⟩
def exK (b : Nat) : PKV := ⟨0, 0, 1, 1, 2, ⟨some ⟨b, 0, none⟩, 1, 1, [1], ⟨#[97]⟩⟩⟩
theorem ex_choose (a b c : Nat) : chooseL [exR a 7, exR b 3, exR c 1] 0 1 = [0, 1] := by
  unfold chooseL
  rw [if_neg (show ¬ ([exR a 7, exR b 3, exR c 1] : List RV).length = 0 by simp), show vecsR [exR a 7, exR b 3, exR c 1] = [[7], [3], [1]] from rfl, show ([exR a 7, exR b 3, exR c 1] : List RV).length = 3 from rfl, show placeN 0 3 = 0 from by kernel_rfl, ← chTo_last (V := [[7], [3], [1]]) (t := 1) (p := 0) (k := 1) (by omega) ex_ch]
  exact ex_ch2
theorem ex_degree (a b c : Nat) : degL18 [exR a 7, exR b 3, exR c 1] [0, 1] = 1 := by
  show cnt (xorL (xorL [] [7]) [3]) = 1
  kernel_rfl
theorem rows3 (w : World) (p q r : RV) (hp : RowAt w p.a p.n p.xs) (hq : RowAt w q.a q.n q.xs) (hr : RowAt w r.a r.n r.xs) :
    RowsAt (w.alloc (.cells #[.slice p.a p.n p.c, .string p.s, .slice q.a q.n q.c, .string q.s, .slice r.a r.n r.c, .string r.s] 36)) (some ⟨w.heap.size, 0, none⟩) 3 [p, q, r] := by
  refine ⟨rfl, fun i hi => ?_, .inr ⟨w.heap.size, 0, rfl, fun i hi => ?_⟩⟩
  · match i, hi with
    | 0, _ => exact row_alloc hp _
    | 1, _ => exact row_alloc hq _
    | 2, _ => exact row_alloc hr _
  · match i, hi with
    | 0, _ => simp
    | 1, _ => simp
    | 2, _ => simp
theorem pks1 (w : World) (p : PKV) (hp : RowAt w p.r.a p.r.n p.r.xs) : PksAt (w.alloc (.cells #[.int .i64 p.o, .int .i64 p.l, .int .i64 p.k, .int .i64 p.z, .int .i64 p.h, .slice p.r.a p.r.n p.r.c, .string p.r.s] 38)) (some ⟨w.heap.size, 0, none⟩) 1 [p] := by
  refine ⟨rfl, fun i hi => ?_, .inr ⟨w.heap.size, 0, rfl, fun i hi => ?_⟩⟩
  · match i, hi with
    | 0, _ => exact row_alloc hp _
  · match i, hi with
    | 0, _ => exact (pkb_new w _ _ _ _ _ _ _).at
theorem ints1 (w : World) (x : Int) : IntzAt (w.alloc (.cells #[.int .i64 x] 3)) (some ⟨w.heap.size, 0, none⟩) 1 [x] := by
  refine ⟨rfl, .inr ⟨w.heap.size, 0, rfl, fun i hi => ?_⟩⟩
  match i, hi with
  | 0, _ => simp
/-- What the example lays: three rows, a packet. -/
structure AwE (w X : World) : Prop where
  rows : RowsAt X (some ⟨w.heap.size + 1 + 1 + 1, 0, none⟩) 3 [exR (w.heap.size) 7, exR (w.heap.size + 1) 3, exR (w.heap.size + 1 + 1) 1]
  row : RowAt X (some ⟨w.heap.size + 1 + 1 + 1 + 1, 0, none⟩) 1 [1]
  pk : PkB X (w.heap.size + 1 + 1 + 1 + 1 + 1) (.int .i64 0) (.int .i64 0) (.int .i64 1) (.int .i64 1) (.int .i64 2) (.slice (some ⟨w.heap.size + 1 + 1 + 1 + 1, 0, none⟩) 1 1) (.string ⟨#[97]⟩)
  low : Below w.heap.size w X
  tab : Tab X
theorem AwE.below {w X Y : World} (h : AwE w X) (hb : Below X.heap.size X Y) : AwE w Y := ⟨h.rows.below hb, h.row.below hb, h.pk.below hb, below0 h.low hb, h.tab.below hb⟩
theorem AwE.alloc {w X : World} (h : AwE w X) (o : Obj) : AwE w (X.alloc o) := h.below ((Below.refl _ _).alloc (Nat.le_refl _) _)
theorem aw_start (w : World) (ht : Tab w) : AwE w ((((((w.alloc (.cells #[.int .u64 7] 47)).alloc (.cells #[.int .u64 3] 47)).alloc (.cells #[.int .u64 1] 47)).alloc (.cells #[.slice (some ⟨w.heap.size, 0, none⟩) 1 1, .string ⟨#[]⟩, .slice (some ⟨w.heap.size + 1, 0, none⟩) 1 1, .string ⟨#[]⟩, .slice (some ⟨w.heap.size + 1 + 1, 0, none⟩) 1 1, .string ⟨#[]⟩] 36)).alloc (.cells #[.int .u64 1] 47)).alloc (.cells #[.int .i64 0, .int .i64 0, .int .i64 1, .int .i64 1, .int .i64 2, .slice (some ⟨w.heap.size + 1 + 1 + 1 + 1, 0, none⟩) 1 1, .string ⟨#[97]⟩] 38)) ∧ ((((((w.alloc (.cells #[.int .u64 7] 47)).alloc (.cells #[.int .u64 3] 47)).alloc (.cells #[.int .u64 1] 47)).alloc (.cells #[.slice (some ⟨w.heap.size, 0, none⟩) 1 1, .string ⟨#[]⟩, .slice (some ⟨w.heap.size + 1, 0, none⟩) 1 1, .string ⟨#[]⟩, .slice (some ⟨w.heap.size + 1 + 1, 0, none⟩) 1 1, .string ⟨#[]⟩] 36)).alloc (.cells #[.int .u64 1] 47)).alloc (.cells #[.int .i64 0, .int .i64 0, .int .i64 1, .int .i64 1, .int .i64 2, .slice (some ⟨w.heap.size + 1 + 1 + 1 + 1, 0, none⟩) 1 1, .string ⟨#[97]⟩] 38)).heap.size = w.heap.size + 1 + 1 + 1 + 1 + 1 + 1 := by
  have n0 : ∀ (X : World) (o : Obj), Below X.heap.size X (X.alloc o) := fun X o => (Below.refl _ _).alloc (Nat.le_refl _) _
  have r1 := row_new1 w 7 (by decide)
  have b1 := n0 w (.cells #[.int .u64 7] 47)
  have s1 : (w.alloc (.cells #[.int .u64 7] 47)).heap.size = w.heap.size + 1 := alloc_size _ _
  have r1' : RowAt (w.alloc (.cells #[.int .u64 7] 47)) (some ⟨w.heap.size, 0, none⟩) 1 [7] := r1
  generalize w.alloc (.cells #[.int .u64 7] 47) = w1 at *
  have r2 : RowAt (w1.alloc (.cells #[.int .u64 3] 47)) (some ⟨w1.heap.size, 0, none⟩) 1 [3] := row_new1 w1 3 (by decide)
  have b2 := n0 w1 (.cells #[.int .u64 3] 47)
  have s2 : (w1.alloc (.cells #[.int .u64 3] 47)).heap.size = w1.heap.size + 1 := alloc_size _ _
  rw [s1] at r2 s2
  have r1'' := r1'.below b2
  generalize w1.alloc (.cells #[.int .u64 3] 47) = w2 at *
  have r3 : RowAt (w2.alloc (.cells #[.int .u64 1] 47)) (some ⟨w2.heap.size, 0, none⟩) 1 [1] := row_new1 w2 1 (by decide)
  have b3 := n0 w2 (.cells #[.int .u64 1] 47)
  have s3 : (w2.alloc (.cells #[.int .u64 1] 47)).heap.size = w2.heap.size + 1 := alloc_size _ _
  rw [s2] at r3 s3
  have q1 := r1''.below b3
  have q2 := r2.below b3
  generalize w2.alloc (.cells #[.int .u64 1] 47) = w3 at *
  have rr : RowsAt (w3.alloc (.cells #[.slice (some ⟨w.heap.size, 0, none⟩) 1 1, .string ⟨#[]⟩, .slice (some ⟨w.heap.size + 1, 0, none⟩) 1 1, .string ⟨#[]⟩, .slice (some ⟨w.heap.size + 1 + 1, 0, none⟩) 1 1, .string ⟨#[]⟩] 36)) (some ⟨w3.heap.size, 0, none⟩) 3 [exR (w.heap.size) 7, exR (w.heap.size + 1) 3, exR (w.heap.size + 1 + 1) 1] := rows3 w3 (exR (w.heap.size) 7) (exR (w.heap.size + 1) 3) (exR (w.heap.size + 1 + 1) 1) q1 q2 r3
  have b4 := n0 w3 (.cells #[.slice (some ⟨w.heap.size, 0, none⟩) 1 1, .string ⟨#[]⟩, .slice (some ⟨w.heap.size + 1, 0, none⟩) 1 1, .string ⟨#[]⟩, .slice (some ⟨w.heap.size + 1 + 1, 0, none⟩) 1 1, .string ⟨#[]⟩] 36)
  have s4 : (w3.alloc (.cells #[.slice (some ⟨w.heap.size, 0, none⟩) 1 1, .string ⟨#[]⟩, .slice (some ⟨w.heap.size + 1, 0, none⟩) 1 1, .string ⟨#[]⟩, .slice (some ⟨w.heap.size + 1 + 1, 0, none⟩) 1 1, .string ⟨#[]⟩] 36)).heap.size = w3.heap.size + 1 := alloc_size _ _
  rw [s3] at rr s4
  generalize w3.alloc (.cells #[.slice (some ⟨w.heap.size, 0, none⟩) 1 1, .string ⟨#[]⟩, .slice (some ⟨w.heap.size + 1, 0, none⟩) 1 1, .string ⟨#[]⟩, .slice (some ⟨w.heap.size + 1 + 1, 0, none⟩) 1 1, .string ⟨#[]⟩] 36) = w4 at *
  have r5 : RowAt (w4.alloc (.cells #[.int .u64 1] 47)) (some ⟨w4.heap.size, 0, none⟩) 1 [1] := row_new1 w4 1 (by decide)
  have b5 := n0 w4 (.cells #[.int .u64 1] 47)
  have s5 : (w4.alloc (.cells #[.int .u64 1] 47)).heap.size = w4.heap.size + 1 := alloc_size _ _
  rw [s4] at r5 s5
  have rr5 := rr.below b5
  generalize w4.alloc (.cells #[.int .u64 1] 47) = w5 at *
  have pk := pkb_new w5 (.int .i64 0) (.int .i64 0) (.int .i64 1) (.int .i64 1) (.int .i64 2) (.slice (some ⟨w.heap.size + 1 + 1 + 1 + 1, 0, none⟩) 1 1) (.string ⟨#[97]⟩)
  have b6 := n0 w5 (.cells #[.int .i64 0, .int .i64 0, .int .i64 1, .int .i64 1, .int .i64 2, .slice (some ⟨w.heap.size + 1 + 1 + 1 + 1, 0, none⟩) 1 1, .string ⟨#[97]⟩] 38)
  have s6 : (w5.alloc (.cells #[.int .i64 0, .int .i64 0, .int .i64 1, .int .i64 1, .int .i64 2, .slice (some ⟨w.heap.size + 1 + 1 + 1 + 1, 0, none⟩) 1 1, .string ⟨#[97]⟩] 38)).heap.size = w5.heap.size + 1 := alloc_size _ _
  rw [s5] at pk s6
  have lo := below0 (below0 (below0 (below0 (below0 b1 b2) b3) b4) b5) b6
  exact ⟨⟨rr5.below b6, r5.below b6, pk, lo, ht.below lo⟩, s6⟩
theorem exK_in {X : World} {b : Nat} (h : RowAt X (some ⟨b, 0, none⟩) 1 [1]) : KsIn X [exK b] := KsIn.one h (Nat.le_refl _)
theorem exK_short (b : Nat) : shortP [exK b] := fun i => by
  match i with
  | 0 => exact ⟨show (1 : Nat) ≤ 10 by decide, show (ByteArray.mk #[97]).size ≤ 1000 by decide⟩
  | i + 1 => exact ⟨Nat.zero_le _, Nat.zero_le _⟩
theorem exR_short (a b c : Nat) : shortR [exR a 7, exR b 3, exR c 1] := fun i => by
  match i with
  | 0 => exact ⟨show (1 : Nat) ≤ 10 by decide, show (ByteArray.mk #[]).size ≤ 1000 by decide⟩
  | 1 => exact ⟨show (1 : Nat) ≤ 10 by decide, show (ByteArray.mk #[]).size ≤ 1000 by decide⟩
  | 2 => exact ⟨show (1 : Nat) ≤ 10 by decide, show (ByteArray.mk #[]).size ≤ 1000 by decide⟩
  | i + 3 => exact ⟨Nat.zero_le _, Nat.zero_le _⟩
theorem exR_cap (a b c : Nat) : CapR [exR a 7, exR b 3, exR c 1] := fun i hi => by
  match i with
  | 0 => exact Nat.le_refl _
  | 1 => exact Nat.le_refl _
  | 2 => exact Nat.le_refl _
  | i + 3 => exact Nat.zero_le _
/-- The example's first Mix, in whatever world holds the packet. -/
theorem aw_mix1 {w X : World} (h : AwE w X) : Calls Tryd.prog 17 #[.slice (some ⟨X.heap.size, 0, none⟩) 1 1, .slice (some ⟨X.heap.size + 1, 0, none⟩) 1 1] ((X.alloc (.cells #[.int .i64 0, .int .i64 0, .int .i64 1, .int .i64 1, .int .i64 2, .slice (some ⟨w.heap.size + 1 + 1 + 1 + 1, 0, none⟩) 1 1, .string ⟨#[97]⟩] 38)).alloc (.cells #[.int .i64 0] 3)) fun e w' => ∃ a1 m1 c1, e = .returned (.tuple #[.agg #[.int .i64 0, .int .i64 0, .int .i64 1, .int .i64 1, .int .i64 3, .slice a1 m1 c1, .string ⟨#[97]⟩], .bool true]) ∧ AwE w w' := by
  have hp : PksAt (X.alloc (.cells #[.int .i64 0, .int .i64 0, .int .i64 1, .int .i64 1, .int .i64 2, .slice (some ⟨w.heap.size + 1 + 1 + 1 + 1, 0, none⟩) 1 1, .string ⟨#[97]⟩] 38)) (some ⟨X.heap.size, 0, none⟩) 1 [exK (w.heap.size + 1 + 1 + 1 + 1)] := pks1 X (exK (w.heap.size + 1 + 1 + 1 + 1)) h.row
  have h1 := h.alloc (.cells #[.int .i64 0, .int .i64 0, .int .i64 1, .int .i64 1, .int .i64 2, .slice (some ⟨w.heap.size + 1 + 1 + 1 + 1, 0, none⟩) 1 1, .string ⟨#[97]⟩] 38)
  have hs : (X.alloc (.cells #[.int .i64 0, .int .i64 0, .int .i64 1, .int .i64 1, .int .i64 2, .slice (some ⟨w.heap.size + 1 + 1 + 1 + 1, 0, none⟩) 1 1, .string ⟨#[97]⟩] 38)).heap.size = X.heap.size + 1 := alloc_size _ _
  have hi := ints1 (X.alloc (.cells #[.int .i64 0, .int .i64 0, .int .i64 1, .int .i64 1, .int .i64 2, .slice (some ⟨w.heap.size + 1 + 1 + 1 + 1, 0, none⟩) 1 1, .string ⟨#[97]⟩] 38)) 0
  rw [hs] at hi
  have h2 := h1.alloc (.cells #[.int .i64 0] 3)
  have hp2 := hp.below ((Below.refl _ _).alloc (Nat.le_refl _) (.cells #[.int .i64 0] 3))
  refine (mix18_any _ 1 1 _ _ 1 1 [0] _ h2.tab hp2 (exK_in h2.row) (exK_short _) hi (by decide) (by decide)).mono ?_
  intro e w' hm
  have e1 : mixD ([exK (w.heap.size + 1 + 1 + 1 + 1)].map PKV.pd) [0] = some ⟨0, 0, 1, 1, 3, [1], ⟨#[97]⟩⟩ := ex_mix1
  rw [e1] at hm
  obtain ⟨hb, q, hq, rfl, _⟩ := hm
  obtain ⟨o, l, k, z, hh, a, n, c, xs, s⟩ := q
  simp only [PKV.pd, PD.mk.injEq] at hq
  obtain ⟨rfl, rfl, rfl, rfl, rfl, rfl, rfl⟩ := hq
  exact ⟨a, n, c, rfl, h2.below hb⟩
theorem aw_mix2 {w X : World} (h : AwE w X) : Calls Tryd.prog 17 #[.slice (some ⟨X.heap.size, 0, none⟩) 1 1, .slice (some ⟨X.heap.size + 1, 0, none⟩) 2 2] ((X.alloc (.cells #[.int .i64 0, .int .i64 0, .int .i64 1, .int .i64 1, .int .i64 2, .slice (some ⟨w.heap.size + 1 + 1 + 1 + 1, 0, none⟩) 1 1, .string ⟨#[97]⟩] 38)).alloc (.cells #[.int .i64 0, .int .i64 0] 3)) fun e w' => e = .returned (.tuple #[.agg #[.int .i64 0, .int .i64 0, .int .i64 0, .int .i64 0, .int .i64 0, .slice none 0 0, .string ⟨#[]⟩], .bool false]) ∧ Below X.heap.size X w' := by
  have hp : PksAt (X.alloc (.cells #[.int .i64 0, .int .i64 0, .int .i64 1, .int .i64 1, .int .i64 2, .slice (some ⟨w.heap.size + 1 + 1 + 1 + 1, 0, none⟩) 1 1, .string ⟨#[97]⟩] 38)) (some ⟨X.heap.size, 0, none⟩) 1 [exK (w.heap.size + 1 + 1 + 1 + 1)] := pks1 X (exK (w.heap.size + 1 + 1 + 1 + 1)) h.row
  have h1 := h.alloc (.cells #[.int .i64 0, .int .i64 0, .int .i64 1, .int .i64 1, .int .i64 2, .slice (some ⟨w.heap.size + 1 + 1 + 1 + 1, 0, none⟩) 1 1, .string ⟨#[97]⟩] 38)
  have hs : (X.alloc (.cells #[.int .i64 0, .int .i64 0, .int .i64 1, .int .i64 1, .int .i64 2, .slice (some ⟨w.heap.size + 1 + 1 + 1 + 1, 0, none⟩) 1 1, .string ⟨#[97]⟩] 38)).heap.size = X.heap.size + 1 := alloc_size _ _
  have hi := intz_lit2 (X.alloc (.cells #[.int .i64 0, .int .i64 0, .int .i64 1, .int .i64 1, .int .i64 2, .slice (some ⟨w.heap.size + 1 + 1 + 1 + 1, 0, none⟩) 1 1, .string ⟨#[97]⟩] 38)) 0 0
  rw [hs] at hi
  have h2 := h1.alloc (.cells #[.int .i64 0, .int .i64 0] 3)
  have hp2 := hp.below ((Below.refl _ _).alloc (Nat.le_refl _) (.cells #[.int .i64 0, .int .i64 0] 3))
  refine (mix18_any _ 1 1 _ _ 2 2 [0, 0] _ h2.tab hp2 (exK_in h2.row) (exK_short _) hi (by decide) (by decide)).mono ?_
  intro e w' hm
  have e1 : mixD ([exK (w.heap.size + 1 + 1 + 1 + 1)].map PKV.pd) [0, 0] = none := ex_mix2
  rw [e1] at hm
  exact ⟨hm.2, below0 (below2 (Below.refl _ X) (Below.refl _ _)) hm.1⟩
theorem aw_choose {w X : World} (h : AwE w X) : Calls Tryd.prog 12 #[.slice (some ⟨w.heap.size + 1 + 1 + 1, 0, none⟩) 3 3, .int .i64 0, .int .i64 1] X fun e w' => ∃ a c, e = .returned (.slice a 2 c) ∧ IntzAt w' a 2 [0, 1] ∧ Below X.heap.size X w' := by
  refine (choose_any _ 3 3 _ 0 1 X h.rows (exR_short _ _ _) (by decide) (by decide) (by decide)).mono ?_
  rintro e w' ⟨v, rfl, ho, hb⟩
  rw [ex_choose] at ho
  obtain ⟨a, c, rfl, hi⟩ := ho.ints
  exact ⟨a, c, rfl, hi, hb⟩
theorem aw_degree {w X : World} (h : AwE w X) : Calls Tryd.prog 14 #[.slice (some ⟨w.heap.size + 1 + 1 + 1, 0, none⟩) 3 3, .slice (some ⟨X.heap.size, 0, none⟩) 2 2] (X.alloc (.cells #[.int .i64 0, .int .i64 1] 3)) fun e w' => e = .returned (.int .i64 1) ∧ Below X.heap.size X w' := by
  have h1 := h.alloc (.cells #[.int .i64 0, .int .i64 1] 3)
  refine (deg18_any _ 3 3 _ _ 2 2 [0, 1] _ h1.rows (exR_cap _ _ _) (exR_short _ _ _) (intz_lit2 X 0 1) (by decide) (by decide)).mono ?_
  rintro e w' ⟨rfl, hb⟩
  rw [ex_degree]
  exact ⟨rfl, below0 ((Below.refl _ _).alloc (Nat.le_refl _) _) hb⟩
theorem aw_ints {X : World} {a : Option Addr} {c : Nat} (h : IntzAt X a 2 [0, 1]) : Calls Tryd.prog 11 #[.slice a 2 c, .slice (some ⟨X.heap.size, 0, none⟩) 2 2] (X.alloc (.cells #[.int .i64 0, .int .i64 1] 3)) fun e w' => e = .returned (.bool true) ∧ Below X.heap.size X w' := by
  refine (intz_any a 2 c [0, 1] _ 2 2 [0, 1] _ (h.below ((Below.refl _ _).alloc (Nat.le_refl _) _)) (intz_lit2 X 0 1) rfl (by decide)).mono ?_
  rintro e w' ⟨rfl, hb⟩
  exact ⟨rfl, below0 ((Below.refl _ _).alloc (Nat.le_refl _) _) hb⟩

set_option maxHeartbeats 8000000 in
theorem awake_any (w : World) (ht : Tab w) :
    Calls Tryd.prog 10 #[] w fun e w' => e = .returned (.bool true) ∧ Below w.heap.size w w' := by
  obtain ⟨hE, hs⟩ := aw_start w ht
  have HE := hide hE
  have HS := hide hs
  clear hE hs
  obtain ⟨p0, p1, p2, p3, p4, p5, p6⟩ := (unhide HE).pk.at
  go_enter Tryd.func10, Tryd.ntmps10
  go_wp2_with fail
  generalize (((((w.alloc (.cells #[.int .u64 7] 47)).alloc (.cells #[.int .u64 3] 47)).alloc (.cells #[.int .u64 1] 47)).alloc (.cells #[.slice (some ⟨w.heap.size, 0, none⟩) 1 1, .string ⟨#[]⟩, .slice (some ⟨w.heap.size + 1, 0, none⟩) 1 1, .string ⟨#[]⟩, .slice (some ⟨w.heap.size + 1 + 1, 0, none⟩) 1 1, .string ⟨#[]⟩] 36)).alloc (.cells #[.int .u64 1] 47)).alloc (.cells #[.int .i64 0, .int .i64 0, .int .i64 1, .int .i64 1, .int .i64 2, .slice (some ⟨w.heap.size + 1 + 1 + 1 + 1, 0, none⟩) 1 1, .string ⟨#[97]⟩] 38) = X at *
  have hm1 := aw_mix1 (unhide HE)
  rw [unhide HS] at hm1
  refine hm1.mono ?_
  rintro e w1 ⟨a1, m1, c1, rfl, h1⟩
  have hq := pkb_new w1 (.int .i64 0) (.int .i64 0) (.int .i64 1) (.int .i64 1) (.int .i64 3) (.slice a1 m1 c1) (.string ⟨#[97]⟩)
  have h2 := h1.alloc (.cells #[.int .i64 0, .int .i64 0, .int .i64 1, .int .i64 1, .int .i64 3, .slice a1 m1 c1, .string ⟨#[97]⟩] 38)
  have hs2 : (w1.alloc (.cells #[.int .i64 0, .int .i64 0, .int .i64 1, .int .i64 1, .int .i64 3, .slice a1 m1 c1, .string ⟨#[97]⟩] 38)).heap.size = w1.heap.size + 1 := alloc_size _ _
  obtain ⟨x0, x1, x2, x3, x4, x5, x6⟩ := h2.pk.at
  have HE2 := hide h2
  have HQ2 := hide hq
  have HS2 := hide hs2
  clear hm1 p0 p1 p2 p3 p4 p5 p6 h1 h2 hq hs2 HE HS
  go_wp2_with fail
  generalize w1.alloc (.cells #[.int .i64 0, .int .i64 0, .int .i64 1, .int .i64 1, .int .i64 3, .slice a1 m1 c1, .string ⟨#[97]⟩] 38) = Y at *
  have hm2 := aw_mix2 (unhide HE2)
  rw [unhide HS2] at hm2
  refine hm2.mono ?_
  rintro e w2 ⟨rfl, hb2⟩
  rw [← unhide HS2] at hb2
  have HE3 := hide (((unhide HE2).below hb2).alloc (.cells #[.int .i64 0, .int .i64 0, .int .i64 0, .int .i64 0, .int .i64 0, .slice none 0 0, .string ⟨#[]⟩] 38))
  have HQ3 := hide (((unhide HQ2).below hb2).below ((Below.refl _ _).alloc (Nat.le_refl _) (.cells #[.int .i64 0, .int .i64 0, .int .i64 0, .int .i64 0, .int .i64 0, .slice none 0 0, .string ⟨#[]⟩] 38)))
  clear hm2 x0 x1 x2 x3 x4 x5 x6 HE2 HQ2 HS2 hb2
  go_wp2_with fail
  generalize w2.alloc (.cells #[.int .i64 0, .int .i64 0, .int .i64 0, .int .i64 0, .int .i64 0, .slice none 0 0, .string ⟨#[]⟩] 38) = Z at *
  refine (aw_choose (unhide HE3)).mono ?_
  rintro e w3 ⟨a3, c3, rfl, hi3, hb3⟩
  have HI3 := hide hi3
  have HE4 := hide ((unhide HE3).below hb3)
  have HQ4 := hide ((unhide HQ3).below hb3)
  clear hi3 hb3 HE3 HQ3
  go_wp2_with fail
  refine (aw_ints (unhide HI3)).mono ?_
  rintro e w4 ⟨rfl, hb4⟩
  have HE5 := hide ((unhide HE4).below hb4)
  have HQ5 := hide ((unhide HQ4).below hb4)
  clear hb4 HE4 HQ4 HI3
  go_wp2_with fail
  refine (aw_degree (unhide HE5)).mono ?_
  rintro e w5 ⟨rfl, hb5⟩
  obtain ⟨y0, y1, y2, y3, y4, y5, y6⟩ := ((unhide HQ5).below hb5).at
  have HB := hide ((unhide HE5).below hb5).low
  clear hb5 HE5 HQ5
  go_wp2
  go_ret
  exact ⟨rfl, unhide HB⟩
end Go.Proofs.YtfimbbiholllhaaDoor
