/-
  Calls that leave what was there as it was, as steps of a quiet region. No condition.
  A row (a slice of words and a text) by value; contract of bucketlineref02.Same; callees in regions that draw their order.
  Contracts of xor.add, xor.Xor, bucketlineref02.Xor, xor.zero: for every text of at most 2^20 bytes.
  Contracts of words.Get and bucketlineref01.Get at every int: for every row of at most 2^20 words.
  Contracts of xor.Xor, bucketlineref02.Xor, xor.zero, xor.Sum, bucketlineref02.Sum, xor.Of, bucketlineref02.Of: for texts of at most 2^20 bytes and rows of at most 2^20 words.
-/
import Derived.Test.YtnjdldbdkafnaaaGreatDoorU0
import Derived.Lib.QuietBelow
import Derived.Test.YtnjdldbdkafnaaaGreatDoorU2
import Derived.Deep.RegionWith
import Derived.BigQuiet
namespace Go.Proofs.YtnjdldbdkafnaaaGreatDoor
open Go.RowKit Go.Sort
set_option linter.unusedVariables false
set_option linter.unusedSimpArgs false
set_option maxRecDepth 4000

/-- A callee in a region that draws its order, in whatever world that region can have come to. -/
theorem quietB {W : World} {f : FuncId} {args : Array Value} {v : Value} (h : ∀ w', Below W.heap.size W w' → Calls Tryz.prog f args w' fun e w'' => e = .returned v ∧ Below w'.heap.size w' w'') (d : Nat) (os : Array Obj) :
    Calls Tryz.prog f args (grow (redrawn W d) os) fun e w'' => e = .returned v ∧ ∃ p : Regrown, w'' = grow (redrawn W p.d) p.os :=
  Calls.regrown_of (h _ (below_regrown W d os))
theorem same_below {f : FuncId} {args : Array Value} {v : Value} {w : World} (h : Calls Tryz.prog f args w fun e w'' => e = .returned v ∧ w'' = w) : Calls Tryz.prog f args w fun e w'' => e = .returned v ∧ Below w.heap.size w w'' :=
  h.mono fun e w' ⟨he, hw⟩ => ⟨he, by rw [hw]; exact Below.refl _ _⟩
end Go.Proofs.YtnjdldbdkafnaaaGreatDoor
namespace Go.Proofs.YtnjdldbdkafnaaaGreatDoor
open Go.RowKit Go.Sort
set_option linter.unusedVariables false
set_option linter.unusedSimpArgs false
set_option maxRecDepth 4000

/-- A block that holds a row. -/
def BoxAt (w : World) (g : Nat) (x y : Value) : Prop := w.cell? ⟨g, 0, none⟩ = some x ∧ w.cell? ⟨g, 1, none⟩ = some y
theorem box_new (w : World) (x y : Value) : BoxAt (w.alloc (.cells #[x, y] 29)) w.heap.size x y := by
  constructor <;> simp
theorem BoxAt.below {w w' : World} {g : Nat} {x y : Value} (h : BoxAt w g x y) (hb : Below w.heap.size w w') : BoxAt w' g x y :=
  ⟨(hb.cell (World.block_lt_of_cell? w _ h.1)).trans h.1, (hb.cell (World.block_lt_of_cell? w _ h.2)).trans h.2⟩
theorem BoxAt.alloc {w : World} {g : Nat} {x y : Value} (h : BoxAt w g x y) (o : Obj) : BoxAt (w.alloc o) g x y := h.below ((Below.refl _ _).alloc (Nat.le_refl _) _)

/-- A block of one's own that holds a row and can be written. -/
def BoxW (w : World) (g : Nat) (x y : Value) : Prop := BoxAt w g x y ∧ w.frozen? ⟨g, 0, none⟩ = false ∧ w.frozen? ⟨g, 1, none⟩ = false
theorem boxW_new (w : World) (x y : Value) : BoxW (w.alloc (.cells #[x, y] 29)) w.heap.size x y := ⟨box_new w x y, by simp, by simp⟩
theorem BoxW.below {w w' : World} {g : Nat} {x y : Value} (h : BoxW w g x y) (hb : Below w.heap.size w w') : BoxW w' g x y :=
  ⟨h.1.below hb, (hb.frozen (World.block_lt_of_cell? w _ h.1.1)).trans h.2.1, (hb.frozen (World.block_lt_of_cell? w _ h.1.2)).trans h.2.2⟩
theorem BoxW.alloc {w : World} {g : Nat} {x y : Value} (h : BoxW w g x y) (o : Obj) : BoxW (w.alloc o) g x y := h.below ((Below.refl _ _).alloc (Nat.le_refl _) _)
theorem BoxW.other {w : World} {g : Nat} {x y : Value} (h : BoxW w g x y) {g' : Nat} (i : Nat) (u : Value) (hg : g' ≠ g) : BoxW (w.setCell ⟨g', i, none⟩ u) g x y := by
  have h0 : (⟨g', i, none⟩ : Addr) ≠ ⟨g, 0, none⟩ := fun h => hg (by injection h)
  have h1 : (⟨g', i, none⟩ : Addr) ≠ ⟨g, 1, none⟩ := fun h => hg (by injection h)
  exact ⟨⟨(World.cell?_setCell_other (h := h0) ..).trans h.1.1, (World.cell?_setCell_other (h := h1) ..).trans h.1.2⟩, by rw [World.frozen?_setCell]; exact h.2.1, by rw [World.frozen?_setCell]; exact h.2.2⟩
theorem block_setCell_other {w : World} {g k i : Nat} (u : Value) (h : k ≠ g) : (w.setCell ⟨g, i, none⟩ u).heap[k]? = w.heap[k]? := by
  unfold World.setCell
  simp [Array.getElem?_modify, Ne.symm h]
theorem Own.other {w : World} {B : Nat} {v : Value} {xs : List Nat} (h : Own w B v xs) {g : Nat} (i : Nat) (u : Value) (hg : g < B) : Own (w.setCell ⟨g, i, none⟩ u) B v xs := by
  refine ⟨h.1, h.2.1, ?_⟩
  rcases h.2.2 with h0 | ⟨g', cap, cur, h1, hg', hgg, r⟩
  · exact .inl h0
  · exact .inr ⟨g', cap, cur, h1, hg', (block_setCell_other u (by omega)).trans hgg, r⟩
theorem BoxW.set0 {w : World} {g : Nat} {x y : Value} (h : BoxW w g x y) (u : Value) : BoxW (w.setCell ⟨g, 0, none⟩ u) g u y :=
  ⟨⟨World.cell?_setCell_same _ _ _ h.1.1, (World.cell?_setCell_other (h := by simp) ..).trans h.1.2⟩, by rw [World.frozen?_setCell]; exact h.2.1, by rw [World.frozen?_setCell]; exact h.2.2⟩
theorem BoxW.set1 {w : World} {g : Nat} {x y : Value} (h : BoxW w g x y) (u : Value) : BoxW (w.setCell ⟨g, 1, none⟩ u) g x u :=
  ⟨⟨(World.cell?_setCell_other (h := by simp) ..).trans h.1.1, World.cell?_setCell_same _ _ _ h.1.2⟩, by rw [World.frozen?_setCell]; exact h.2.1, by rw [World.frozen?_setCell]; exact h.2.2⟩
end Go.Proofs.YtnjdldbdkafnaaaGreatDoor
namespace Go.Proofs.YtnjdldbdkafnaaaGreatDoor
open Go.RowKit
set_option linter.unusedVariables false
set_option linter.unusedSimpArgs false
set_option maxRecDepth 4000

theorem copy_text (w : World) (g : Nat) (t : ByteArray) (cur : Array Value) (e : TypeId) (hg : w.heap[g]? = some (.cells cur e (0, 0))) (hc : cur.size = t.size)
    (B : Nat) (w0 : World) (hb : Below B w0 w) (hBg : B ≤ g) :
    ∃ w', (Builtin.copy_ #[74, 9] 3 #[.slice (some ⟨g, 0, none⟩) t.size t.size, .string t]).run Tryz.prog w = .ok (goInt t.size) w' ∧ OwnB w' B (.slice (some ⟨g, 0, none⟩) t.size t.size) (tx t) ∧ Below B w0 w' := by
  obtain ⟨i0, hi0, hz0, hz1, hz2⟩ := info_parts info_u8
  refine ⟨_, run_copy_text_of w 74 9 3 5 g t.size t.size t cur e Tryz.underlying74 (by rw [hi0]; simp [hz1]) hg hc rfl, ⟨tx_bytes t, .inr ⟨g, t.size, by rw [tx_length], hBg, ?_, fun i hi => ?_, fun i hi => ?_⟩⟩, ?_⟩
  · simpa using (Array.getElem?_eq_some_iff.1 hg).1
  · rw [cell_setRow_same w g i _ _ _ _ hg]
    have hi' : i < t.size := by rwa [tx_length] at hi
    rw [← tx_get t i hi']
    have : i < t.data.size := hi'
    simp only [Array.getElem?_map, Array.getElem?_eq_getElem this]
    rfl
  · simp [World.frozen?, setRow_heap w g _ _ _ _ hg]
  · exact hb.trans ⟨rfl, rfl, rfl, by simp, fun k hk => setRow_other w g k _ (by omega)⟩

set_option maxHeartbeats 1000000 in
theorem add_any (v : Value) (xs : List Nat) (s : ByteArray) (B : Nat) (w : World) (h : OwnB w B v xs) (hB : B ≤ w.heap.size) (hn : xs.length ≤ 1048576) (hm : s.size ≤ 1048576) :
    Calls Tryz.prog 133 #[v, .string s] w fun e w' => ∃ v', e = .returned v' ∧ OwnB w' B v' (xorL xs (tx s)) ∧ Below B w w' := by
  obtain ⟨va, vc, rfl⟩ := h.slice
  have hts := tx_length s
  by_cases hle : s.size ≤ xs.length
  · have hle' : decide ((s.size : Int) ≤ (xs.length : Int)) = true := by simp; omega
    go_enter Tryz.func133, Tryz.ntmps133
    go_wp2
    go_loopw [16] (fun i wr => ∃ k : Nat, k ≤ s.size ∧ i = .int .i64 k ∧ Hid (OwnB wr B (.slice va xs.length vc) (xorTo xs (tx s) k)) ∧ Hid (Below B w wr)) (fun i _ => s.size - (intOf i).toNat)
    case atStart => exact ⟨0, Nat.zero_le _, rfl, hide (by rw [xorTo_zero]; exact h), hide (Below.refl _ _)⟩
    case round =>
      obtain ⟨k, hk, rfl, HO, HB⟩ := hrel
      by_cases hlt : k < s.size
      · have hkn : k < xs.length := by omega
        have hkn' : (k : Int) < (xs.length : Int) := by omega
        have hlt' : (k : Int) < (s.size : Int) := by omega
        obtain ⟨g, cap, hv, hBg, hgs, hcg, hfg⟩ := (unhide HO).at (by rw [xorTo_length]; omega)
        rw [xorTo_length] at hv
        simp only [Value.slice.injEq, true_and] at hv
        obtain ⟨rfl, rfl⟩ := hv
        have hcell := hcg k (by rw [xorTo_length]; omega)
        have hfz := hfg k (by rw [xorTo_length]; omega)
        rw [xorTo_getD xs (tx s) k k (by omega), if_neg (by omega)] at hcell
        have hxo := u8_xor_nat (xs.getD k 0) s[k].toNat (h.1.get k) s[k].toNat_lt
        have R := hide (xb_roundd (z := xs.getD k 0 ^^^ s[k].toNat) h.1 (tx_bytes s) (by omega) hBg (unhide HO) (unhide HB) (by rw [tx_get s k hlt]))
        generalize xs.getD k 0 = x at *
        clear hcg hfg h HO hle hle'
        go_wp2
        go_region
        all_goals go_wp2
        go_roundw
        case rel => exact ⟨k + 1, by omega, by go_num, hide (unhide R).1, hide (unhide R).2⟩
        case measure => simp [intOf]; omega
      · have hke : k = (tx s).length := by omega
        rw [hke, xorTo_all xs (tx s) (by omega)] at HO
        clear h
        go_wp2
        go_ret
        exact ⟨_, rfl, unhide HO, unhide HB⟩
  · have hle' : decide ((s.size : Int) ≤ (xs.length : Int)) = false := by simp; omega
    obtain ⟨i0, hi0, hz0, hz1, hz2⟩ := info_parts info_u8
    have hrun := run_make (P := Tryz.prog) w 74 5 i0 (.int .u8 0) Tryz.underlying74 hi0 hz0 .i64 .i64 (s.size : Int) (s.size : Int) (by omega) (by omega) (by rw [hz2]; omega) (by omega)
    simp only [Int.toNat_natCast] at hrun
    have hgw : (w.alloc (.cells (madeCells (Value.int .u8 0).cells (s.size * i0.size)) 5)).heap[w.heap.size]? = some (.cells (madeCells (Value.int .u8 0).cells (s.size * i0.size)) 5 (0, 0)) := by
      show (w.heap.push _)[w.heap.size]? = _
      simp
    have hcs : (madeCells (Value.int .u8 0).cells (s.size * i0.size)).size = s.size := by rw [size_madeCells, hz1, Nat.mul_one]
    have hbw : Below w.heap.size w (w.alloc (.cells (madeCells (Value.int .u8 0).cells (s.size * i0.size)) 5)) := (Below.refl _ _).alloc (Nat.le_refl _) _
    generalize madeCells (Value.int .u8 0).cells (s.size * i0.size) = cur at *
    generalize w.alloc (.cells cur 5) = wm at *
    obtain ⟨w1, hcp, ho, hb⟩ := copy_text wm w.heap.size s cur 5 hgw hcs w.heap.size w hbw (Nat.le_refl _)
    have HO1 := hide ho
    have HB1 := hide hb
    clear ho hb hgw hcs hbw
    go_enter Tryz.func133, Tryz.ntmps133
    go_wp2
    go_loopw [38] (fun i wr => ∃ k : Nat, k ≤ xs.length ∧ i = .int .i64 k ∧ Hid (OwnB wr w.heap.size (.slice (some ⟨w.heap.size, 0, none⟩) s.size s.size) (xorTo (tx s) xs k)) ∧ Hid (Below w.heap.size w wr)) (fun i _ => xs.length - (intOf i).toNat)
    case atStart => exact ⟨0, Nat.zero_le _, rfl, hide (by rw [xorTo_zero]; exact unhide HO1), HB1⟩
    case round =>
      obtain ⟨k, hk, rfl, HO, HB⟩ := hrel
      clear HO1 HB1 hcp hrun
      by_cases hlt : k < xs.length
      · have hkn : k < s.size := by omega
        have hkn' : (k : Int) < (s.size : Int) := by omega
        have hlt' : (k : Int) < (xs.length : Int) := by omega
        obtain ⟨g', cap', hv', _, _, hcg', _⟩ := (h.below (unhide HB)).at (by omega)
        simp only [Value.slice.injEq, true_and] at hv'
        obtain ⟨rfl, rfl⟩ := hv'
        have hcell' := hcg' k hlt
        obtain ⟨g, cap, hv, hBg, hgs, hcg, hfg⟩ := (unhide HO).at (by rw [xorTo_length]; omega)
        rw [xorTo_length, hts] at hv
        simp only [Value.slice.injEq, Option.some.injEq, Addr.mk.injEq, and_true, true_and] at hv
        obtain ⟨rfl, rfl⟩ := hv
        have hcell := hcg k (by rw [xorTo_length]; omega)
        have hfz := hfg k (by rw [xorTo_length]; omega)
        rw [xorTo_getD (tx s) xs k k (by omega), if_neg (by omega)] at hcell
        have hxo := u8_xor_nat ((tx s).getD k 0) (xs.getD k 0) ((tx_bytes s).get k) (h.1.get k)
        rw [← hts] at HO
        have R := hide (xb_round (tx_bytes s) h.1 (by omega) hBg (unhide HO) (unhide HB) rfl)
        rw [hts] at R
        generalize (tx s).getD k 0 = x at *
        generalize xs.getD k 0 = y at *
        clear hcg hfg hcg' h HO hle hle'
        go_wp2
        go_roundw
        case rel => exact ⟨k + 1, by omega, by go_num, hide (unhide R).1, hide (unhide R).2⟩
        case measure => simp [intOf]; omega
      · have hke : k = xs.length := by omega
        rw [hke, xorTo_all (tx s) xs (by omega), xorL_comm] at HO
        clear h
        go_wp2
        go_ret
        exact ⟨_, rfl, (unhide HO).mono hB, (unhide HB).mono hB⟩
end Go.Proofs.YtnjdldbdkafnaaaGreatDoor
namespace Go.Proofs.YtnjdldbdkafnaaaGreatDoor
open Go.RowKit
set_option linter.unusedVariables false
set_option linter.unusedSimpArgs false
set_option maxRecDepth 4000

/-- Bit i of a row, for every int. -/
def getI (xs : List Nat) (i : Int) : Bool := if i < 0 then false else getB xs i.toNat
theorem getI_out {xs : List Nat} {i : Int} (h : ¬ (0 ≤ i ∧ i / 64 < (xs.length : Int))) : getI xs i = false := by
  unfold getI
  split
  · rfl
  · exact getB_out xs _ (by omega)
theorem getI_in {xs : List Nat} {i : Int} (h : 0 ≤ i) : getI xs i = getB xs i.toNat := by
  unfold getI
  rw [if_neg (by omega)]
theorem get_any (a : Option Addr) (n c : Nat) (xs : List Nat) (i : Int) (w : World) (h : RowAt w a n xs) (hn : n ≤ 1048576) (hi : i ≤ 9223372036854775807) :
    Calls Tryz.prog 128 #[.slice a n c, .int .i64 i] w fun e w' => e = .returned (.bool (getI xs i)) ∧ ∃ d, w' = w.drewN d := by
  by_cases hin : 0 ≤ i ∧ i / 64 < (xs.length : Int)
  · rw [getI_in hin.1]
    exact get_in a n c xs i w h hin.1 hi (by rw [← h.1]; exact hin.2) (by omega)
  · rw [getI_out hin]
    exact get_out a n c i w hi (by rw [← h.1]; omega)
theorem rget_any (a : Option Addr) (n c : Nat) (xs : List Nat) (i : Int) (w : World) (h : RowAt w a n xs) (hn : n ≤ 1048576) (hi : i ≤ 9223372036854775807) :
    Calls Tryz.prog 39 #[.slice a n c, .int .i64 i] w fun e w' => e = .returned (.bool (getI xs i)) ∧ w' = w := by
  by_cases hin : 0 ≤ i ∧ i / 64 < (xs.length : Int)
  · rw [getI_in hin.1]
    exact rget_in a n c xs i w h hin.1 hi (by rw [← h.1]; exact hin.2) (by omega)
  · rw [getI_out hin]
    exact rget_out a n c i w hi (by rw [← h.1]; omega)
theorem getI_nat (xs : List Nat) (k : Nat) : getI xs (k : Int) = getB xs k := by rw [getI_in (by omega), Int.toNat_natCast]
theorem getN_any (a : Option Addr) (n c : Nat) (xs : List Nat) (k : Nat) (w : World) (h : RowAt w a n xs) (hn : n ≤ 1048576) (hk : k ≤ 9223372036854775807) :
    Calls Tryz.prog 128 #[.slice a n c, .int .i64 (k : Int)] w fun e w' => e = .returned (.bool (getB xs k)) ∧ Below w.heap.size w w' := by
  refine (get_any a n c xs k w h hn (by omega)).mono ?_
  rintro e w' ⟨rfl, d, rfl⟩
  rw [getI_nat]
  exact ⟨rfl, below_drewN (Below.refl _ _) d⟩
end Go.Proofs.YtnjdldbdkafnaaaGreatDoor
namespace Go.Proofs.YtnjdldbdkafnaaaGreatDoor
open Go.RowKit
set_option linter.unusedVariables false
set_option linter.unusedSimpArgs false
set_option maxRecDepth 4000

set_option maxHeartbeats 400000 in
theorem xx_any (a b : ByteArray) (w : World) (hn : a.size ≤ 1048576) (hm : b.size ≤ 1048576) :
    Calls Tryz.prog 137 #[.string a, .string b] w fun e w' => e = .returned (.string (xorS a b)) ∧ Below w.heap.size w w' := by
  go_enter Tryz.func137, Tryz.ntmps137
  go_wp2_with fail
  refine (add_any _ [] a w.heap.size w (OwnB.nil _ _) (Nat.le_refl _) (by simp) hn).mono ?_
  rintro e w1 ⟨v, rfl, ho, hb⟩
  rw [nil_xorL] at ho
  go_wp2_with fail
  refine (add_any v (tx a) b w.heap.size w1 ho hb.size (by rw [tx_length]; exact hn) hm).mono ?_
  rintro e w2 ⟨v2, rfl, ho2, hb2⟩
  have hct := ho2.text
  have HB := hide (hb.trans hb2)
  clear ho hb ho2 hb2
  go_wp2
  go_ret
  exact ⟨rfl, unhide HB⟩

set_option maxHeartbeats 1000000 in
theorem rx_any (a b : ByteArray) (w : World) (hn : a.size ≤ 1048576) (hm : b.size ≤ 1048576) :
    Calls Tryz.prog 40 #[.string a, .string b] w fun e w' => e = .returned (.string (xorS a b)) ∧ Below w.heap.size w w' := by
  by_cases hsw : a.size < b.size
  · have hge : decide ((a.size : Int) < (b.size : Int)) = true := by simp; omega
    obtain ⟨w1, cap, hcv, ho, hb⟩ := bytes_text w b
    have HO1 := hide ho
    have HB1 := hide hb
    clear ho hb
    have hta := tx_length a
    have htb := tx_length b
    go_enter Tryz.func40, Tryz.ntmps40
    go_wp2
    go_loopw [6] (fun i wr => ∃ k : Nat, k ≤ a.size ∧ i = .int .i64 k ∧ Hid (OwnB wr w.heap.size (.slice (some ⟨w.heap.size, 0, none⟩) b.size cap) (xorTo (tx b) (tx a) k)) ∧ Hid (Below w.heap.size w wr)) (fun i _ => a.size - (intOf i).toNat)
    case atStart => exact ⟨0, Nat.zero_le _, rfl, hide (by rw [xorTo_zero]; exact unhide HO1), HB1⟩
    case round =>
      obtain ⟨k, hk, rfl, HO, HB⟩ := hrel
      clear HO1 HB1 hcv
      by_cases hlt : k < a.size
      · have hkn : k < b.size := by omega
        have hkn' : (k : Int) < (b.size : Int) := by omega
        have hlt' : (k : Int) < (a.size : Int) := by omega
        obtain ⟨g, cap', hv, hBg, hgs, hcg, hfg⟩ := (unhide HO).at (by rw [xorTo_length]; omega)
        rw [xorTo_length, htb] at hv
        simp only [Value.slice.injEq, Option.some.injEq, Addr.mk.injEq, and_true, true_and] at hv
        obtain ⟨rfl, rfl⟩ := hv
        have hcell := hcg k (by rw [xorTo_length]; omega)
        have hfz := hfg k (by rw [xorTo_length]; omega)
        rw [xorTo_getD (tx b) (tx a) k k (by omega), if_neg (by omega)] at hcell
        have hxo := u8_xor_nat ((tx b).getD k 0) a[k].toNat ((tx_bytes b).get k) a[k].toNat_lt
        rw [← htb] at HO
        have R := hide (xb_roundd (z := (tx b).getD k 0 ^^^ a[k].toNat) (tx_bytes b) (tx_bytes a) (by omega) hBg (unhide HO) (unhide HB) (by rw [tx_get a k hlt]))
        rw [htb] at R
        generalize (tx b).getD k 0 = x at *
        clear hcg hfg HO hge hsw
        go_wp2
        go_region
        all_goals go_wp2
        go_roundw
        case rel => exact ⟨k + 1, by omega, by go_num, hide (unhide R).1, hide (unhide R).2⟩
        case measure => simp [intOf]; omega
      · have hke : k = (tx a).length := by omega
        rw [hke, xorTo_all (tx b) (tx a) (by omega)] at HO
        have hct := (unhide HO).text
        go_wp2
        go_ret
        exact ⟨ret_str (by unfold xorS; rw [xorL_comm]), unhide HB⟩
  · have hge : decide ((a.size : Int) < (b.size : Int)) = false := by simp; omega
    obtain ⟨w1, cap, hcv, ho, hb⟩ := bytes_text w a
    have HO1 := hide ho
    have HB1 := hide hb
    clear ho hb
    have hta := tx_length a
    have htb := tx_length b
    go_enter Tryz.func40, Tryz.ntmps40
    go_wp2
    go_loopw [6] (fun i wr => ∃ k : Nat, k ≤ b.size ∧ i = .int .i64 k ∧ Hid (OwnB wr w.heap.size (.slice (some ⟨w.heap.size, 0, none⟩) a.size cap) (xorTo (tx a) (tx b) k)) ∧ Hid (Below w.heap.size w wr)) (fun i _ => b.size - (intOf i).toNat)
    case atStart => exact ⟨0, Nat.zero_le _, rfl, hide (by rw [xorTo_zero]; exact unhide HO1), HB1⟩
    case round =>
      obtain ⟨k, hk, rfl, HO, HB⟩ := hrel
      clear HO1 HB1 hcv
      by_cases hlt : k < b.size
      · have hkn : k < a.size := by omega
        have hkn' : (k : Int) < (a.size : Int) := by omega
        have hlt' : (k : Int) < (b.size : Int) := by omega
        obtain ⟨g, cap', hv, hBg, hgs, hcg, hfg⟩ := (unhide HO).at (by rw [xorTo_length]; omega)
        rw [xorTo_length, hta] at hv
        simp only [Value.slice.injEq, Option.some.injEq, Addr.mk.injEq, and_true, true_and] at hv
        obtain ⟨rfl, rfl⟩ := hv
        have hcell := hcg k (by rw [xorTo_length]; omega)
        have hfz := hfg k (by rw [xorTo_length]; omega)
        rw [xorTo_getD (tx a) (tx b) k k (by omega), if_neg (by omega)] at hcell
        have hxo := u8_xor_nat ((tx a).getD k 0) b[k].toNat ((tx_bytes a).get k) b[k].toNat_lt
        rw [← hta] at HO
        have R := hide (xb_roundd (z := (tx a).getD k 0 ^^^ b[k].toNat) (tx_bytes a) (tx_bytes b) (by omega) hBg (unhide HO) (unhide HB) (by rw [tx_get b k hlt]))
        rw [hta] at R
        generalize (tx a).getD k 0 = x at *
        clear hcg hfg HO hge hsw
        go_wp2
        go_region
        all_goals go_wp2
        go_roundw
        case rel => exact ⟨k + 1, by omega, by go_num, hide (unhide R).1, hide (unhide R).2⟩
        case measure => simp [intOf]; omega
      · have hke : k = (tx b).length := by omega
        rw [hke, xorTo_all (tx a) (tx b) (by omega)] at HO
        have hct := (unhide HO).text
        go_wp2
        go_ret
        exact ⟨rfl, unhide HB⟩

/-- No byte but 0. -/
def zeroB (s : ByteArray) : Bool := (tx s).all fun x => x == 0
theorem zeroB_iff (s : ByteArray) : zeroB s = true ↔ ∀ i, (tx s).getD i 0 = 0 := by
  rw [← all_zero_iff]; simp [zeroB]
end Go.Proofs.YtnjdldbdkafnaaaGreatDoor
