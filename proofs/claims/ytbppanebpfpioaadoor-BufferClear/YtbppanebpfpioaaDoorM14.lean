/-
  Plain mathematics of shares: their sum, the degree that a draw picks, the table of shares. Of no program. No condition but where it is said.
  Slices of ints of any sign in memory: what can be read ('IntzAt'), what is the call's own ('OwnZ'): made, written, appended to. No condition.
-/
import Derived.Laws.MathBits
import Derived.Test.YtbppanebpfpioaaDoorM1
import Derived.OwnWalk
import Derived.Laws.MakeOwn
import Derived.Deep.QuietTactic
import Derived.BigQuiet
namespace Go.Proofs.YtbppanebpfpioaaDoor
set_option linter.unusedVariables false
set_option maxRecDepth 4000

/-- The sum of the shares above 0. -/
def sumZ : List Int → Nat
  | [] => 0
  | x :: r => x.toNat + sumZ r
theorem sumZ_append : ∀ (a b : List Int), sumZ (a ++ b) = sumZ a + sumZ b
  | [], b => by simp [sumZ]
  | x :: a, b => by simp only [List.cons_append, sumZ, sumZ_append a b]; omega
theorem sumZ_take (l : List Int) (k : Nat) (hk : k < l.length) : sumZ (l.take (k + 1)) = sumZ (l.take k) + (l.getD k 0).toNat := by
  rw [List.take_succ_eq_append_getElem hk, sumZ_append]
  simp [sumZ, List.getD_eq_getElem?_getD, List.getElem?_eq_getElem hk]
theorem sumZ_take_le (l : List Int) (k : Nat) : sumZ (l.take k) ≤ sumZ l := by
  have h := sumZ_append (l.take k) (l.drop k)
  rw [List.take_append_drop] at h
  omega
theorem sumZ_le (M : Nat) : ∀ (l : List Int), (∀ x ∈ l, x ≤ (M : Int)) → sumZ l ≤ l.length * M
  | [], _ => by simp [sumZ]
  | x :: r, h => by
    have h1 := sumZ_le M r (fun y hy => h y (by simp [hy]))
    have h2 := h x (by simp)
    simp only [sumZ, List.length_cons, Nat.add_mul, Nat.one_mul]
    omega

/-- The degree in whose share x falls, of shares that begin at degree j + 1. -/
def pickZ : List Int → Nat → Nat → Nat
  | [], _, _ => 0
  | y :: r, j, x => if x < y.toNat then j + 1 else pickZ r (j + 1) (x - y.toNat)
theorem drop_cons_getD (l : List Int) (k : Nat) (hk : k < l.length) : l.drop k = l.getD k 0 :: l.drop (k + 1) := by
  rw [List.drop_eq_getElem_cons hk]
  simp [List.getD_eq_getElem?_getD, List.getElem?_eq_getElem hk]
theorem pickZ_yes (l : List Int) (k x : Nat) (hk : k < l.length) (h : x < (l.getD k 0).toNat) : pickZ (l.drop k) k x = k + 1 := by
  rw [drop_cons_getD l k hk, pickZ, if_pos h]
theorem pickZ_no (l : List Int) (k x : Nat) (hk : k < l.length) (h : ¬ x < (l.getD k 0).toNat) : pickZ (l.drop k) k x = pickZ (l.drop (k + 1)) (k + 1) (x - (l.getD k 0).toNat) := by
  rw [drop_cons_getD l k hk, pickZ, if_neg h]
theorem pickZ_end (l : List Int) (j x : Nat) : pickZ (l.drop l.length) j x = 0 := by simp [pickZ]
theorem pickZ_in : ∀ (l : List Int) (j x : Nat), x < sumZ l → j + 1 ≤ pickZ l j x ∧ pickZ l j x ≤ j + l.length
  | [], j, x, h => by simp [sumZ] at h
  | y :: r, j, x, h => by
    simp only [sumZ] at h
    simp only [pickZ, List.length_cons]
    by_cases hx : x < y.toNat
    · rw [if_pos hx]; omega
    · rw [if_neg hx]
      have := pickZ_in r (j + 1) (x - y.toNat) (by omega)
      omega
theorem pickZ_at : ∀ (l : List Int) (j i y : Nat), i < l.length → y < (l.getD i 0).toNat → pickZ l j (sumZ (l.take i) + y) = j + i + 1
  | [], j, i, y, h, _ => by simp at h
  | a :: r, j, 0, y, h, hy => by
    simp only [List.take_zero, sumZ, Nat.zero_add, pickZ]
    rw [if_pos (by simpa using hy)]
  | a :: r, j, i + 1, y, h, hy => by
    simp only [List.take_succ_cons, sumZ, pickZ]
    rw [if_neg (by omega), show a.toNat + sumZ (r.take i) + y - a.toNat = sumZ (r.take i) + y by omega, pickZ_at r (j + 1) i y (by simpa using h) (by simpa using hy)]
    omega
/-- What Pick answers. -/
def pickD (l : List Int) (draw : Nat) : Nat := if sumZ l = 0 then 0 else pickZ l 0 (draw % sumZ l)
theorem pickD_none {l : List Int} (h : sumZ l = 0) (draw : Nat) : pickD l draw = 0 := if_pos h
theorem pickD_some {l : List Int} (h : sumZ l ≠ 0) (draw : Nat) : pickD l draw = pickZ l 0 (draw % sumZ l) := if_neg h
theorem pickD_turn (l : List Int) (draw : Nat) : pickD l (draw + sumZ l) = pickD l draw := by
  by_cases h : sumZ l = 0
  · rw [pickD_none h, pickD_none h]
  · rw [pickD_some h, pickD_some h, Nat.add_mod_right]
theorem pickD_le (l : List Int) (draw : Nat) : pickD l draw ≤ l.length := by
  by_cases h : sumZ l = 0
  · rw [pickD_none h]; omega
  · rw [pickD_some h]
    have := pickZ_in l 0 (draw % sumZ l) (Nat.mod_lt _ (by omega))
    omega
theorem pickD_in {l : List Int} (h : sumZ l ≠ 0) (draw : Nat) : 1 ≤ pickD l draw ∧ pickD l draw ≤ l.length := by
  rw [pickD_some h]
  have := pickZ_in l 0 (draw % sumZ l) (Nat.mod_lt _ (by omega))
  omega
theorem pickD_at (l : List Int) (i y : Nat) (hi : i < l.length) (hy : y < (l.getD i 0).toNat) : pickD l (sumZ (l.take i) + y) = i + 1 := by
  have h1 := sumZ_take l i hi
  have h2 := sumZ_take_le l (i + 1)
  rw [pickD_some (by omega), Nat.mod_eq_of_lt (by omega), pickZ_at l 0 i y hi hy]
  omega

/-- Not too many shares, and none too great. -/
def fewZ (l : List Int) : Bool := decide (l.length ≤ 1000) && l.all fun x => decide (x ≤ 1125899906842624)
theorem fewZ_sum {l : List Int} (h : fewZ l = true) : l.length ≤ 1000 ∧ sumZ l ≤ 1125899906842624000 := by
  simp only [fewZ, Bool.and_eq_true, decide_eq_true_eq, List.all_eq_true] at h
  have := sumZ_le 1125899906842624 l h.2
  exact ⟨h.1, by omega⟩
theorem fewZ_no {l : List Int} (k : Nat) (hk : k < l.length) (h : 1125899906842624 < l.getD k 0) : fewZ l = false := by
  rw [← Bool.not_eq_true]
  intro e
  simp only [fewZ, Bool.and_eq_true, decide_eq_true_eq, List.all_eq_true] at e
  have := e.2 (l.getD k 0) (by rw [List.getD_eq_getElem?_getD, List.getElem?_eq_getElem hk]; exact List.getElem_mem hk)
  omega
theorem fewZ_yes {l : List Int} (hl : l.length ≤ 1000) (h : ∀ i, i < l.length → l.getD i 0 ≤ 1125899906842624) : fewZ l = true := by
  simp only [fewZ, Bool.and_eq_true, decide_eq_true_eq, List.all_eq_true]
  refine ⟨hl, fun x hx => ?_⟩
  obtain ⟨i, hi, rfl⟩ := List.mem_iff_getElem.1 hx
  have := h i hi
  rwa [List.getD_eq_getElem?_getD, List.getElem?_eq_getElem hi] at this
theorem fewZ_long {l : List Int} (h : 1000 < l.length) : fewZ l = false := by
  unfold fewZ
  rw [decide_eq_false (by omega)]
  rfl

/-- How many bits, one by one. -/
theorem bitLen_half (x : Nat) (h : 0 < x) : bitLen x = bitLen (x / 2) + 1 := by
  by_cases h2 : x / 2 = 0
  · have : x = 1 := by omega
    subst this
    decide
  · have := bitLen_shift x 1 (by simpa using h2)
    simpa [Nat.add_comm] using this
theorem bitLen_zero : bitLen 0 = 0 := rfl

/-- The share of degree d ahead of what the spread adds. -/
def baseN (k d : Nat) : Nat := if d = 1 then 1048576 / k else 1048576 / (d * (d - 1))
/-- What the spread adds. -/
def moreN (k s d : Nat) : Nat := if s = 0 then 0 else if d < k / s then 1048576 * s / (k * d) else if d = k / s then 1048576 * s * bitLen s / k else 0
def shareN (k s d : Nat) : Nat := max 1 (baseN k d + moreN k s d)
def tableL (k s : Nat) : List Int := (List.range k).map fun i => ((shareN k s (i + 1) : Nat) : Int)
theorem baseN_one (k : Nat) : baseN k 1 = 1048576 / k := if_pos rfl
theorem baseN_more {k d : Nat} (h : d ≠ 1) : baseN k d = 1048576 / (d * (d - 1)) := if_neg h
theorem moreN_none (k d : Nat) : moreN k 0 d = 0 := if_pos rfl
theorem moreN_less {k s d : Nat} (hs : s ≠ 0) (h : d < k / s) : moreN k s d = 1048576 * s / (k * d) := by rw [moreN, if_neg hs, if_pos h]
theorem moreN_same {k s d : Nat} (hs : s ≠ 0) (h : d = k / s) : moreN k s d = 1048576 * s * bitLen s / k := by rw [moreN, if_neg hs, if_neg (by omega), if_pos h]
theorem moreN_over {k s d : Nat} (hs : s ≠ 0) (h : k / s < d) : moreN k s d = 0 := by rw [moreN, if_neg hs, if_neg (by omega), if_neg (by omega)]
theorem baseN_le (k d : Nat) : baseN k d ≤ 1048576 := by
  unfold baseN
  split
  · exact Nat.div_le_self _ _
  · exact Nat.div_le_self _ _
theorem moreN_le (k s d : Nat) (hs : s ≤ 128) : moreN k s d ≤ 1073741824 := by
  unfold moreN
  have hb := bitLen_le8 s (by omega)
  have h1 : 1048576 * s * bitLen s ≤ 1048576 * 128 * 8 := Nat.mul_le_mul (Nat.mul_le_mul_left _ hs) hb
  have h2 := Nat.div_le_self (1048576 * s * bitLen s) k
  have h3 := Nat.div_le_self (1048576 * s) (k * d)
  split
  · omega
  · split
    · omega
    · split
      · omega
      · omega
theorem shareN_le (k s d : Nat) (hs : s ≤ 128) : 1 ≤ shareN k s d ∧ shareN k s d ≤ 1074790400 := by
  have h1 := baseN_le k d
  have h2 := moreN_le k s d hs
  unfold shareN
  omega
theorem tableL_len (k s : Nat) : (tableL k s).length = k := by simp [tableL]
theorem tableL_get (k s i : Nat) (h : i < k) : (tableL k s).getD i 0 = ((shareN k s (i + 1) : Nat) : Int) := by
  simp [tableL, List.getD_eq_getElem?_getD, h]
theorem tableL_sum (k s : Nat) (hk : k ≤ 128) (hs : s ≤ 128) : sumZ (tableL k s) ≤ 137573171200 := by
  have := sumZ_le 1074790400 (tableL k s) (fun x hx => by
    obtain ⟨i, _, rfl⟩ := List.mem_map.1 hx
    have := (shareN_le k s (i + 1) hs).2
    omega)
  rw [tableL_len] at this
  omega
theorem tableL_pos (k s : Nat) (hk : 1 ≤ k) (hs : s ≤ 128) : sumZ (tableL k s) ≠ 0 := by
  have h1 := sumZ_take (tableL k s) 0 (by rw [tableL_len]; omega)
  have h2 := sumZ_take_le (tableL k s) (0 + 1)
  rw [tableL_get k s 0 (by omega)] at h1
  have := (shareN_le k s (0 + 1) hs).1
  omega
/-- Without a spread: in sum about the whole. -/
theorem ideal : ∀ k, 1 ≤ k → k ≤ 128 → 1048576 ≤ sumZ (tableL k 0) + 2 * k ∧ sumZ (tableL k 0) ≤ 1048576 + k := by
  have h : ∀ k : Fin 129, 1 ≤ k.val → 1048576 ≤ sumZ (tableL k.val 0) + 2 * k.val ∧ sumZ (tableL k.val 0) ≤ 1048576 + k.val := by decide +kernel
  intro k h1 h2
  exact h ⟨k, by omega⟩ h1
theorem table_two : tableL 2 0 = [524288, 524288] := by decide +kernel
end Go.Proofs.YtbppanebpfpioaaDoor
namespace Go.Proofs.YtbppanebpfpioaaDoor
open Go.RowKit
set_option linter.unusedVariables false
set_option maxRecDepth 4000

def cellsZ (xs : List Int) : List Value := xs.map fun x => Value.int .i64 x
theorem cellsZ_length (xs : List Int) : (cellsZ xs).length = xs.length := by simp [cellsZ]
theorem cellsZ_get (xs : List Int) (i : Nat) (h : i < xs.length) : (cellsZ xs)[i]? = some (.int .i64 (xs.getD i 0)) := by
  simp [cellsZ, List.getElem?_eq_getElem h, List.getD_eq_getElem?_getD]
theorem cellsZ_set (xs : List Int) (i : Nat) (x : Int) : (cellsZ xs).set i (.int .i64 x) = cellsZ (xs.set i x) := by
  simp [cellsZ, List.map_set]
/-- A slice of n ints that can be read: they are xs. -/
def IntzAt (w : World) (a : Option Addr) (n : Nat) (xs : List Int) : Prop :=
  xs.length = n ∧ (n = 0 ∨ ∃ b off, a = some ⟨b, off, none⟩ ∧ ∀ i, i < n → w.cell? ⟨b, off + i, none⟩ = some (.int .i64 (xs.getD i 0)))
theorem IntzAt.at {w : World} {a : Option Addr} {n : Nat} {xs : List Int} (h : IntzAt w a n xs) {i : Nat} (hi : i < n) :
    ∃ b off, a = some ⟨b, off, none⟩ ∧ ∀ i, i < n → w.cell? ⟨b, off + i, none⟩ = some (.int .i64 (xs.getD i 0)) := by
  rcases h.2 with h0 | h0
  · omega
  · exact h0
theorem IntzAt.below {w w' : World} {a : Option Addr} {n : Nat} {xs : List Int} (h : IntzAt w a n xs) (hb : Below w.heap.size w w') : IntzAt w' a n xs := by
  refine ⟨h.1, ?_⟩
  rcases h.2 with h0 | ⟨b, off, rfl, hc⟩
  · exact .inl h0
  · exact .inr ⟨b, off, rfl, fun i hi => (hb.cell (World.block_lt_of_cell? w _ (hc i hi))).trans (hc i hi)⟩
theorem IntzAt.none (w : World) (a : Option Addr) : IntzAt w a 0 [] := ⟨rfl, .inl rfl⟩
/-- A slice of ints of the call's own. -/
def OwnZ (w : World) (B : Nat) (v : Value) (xs : List Int) : Prop := w.ownsRow B 3 1 v xs.length (cellsZ xs)
theorem OwnZ.ints {w : World} {B : Nat} {v : Value} {xs : List Int} (h : OwnZ w B v xs) : ∃ a c, v = .slice a xs.length c ∧ IntzAt w a xs.length xs := by
  have ho' : w.ownsRow B 3 1 v xs.length (cellsZ xs) := h
  rcases h.2 with ⟨rfl, h0⟩ | ⟨g, cap, cur, rfl, hb, hg, hn, hm, hsz, ht⟩
  · exact ⟨Option.none, 0, by rw [h0], rfl, .inl h0⟩
  · refine ⟨_, cap, rfl, rfl, .inr ⟨g, 0, rfl, fun i hi => ?_⟩⟩
    rw [Nat.zero_add, ho'.cellAt i (by omega), cellsZ_get xs i hi]
theorem OwnZ.nil (w : World) (B : Nat) : OwnZ w B (.slice none 0 0) [] := World.ownsRow_nil _ _ _ _
theorem OwnZ.mono {w : World} {B B' : Nat} {v : Value} {xs : List Int} (h : OwnZ w B v xs) (hB : B' ≤ B) : OwnZ w B' v xs := by
  refine ⟨h.1, ?_⟩
  rcases h.2 with h0 | ⟨g, cap, cur, h1, hb, r⟩
  · exact .inl h0
  · exact .inr ⟨g, cap, cur, h1, Nat.le_trans hB hb, r⟩
theorem OwnZ.below {w w' : World} {B : Nat} {v : Value} {xs : List Int} (h : OwnZ w B v xs) (hb : Below w.heap.size w w') : OwnZ w' B v xs := by
  refine ⟨h.1, ?_⟩
  rcases h.2 with h0 | ⟨g, cap, cur, h1, hg, hgg, r⟩
  · exact .inl h0
  · exact .inr ⟨g, cap, cur, h1, hg, (hb.block g (Array.getElem?_eq_some_iff.1 hgg).1).trans hgg, r⟩
theorem OwnZ.at {w : World} {B : Nat} {v : Value} {xs : List Int} (h : OwnZ w B v xs) (hn : 0 < xs.length) :
    ∃ g cap, v = .slice (some ⟨g, 0, none⟩) xs.length cap ∧ B ≤ g ∧ g < w.heap.size ∧ (∀ i, i < xs.length → w.cell? ⟨g, i, none⟩ = some (.int .i64 (xs.getD i 0))) ∧ ∀ i, w.frozen? ⟨g, i, none⟩ = false := by
  have ho' : w.ownsRow B 3 1 v xs.length (cellsZ xs) := h
  rcases h.2 with ⟨rfl, h0⟩ | ⟨g, cap, cur, rfl, hb, hg, hn, hm, hsz, ht⟩
  · omega
  · refine ⟨g, cap, rfl, hb, (Array.getElem?_eq_some_iff.1 hg).1, fun i hi => ?_, fun i => ho'.frozenAt i⟩
    rw [ho'.cellAt i (by omega), cellsZ_get xs i hi]
theorem OwnZ.stored {w : World} {B g cap n : Nat} {xs : List Int} (h : OwnZ w B (.slice (some ⟨g, 0, none⟩) n cap) xs) (i : Nat) (x : Int) :
    OwnZ (w.setCell ⟨g, i, none⟩ (.int .i64 x)) B (.slice (some ⟨g, 0, none⟩) n cap) (xs.set i x) := by
  obtain rfl : n = xs.length := by
    obtain ⟨a, c, e, _⟩ := h.ints
    simp only [Value.slice.injEq] at e
    exact e.2.1
  have ho : w.ownsRow B 3 1 (.slice (some ⟨g, 0, none⟩) xs.length cap) xs.length (cellsZ xs) := h
  have := (ho.stored i (.int .i64 x)).1
  rw [cellsZ_set] at this
  show World.ownsRow _ B 3 1 _ (xs.set i x).length _
  rw [List.length_set]
  exact this
theorem info_intZ : (Tryd.prog.info? 3).map (fun i => (i.zero, i.size, i.bytes)) = some (some (.int .i64 0), 1, 8) := by kernel_rfl
theorem made_intz (w : World) (n : Nat) (hn : n ≤ 1048576) (xs : List Int) (hxs : xs = List.replicate n 0) :
    OwnZ (w.alloc (.cells (madeCells #[.int .i64 0] n) 3)) w.heap.size (.slice (some ⟨w.heap.size, 0, none⟩) n n) xs := by
  subst hxs
  refine ⟨by simp [cellsZ], .inr ⟨w.heap.size, n, madeCells #[.int .i64 0] n, by simp, Nat.le_refl _, heap_alloc_new w _, by simp, by unfold maxLen; omega, by simp [size_madeCells], ?_⟩⟩
  rw [toList_madeCells_one, List.take_of_length_le (by simp)]
  simp [cellsZ]
theorem make_intz (n : Nat) (hn : n ≤ 1048576) (wx : World) : (Instr.makeSlice 62 (.int .i64 (n : Int)) (.int .i64 (n : Int))).run Tryd.prog wx = .ok (.slice (some ⟨wx.heap.size, 0, none⟩) n n) (wx.alloc (.cells (madeCells #[.int .i64 0] n) 3)) := by
  obtain ⟨i0, hi0, hz0, hzs, hzb⟩ := info_parts info_intZ
  have := run_make (P := Tryd.prog) wx 62 3 i0 (.int .i64 0) Tryd.underlying62 hi0 hz0 .i64 .i64 (n : Int) (n : Int) (by omega) (Int.le_refl _) (by rw [hzb]; omega) (by omega)
  rw [hzs] at this
  simpa [Value.cells] using this
/-- What is written so far. -/
def filledZ (fs : List Int) (k : Nat) : List Int := fs.take k ++ List.replicate (fs.length - k) 0
theorem filledZ_zero (fs : List Int) : filledZ fs 0 = List.replicate fs.length 0 := by simp [filledZ]
theorem filledZ_all (fs : List Int) : filledZ fs fs.length = fs := by simp [filledZ]
theorem filledZ_length (fs : List Int) (k : Nat) (hk : k ≤ fs.length) : (filledZ fs k).length = fs.length := by simp [filledZ]; omega
theorem filledZ_succ (fs : List Int) (k : Nat) (hk : k < fs.length) : (filledZ fs k).set k (fs.getD k 0) = filledZ fs (k + 1) := by
  unfold filledZ
  have hl : (fs.take k).length = k := by simp; omega
  rw [List.set_append_right _ _ (by omega), hl, Nat.sub_self, List.take_succ_eq_append_getElem hk, List.append_assoc, show fs.length - k = (fs.length - (k + 1)) + 1 by omega, List.replicate_succ, List.set_cons_zero]
  simp [List.getD_eq_getElem?_getD, List.getElem?_eq_getElem hk]
/-- 'append(own, x)'. -/
theorem wpList_pushZ {w : World} {ops : Array Oper} {rest : List Oper} {o : Oper} {act : Act} {Q : Exit → Act → World → Prop} (hgd : o.guard = none) (s x : Operand)
    (ho : o.op = .call { callee := .builtin .append, args := #[s, x], argTypes := #[62, 62] }) (B : Nat) (v : Value) (xs : List Int) (y : Int)
    (hs : act.eval s = v) (hx : act.eval x = .slice (some ⟨w.heap.size, 0, none⟩) 1 1) (h : OwnZ w B v xs) (hB : B ≤ w.heap.size) (hn : xs.length ≤ 1048576)
    (hK : ∀ s' w', OwnZ w' B s' (xs ++ [y]) → Below B w w' → wpList Tryd.prog ops Q rest (act.put o.dst s') w') : wpList Tryd.prog ops Q (o :: rest) act (w.alloc (.cells #[.int .i64 y] 3)) := by
  obtain ⟨i0, hi, hz0, hz1, hz2⟩ := info_parts info_intZ
  have hb : Below w.heap.size w (w.alloc (.cells #[.int .i64 y] 3)) := (Below.refl _ _).alloc (Nat.le_refl _) _
  have h1 : (w.alloc (.cells #[.int .i64 y] 3)).ownsRow B 3 1 v xs.length (cellsZ xs) := h.below hb
  refine wpList_append_own _ hgd s x 62 ho B 3 i0 (.int .i64 0) 1 8 Tryd.underlying62 hi hz0 hz1 hz2 rfl (by decide) v xs.length (cellsZ xs) hs h1 ⟨w.heap.size, 0, none⟩ 1 1 [.int .i64 y] hx rfl (fun j u hj => ?_)
    (fun u hu => by rw [List.mem_singleton.1 hu]; rfl) (by unfold maxLen; omega) (by omega) (Nat.le_trans hB hb.size) ?_
  · match j with
    | 0 =>
      have hc : (w.alloc (.cells #[.int .i64 y] 3)).cell? ⟨w.heap.size, 0, none⟩ = some (.int .i64 y) := by rw [World.cell?_alloc_at _ _ _ _ rfl]; rfl
      simpa [Addr.add, hc] using hj
    | j + 1 => simp at hj
  · intro v' w' hown hgrow _
    refine hK v' w' ?_ ((hb.mono hB).grown hgrow (Nat.le_trans hB hb.size) fun k hk => (h1.lt k hk).1)
    rw [show cellsZ xs ++ [.int .i64 y] = cellsZ (xs ++ [y]) by simp [cellsZ]] at hown
    show w'.ownsRow B 3 1 v' (xs ++ [y]).length (cellsZ (xs ++ [y]))
    rw [List.length_append]
    exact hown
theorem intz_lit2 (w : World) (x y : Int) : IntzAt (w.alloc (.cells #[.int .i64 x, .int .i64 y] 3)) (some ⟨w.heap.size, 0, Option.none⟩) 2 [x, y] := by
  refine ⟨rfl, .inr ⟨w.heap.size, 0, rfl, fun i hi => ?_⟩⟩
  match i, hi with
  | 0, _ => simp
  | 1, _ => simp
theorem intz_lit3 (w : World) (x y z : Int) : IntzAt (w.alloc (.cells #[.int .i64 x, .int .i64 y, .int .i64 z] 3)) (some ⟨w.heap.size, 0, Option.none⟩) 3 [x, y, z] := by
  refine ⟨rfl, .inr ⟨w.heap.size, 0, rfl, fun i hi => ?_⟩⟩
  match i, hi with
  | 0, _ => simp
  | 1, _ => simp
  | 2, _ => simp
/-- 'max(0, x)', 'max(x, 0)'. -/
theorem max0_run (x : Int) (ts : Array TypeId) (t : TypeId) (w : World) : (Builtin.max_ ts t #[.int .i64 0, .int .i64 x]).run Tryd.prog w = .ok (.int .i64 ((x.toNat : Nat) : Int)) w := by
  rw [run_max_int2]
  congr 2
  split <;> omega
theorem max0_run' (x : Int) (ts : Array TypeId) (t : TypeId) (w : World) : (Builtin.max_ ts t #[.int .i64 x, .int .i64 0]).run Tryd.prog w = .ok (.int .i64 ((x.toNat : Nat) : Int)) w := by
  rw [run_max_int2]
  congr 2
  split <;> omega
theorem max1_run (x : Nat) (ts : Array TypeId) (t : TypeId) (w : World) : (Builtin.max_ ts t #[.int .i64 1, .int .i64 (x : Int)]).run Tryd.prog w = .ok (.int .i64 ((max 1 x : Nat) : Int)) w := by
  rw [run_max_int2]
  congr 2
  split <;> omega
theorem max1_run' (x : Nat) (ts : Array TypeId) (t : TypeId) (w : World) : (Builtin.max_ ts t #[.int .i64 (x : Int), .int .i64 1]).run Tryd.prog w = .ok (.int .i64 ((max 1 x : Nat) : Int)) w := by
  rw [run_max_int2]
  congr 2
  split <;> omega
theorem max_runZ (x y : Int) (ts : Array TypeId) (t : TypeId) (w : World) : (Builtin.max_ ts t #[.int .i64 x, .int .i64 y]).run Tryd.prog w = .ok (.int .i64 (max x y)) w := by
  rw [run_max_int2]
  congr 2
  split <;> omega
theorem min_runZ (x y : Int) (ts : Array TypeId) (t : TypeId) (w : World) : (Builtin.min_ ts t #[.int .i64 x, .int .i64 y]).run Tryd.prog w = .ok (.int .i64 (min x y)) w := by
  rw [run_min_int2]
  congr 2
  split <;> omega
end Go.Proofs.YtbppanebpfpioaaDoor
