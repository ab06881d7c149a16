/-
  Plain mathematics of shares: their sum, the degree that a draw picks, the table of shares. Of no program. No condition but where it is said.
  Slices of ints of any sign in memory: what can be read ('IntzAt'), what is the call's own ('OwnZ'): made, written, appended to. No condition.
  Contract of bucketlineref01.Ints, of equal slices of at most 2^20 ints.
  Contracts of peel.units, peel.Ripple and bucketlineref13.Ripple.
  Slices of texts that are made and written.
  A map of rows of one's own by their places; what a peeling holds in memory.
-/
import Derived.Laws.MathBits
import Derived.Test.YtjppopabjfncpaaDoorM1
import Derived.OwnWalk
import Derived.Laws.MakeOwn
import Derived.Deep.QuietTactic
import Derived.BigQuiet
import Derived.Test.YtjppopabjfncpaaDoorM3
import Derived.Test.YtjppopabjfncpaaDoorM2
import Derived.Maps.RangeWalk
import Derived.Maps.OwnSet
import Derived.Deep.RegionHeld
namespace Go.Proofs.YtjppopabjfncpaaDoor
set_option linter.unusedVariables false
set_option maxRecDepth 4000

/-- The sum of the shares above 0. -/
def sumZ : List Int → Nat
  | [] => 0
  | x :: r => x.toNat + sumZ r
theorem sumZ_append : ∀ (a b : List Int), sumZ (a ++ b) = sumZ a + sumZ b
  | [], b => by simp [sumZ]
  | x :: a, b => by simp only [List.cons_append, sumZ, sumZ_append a b]; omega
theorem sumZ_take (l : List Int) (k : Nat) (hk : k < l.length) : sumZ (l.take (k + 1)) = sumZ (l.take k) + (l.getD k 0).toNat := by
  rw [List.take_succ_eq_append_getElem hk, sumZ_append]
  simp [sumZ, List.getD_eq_getElem?_getD, List.getElem?_eq_getElem hk]
theorem sumZ_take_le (l : List Int) (k : Nat) : sumZ (l.take k) ≤ sumZ l := by
  have h := sumZ_append (l.take k) (l.drop k)
  rw [List.take_append_drop] at h
  omega
theorem sumZ_le (M : Nat) : ∀ (l : List Int), (∀ x ∈ l, x ≤ (M : Int)) → sumZ l ≤ l.length * M
  | [], _ => by simp [sumZ]
  | x :: r, h => by
    have h1 := sumZ_le M r (fun y hy => h y (by simp [hy]))
    have h2 := h x (by simp)
    simp only [sumZ, List.length_cons, Nat.add_mul, Nat.one_mul]
    omega

/-- The degree in whose share x falls, of shares that begin at degree j + 1. -/
def pickZ : List Int → Nat → Nat → Nat
  | [], _, _ => 0
  | y :: r, j, x => if x < y.toNat then j + 1 else pickZ r (j + 1) (x - y.toNat)
theorem drop_cons_getD (l : List Int) (k : Nat) (hk : k < l.length) : l.drop k = l.getD k 0 :: l.drop (k + 1) := by
  rw [List.drop_eq_getElem_cons hk]
  simp [List.getD_eq_getElem?_getD, List.getElem?_eq_getElem hk]
theorem pickZ_yes (l : List Int) (k x : Nat) (hk : k < l.length) (h : x < (l.getD k 0).toNat) : pickZ (l.drop k) k x = k + 1 := by
  rw [drop_cons_getD l k hk, pickZ, if_pos h]
theorem pickZ_no (l : List Int) (k x : Nat) (hk : k < l.length) (h : ¬ x < (l.getD k 0).toNat) : pickZ (l.drop k) k x = pickZ (l.drop (k + 1)) (k + 1) (x - (l.getD k 0).toNat) := by
  rw [drop_cons_getD l k hk, pickZ, if_neg h]
theorem pickZ_end (l : List Int) (j x : Nat) : pickZ (l.drop l.length) j x = 0 := by simp [pickZ]
theorem pickZ_in : ∀ (l : List Int) (j x : Nat), x < sumZ l → j + 1 ≤ pickZ l j x ∧ pickZ l j x ≤ j + l.length
  | [], j, x, h => by simp [sumZ] at h
  | y :: r, j, x, h => by
    simp only [sumZ] at h
    simp only [pickZ, List.length_cons]
    by_cases hx : x < y.toNat
    · rw [if_pos hx]; omega
    · rw [if_neg hx]
      have := pickZ_in r (j + 1) (x - y.toNat) (by omega)
      omega
theorem pickZ_at : ∀ (l : List Int) (j i y : Nat), i < l.length → y < (l.getD i 0).toNat → pickZ l j (sumZ (l.take i) + y) = j + i + 1
  | [], j, i, y, h, _ => by simp at h
  | a :: r, j, 0, y, h, hy => by
    simp only [List.take_zero, sumZ, Nat.zero_add, pickZ]
    rw [if_pos (by simpa using hy)]
  | a :: r, j, i + 1, y, h, hy => by
    simp only [List.take_succ_cons, sumZ, pickZ]
    rw [if_neg (by omega), show a.toNat + sumZ (r.take i) + y - a.toNat = sumZ (r.take i) + y by omega, pickZ_at r (j + 1) i y (by simpa using h) (by simpa using hy)]
    omega
/-- What Pick answers. -/
def pickD (l : List Int) (draw : Nat) : Nat := if sumZ l = 0 then 0 else pickZ l 0 (draw % sumZ l)
theorem pickD_none {l : List Int} (h : sumZ l = 0) (draw : Nat) : pickD l draw = 0 := if_pos h
theorem pickD_some {l : List Int} (h : sumZ l ≠ 0) (draw : Nat) : pickD l draw = pickZ l 0 (draw % sumZ l) := if_neg h
theorem pickD_turn (l : List Int) (draw : Nat) : pickD l (draw + sumZ l) = pickD l draw := by
  by_cases h : sumZ l = 0
  · rw [pickD_none h, pickD_none h]
  · rw [pickD_some h, pickD_some h, Nat.add_mod_right]
theorem pickD_le (l : List Int) (draw : Nat) : pickD l draw ≤ l.length := by
  by_cases h : sumZ l = 0
  · rw [pickD_none h]; omega
  · rw [pickD_some h]
    have := pickZ_in l 0 (draw % sumZ l) (Nat.mod_lt _ (by omega))
    omega
theorem pickD_in {l : List Int} (h : sumZ l ≠ 0) (draw : Nat) : 1 ≤ pickD l draw ∧ pickD l draw ≤ l.length := by
  rw [pickD_some h]
  have := pickZ_in l 0 (draw % sumZ l) (Nat.mod_lt _ (by omega))
  omega
theorem pickD_at (l : List Int) (i y : Nat) (hi : i < l.length) (hy : y < (l.getD i 0).toNat) : pickD l (sumZ (l.take i) + y) = i + 1 := by
  have h1 := sumZ_take l i hi
  have h2 := sumZ_take_le l (i + 1)
  rw [pickD_some (by omega), Nat.mod_eq_of_lt (by omega), pickZ_at l 0 i y hi hy]
  omega

/-- Not too many shares, and none too great. -/
def fewZ (l : List Int) : Bool := decide (l.length ≤ 1000) && l.all fun x => decide (x ≤ 1125899906842624)
theorem fewZ_sum {l : List Int} (h : fewZ l = true) : l.length ≤ 1000 ∧ sumZ l ≤ 1125899906842624000 := by
  simp only [fewZ, Bool.and_eq_true, decide_eq_true_eq, List.all_eq_true] at h
  have := sumZ_le 1125899906842624 l h.2
  exact ⟨h.1, by omega⟩
theorem fewZ_no {l : List Int} (k : Nat) (hk : k < l.length) (h : 1125899906842624 < l.getD k 0) : fewZ l = false := by
  rw [← Bool.not_eq_true]
  intro e
  simp only [fewZ, Bool.and_eq_true, decide_eq_true_eq, List.all_eq_true] at e
  have := e.2 (l.getD k 0) (by rw [List.getD_eq_getElem?_getD, List.getElem?_eq_getElem hk]; exact List.getElem_mem hk)
  omega
theorem fewZ_yes {l : List Int} (hl : l.length ≤ 1000) (h : ∀ i, i < l.length → l.getD i 0 ≤ 1125899906842624) : fewZ l = true := by
  simp only [fewZ, Bool.and_eq_true, decide_eq_true_eq, List.all_eq_true]
  refine ⟨hl, fun x hx => ?_⟩
  obtain ⟨i, hi, rfl⟩ := List.mem_iff_getElem.1 hx
  have := h i hi
  rwa [List.getD_eq_getElem?_getD, List.getElem?_eq_getElem hi] at this
theorem fewZ_long {l : List Int} (h : 1000 < l.length) : fewZ l = false := by
  unfold fewZ
  rw [decide_eq_false (by omega)]
  rfl

/-- How many bits, one by one. -/
theorem bitLen_half (x : Nat) (h : 0 < x) : bitLen x = bitLen (x / 2) + 1 := by
  by_cases h2 : x / 2 = 0
  · have : x = 1 := by omega
    subst this
    decide
  · have := bitLen_shift x 1 (by simpa using h2)
    simpa [Nat.add_comm] using this
theorem bitLen_zero : bitLen 0 = 0 := rfl

/-- The share of degree d ahead of what the spread adds. -/
def baseN (k d : Nat) : Nat := if d = 1 then 1048576 / k else 1048576 / (d * (d - 1))
/-- What the spread adds. -/
def moreN (k s d : Nat) : Nat := if s = 0 then 0 else if d < k / s then 1048576 * s / (k * d) else if d = k / s then 1048576 * s * bitLen s / k else 0
def shareN (k s d : Nat) : Nat := max 1 (baseN k d + moreN k s d)
def tableL (k s : Nat) : List Int := (List.range k).map fun i => ((shareN k s (i + 1) : Nat) : Int)
theorem baseN_one (k : Nat) : baseN k 1 = 1048576 / k := if_pos rfl
theorem baseN_more {k d : Nat} (h : d ≠ 1) : baseN k d = 1048576 / (d * (d - 1)) := if_neg h
theorem moreN_none (k d : Nat) : moreN k 0 d = 0 := if_pos rfl
theorem moreN_less {k s d : Nat} (hs : s ≠ 0) (h : d < k / s) : moreN k s d = 1048576 * s / (k * d) := by rw [moreN, if_neg hs, if_pos h]
theorem moreN_same {k s d : Nat} (hs : s ≠ 0) (h : d = k / s) : moreN k s d = 1048576 * s * bitLen s / k := by rw [moreN, if_neg hs, if_neg (by omega), if_pos h]
theorem moreN_over {k s d : Nat} (hs : s ≠ 0) (h : k / s < d) : moreN k s d = 0 := by rw [moreN, if_neg hs, if_neg (by omega), if_neg (by omega)]
theorem baseN_le (k d : Nat) : baseN k d ≤ 1048576 := by
  unfold baseN
  split
  · exact Nat.div_le_self _ _
  · exact Nat.div_le_self _ _
theorem moreN_le (k s d : Nat) (hs : s ≤ 128) : moreN k s d ≤ 1073741824 := by
  unfold moreN
  have hb := bitLen_le8 s (by omega)
  have h1 : 1048576 * s * bitLen s ≤ 1048576 * 128 * 8 := Nat.mul_le_mul (Nat.mul_le_mul_left _ hs) hb
  have h2 := Nat.div_le_self (1048576 * s * bitLen s) k
  have h3 := Nat.div_le_self (1048576 * s) (k * d)
  split
  · omega
  · split
    · omega
    · split
      · omega
      · omega
theorem shareN_le (k s d : Nat) (hs : s ≤ 128) : 1 ≤ shareN k s d ∧ shareN k s d ≤ 1074790400 := by
  have h1 := baseN_le k d
  have h2 := moreN_le k s d hs
  unfold shareN
  omega
theorem tableL_len (k s : Nat) : (tableL k s).length = k := by simp [tableL]
theorem tableL_get (k s i : Nat) (h : i < k) : (tableL k s).getD i 0 = ((shareN k s (i + 1) : Nat) : Int) := by
  simp [tableL, List.getD_eq_getElem?_getD, h]
theorem tableL_sum (k s : Nat) (hk : k ≤ 128) (hs : s ≤ 128) : sumZ (tableL k s) ≤ 137573171200 := by
  have := sumZ_le 1074790400 (tableL k s) (fun x hx => by
    obtain ⟨i, _, rfl⟩ := List.mem_map.1 hx
    have := (shareN_le k s (i + 1) hs).2
    omega)
  rw [tableL_len] at this
  omega
theorem tableL_pos (k s : Nat) (hk : 1 ≤ k) (hs : s ≤ 128) : sumZ (tableL k s) ≠ 0 := by
  have h1 := sumZ_take (tableL k s) 0 (by rw [tableL_len]; omega)
  have h2 := sumZ_take_le (tableL k s) (0 + 1)
  rw [tableL_get k s 0 (by omega)] at h1
  have := (shareN_le k s (0 + 1) hs).1
  omega
/-- Without a spread: in sum about the whole. -/
theorem ideal : ∀ k, 1 ≤ k → k ≤ 128 → 1048576 ≤ sumZ (tableL k 0) + 2 * k ∧ sumZ (tableL k 0) ≤ 1048576 + k := by
  have h : ∀ k : Fin 129, 1 ≤ k.val → 1048576 ≤ sumZ (tableL k.val 0) + 2 * k.val ∧ sumZ (tableL k.val 0) ≤ 1048576 + k.val := by decide +kernel
  intro k h1 h2
  exact h ⟨k, by omega⟩ h1
theorem table_two : tableL 2 0 = [524288, 524288] := by decide +kernel
end Go.Proofs.YtjppopabjfncpaaDoor
namespace Go.Proofs.YtjppopabjfncpaaDoor
open Go.RowKit
set_option linter.unusedVariables false
set_option maxRecDepth 4000

def cellsZ (xs : List Int) : List Value := xs.map fun x => Value.int .i64 x
theorem cellsZ_length (xs : List Int) : (cellsZ xs).length = xs.length := by simp [cellsZ]
theorem cellsZ_get (xs : List Int) (i : Nat) (h : i < xs.length) : (cellsZ xs)[i]? = some (.int .i64 (xs.getD i 0)) := by
  simp [cellsZ, List.getElem?_eq_getElem h, List.getD_eq_getElem?_getD]
theorem cellsZ_set (xs : List Int) (i : Nat) (x : Int) : (cellsZ xs).set i (.int .i64 x) = cellsZ (xs.set i x) := by
  simp [cellsZ, List.map_set]
/-- A slice of n ints that can be read: they are xs. -/
def IntzAt (w : World) (a : Option Addr) (n : Nat) (xs : List Int) : Prop :=
  xs.length = n ∧ (n = 0 ∨ ∃ b off, a = some ⟨b, off, none⟩ ∧ ∀ i, i < n → w.cell? ⟨b, off + i, none⟩ = some (.int .i64 (xs.getD i 0)))
theorem IntzAt.at {w : World} {a : Option Addr} {n : Nat} {xs : List Int} (h : IntzAt w a n xs) {i : Nat} (hi : i < n) :
    ∃ b off, a = some ⟨b, off, none⟩ ∧ ∀ i, i < n → w.cell? ⟨b, off + i, none⟩ = some (.int .i64 (xs.getD i 0)) := by
  rcases h.2 with h0 | h0
  · omega
  · exact h0
theorem IntzAt.below {w w' : World} {a : Option Addr} {n : Nat} {xs : List Int} (h : IntzAt w a n xs) (hb : Below w.heap.size w w') : IntzAt w' a n xs := by
  refine ⟨h.1, ?_⟩
  rcases h.2 with h0 | ⟨b, off, rfl, hc⟩
  · exact .inl h0
  · exact .inr ⟨b, off, rfl, fun i hi => (hb.cell (World.block_lt_of_cell? w _ (hc i hi))).trans (hc i hi)⟩
theorem IntzAt.none (w : World) (a : Option Addr) : IntzAt w a 0 [] := ⟨rfl, .inl rfl⟩
/-- A slice of ints of the call's own. -/
def OwnZ (w : World) (B : Nat) (v : Value) (xs : List Int) : Prop := w.ownsRow B 3 1 v xs.length (cellsZ xs)
theorem OwnZ.ints {w : World} {B : Nat} {v : Value} {xs : List Int} (h : OwnZ w B v xs) : ∃ a c, v = .slice a xs.length c ∧ IntzAt w a xs.length xs := by
  have ho' : w.ownsRow B 3 1 v xs.length (cellsZ xs) := h
  rcases h.2 with ⟨rfl, h0⟩ | ⟨g, cap, cur, rfl, hb, hg, hn, hm, hsz, ht⟩
  · exact ⟨Option.none, 0, by rw [h0], rfl, .inl h0⟩
  · refine ⟨_, cap, rfl, rfl, .inr ⟨g, 0, rfl, fun i hi => ?_⟩⟩
    rw [Nat.zero_add, ho'.cellAt i (by omega), cellsZ_get xs i hi]
theorem OwnZ.nil (w : World) (B : Nat) : OwnZ w B (.slice none 0 0) [] := World.ownsRow_nil _ _ _ _
theorem OwnZ.mono {w : World} {B B' : Nat} {v : Value} {xs : List Int} (h : OwnZ w B v xs) (hB : B' ≤ B) : OwnZ w B' v xs := by
  refine ⟨h.1, ?_⟩
  rcases h.2 with h0 | ⟨g, cap, cur, h1, hb, r⟩
  · exact .inl h0
  · exact .inr ⟨g, cap, cur, h1, Nat.le_trans hB hb, r⟩
theorem OwnZ.below {w w' : World} {B : Nat} {v : Value} {xs : List Int} (h : OwnZ w B v xs) (hb : Below w.heap.size w w') : OwnZ w' B v xs := by
  refine ⟨h.1, ?_⟩
  rcases h.2 with h0 | ⟨g, cap, cur, h1, hg, hgg, r⟩
  · exact .inl h0
  · exact .inr ⟨g, cap, cur, h1, hg, (hb.block g (Array.getElem?_eq_some_iff.1 hgg).1).trans hgg, r⟩
theorem OwnZ.at {w : World} {B : Nat} {v : Value} {xs : List Int} (h : OwnZ w B v xs) (hn : 0 < xs.length) :
    ∃ g cap, v = .slice (some ⟨g, 0, none⟩) xs.length cap ∧ B ≤ g ∧ g < w.heap.size ∧ (∀ i, i < xs.length → w.cell? ⟨g, i, none⟩ = some (.int .i64 (xs.getD i 0))) ∧ ∀ i, w.frozen? ⟨g, i, none⟩ = false := by
  have ho' : w.ownsRow B 3 1 v xs.length (cellsZ xs) := h
  rcases h.2 with ⟨rfl, h0⟩ | ⟨g, cap, cur, rfl, hb, hg, hn, hm, hsz, ht⟩
  · omega
  · refine ⟨g, cap, rfl, hb, (Array.getElem?_eq_some_iff.1 hg).1, fun i hi => ?_, fun i => ho'.frozenAt i⟩
    rw [ho'.cellAt i (by omega), cellsZ_get xs i hi]
theorem OwnZ.stored {w : World} {B g cap n : Nat} {xs : List Int} (h : OwnZ w B (.slice (some ⟨g, 0, none⟩) n cap) xs) (i : Nat) (x : Int) :
    OwnZ (w.setCell ⟨g, i, none⟩ (.int .i64 x)) B (.slice (some ⟨g, 0, none⟩) n cap) (xs.set i x) := by
  obtain rfl : n = xs.length := by
    obtain ⟨a, c, e, _⟩ := h.ints
    simp only [Value.slice.injEq] at e
    exact e.2.1
  have ho : w.ownsRow B 3 1 (.slice (some ⟨g, 0, none⟩) xs.length cap) xs.length (cellsZ xs) := h
  have := (ho.stored i (.int .i64 x)).1
  rw [cellsZ_set] at this
  show World.ownsRow _ B 3 1 _ (xs.set i x).length _
  rw [List.length_set]
  exact this
theorem info_intZ : (Tryd.prog.info? 3).map (fun i => (i.zero, i.size, i.bytes)) = some (some (.int .i64 0), 1, 8) := by kernel_rfl
theorem made_intz (w : World) (n : Nat) (hn : n ≤ 1048576) (xs : List Int) (hxs : xs = List.replicate n 0) :
    OwnZ (w.alloc (.cells (madeCells #[.int .i64 0] n) 3)) w.heap.size (.slice (some ⟨w.heap.size, 0, none⟩) n n) xs := by
  subst hxs
  refine ⟨by simp [cellsZ], .inr ⟨w.heap.size, n, madeCells #[.int .i64 0] n, by simp, Nat.le_refl _, heap_alloc_new w _, by simp, by unfold maxLen; omega, by simp [size_madeCells], ?_⟩⟩
  rw [toList_madeCells_one, List.take_of_length_le (by simp)]
  simp [cellsZ]
theorem make_intz (n : Nat) (hn : n ≤ 1048576) (wx : World) : (Instr.makeSlice 42 (.int .i64 (n : Int)) (.int .i64 (n : Int))).run Tryd.prog wx = .ok (.slice (some ⟨wx.heap.size, 0, none⟩) n n) (wx.alloc (.cells (madeCells #[.int .i64 0] n) 3)) := by
  obtain ⟨i0, hi0, hz0, hzs, hzb⟩ := info_parts info_intZ
  have := run_make (P := Tryd.prog) wx 42 3 i0 (.int .i64 0) Tryd.underlying42 hi0 hz0 .i64 .i64 (n : Int) (n : Int) (by omega) (Int.le_refl _) (by rw [hzb]; omega) (by omega)
  rw [hzs] at this
  simpa [Value.cells] using this
/-- What is written so far. -/
def filledZ (fs : List Int) (k : Nat) : List Int := fs.take k ++ List.replicate (fs.length - k) 0
theorem filledZ_zero (fs : List Int) : filledZ fs 0 = List.replicate fs.length 0 := by simp [filledZ]
theorem filledZ_all (fs : List Int) : filledZ fs fs.length = fs := by simp [filledZ]
theorem filledZ_length (fs : List Int) (k : Nat) (hk : k ≤ fs.length) : (filledZ fs k).length = fs.length := by simp [filledZ]; omega
theorem filledZ_succ (fs : List Int) (k : Nat) (hk : k < fs.length) : (filledZ fs k).set k (fs.getD k 0) = filledZ fs (k + 1) := by
  unfold filledZ
  have hl : (fs.take k).length = k := by simp; omega
  rw [List.set_append_right _ _ (by omega), hl, Nat.sub_self, List.take_succ_eq_append_getElem hk, List.append_assoc, show fs.length - k = (fs.length - (k + 1)) + 1 by omega, List.replicate_succ, List.set_cons_zero]
  simp [List.getD_eq_getElem?_getD, List.getElem?_eq_getElem hk]
/-- 'append(own, x)'. -/
theorem wpList_pushZ {w : World} {ops : Array Oper} {rest : List Oper} {o : Oper} {act : Act} {Q : Exit → Act → World → Prop} (hgd : o.guard = none) (s x : Operand)
    (ho : o.op = .call { callee := .builtin .append, args := #[s, x], argTypes := #[42, 42] }) (B : Nat) (v : Value) (xs : List Int) (y : Int)
    (hs : act.eval s = v) (hx : act.eval x = .slice (some ⟨w.heap.size, 0, none⟩) 1 1) (h : OwnZ w B v xs) (hB : B ≤ w.heap.size) (hn : xs.length ≤ 1048576)
    (hK : ∀ s' w', OwnZ w' B s' (xs ++ [y]) → Below B w w' → wpList Tryd.prog ops Q rest (act.put o.dst s') w') : wpList Tryd.prog ops Q (o :: rest) act (w.alloc (.cells #[.int .i64 y] 3)) := by
  obtain ⟨i0, hi, hz0, hz1, hz2⟩ := info_parts info_intZ
  have hb : Below w.heap.size w (w.alloc (.cells #[.int .i64 y] 3)) := (Below.refl _ _).alloc (Nat.le_refl _) _
  have h1 : (w.alloc (.cells #[.int .i64 y] 3)).ownsRow B 3 1 v xs.length (cellsZ xs) := h.below hb
  refine wpList_append_own _ hgd s x 42 ho B 3 i0 (.int .i64 0) 1 8 Tryd.underlying42 hi hz0 hz1 hz2 rfl (by decide) v xs.length (cellsZ xs) hs h1 ⟨w.heap.size, 0, none⟩ 1 1 [.int .i64 y] hx rfl (fun j u hj => ?_)
    (fun u hu => by rw [List.mem_singleton.1 hu]; rfl) (by unfold maxLen; omega) (by omega) (Nat.le_trans hB hb.size) ?_
  · match j with
    | 0 =>
      have hc : (w.alloc (.cells #[.int .i64 y] 3)).cell? ⟨w.heap.size, 0, none⟩ = some (.int .i64 y) := by rw [World.cell?_alloc_at _ _ _ _ rfl]; rfl
      simpa [Addr.add, hc] using hj
    | j + 1 => simp at hj
  · intro v' w' hown hgrow _
    refine hK v' w' ?_ ((hb.mono hB).grown hgrow (Nat.le_trans hB hb.size) fun k hk => (h1.lt k hk).1)
    rw [show cellsZ xs ++ [.int .i64 y] = cellsZ (xs ++ [y]) by simp [cellsZ]] at hown
    show w'.ownsRow B 3 1 v' (xs ++ [y]).length (cellsZ (xs ++ [y]))
    rw [List.length_append]
    exact hown
theorem intz_lit2 (w : World) (x y : Int) : IntzAt (w.alloc (.cells #[.int .i64 x, .int .i64 y] 3)) (some ⟨w.heap.size, 0, Option.none⟩) 2 [x, y] := by
  refine ⟨rfl, .inr ⟨w.heap.size, 0, rfl, fun i hi => ?_⟩⟩
  match i, hi with
  | 0, _ => simp
  | 1, _ => simp
theorem intz_lit3 (w : World) (x y z : Int) : IntzAt (w.alloc (.cells #[.int .i64 x, .int .i64 y, .int .i64 z] 3)) (some ⟨w.heap.size, 0, Option.none⟩) 3 [x, y, z] := by
  refine ⟨rfl, .inr ⟨w.heap.size, 0, rfl, fun i hi => ?_⟩⟩
  match i, hi with
  | 0, _ => simp
  | 1, _ => simp
  | 2, _ => simp
/-- 'max(0, x)', 'max(x, 0)'. -/
theorem max0_run (x : Int) (ts : Array TypeId) (t : TypeId) (w : World) : (Builtin.max_ ts t #[.int .i64 0, .int .i64 x]).run Tryd.prog w = .ok (.int .i64 ((x.toNat : Nat) : Int)) w := by
  rw [run_max_int2]
  congr 2
  split <;> omega
theorem max0_run' (x : Int) (ts : Array TypeId) (t : TypeId) (w : World) : (Builtin.max_ ts t #[.int .i64 x, .int .i64 0]).run Tryd.prog w = .ok (.int .i64 ((x.toNat : Nat) : Int)) w := by
  rw [run_max_int2]
  congr 2
  split <;> omega
theorem max1_run (x : Nat) (ts : Array TypeId) (t : TypeId) (w : World) : (Builtin.max_ ts t #[.int .i64 1, .int .i64 (x : Int)]).run Tryd.prog w = .ok (.int .i64 ((max 1 x : Nat) : Int)) w := by
  rw [run_max_int2]
  congr 2
  split <;> omega
theorem max1_run' (x : Nat) (ts : Array TypeId) (t : TypeId) (w : World) : (Builtin.max_ ts t #[.int .i64 (x : Int), .int .i64 1]).run Tryd.prog w = .ok (.int .i64 ((max 1 x : Nat) : Int)) w := by
  rw [run_max_int2]
  congr 2
  split <;> omega
theorem max_runZ (x y : Int) (ts : Array TypeId) (t : TypeId) (w : World) : (Builtin.max_ ts t #[.int .i64 x, .int .i64 y]).run Tryd.prog w = .ok (.int .i64 (max x y)) w := by
  rw [run_max_int2]
  congr 2
  split <;> omega
theorem min_runZ (x y : Int) (ts : Array TypeId) (t : TypeId) (w : World) : (Builtin.min_ ts t #[.int .i64 x, .int .i64 y]).run Tryd.prog w = .ok (.int .i64 (min x y)) w := by
  rw [run_min_int2]
  congr 2
  split <;> omega
end Go.Proofs.YtjppopabjfncpaaDoor
namespace Go.Proofs.YtjppopabjfncpaaDoor
open Go.RowKit
set_option linter.unusedVariables false
set_option maxRecDepth 4000

end Go.Proofs.YtjppopabjfncpaaDoor
namespace Go.Proofs.YtjppopabjfncpaaDoor
open Go.RowKit Go.Sort
set_option linter.unusedVariables false
set_option maxRecDepth 4000

/-- The bits of those rows that have just one. -/
def kbit (ks : List RV) (i : Nat) : Bool := ks.any fun r => decide (cnt r.xs = 1) && getB r.xs i
theorem kbit_snoc (ks : List RV) (k : Nat) (hk : k < ks.length) (i : Nat) : kbit (ks.take (k + 1)) i = (kbit (ks.take k) i || (decide (cnt (ks.getD k .dflt).xs = 1) && getB (ks.getD k .dflt).xs i)) := by
  unfold kbit
  rw [List.take_succ_eq_append_getElem hk, List.any_append]
  simp [List.getD_eq_getElem?_getD, List.getElem?_eq_getElem hk]
theorem getB_zeros (xs : List Nat) (m i : Nat) : getB (xs ++ List.replicate m 0) i = getB xs i := by
  unfold getB
  congr 1
  rw [List.getD_eq_getElem?_getD, List.getD_eq_getElem?_getD]
  by_cases h : i / 64 < xs.length
  · rw [List.getElem?_append_left h]
  · rw [List.getElem?_append_right (by omega), List.getElem?_eq_none (l := xs) (by omega), List.getElem?_replicate]
    split <;> rfl
/-- What a round of units leaves. -/
def UnS (w wr : World) (ks : List RV) (k : Nat) (a : Option Addr) (c : Nat) (u : List Nat) : Prop :=
  Own wr w.heap.size (.slice a u.length c) u ∧ (∀ i, getB u i = kbit (ks.take k) i) ∧ u.length ≤ 10 ∧ Below w.heap.size w wr
theorem UnS.skip {w wr w1 : World} {ks : List RV} {k : Nat} {a : Option Addr} {c : Nat} {u : List Nat} (h : UnS w wr ks k a c u) (hk : k < ks.length) (h1 : ¬ cnt (ks.getD k .dflt).xs = 1) (hb : Below wr.heap.size wr w1) : UnS w w1 ks (k + 1) a c u :=
  ⟨h.1.below hb, fun i => by rw [kbit_snoc ks k hk, h.2.1 i, decide_eq_false h1]; simp, h.2.2.1, below0 h.2.2.2 hb⟩
theorem one_bit {xs : List Nat} (hs : smalls xs) (h : cnt xs = 1) : ∃ b : Nat, firstI xs = (b : Int) ∧ b / 64 < xs.length ∧ ∀ i, getB xs i = decide (i = b) := by
  obtain ⟨b, hb⟩ := cnt_one.1 h
  refine ⟨b, firstI_one hs hb, ?_, hb⟩
  rcases Nat.lt_or_ge (b / 64) xs.length with h0 | h0
  · exact h0
  · have := hb b
    rw [getB_out xs b (by omega)] at this
    simp at this

theorem UnS.more {w w3 : World} {ks : List RV} {k : Nat} {u u2 : List Nat} {r : RV} {bt : Nat} {a2 : Option Addr} {n2 c2 : Nat} (hu : ∀ i, getB u i = kbit (ks.take k) i) (hsn : ∀ i, kbit (ks.take (k + 1)) i = (kbit (ks.take k) i || (decide (cnt r.xs = 1) && getB r.xs i)))
    (h1 : cnt r.xs = 1) (hbb : ∀ i, getB r.xs i = decide (i = bt)) (h2 : ∀ i, getB u2 i = getB u i) (hl : u2.length ≤ 10) (hb : bt / 64 < u2.length) (hn : n2 = u2.length) (ho : Own w3 w.heap.size (.slice a2 n2 c2) (setB u2 bt true)) (hB : Below w.heap.size w w3) :
    n2 = (setB u2 bt true).length ∧ UnS w w3 ks (k + 1) a2 c2 (setB u2 bt true) := by
  refine ⟨by rw [setB_length, hn], by rw [setB_length, ← hn]; exact ho, fun i => ?_, by rw [setB_length]; exact hl, hB⟩
  rw [bit_setB _ _ _ _ (by omega), hsn, h2, hu, h1, hbb]
  by_cases e : i = bt
  · simp [e]
  · simp [e]

theorem apart_new {w w2 : World} {B : Nat} {a : Option Addr} {n : Nat} {xs : List Nat} {v : Value} {ys : List Nat} (h : RowAt w a n xs) (ho : Own w2 B v ys) (hB : w.heap.size ≤ B) : n = 0 ∨ ∀ ad, a = some ad → some ad.block ≠ v.ownBlock := by
  rcases h.lt with h0 | h1
  · exact .inl h0
  · refine .inr fun ad e hne => ?_
    have := h1 ad e
    have := (ho.lt hne.symm).1
    omega
theorem Own.at' {w : World} {B : Nat} {a : Option Addr} {n c : Nat} {xs : List Nat} (h : Own w B (.slice a n c) xs) : n = xs.length ∧ RowAt w a xs.length xs := by
  obtain ⟨a1, c1, e, hr⟩ := h.row
  simp only [Value.slice.injEq] at e
  obtain ⟨rfl, rfl, rfl⟩ := e
  exact ⟨rfl, hr⟩
/-- The places of the first k rows that have just one bit that is none of u's. -/
def ripTo (u : List Nat) (rs : List RV) (k : Nat) : List Int := ((List.range k).filter fun i => decide (cnt (dropL (rs.getD i .dflt).xs u) = 1)).map fun (i : Nat) => (i : Int)
theorem ripTo_yes {u : List Nat} {rs : List RV} {k : Nat} (h : cnt (dropL (rs.getD k .dflt).xs u) = 1) : ripTo u rs (k + 1) = ripTo u rs k ++ [(k : Int)] := by
  unfold ripTo
  rw [List.range_succ, List.filter_append, List.map_append]
  simp only [List.filter_cons, List.filter_nil, decide_eq_true h, if_true, List.map_cons, List.map_nil]
theorem ripTo_no {u : List Nat} {rs : List RV} {k : Nat} (h : ¬ cnt (dropL (rs.getD k .dflt).xs u) = 1) : ripTo u rs (k + 1) = ripTo u rs k := by
  unfold ripTo
  rw [List.range_succ, List.filter_append, List.map_append]
  simp only [List.filter_cons, List.filter_nil, decide_eq_false h, Bool.false_eq_true, if_false, List.map_nil, List.append_nil]
theorem ripTo_len (u : List Nat) (rs : List RV) (k : Nat) : (ripTo u rs k).length ≤ k := by
  unfold ripTo
  rw [List.length_map]
  have := List.length_filter_le (fun i => decide (cnt (dropL (rs.getD i .dflt).xs u) = 1)) (List.range k)
  simpa using this

end Go.Proofs.YtjppopabjfncpaaDoor
namespace Go.Proofs.YtjppopabjfncpaaDoor
open Go.RowKit
set_option linter.unusedVariables false
set_option maxRecDepth 4000

theorem OwnT.at {w : World} {B : Nat} {v : Value} {ss : List ByteArray} (h : OwnT w B v ss) (hn : 0 < ss.length) :
    ∃ g cap, v = .slice (some ⟨g, 0, none⟩) ss.length cap ∧ B ≤ g ∧ g < w.heap.size ∧ (∀ i, i < ss.length → w.cell? ⟨g, i, none⟩ = some (.string (ss.getD i ByteArray.empty))) ∧ ∀ i, w.frozen? ⟨g, i, none⟩ = false := by
  have ho' : w.ownsRow B 9 1 v ss.length (cellsT ss) := h
  rcases h.2 with ⟨rfl, h0⟩ | ⟨g, cap, cur, rfl, hb, hg, hn, hm, hsz, ht⟩
  · omega
  · refine ⟨g, cap, rfl, hb, (Array.getElem?_eq_some_iff.1 hg).1, fun i hi => ?_, fun i => ho'.frozenAt i⟩
    rw [ho'.cellAt i (by omega), cellsT_get ss i hi]
theorem OwnT.stored {w : World} {B g cap n : Nat} {ss : List ByteArray} (h : OwnT w B (.slice (some ⟨g, 0, none⟩) n cap) ss) (i : Nat) (x : ByteArray) :
    OwnT (w.setCell ⟨g, i, none⟩ (.string x)) B (.slice (some ⟨g, 0, none⟩) n cap) (ss.set i x) := by
  obtain rfl : n = ss.length := by
    obtain ⟨a, c, e, _⟩ := h.texts
    simp only [Value.slice.injEq] at e
    exact e.2.1
  have ho : w.ownsRow B 9 1 (.slice (some ⟨g, 0, none⟩) ss.length cap) ss.length (cellsT ss) := h
  have := (ho.stored i (.string x)).1
  rw [show (cellsT ss).set i (.string x) = cellsT (ss.set i x) by simp [cellsT, List.map_set]] at this
  show World.ownsRow _ B 9 1 _ (ss.set i x).length _
  rw [List.length_set]
  exact this
theorem made_texts (w : World) (n : Nat) (hn : n ≤ 1048576) (ss : List ByteArray) (hss : ss = List.replicate n ByteArray.empty) :
    OwnT (w.alloc (.cells (madeCells #[.string ByteArray.empty] n) 9)) w.heap.size (.slice (some ⟨w.heap.size, 0, none⟩) n n) ss := by
  subst hss
  refine ⟨by simp [cellsT], .inr ⟨w.heap.size, n, madeCells #[.string ByteArray.empty] n, by simp, Nat.le_refl _, heap_alloc_new w _, by simp, by unfold maxLen; omega, by simp [size_madeCells], ?_⟩⟩
  rw [toList_madeCells_one, List.take_of_length_le (by simp)]
  simp [cellsT]
theorem make_texts (n : Nat) (hn : n ≤ 1048576) (wx : World) : (Instr.makeSlice 25 (.int .i64 (n : Int)) (.int .i64 (n : Int))).run Tryd.prog wx = .ok (.slice (some ⟨wx.heap.size, 0, none⟩) n n) (wx.alloc (.cells (madeCells #[.string ByteArray.empty] n) 9)) := by
  obtain ⟨i0, hi0, hz0, hzs, hzb⟩ := info_parts info_strT
  have := run_make (P := Tryd.prog) wx 25 9 i0 (.string ByteArray.empty) Tryd.underlying25 hi0 hz0 .i64 .i64 (n : Int) (n : Int) (by omega) (Int.le_refl _) (by rw [hzb]; omega) (by omega)
  rw [hzs] at this
  simpa [Value.cells] using this
end Go.Proofs.YtjppopabjfncpaaDoor
namespace Go.Proofs.YtjppopabjfncpaaDoor
open Go.RowKit Go.Sort
set_option linter.unusedVariables false
set_option maxRecDepth 4000

/-- An element of the map: a slice, read as itself. -/
def slElem : Value → Option (DataW Value × List MemPlace)
  | .slice a n c => some (.held (.slice a n c), [])
  | _ => none
theorem slElem_inv {v : Value} {y : DataW Value × List MemPlace} (h : slElem v = some y) : ∃ a n c, v = .slice a n c ∧ y = (.held v, []) := by
  cases v <;> simp [slElem] at h
  exact ⟨_, _, _, rfl, h.symm⟩
theorem lawI : Maps.Keyed Tryd.prog 3 := Maps.int_keyed Tryd.underlying3
theorem zero_u64s (w : World) : (zeroValue 35).run Tryd.prog w = .ok (.slice none 0 0) w := by kernel_rfl
theorem wf_nat {p : Nat} (h : p ≤ 9223372036854775807) : (Lit.int .i64 (p : Int)).wf = true := by
  exact WalkArith.wf_i64 (by omega)
theorem key_nat {p : Nat} (h : p ≤ 9223372036854775807) : keyOf Tryd.prog 3 (.int .i64 (p : Int)) = some (.int .i64 (p : Int)) := Maps.keyOf_int_mk Tryd.underlying3 (wf_nat h)
theorem lit_inj {p q : Nat} (h : Lit.int .i64 (p : Int) = Lit.int .i64 (q : Int)) : p = q := by
  injection h with _ h
  omega
theorem isKey (p : Nat) : WideAt.IsKeyLit (.int .i64 (p : Int)) := trivial
theorem same_lit (p q : Nat) : (Lit.int .i64 (p : Int)).sameKey (.int .i64 (q : Int)) = decide (p = q) := by
  by_cases e : p = q
  · subst e; rw [WideAt.sameKey_self (isKey p)]; simp
  · rw [Maps.sameKey_ne (fun h => e (lit_inj h)), decide_eq_false e]
/-- The map has just the places of S, and at each the slice vs. -/
def RdAs (D : DataW Value) (S : Nat → Bool) (vs : Nat → Value) : Prop :=
  (∀ kl, Maps.has D kl = true → ∃ p : Nat, S p = true ∧ kl = .int .i64 (p : Int)) ∧ ∀ p : Nat, S p = true → ∀ z, D.atKey (.int .i64 (p : Int)) z = .held (vs p)
theorem RdAs.has {D : DataW Value} {S : Nat → Bool} {vs : Nat → Value} (h : RdAs D S vs) (p : Nat) : Maps.has D (.int .i64 (p : Int)) = S p := by
  cases hS : S p
  · cases hh : Maps.has D (.int .i64 (p : Int))
    · rfl
    · obtain ⟨q, hq, e⟩ := h.1 _ hh
      rw [lit_inj e, hq] at hS
      cases hS
  · exact Maps.has_true_of_atKey (h.2 p hS)
theorem RdAs.empty (vs : Nat → Value) : RdAs (.map []) (fun _ => false) vs := ⟨fun kl h => by simp [Maps.has] at h, fun p h => by cases h⟩
theorem RdAs.put {D : DataW Value} {S : Nat → Bool} {vs : Nat → Value} (h : RdAs D S vs) (hD : Maps.IsMap D) {p : Nat} (v : Value) :
    RdAs (D.put (.int .i64 (p : Int)) (.held v)) (fun q => decide (q = p) || S q) (fun q => if q = p then v else vs q) := by
  refine ⟨fun kl hk => ?_, fun q hq z => ?_⟩
  · by_cases e : kl = .int .i64 (p : Int)
    · exact ⟨p, by simp, e⟩
    · rw [Maps.has_put_other e] at hk
      obtain ⟨q, hq, rfl⟩ := h.1 kl hk
      exact ⟨q, by simp [hq], rfl⟩
  · by_cases e : q = p
    · subst e
      rw [Maps.atKey_put_same hD (isKey q)]; simp
    · rw [Maps.atKey_put_other (fun h => e (lit_inj h))]
      simp only [e, if_false]
      exact h.2 q (by simpa [e] using hq) z
theorem RdAs.del {D : DataW Value} {S : Nat → Bool} {vs : Nat → Value} (h : RdAs D S vs) (p : Nat) : RdAs (D.del (.int .i64 (p : Int))) (fun q => S q && !decide (q = p)) vs := by
  refine ⟨fun kl hk => ?_, fun q hq z => ?_⟩
  · by_cases e : kl = .int .i64 (p : Int)
    · rw [e, Maps.has_del_same] at hk; cases hk
    · rw [Maps.has_del_other e] at hk
      obtain ⟨q, hq, rfl⟩ := h.1 kl hk
      have : q ≠ p := fun h => e (by rw [h])
      exact ⟨q, by simp [hq, this], rfl⟩
  · rw [Bool.and_eq_true] at hq
    have : q ≠ p := by simpa using hq.2
    rw [Maps.atKey_del_other (fun h => this (lit_inj h))]
    exact h.2 q hq.1 z
theorem RdAs.congr {D : DataW Value} {S S' : Nat → Bool} {vs vs' : Nat → Value} (h : RdAs D S vs) (hS : ∀ p, S p = S' p) (hv : ∀ p, S p = true → vs p = vs' p) : RdAs D S' vs' := by
  refine ⟨fun kl hk => ?_, fun p hp z => ?_⟩
  · obtain ⟨p, hp, e⟩ := h.1 kl hk
    exact ⟨p, by rw [← hS]; exact hp, e⟩
  · rw [← hS] at hp
    rw [← hv p hp]
    exact h.2 p hp z

section
variable {w : World} {ops : Array Oper} {rest : List Oper} {o : Oper} {act : Act} {Q : Exit → Act → World → Prop}
/-- The slice at a place. -/
def slv (sz : Nat) (f : Nat → Nat × Nat) (p : Nat) : Value := .slice (some ⟨(f p).1, 0, none⟩) sz (f p).2
/-- A step of a range over the map. -/
theorem wpList_next_sl (hg : o.guard = none) (it : Operand) (hop : o.op = Op.next it false) (bm r N sz : Nat) (D : DataW Value) (left : Lit → Bool) (cnt : Nat) (S : Nat → Bool) (f : Nat → Nat × Nat) (hR : RdAs D S (slv sz f))
    (hit : act.eval it = .pointer (some ⟨r, 0, none⟩)) (h : w.ranges Tryd.prog 3 slElem bm r N D left cnt)
    (hDone : (∀ kl, left kl = false) → wpList Tryd.prog ops Q rest (act.put o.dst (.tuple #[.bool false])) w)
    (hMore : ∀ (p gp cp : Nat) (w' : World) (cnt' : Nat), f p = (gp, cp) → S p = true → left (.int .i64 (p : Int)) = true → w'.ranges Tryd.prog 3 slElem bm r N D (fun z => left z && !z.sameKey (.int .i64 (p : Int))) cnt' → cnt' < cnt →
      w.grownBy w' (some r) → (Instr.entry (.pointer (some ⟨r, 0, none⟩))).run Tryd.prog w' = .ok (.tuple #[.int .i64 (p : Int), .slice (some ⟨gp, 0, none⟩) sz cp]) w' → wpList Tryd.prog ops Q rest (act.put o.dst (.tuple #[.bool true, .int .i64 (p : Int), .slice (some ⟨gp, 0, none⟩) sz cp])) w') :
    wpList Tryd.prog ops Q (o :: rest) act w := by
  refine wpList_plain hg fun K' hK' => ?_
  unfold Oper.wp
  rcases h.next lawI o.type with ⟨h0, hl, hrun⟩ | ⟨key, v, kl, y, w', cnt', hkey, hlk, hv, hat, hrun, hrg, hlt, hgr, hsz, hen⟩
  · simp [execOp, hop, hit, hrun, Result.andThen]
    exact hK' _ _ (hDone hl)
  · obtain ⟨p, hp, rfl⟩ := hR.1 kl (Maps.has_true_of_atKey hat)
    obtain ⟨x, rfl, ex, hwx⟩ := Maps.keyOf_int_inv Tryd.underlying3 hkey
    injection ex with _ ex
    subst ex
    obtain ⟨a, n, c, rfl, rfl⟩ := slElem_inv hv
    have e := hat (.held (.slice none 0 0))
    rw [hR.2 p hp] at e
    simp only [DataW.held.injEq, slv, Value.slice.injEq] at e
    obtain ⟨rfl, rfl, rfl⟩ := e
    simp [execOp, hop, hit, hrun, Result.andThen]
    exact hK' _ _ (hMore p (f p).1 (f p).2 w' cnt' rfl hp hlk hrg hlt hgr hen)
end
theorem look_sl {w : World} {bm N sz p : Nat} {D : DataW Value} {S : Nat → Bool} {f : Nat → Nat × Nat} (h : w.ownsMap Tryd.prog 3 slElem bm N D) (hR : RdAs D S (slv sz f)) (hp : S p = true) (hpm : p ≤ 9223372036854775807) :
    (Instr.lookup 95 (.map (some bm)) (.int .i64 (p : Int)) false).run Tryd.prog w = .ok (.slice (some ⟨(f p).1, 0, none⟩) sz (f p).2) w := by
  obtain ⟨v, ps, hrun, hv⟩ := h.lookup lawI Tryd.underlying95 (zero_u64s w) (zd := .held (.slice none 0 0)) (zp := []) rfl (key_nat hpm)
  obtain ⟨a, n, c, rfl, e⟩ := slElem_inv hv
  rw [hR.2 p hp] at e
  simp only [Prod.mk.injEq, DataW.held.injEq, slv, Value.slice.injEq] at e
  obtain ⟨⟨rfl, rfl, rfl⟩, _⟩ := e
  exact hrun
theorem look_sl_ok {w : World} {bm N sz p : Nat} {D : DataW Value} {S : Nat → Bool} {f : Nat → Nat × Nat} (h : w.ownsMap Tryd.prog 3 slElem bm N D) (hR : RdAs D S (slv sz f)) (hp : S p = true) (hpm : p ≤ 9223372036854775807) :
    (Instr.lookup 95 (.map (some bm)) (.int .i64 (p : Int)) true).run Tryd.prog w = .ok (.tuple #[.slice (some ⟨(f p).1, 0, none⟩) sz (f p).2, .bool true]) w := by
  obtain ⟨v, ps, hrun, hv⟩ := h.look_ok lawI Tryd.underlying95 (zero_u64s w) (zd := .held (.slice none 0 0)) (zp := []) rfl (key_nat hpm)
  obtain ⟨a, n, c, rfl, e⟩ := slElem_inv hv
  rw [hR.2 p hp] at e
  simp only [Prod.mk.injEq, DataW.held.injEq, slv, Value.slice.injEq] at e
  obtain ⟨⟨rfl, rfl, rfl⟩, _⟩ := e
  rw [hR.has p, hp] at hrun
  exact hrun
theorem look_sl_no {w : World} {bm N sz p : Nat} {D : DataW Value} {S : Nat → Bool} {f : Nat → Nat × Nat} (h : w.ownsMap Tryd.prog 3 slElem bm N D) (hR : RdAs D S (slv sz f)) (hp : S p = false) (hpm : p ≤ 9223372036854775807) :
    ∃ a n c, (Instr.lookup 95 (.map (some bm)) (.int .i64 (p : Int)) true).run Tryd.prog w = .ok (.tuple #[.slice a n c, .bool false]) w := by
  obtain ⟨v, ps, hrun, hv⟩ := h.look_ok lawI Tryd.underlying95 (zero_u64s w) (zd := .held (.slice none 0 0)) (zp := []) rfl (key_nat hpm)
  obtain ⟨a, n, c, rfl, e⟩ := slElem_inv hv
  rw [hR.has p, hp] at hrun
  exact ⟨a, n, c, hrun⟩

/-- Rows of one's own at the places of S, each in a block of its own. -/
structure Lf (w : World) (B sz : Nat) (S : Nat → Bool) (f : Nat → Nat × Nat) (cs : Nat → List Nat) : Prop where
  own : ∀ p, S p = true → Own w B (.slice (some ⟨(f p).1, 0, none⟩) sz (f p).2) (cs p) ∧ (cs p).length = sz
  two : ∀ p q, S p = true → S q = true → p ≠ q → (f p).1 ≠ (f q).1
theorem Lf.below {w w' : World} {B sz : Nat} {S : Nat → Bool} {f : Nat → Nat × Nat} {cs : Nat → List Nat} (h : Lf w B sz S f cs) (hb : Below w.heap.size w w') : Lf w' B sz S f cs := ⟨fun p hp => ⟨(h.own p hp).1.below hb, (h.own p hp).2⟩, h.two⟩
theorem Lf.kept {w w' : World} {B sz : Nat} {S : Nat → Bool} {f : Nat → Nat × Nat} {cs : Nat → List Nat} {g : Nat} (h : Lf w B sz S f cs) (hg : w.grownBy w' (some g)) (hn : ∀ p, S p = true → (f p).1 ≠ g) : Lf w' B sz S f cs :=
  ⟨fun p hp => ⟨(h.own p hp).1.kept hg (.inr fun e => hn p hp (by simpa [Value.ownBlock] using e)), (h.own p hp).2⟩, h.two⟩
/-- A map is no row of words. -/
theorem own_nomap {w : World} {B g n c bm N : Nat} {xs : List Nat} {D : DataW Value} (h : Own w B (.slice (some ⟨g, 0, none⟩) n c) xs) (hm : w.ownsMap Tryd.prog 3 slElem bm N D) : g ≠ bm := by
  rcases h.2.2 with ⟨e, _⟩ | ⟨g', cap, cur, e, _, hg, _⟩
  · cases e
  · simp only [Value.slice.injEq, Option.some.injEq, Addr.mk.injEq, and_true] at e
    obtain ⟨es, clock, hb, _⟩ := hm
    intro hne
    rw [← hne, e.1, hg] at hb
    cases hb
theorem own_noiter {w : World} {B g n c bm r N cnt : Nat} {xs : List Nat} {D : DataW Value} {left : Lit → Bool} (h : Own w B (.slice (some ⟨g, 0, none⟩) n c) xs) (hm : w.ranges Tryd.prog 3 slElem bm r N D left cnt) : g ≠ r := by
  rcases h.2.2 with ⟨e, _⟩ | ⟨g', cap, cur, e, _, hg, _⟩
  · cases e
  · simp only [Value.slice.injEq, Option.some.injEq, Addr.mk.injEq, and_true] at e
    obtain ⟨es, clock, since, seen, c0, _, _, _, _, hr, _⟩ := hm
    intro hne
    rw [← hne, e.1, hg] at hr
    cases hr
/-- Where a peeling and what it holds lie. -/
structure PV where
  g : Nat
  a : Option Addr
  n : Nat
  c : Nat
  kg : Nat
  kc : Nat
  bg : Nat
  bc : Nat
  bm : Nat
/-- What a peeling holds besides its map. -/
structure PlAt (w : World) (B : Nat) (v : PV) (kn : List Nat) (bs : List ByteArray) : Prop where
  box : w.heap[v.g]? = some (.cells #[.slice v.a v.n v.c, .slice (some ⟨v.kg, 0, none⟩) kn.length v.kc, .slice (some ⟨v.bg, 0, none⟩) bs.length v.bc, .map (some v.bm)] 97 (0, 0))
  known : Own w B (.slice (some ⟨v.kg, 0, none⟩) kn.length v.kc) kn
  blocks : OwnT w B (.slice (some ⟨v.bg, 0, none⟩) bs.length v.bc) bs
theorem PlAt.cells {w : World} {B : Nat} {v : PV} {kn : List Nat} {bs : List ByteArray} (h : PlAt w B v kn bs) :
    w.cell? ⟨v.g, 0, none⟩ = some (.slice v.a v.n v.c) ∧ w.cell? ⟨v.g, 1, none⟩ = some (.slice (some ⟨v.kg, 0, none⟩) kn.length v.kc) ∧ w.cell? ⟨v.g, 2, none⟩ = some (.slice (some ⟨v.bg, 0, none⟩) bs.length v.bc) ∧ w.cell? ⟨v.g, 3, none⟩ = some (.map (some v.bm)) := by
  have := h.box
  refine ⟨?_, ?_, ?_, ?_⟩ <;> simp [World.cell?, this]
theorem PlAt.lt {w : World} {B : Nat} {v : PV} {kn : List Nat} {bs : List ByteArray} (h : PlAt w B v kn bs) : v.g < w.heap.size := (Array.getElem?_eq_some_iff.1 h.box).1
theorem PlAt.below {w w' : World} {B : Nat} {v : PV} {kn : List Nat} {bs : List ByteArray} (h : PlAt w B v kn bs) (hb : Below w.heap.size w w') : PlAt w' B v kn bs := ⟨(hb.block v.g h.lt).trans h.box, h.known.below hb, h.blocks.below hb⟩
theorem OwnT.blk {w : World} {B g n c : Nat} {ss : List ByteArray} (h : OwnT w B (.slice (some ⟨g, 0, none⟩) n c) ss) : ∃ cur, w.heap[g]? = some (.cells cur 9 (0, 0)) := by
  rcases h.2 with ⟨e, _⟩ | ⟨g', cap, cur, e, _, hg, _⟩
  · cases e
  · simp only [Value.slice.injEq, Option.some.injEq, Addr.mk.injEq, and_true] at e
    exact ⟨cur, by rw [e.1]; exact hg⟩
theorem Own.blk {w : World} {B g n c : Nat} {xs : List Nat} (h : Own w B (.slice (some ⟨g, 0, none⟩) n c) xs) : ∃ cur, w.heap[g]? = some (.cells cur 33 (0, 0)) := by
  rcases h.2.2 with ⟨e, _⟩ | ⟨g', cap, cur, e, _, hg, _⟩
  · cases e
  · simp only [Value.slice.injEq, Option.some.injEq, Addr.mk.injEq, and_true] at e
    exact ⟨cur, by rw [e.1]; exact hg⟩
/-- A block that is none of the peeling's is turned. -/
theorem PlAt.kept {w w' : World} {B j : Nat} {v : PV} {kn : List Nat} {bs : List ByteArray} (h : PlAt w B v kn bs) (hg : w.grownBy w' (some j)) (h1 : v.g ≠ j) (h2 : v.kg ≠ j) (h3 : v.bg ≠ j) : PlAt w' B v kn bs :=
  ⟨(hg.block v.g h.lt (by simpa using h1)).trans h.box, h.known.kept hg (.inr fun e => h2 (by simpa [Value.ownBlock] using e)), World.ownsRow.kept h.blocks hg (.inr fun e => h3 (by simpa [Value.ownBlock] using e))⟩
/-- A row of words, the map, the range's own block are none of the peeling's but its known ones. -/
theorem PlAt.row {w w' : World} {B j B' n c : Nat} {v : PV} {kn xs : List Nat} {bs : List ByteArray} (h : PlAt w B v kn bs) (hg : w.grownBy w' (some j)) (ho : Own w B' (.slice (some ⟨j, 0, none⟩) n c) xs) (h2 : v.kg ≠ j) : PlAt w' B v kn bs := by
  obtain ⟨cur, hc⟩ := ho.blk
  obtain ⟨cur2, hc2⟩ := h.blocks.blk
  refine h.kept hg (fun e => ?_) h2 (fun e => ?_)
  · have := h.box
    rw [e, hc] at this
    simp only [Option.some.injEq, Obj.cells.injEq] at this
    exact absurd this.2.1 (by decide)
  · rw [e, hc] at hc2
    simp only [Option.some.injEq, Obj.cells.injEq] at hc2
    exact absurd hc2.2.1 (by decide)
theorem PlAt.nocells {w w' : World} {B j : Nat} {v : PV} {kn : List Nat} {bs : List ByteArray} (h : PlAt w B v kn bs) (hg : w.grownBy w' (some j)) (hj : ∀ cur t m, w.heap[j]? ≠ some (.cells cur t m)) : PlAt w' B v kn bs := by
  obtain ⟨cur, hc⟩ := h.known.blk
  obtain ⟨cur2, hc2⟩ := h.blocks.blk
  exact h.kept hg (fun e => hj _ _ _ (by rw [← e]; exact h.box)) (fun e => hj _ _ _ (by rw [← e]; exact hc)) (fun e => hj _ _ _ (by rw [← e]; exact hc2))
end Go.Proofs.YtjppopabjfncpaaDoor
