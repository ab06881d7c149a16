/-
  Contract of bucketlineref04.Express: for rows of at most 1000 words, at most 100000 of them.
  Contracts of Express, the program's and the reference's, in one form; of bucketlinelaw04.awake; the walks of the laws SpanKeeps and SpanExpresses: for every input, in every world that holds the table of math/bits, each tells true and writes nothing that was there.
-/
import Derived.Test.YteamniigiogaeaaDoorKH
import Derived.Test.YteamniigiogaeaaDoorKF
namespace Go.Proofs.YteamniigiogaeaaDoor
open Go.RowKit Go.Sort
set_option linter.unusedVariables false
set_option maxRecDepth 4000

/-- What is told, by the place of the first bit that is left. -/
def RexIs (EX : List Nat) (EB : Bool) (ps : List Nat) (W : Nat) (r : List Nat) : Prop := EX = rexL ps W r ∧ EB = rexB W r
def RexF (EX : List Nat) (EB : Bool) (CH : List Nat) (W : Nat) (f : Int) : Prop := ((f < 0 ∨ 64 * (W : Int) ≤ f) → EX = CH ∧ EB = true) ∧ ((0 ≤ f ∧ f < 64 * (W : Int)) → EX = [] ∧ EB = false)
theorem RexIs.at {EX : List Nat} {EB : Bool} {ps : List Nat} {W : Nat} {r : List Nat} (h : RexIs EX EB ps W r) : RexF EX EB (chosenL ps (fun i => getB r (64 * W + i)) ps.length) W (firstI r) := by
  obtain ⟨rfl, rfl⟩ := h
  refine ⟨fun hf => ?_, fun hf => ?_⟩
  · have hn : ¬ (0 ≤ firstI r ∧ firstI r < 64 * (W : Int)) := by omega
    unfold rexL rexB
    rw [if_neg hn, decide_eq_false hn]
    exact ⟨rfl, rfl⟩
  · unfold rexL rexB
    rw [if_pos hf, decide_eq_true hf]
    exact ⟨rfl, rfl⟩

end Go.Proofs.YteamniigiogaeaaDoor
namespace Go.Proofs.YteamniigiogaeaaDoor
open Go.RowKit Go.Sort
set_option linter.unusedVariables false
set_option maxRecDepth 4000

theorem express_any (a : Option Addr) (n c : Nat) (rs : List (List Nat)) (a' : Option Addr) (m c' : Nat) (xs : List Nat) (w : World) (ht : Tab w) (h : VecsAt w a n rs) (hf : Fit 1048576 rs) (h' : RowAt w a' m xs) (hn : n ≤ 100000) (hm : m ≤ 1048576) :
    Calls Tryd.prog 61 #[.slice a n c, .slice a' m c'] w fun e w' => ∃ v, e = .returned (.tuple #[v, .bool (!freshB rs xs)]) ∧ OwnI w' w.heap.size v (exL rs xs) ∧ Below w.heap.size w w' := by
  by_cases hy : firstI (reduceL (broughtL rs) xs) < 0
  · have e1 : exL rs xs = exprL rs xs := by unfold exL; rw [if_pos hy]
    have e2 : freshB rs xs = false := by unfold freshB; rw [decide_eq_true hy]; rfl
    rw [e1, e2]
    exact express_yes a n c rs a' m c' xs w ht h hf h' hn hm hy
  · have e1 : exL rs xs = [] := by unfold exL; rw [if_neg hy]
    have e2 : freshB rs xs = true := by unfold freshB; rw [decide_eq_false hy]; rfl
    rw [e1, e2]
    refine (express_no a n c rs a' m c' xs w ht h hf h' hn hm hy).mono ?_
    rintro e w' ⟨rfl, hb⟩
    exact ⟨_, rfl, OwnI.nil _ _, hb⟩

theorem lit_ints (w : World) (x y : Nat) : IntsAt (w.alloc (.cells #[.int .i64 (x : Int), .int .i64 (y : Int)] 3)) (some ⟨w.heap.size, 0, none⟩) 2 [x, y] := by
  refine ⟨rfl, .inr ⟨w.heap.size, 0, rfl, fun i hi => ?_⟩⟩
  match i, hi with
  | 0, _ => simp
  | 1, _ => simp
theorem aw_keep : keepL [[3], [3], [1]] 3 = [0, 2] := by decide
theorem aw_ex : exL [[3], [3], [1]] [2] = [0, 2] := by decide
theorem aw_ok : freshB [[3], [3], [1]] [2] = false := by decide
theorem aw_no : freshB [[3], [3], [1]] [4] = true := by decide
theorem aw_nil : freshB [[3], [3], [1]] [] = false := by decide
theorem a5_below (w : World) (o o' o'' o3 o4 : Obj) : Below w.heap.size w (((((w.alloc o).alloc o').alloc o'').alloc o3).alloc o4) := below0 (a4_below w o o' o'' o3) (alloc_below _ o4)
theorem aw_fit : Fit 1048576 [[3], [3], [1]] := fit_one (by decide)
theorem aw_fit_of (rs : List (List Nat)) (h : rs = [[3], [3], [1]]) : Fit 1048576 rs := by rw [h]; exact aw_fit
theorem aw_e2 (rs : List (List Nat)) (hrs : rs = [[3], [3], [1]]) (xs : List Nat) (hxs : xs = [2]) (a : Option Addr) (c : Nat) (a' : Option Addr) (c' : Nat) (w : World) (ht : Tab w) (h : VecsAt w a 3 rs) (h' : RowAt w a' 1 xs) :
    Calls Tryd.prog 61 #[.slice a 3 c, .slice a' 1 c'] w fun e w' => ∃ a1 c1, e = .returned (.tuple #[.slice a1 2 c1, .bool true]) ∧ IntsAt w' a1 2 [0, 2] ∧ Below w.heap.size w w' := by
  refine (express_any a 3 c rs a' 1 c' xs w ht h (aw_fit_of rs hrs) h' (by omega) (by omega)).mono ?_
  subst hrs hxs
  rintro e w' ⟨v, he, hI, hb⟩
  rw [aw_ok] at he
  rw [aw_ex] at hI
  obtain ⟨a1, c1, e1, hi⟩ := hI.ints
  rw [e1] at he
  exact ⟨a1, c1, he, hi, hb⟩
theorem aw_e4 (rs : List (List Nat)) (hrs : rs = [[3], [3], [1]]) (xs : List Nat) (hxs : xs = [4]) (a : Option Addr) (c : Nat) (a' : Option Addr) (c' : Nat) (w : World) (ht : Tab w) (h : VecsAt w a 3 rs) (h' : RowAt w a' 1 xs) :
    Calls Tryd.prog 61 #[.slice a 3 c, .slice a' 1 c'] w fun e w' => ∃ a1 l1 c1, e = .returned (.tuple #[.slice a1 l1 c1, .bool false]) ∧ Below w.heap.size w w' := by
  refine (express_any a 3 c rs a' 1 c' xs w ht h (aw_fit_of rs hrs) h' (by omega) (by omega)).mono ?_
  subst hrs hxs
  rintro e w' ⟨v, he, hI, hb⟩
  rw [aw_no] at he
  obtain ⟨a1, c1, e1, hi⟩ := hI.ints
  rw [e1] at he
  exact ⟨a1, _, c1, he, hb⟩
theorem aw_k (rs : List (List Nat)) (hrs : rs = [[3], [3], [1]]) (a : Option Addr) (c : Nat) (w : World) (ht : Tab w) (h : VecsAt w a 3 rs) :
    Calls Tryd.prog 36 #[.slice a 3 c] w fun e w' => ∃ a1 c1, e = .returned (.slice a1 2 c1) ∧ IntsAt w' a1 2 [0, 2] ∧ Below w.heap.size w w' := by
  refine (keep_any a 3 c rs w ht h (aw_fit_of rs hrs) (by omega)).mono ?_
  subst hrs
  rintro e w' ⟨v, he, hI, hb⟩
  rw [show [[3], [3], [1]].length = 3 from rfl, aw_keep] at hI
  obtain ⟨a1, c1, e1, hi⟩ := hI.ints
  rw [e1] at he
  exact ⟨a1, c1, he, hi, hb⟩
end Go.Proofs.YteamniigiogaeaaDoor
