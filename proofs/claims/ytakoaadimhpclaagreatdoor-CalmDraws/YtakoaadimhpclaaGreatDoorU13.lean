/-
  Contracts of words.Get and bucketlineref01.Get at every int: for every row of at most 2^20 words.
  Slices of texts that can be read ('TextsAt'); slices of texts of the call's own ('OwnT'): made, appended to. No condition.
-/
import Derived.Test.YtakoaadimhpclaaGreatDoorU7
import Derived.Test.YtakoaadimhpclaaGreatDoorU11
import Derived.OwnWalk
namespace Go.Proofs.YtakoaadimhpclaaGreatDoor
open Go.RowKit
set_option linter.unusedVariables false
set_option linter.unusedSimpArgs false
set_option maxRecDepth 4000

/-- Bit i of a row, for every int. -/
def getI (xs : List Nat) (i : Int) : Bool := if i < 0 then false else getB xs i.toNat
theorem getI_out {xs : List Nat} {i : Int} (h : ¬ (0 ≤ i ∧ i / 64 < (xs.length : Int))) : getI xs i = false := by
  unfold getI
  split
  · rfl
  · exact getB_out xs _ (by omega)
theorem getI_in {xs : List Nat} {i : Int} (h : 0 ≤ i) : getI xs i = getB xs i.toNat := by
  unfold getI
  rw [if_neg (by omega)]
theorem get_any (a : Option Addr) (n c : Nat) (xs : List Nat) (i : Int) (w : World) (h : RowAt w a n xs) (hn : n ≤ 1048576) (hi : i ≤ 9223372036854775807) :
    Calls Tryz.prog 50 #[.slice a n c, .int .i64 i] w fun e w' => e = .returned (.bool (getI xs i)) ∧ ∃ d, w' = w.drewN d := by
  by_cases hin : 0 ≤ i ∧ i / 64 < (xs.length : Int)
  · rw [getI_in hin.1]
    exact get_in a n c xs i w h hin.1 hi (by rw [← h.1]; exact hin.2) (by omega)
  · rw [getI_out hin]
    exact get_out a n c i w hi (by rw [← h.1]; omega)
theorem getI_nat (xs : List Nat) (k : Nat) : getI xs (k : Int) = getB xs k := by rw [getI_in (by omega), Int.toNat_natCast]
theorem getN_any (a : Option Addr) (n c : Nat) (xs : List Nat) (k : Nat) (w : World) (h : RowAt w a n xs) (hn : n ≤ 1048576) (hk : k ≤ 9223372036854775807) :
    Calls Tryz.prog 50 #[.slice a n c, .int .i64 (k : Int)] w fun e w' => e = .returned (.bool (getB xs k)) ∧ Below w.heap.size w w' := by
  refine (get_any a n c xs k w h hn (by omega)).mono ?_
  rintro e w' ⟨rfl, d, rfl⟩
  rw [getI_nat]
  exact ⟨rfl, below_drewN (Below.refl _ _) d⟩
end Go.Proofs.YtakoaadimhpclaaGreatDoor
namespace Go.Proofs.YtakoaadimhpclaaGreatDoor
open Go.RowKit
set_option linter.unusedVariables false
set_option linter.unusedSimpArgs false
set_option maxRecDepth 4000

/-- A slice of n texts that can be read: they are ss. -/
def TextsAt (w : World) (a : Option Addr) (n : Nat) (ss : List ByteArray) : Prop :=
  ss.length = n ∧ (n = 0 ∨ ∃ b off, a = some ⟨b, off, none⟩ ∧ ∀ i, i < n → w.cell? ⟨b, off + i, none⟩ = some (.string (ss.getD i ByteArray.empty)))
theorem TextsAt.at {w : World} {a : Option Addr} {n : Nat} {ss : List ByteArray} (h : TextsAt w a n ss) {i : Nat} (hi : i < n) :
    ∃ b off, a = some ⟨b, off, none⟩ ∧ ∀ i, i < n → w.cell? ⟨b, off + i, none⟩ = some (.string (ss.getD i ByteArray.empty)) := by
  rcases h.2 with h0 | h0
  · omega
  · exact h0
theorem TextsAt.below {w w' : World} {a : Option Addr} {n : Nat} {ss : List ByteArray} (h : TextsAt w a n ss) (hb : Below w.heap.size w w') : TextsAt w' a n ss := by
  refine ⟨h.1, ?_⟩
  rcases h.2 with h0 | ⟨b, off, rfl, hc⟩
  · exact .inl h0
  · exact .inr ⟨b, off, rfl, fun i hi => (hb.cell (World.block_lt_of_cell? w _ (hc i hi))).trans (hc i hi)⟩
def shorts (ss : List ByteArray) : Prop := ∀ s ∈ ss, s.size ≤ 1048576
theorem shorts.get {ss : List ByteArray} (h : shorts ss) (i : Nat) : (ss.getD i ByteArray.empty).size ≤ 1048576 := by
  rw [List.getD_eq_getElem?_getD]
  cases hx : ss[i]? with
  | none => simp
  | some x => exact h x (List.mem_of_getElem? hx)

theorem TextsAt.none (w : World) : TextsAt w none 0 [] := ⟨rfl, .inl rfl⟩
theorem info_strT : (Tryz.prog.info? 9).map (fun i => (i.zero, i.size, i.bytes)) = some (some (.string ByteArray.empty), 1, 16) := by kernel_rfl
/-- The cells of texts. -/
def cellsT (ss : List ByteArray) : List Value := ss.map Value.string
theorem cellsT_get (ss : List ByteArray) (i : Nat) (h : i < ss.length) : (cellsT ss)[i]? = some (.string (ss.getD i ByteArray.empty)) := by
  simp [cellsT, List.getElem?_eq_getElem h, List.getD_eq_getElem?_getD]
/-- A slice of texts of the call's own that can grow. -/
def OwnT (w : World) (B : Nat) (v : Value) (ss : List ByteArray) : Prop := w.ownsRow B 9 1 v ss.length (cellsT ss)
theorem OwnT.nil (w : World) (B : Nat) : OwnT w B (.slice none 0 0) [] := World.ownsRow_nil _ _ _ _
theorem OwnT.texts {w : World} {B : Nat} {v : Value} {ss : List ByteArray} (h : OwnT w B v ss) : ∃ a c, v = .slice a ss.length c ∧ TextsAt w a ss.length ss := by
  have h' : w.ownsRow B 9 1 v ss.length (cellsT ss) := h
  rcases h.2 with ⟨rfl, h0⟩ | ⟨g, cap, cur, rfl, hb, hg, hn, hm, hsz, ht⟩
  · exact ⟨none, 0, by rw [h0], rfl, .inl h0⟩
  · refine ⟨_, cap, rfl, rfl, .inr ⟨g, 0, rfl, fun i hi => ?_⟩⟩
    rw [Nat.zero_add, h'.cellAt i (by omega), cellsT_get ss i hi]
theorem OwnT.mono {w : World} {B B' : Nat} {v : Value} {ss : List ByteArray} (h : OwnT w B v ss) (hB : B' ≤ B) : OwnT w B' v ss := by
  refine ⟨h.1, ?_⟩
  rcases h.2 with h0 | ⟨g, cap, cur, h1, hb, r⟩
  · exact .inl h0
  · exact .inr ⟨g, cap, cur, h1, Nat.le_trans hB hb, r⟩
theorem OwnT.below {w w' : World} {B : Nat} {v : Value} {ss : List ByteArray} (h : OwnT w B v ss) (hb : Below w.heap.size w w') : OwnT w' B v ss := by
  refine ⟨h.1, ?_⟩
  rcases h.2 with h0 | ⟨g, cap, cur, h1, hg, hgg, r⟩
  · exact .inl h0
  · exact .inr ⟨g, cap, cur, h1, hg, (hb.block g (Array.getElem?_eq_some_iff.1 hgg).1).trans hgg, r⟩
/-- 'append(l, t)'. -/
theorem wpList_pushT {w : World} {ops : Array Oper} {rest : List Oper} {o : Oper} {act : Act} {Q : Exit → Act → World → Prop} (hgd : o.guard = none) (s x : Operand)
    (ho : o.op = .call { callee := .builtin .append, args := #[s, x], argTypes := #[39, 39] }) (B : Nat) (v : Value) (ss : List ByteArray) (t : ByteArray)
    (hs : act.eval s = v) (hx : act.eval x = .slice (some ⟨w.heap.size, 0, none⟩) 1 1) (h : OwnT w B v ss) (hB : B ≤ w.heap.size) (hn : ss.length ≤ 1048576)
    (hK : ∀ s' w', OwnT w' B s' (ss ++ [t]) → Below B w w' → wpList Tryz.prog ops Q rest (act.put o.dst s') w') : wpList Tryz.prog ops Q (o :: rest) act (w.alloc (.cells #[.string t] 9)) := by
  obtain ⟨i0, hi, hz0, hz1, hz2⟩ := info_parts info_strT
  have hb : Below w.heap.size w (w.alloc (.cells #[.string t] 9)) := (Below.refl _ _).alloc (Nat.le_refl _) _
  have h1 : (w.alloc (.cells #[.string t] 9)).ownsRow B 9 1 v ss.length (cellsT ss) := h.below hb
  refine wpList_append_own _ hgd s x 39 ho B 9 i0 (.string ByteArray.empty) 1 16 Tryz.underlying39 hi hz0 hz1 hz2 rfl (by decide) v ss.length (cellsT ss) hs h1 ⟨w.heap.size, 0, none⟩ 1 1 [.string t] hx rfl (fun j u hj => ?_)
    (fun u hu => by rw [List.mem_singleton.1 hu]; rfl) (by unfold maxLen; omega) (by omega) (Nat.le_trans hB hb.size) ?_
  · match j with
    | 0 =>
      have hc : (w.alloc (.cells #[.string t] 9)).cell? ⟨w.heap.size, 0, none⟩ = some (.string t) := by rw [World.cell?_alloc_at _ _ _ _ rfl]; rfl
      simpa [Addr.add, hc] using hj
    | j + 1 => simp at hj
  · intro v' w' hown hgrow _
    refine hK v' w' ?_ ((hb.mono hB).grown hgrow (Nat.le_trans hB hb.size) fun k hk => (h1.lt k hk).1)
    rw [show cellsT ss ++ [.string t] = cellsT (ss ++ [t]) by simp [cellsT]] at hown
    show w'.ownsRow B 9 1 v' (ss ++ [t]).length (cellsT (ss ++ [t]))
    rw [List.length_append]
    exact hown
end Go.Proofs.YtakoaadimhpclaaGreatDoor
