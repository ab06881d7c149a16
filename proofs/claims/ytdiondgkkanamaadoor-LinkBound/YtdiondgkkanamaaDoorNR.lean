/-
  Appending one byte or one word to a row of one's own; contracts of bucketlineref06.Put, PutVec: for every int, rows of at most 2^20 words.
-/
import Derived.Test.YtdiondgkkanamaaDoorNP
namespace Go.Proofs.YtdiondgkkanamaaDoor
open Go.RowKit
set_option linter.unusedVariables false
set_option maxRecDepth 4000

/-- A slice of bytes of the call's own that can grow. -/
def OwnR (w : World) (B : Nat) (v : Value) (xs : List Nat) : Prop := bytes xs ∧ w.ownsRow B 5 1 v xs.length (cellsB xs)
theorem OwnR.nil (w : World) (B : Nat) : OwnR w B (.slice none 0 0) [] := ⟨bytes_nil, World.ownsRow_nil _ _ _ _⟩
theorem ownsRow_under {w w' : World} {B : Nat} {e : TypeId} {v : Value} {n : Nat} {cs : List Value} (h : w.ownsRow B e 1 v n cs) (hb : Below w.heap.size w w') : w'.ownsRow B e 1 v n cs := by
  refine ⟨h.1, ?_⟩
  rcases h.2 with h0 | ⟨g, cap, cur, h1, hg, hgg, r⟩
  · exact .inl h0
  · exact .inr ⟨g, cap, cur, h1, hg, (hb.block g (Array.getElem?_eq_some_iff.1 hgg).1).trans hgg, r⟩
theorem OwnR.slice {w : World} {B : Nat} {v : Value} {xs : List Nat} (h : OwnR w B v xs) : ∃ a c, v = .slice a xs.length c := by
  rcases h.2.2 with ⟨rfl, h0⟩ | ⟨g, cap, cur, rfl, _⟩
  · exact ⟨none, 0, by rw [h0]⟩
  · exact ⟨_, _, rfl⟩
theorem OwnR.toB {w : World} {B : Nat} {v : Value} {xs : List Nat} (h : OwnR w B v xs) : OwnB w B v xs := by
  obtain ⟨hs, ho⟩ := h
  have ho' := ho
  refine ⟨hs, ?_⟩
  rcases ho.2 with ⟨rfl, h0⟩ | ⟨g, cap, cur, rfl, hb, hg, hn, hm, hsz, ht⟩
  · exact .inl ⟨rfl, List.eq_nil_of_length_eq_zero h0⟩
  · refine .inr ⟨g, cap, rfl, hb, (Array.getElem?_eq_some_iff.1 hg).1, fun i hi => ?_, fun i _ => ho'.frozenAt i⟩
    rw [ho'.cellAt i (by omega), cellsB_get xs i hi]
theorem wpList_pushB {w : World} {ops : Array Oper} {rest : List Oper} {o : Oper} {act : Act} {Q : Exit → Act → World → Prop} (hgd : o.guard = none) (s x : Operand)
    (ho : o.op = .call { callee := .builtin .append, args := #[s, x], argTypes := #[83, 83] }) (B : Nat) (v : Value) (xs : List Nat) (y : Nat)
    (hs : act.eval s = v) (hx : act.eval x = .slice (some ⟨w.heap.size, 0, none⟩) 1 1) (h : OwnR w B v xs) (hB : B ≤ w.heap.size) (hn : xs.length ≤ 1073741824) (hy : y < 256) {c : Int} (hc : c = (y : Int))
    (hK : ∀ s' w', OwnR w' B s' (xs ++ [y]) → Below B w w' → wpList Tryd.prog ops Q rest (act.put o.dst s') w') : wpList Tryd.prog ops Q (o :: rest) act (w.alloc (.cells #[.int .u8 c] 5)) := by
  subst hc
  obtain ⟨i0, hi, hz0, hz1, hz2⟩ := info_parts info_u8
  have hb : Below w.heap.size w (w.alloc (.cells #[.int .u8 (y : Int)] 5)) := (Below.refl _ _).alloc (Nat.le_refl _) _
  have h1 := ownsRow_under h.2 hb
  refine wpList_append_own _ hgd s x 83 ho B 5 i0 (.int .u8 0) 1 1 Tryd.underlying83 hi hz0 hz1 hz2 rfl (by decide) v xs.length (cellsB xs) hs h1 ⟨w.heap.size, 0, none⟩ 1 1 [.int .u8 (y : Int)] hx rfl (fun j u hj => ?_)
    (fun u hu => by rw [List.mem_singleton.1 hu]; rfl) (by unfold maxLen; omega) (by omega) (Nat.le_trans hB hb.size) ?_
  · match j with
    | 0 =>
      have hc : (w.alloc (.cells #[.int .u8 (y : Int)] 5)).cell? ⟨w.heap.size, 0, none⟩ = some (.int .u8 (y : Int)) := by rw [World.cell?_alloc_at _ _ _ _ rfl]; rfl
      simpa [Addr.add, hc] using hj
    | j + 1 => simp at hj
  · intro v' w' hown hgrow _
    refine hK v' w' ⟨bytes_append h.1 (fun z hz => by rw [List.mem_singleton.1 hz]; exact hy), ?_⟩ ((hb.mono hB).grown hgrow (Nat.le_trans hB hb.size) fun k hk => (h1.lt k hk).1)
    rw [cellsB_snoc] at hown
    show w'.ownsRow B 5 1 v' (xs ++ [y]).length (cellsB (xs ++ [y]))
    rw [List.length_append]
    exact hown
theorem wpList_pushU {w : World} {ops : Array Oper} {rest : List Oper} {o : Oper} {act : Act} {Q : Exit → Act → World → Prop} (hgd : o.guard = none) (s x : Operand)
    (ho : o.op = .call { callee := .builtin .append, args := #[s, x], argTypes := #[30, 30] }) (B : Nat) (v : Value) (xs : List Nat) (y : Nat)
    (hs : act.eval s = v) (hx : act.eval x = .slice (some ⟨w.heap.size, 0, none⟩) 1 1) (h : Own w B v xs) (hB : B ≤ w.heap.size) (hn : xs.length ≤ 1048576) (hy : y < 18446744073709551616) {c : Int} (hc : c = (y : Int))
    (hK : ∀ s' w', Own w' B s' (xs ++ [y]) → Below B w w' → wpList Tryd.prog ops Q rest (act.put o.dst s') w') : wpList Tryd.prog ops Q (o :: rest) act (w.alloc (.cells #[.int .u64 c] 72)) := by
  subst hc
  obtain ⟨i0, hi, hz0, hz1, hz2⟩ := info_parts info_u64
  have hb : Below w.heap.size w (w.alloc (.cells #[.int .u64 (y : Int)] 72)) := (Below.refl _ _).alloc (Nat.le_refl _) _
  have h1 := ownsRow_under h.2 hb
  refine wpList_append_own _ hgd s x 30 ho B 72 i0 (.int .u64 0) 1 8 Tryd.underlying30 hi hz0 hz1 hz2 rfl (by decide) v xs.length (cellsU xs) hs h1 ⟨w.heap.size, 0, none⟩ 1 1 [.int .u64 (y : Int)] hx rfl (fun j u hj => ?_)
    (fun u hu => by rw [List.mem_singleton.1 hu]; rfl) (by unfold maxLen; omega) (by omega) (Nat.le_trans hB hb.size) ?_
  · match j with
    | 0 =>
      have hc : (w.alloc (.cells #[.int .u64 (y : Int)] 72)).cell? ⟨w.heap.size, 0, none⟩ = some (.int .u64 (y : Int)) := by rw [World.cell?_alloc_at _ _ _ _ rfl]; rfl
      simpa [Addr.add, hc] using hj
    | j + 1 => simp at hj
  · intro v' w' hown hgrow _
    refine hK v' w' ⟨fun z hz => ?_, ?_⟩ ((hb.mono hB).grown hgrow (Nat.le_trans hB hb.size) fun k hk => (h1.lt k hk).1)
    · rcases List.mem_append.1 hz with hz | hz
      · exact h.1 z hz
      · rw [List.mem_singleton.1 hz]; exact hy
    · rw [show cellsU xs ++ [.int .u64 (y : Int)] = cellsU (xs ++ [y]) by simp [cellsU]] at hown
      show w'.ownsRow B 72 1 v' (xs ++ [y]).length (cellsU (xs ++ [y]))
      rw [List.length_append]
      exact hown

theorem byte_int (n : Int) (d : Nat) (hd : d ≤ 3) : n / 2 ^ (8 * d) % 256 = ((m64 n / 256 ^ d % 256 : Nat) : Int) := by
  unfold m64
  match d, hd with
  | 0, _ => simp only [Nat.mul_zero, Int.pow_zero, Nat.pow_zero]; omega
  | 1, _ => simp only [show (2 : Int) ^ (8 * 1) = 256 from rfl, show 256 ^ 1 = 256 from rfl]; omega
  | 2, _ => simp only [show (2 : Int) ^ (8 * 2) = 65536 from rfl, show 256 ^ 2 = 65536 from rfl]; omega
  | 3, _ => simp only [show (2 : Int) ^ (8 * 3) = 16777216 from rfl, show 256 ^ 3 = 16777216 from rfl]; omega


end Go.Proofs.YtdiondgkkanamaaDoor
