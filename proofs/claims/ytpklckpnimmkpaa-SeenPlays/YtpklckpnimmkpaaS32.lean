/-
  Slices of uint32 that can be read ('U32At'); such slices of the call's own ('Own32'): copied, appended to, cut. At most 2^20 of them.
-/
import Derived.Test.YtpklckpnimmkpaaMem
import Derived.Test.YtpklckpnimmkpaaAp
import Derived.OwnWalk
namespace Go.Proofs.Ytpklckpnimmkpaa
open Go.RowKit
set_option linter.unusedVariables false
set_option maxRecDepth 4000

/-- A slice of n uint32 that can be read: they are L. -/
def U32At (w : World) (a : Option Addr) (n : Nat) (L : List Nat) : Prop :=
  L.length = n ∧ (n = 0 ∨ ∃ b off, a = some ⟨b, off, none⟩ ∧ ∀ i, i < n → w.cell? ⟨b, off + i, none⟩ = some (.int .u32 ((L.getD i 0 : Nat) : Int)))
theorem U32At.at {w : World} {a : Option Addr} {n : Nat} {L : List Nat} (h : U32At w a n L) {i : Nat} (hi : i < n) :
    ∃ b off, a = some ⟨b, off, none⟩ ∧ ∀ i, i < n → w.cell? ⟨b, off + i, none⟩ = some (.int .u32 ((L.getD i 0 : Nat) : Int)) := by
  rcases h.2 with h0 | h0
  · omega
  · exact h0
theorem U32At.below {w w' : World} {a : Option Addr} {n : Nat} {L : List Nat} (h : U32At w a n L) (hb : Below w.heap.size w w') : U32At w' a n L := by
  refine ⟨h.1, ?_⟩
  rcases h.2 with h0 | ⟨b, off, rfl, hc⟩
  · exact .inl h0
  · exact .inr ⟨b, off, rfl, fun i hi => (hb.cell (World.block_lt_of_cell? w _ (hc i hi))).trans (hc i hi)⟩
theorem U32At.nil (w : World) : U32At w none 0 [] := ⟨rfl, .inl rfl⟩
theorem info_u32T : (Try.prog.info? 29).map (fun i => (i.zero, i.size, i.bytes)) = some (some (.int .u32 0), 1, 4) := by kernel_rfl
/-- The cells. -/
def cells32 (L : List Nat) : List Value := L.map fun (x : Nat) => Value.int .u32 (x : Int)
theorem cells32_length (L : List Nat) : (cells32 L).length = L.length := by simp [cells32]
theorem cells32_get (L : List Nat) (i : Nat) (h : i < L.length) : (cells32 L)[i]? = some (.int .u32 ((L.getD i 0 : Nat) : Int)) := by
  simp [cells32, List.getElem?_eq_getElem h, List.getD_eq_getElem?_getD]
theorem cells32_one (L : List Nat) : ∀ u ∈ cells32 L, u.oneCell' = true := by
  intro u hu
  obtain ⟨_, _, rfl⟩ := List.mem_map.1 hu
  rfl
/-- A slice of the call's own that can grow. -/
def Own32 (w : World) (B : Nat) (v : Value) (L : List Nat) : Prop := w.ownsRow B 29 1 v L.length (cells32 L)
theorem Own32.nil (w : World) (B : Nat) : Own32 w B (.slice none 0 0) [] := World.ownsRow_nil _ _ _ _
theorem Own32.all {w : World} {B : Nat} {v : Value} {L : List Nat} (h : Own32 w B v L) : ∃ a c, v = .slice a L.length c ∧ U32At w a L.length L ∧ L.length ≤ c := by
  have h' : w.ownsRow B 29 1 v L.length (cells32 L) := h
  rcases h.2 with ⟨rfl, h0⟩ | ⟨g, cap, cur, rfl, hb, hg, hn, hm, hsz, ht⟩
  · exact ⟨none, 0, by rw [h0], ⟨rfl, .inl h0⟩, by omega⟩
  · refine ⟨_, cap, rfl, ⟨rfl, .inr ⟨g, 0, rfl, fun i hi => ?_⟩⟩, hn⟩
    rw [Nat.zero_add, h'.cellAt i (by omega), cells32_get L i hi]
theorem Own32.below {w w' : World} {B : Nat} {v : Value} {L : List Nat} (h : Own32 w B v L) (hb : Below w.heap.size w w') : Own32 w' B v L := by
  refine ⟨h.1, ?_⟩
  rcases h.2 with h0 | ⟨g, cap, cur, h1, hg, hgg, r⟩
  · exact .inl h0
  · exact .inr ⟨g, cap, cur, h1, hg, (hb.block g (Array.getElem?_eq_some_iff.1 hgg).1).trans hgg, r⟩
theorem U32At.news {w : World} {ad : Addr} {n : Nat} {L : List Nat} (h : U32At w (some ad) n L) : ∀ j u, (cells32 L)[j]? = some u → w.cell? (ad.add j) = some u := by
  intro j u hj
  have hlt : j < L.length := by
    have := (List.getElem?_eq_some_iff.1 hj).1
    rwa [cells32_length] at this
  obtain ⟨b, off, he, hc⟩ := h.at (i := j) (by rw [← h.1]; exact hlt)
  simp only [Option.some.injEq] at he
  subst he
  rw [cells32_get L j hlt] at hj
  have := hc j (by rw [← h.1]; exact hlt)
  by_cases h0 : j = 0
  · subst h0
    simpa [Addr.add, hj] using this.trans hj
  · simpa [Addr.add, h0] using this.trans hj
/-- 'append([]uint32(nil), xs...)'. -/
theorem wpList_append_nil32 {w : World} {ops : Array Oper} {rest : List Oper} {o : Oper} {act : Act} {Q : Exit → Act → World → Prop} (hgd : o.guard = none) (s x : Operand)
    (ho : o.op = .call { callee := .builtin .append, args := #[s, x], argTypes := #[36, 36] }) (a : Option Addr) (n c : Nat) (L : List Nat)
    (hs : act.eval s = .slice none 0 0) (hx : act.eval x = .slice a n c) (h : U32At w a n L) (hn : n ≤ 1048576)
    (hK : ∀ v' w', Own32 w' w.heap.size v' L → Below w.heap.size w w' → wpList Try.prog ops Q rest (act.put o.dst v') w') : wpList Try.prog ops Q (o :: rest) act w := by
  obtain ⟨i0, hi, hz0, hz1, hz2⟩ := info_parts info_u32T
  cases a with
  | none =>
    have h0 : n = 0 := by
      rcases h.2 with h0 | ⟨b, off, h1, _⟩
      · exact h0
      · cases h1
    subst h0
    have hxs : L = [] := List.eq_nil_of_length_eq_zero h.1
    subst hxs
    refine wpList_plain hgd fun K hK' => ?_
    have hrun := run_append_nil_any 36 o.type 29 Try.underlying36 i0 hi c w
    unfold Oper.wp
    simp [execOp, ho, resolve, invoke, builtin, hs, hx, hrun, Result.andThen]
    exact hK' _ _ (hK _ _ (Own32.nil _ _) (Below.refl _ _))
  | some ad =>
    refine wpList_append_own w hgd s x 36 ho w.heap.size 29 i0 (.int .u32 0) 1 4 Try.underlying36 hi hz0 hz1 hz2 rfl (by decide) (.slice none 0 0) 0 [] hs (World.ownsRow_nil _ _ _ _) ad n c (cells32 L) hx
      (by rw [cells32_length, h.1, Nat.mul_one]) h.news (cells32_one L) (by unfold maxLen; omega) (by omega) (Nat.le_refl _) ?_
    intro v' w' hown hgrow _
    refine hK v' w' ?_ ((Below.refl _ _).grown hgrow (Nat.le_refl _) (fun k hk => by simp [Value.ownBlock] at hk))
    show w'.ownsRow w.heap.size 29 1 v' L.length (cells32 L)
    rw [h.1]
    simpa using hown
/-- 'append(l, x)'. -/
theorem wpList_push32 {w : World} {ops : Array Oper} {rest : List Oper} {o : Oper} {act : Act} {Q : Exit → Act → World → Prop} (hgd : o.guard = none) (s x : Operand)
    (ho : o.op = .call { callee := .builtin .append, args := #[s, x], argTypes := #[36, 36] }) (B : Nat) (v : Value) (L : List Nat) (y : Nat)
    (hs : act.eval s = v) (hx : act.eval x = .slice (some ⟨w.heap.size, 0, none⟩) 1 1) (h : Own32 w B v L) (hB : B ≤ w.heap.size) (hn : L.length ≤ 1048576)
    (hK : ∀ s' w', Own32 w' B s' (L ++ [y]) → Below B w w' → wpList Try.prog ops Q rest (act.put o.dst s') w') : wpList Try.prog ops Q (o :: rest) act (w.alloc (.cells #[.int .u32 (y : Int)] 29)) := by
  obtain ⟨i0, hi, hz0, hz1, hz2⟩ := info_parts info_u32T
  have hb : Below w.heap.size w (w.alloc (.cells #[.int .u32 (y : Int)] 29)) := (Below.refl _ _).alloc (Nat.le_refl _) _
  have h1 : (w.alloc (.cells #[.int .u32 (y : Int)] 29)).ownsRow B 29 1 v L.length (cells32 L) := h.below hb
  refine wpList_append_own _ hgd s x 36 ho B 29 i0 (.int .u32 0) 1 4 Try.underlying36 hi hz0 hz1 hz2 rfl (by decide) v L.length (cells32 L) hs h1 ⟨w.heap.size, 0, none⟩ 1 1 [.int .u32 (y : Int)] hx rfl (fun j u hj => ?_)
    (fun u hu => by rw [List.mem_singleton.1 hu]; rfl) (by unfold maxLen; omega) (by omega) (Nat.le_trans hB hb.size) ?_
  · match j with
    | 0 =>
      have hc : (w.alloc (.cells #[.int .u32 (y : Int)] 29)).cell? ⟨w.heap.size, 0, none⟩ = some (.int .u32 (y : Int)) := by rw [World.cell?_alloc_at _ _ _ _ rfl]; rfl
      simpa [Addr.add, hc] using hj
    | j + 1 => simp at hj
  · intro v' w' hown hgrow _
    refine hK v' w' ?_ ((hb.mono hB).grown hgrow (Nat.le_trans hB hb.size) fun k hk => (h1.lt k hk).1)
    rw [show cells32 L ++ [.int .u32 (y : Int)] = cells32 (L ++ [y]) by simp [cells32]] at hown
    show w'.ownsRow B 29 1 v' (L ++ [y]).length (cells32 (L ++ [y]))
    rw [List.length_append]
    exact hown
theorem elem_u32s : Try.prog.underlying 36 = some (.slice (Try.prog.elem 36)) := by kernel_rfl
theorem elem_u32s' : Try.prog.elem 36 = 29 := by kernel_rfl
/-- 'l[1:]'. -/
theorem slice_tl32 {w : World} {b off k c x : Nat} {L : List Nat} (h : U32At w (some ⟨b, off, none⟩) (k + 1) (x :: L)) (hc : k + 1 ≤ c) :
    ∃ a', (∀ W : World, (Instr.sliceAt 36 (.slice (some ⟨b, off, none⟩) (k + 1) c) (some (.int .i64 1)) none none).run Try.prog W = .ok (.slice a' k (c - 1)) W) ∧ U32At w a' k L := by
  have hz : ∀ w : World, (sizeOf 29).run Try.prog w = .ok 1 w := fun w => by kernel_rfl
  have hl : L.length = k := by have := h.1; rw [List.length_cons] at this; omega
  by_cases h0 : k = 0
  · subst h0
    refine ⟨if c = 1 then some ⟨b, off, none⟩ else (some ⟨b, off, none⟩ : Option Addr).map (·.add (1 * 1)), fun W => ?_, hl, .inl rfl⟩
    rw [run_sliceAt_slice _ _ _ _ _ _ elem_u32s, run_slice_l _ _ _ _ _ elem_u32s _ _ (by omega) (by omega), elem_u32s', hz]
    simp [Result.andThen, sliced]
  · refine ⟨some ⟨b, off + 1, none⟩, fun W => ?_, hl, .inr ⟨b, off + 1, rfl, fun i hi => ?_⟩⟩
    · rw [run_sliceAt_slice _ _ _ _ _ _ elem_u32s, run_slice_l _ _ _ _ _ elem_u32s _ _ (by omega) (by omega), elem_u32s', hz]
      have e : ¬ c = 1 := by omega
      simp [Result.andThen, sliced, e, Addr.add]
    · obtain ⟨b', off', e, hcc⟩ := h.at (i := i + 1) (by omega)
      simp only [Option.some.injEq, Addr.mk.injEq, and_true] at e
      obtain ⟨rfl, rfl⟩ := e
      rw [Nat.add_assoc, Nat.add_comm 1 i, hcc (i + 1) (by omega)]
      rfl
end Go.Proofs.Ytpklckpnimmkpaa
