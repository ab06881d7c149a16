/-
  Slices of ints of any sign in memory: what can be read ('IntzAt'), what is the call's own ('OwnZ'): made, written, appended to. No condition.
-/
import Derived.Test.YtakoaadimhpclaaGreatDoorU1
import Derived.Test.YtakoaadimhpclaaGreatDoorU2
import Derived.OwnWalk
import Derived.Laws.MakeOwn
import Derived.Deep.QuietTactic
import Derived.BigQuiet
namespace Go.Proofs.YtakoaadimhpclaaGreatDoor
open Go.RowKit
set_option linter.unusedVariables false
set_option linter.unusedSimpArgs false
set_option maxRecDepth 4000

def cellsZ (xs : List Int) : List Value := xs.map fun x => Value.int .i64 x
theorem cellsZ_length (xs : List Int) : (cellsZ xs).length = xs.length := by simp [cellsZ]
theorem cellsZ_get (xs : List Int) (i : Nat) (h : i < xs.length) : (cellsZ xs)[i]? = some (.int .i64 (xs.getD i 0)) := by
  simp [cellsZ, List.getElem?_eq_getElem h, List.getD_eq_getElem?_getD]
theorem cellsZ_set (xs : List Int) (i : Nat) (x : Int) : (cellsZ xs).set i (.int .i64 x) = cellsZ (xs.set i x) := by
  simp [cellsZ, List.map_set]
/-- A slice of n ints that can be read: they are xs. -/
def IntzAt (w : World) (a : Option Addr) (n : Nat) (xs : List Int) : Prop :=
  xs.length = n ∧ (n = 0 ∨ ∃ b off, a = some ⟨b, off, none⟩ ∧ ∀ i, i < n → w.cell? ⟨b, off + i, none⟩ = some (.int .i64 (xs.getD i 0)))
theorem IntzAt.at {w : World} {a : Option Addr} {n : Nat} {xs : List Int} (h : IntzAt w a n xs) {i : Nat} (hi : i < n) :
    ∃ b off, a = some ⟨b, off, none⟩ ∧ ∀ i, i < n → w.cell? ⟨b, off + i, none⟩ = some (.int .i64 (xs.getD i 0)) := by
  rcases h.2 with h0 | h0
  · omega
  · exact h0
theorem IntzAt.below {w w' : World} {a : Option Addr} {n : Nat} {xs : List Int} (h : IntzAt w a n xs) (hb : Below w.heap.size w w') : IntzAt w' a n xs := by
  refine ⟨h.1, ?_⟩
  rcases h.2 with h0 | ⟨b, off, rfl, hc⟩
  · exact .inl h0
  · exact .inr ⟨b, off, rfl, fun i hi => (hb.cell (World.block_lt_of_cell? w _ (hc i hi))).trans (hc i hi)⟩
theorem IntzAt.none (w : World) (a : Option Addr) : IntzAt w a 0 [] := ⟨rfl, .inl rfl⟩
/-- A slice of ints of the call's own. -/
def OwnZ (w : World) (B : Nat) (v : Value) (xs : List Int) : Prop := w.ownsRow B 3 1 v xs.length (cellsZ xs)
theorem OwnZ.ints {w : World} {B : Nat} {v : Value} {xs : List Int} (h : OwnZ w B v xs) : ∃ a c, v = .slice a xs.length c ∧ IntzAt w a xs.length xs := by
  have ho' : w.ownsRow B 3 1 v xs.length (cellsZ xs) := h
  rcases h.2 with ⟨rfl, h0⟩ | ⟨g, cap, cur, rfl, hb, hg, hn, hm, hsz, ht⟩
  · exact ⟨Option.none, 0, by rw [h0], rfl, .inl h0⟩
  · refine ⟨_, cap, rfl, rfl, .inr ⟨g, 0, rfl, fun i hi => ?_⟩⟩
    rw [Nat.zero_add, ho'.cellAt i (by omega), cellsZ_get xs i hi]
theorem OwnZ.nil (w : World) (B : Nat) : OwnZ w B (.slice none 0 0) [] := World.ownsRow_nil _ _ _ _
theorem OwnZ.mono {w : World} {B B' : Nat} {v : Value} {xs : List Int} (h : OwnZ w B v xs) (hB : B' ≤ B) : OwnZ w B' v xs := by
  refine ⟨h.1, ?_⟩
  rcases h.2 with h0 | ⟨g, cap, cur, h1, hb, r⟩
  · exact .inl h0
  · exact .inr ⟨g, cap, cur, h1, Nat.le_trans hB hb, r⟩
theorem OwnZ.below {w w' : World} {B : Nat} {v : Value} {xs : List Int} (h : OwnZ w B v xs) (hb : Below w.heap.size w w') : OwnZ w' B v xs := by
  refine ⟨h.1, ?_⟩
  rcases h.2 with h0 | ⟨g, cap, cur, h1, hg, hgg, r⟩
  · exact .inl h0
  · exact .inr ⟨g, cap, cur, h1, hg, (hb.block g (Array.getElem?_eq_some_iff.1 hgg).1).trans hgg, r⟩
theorem OwnZ.at {w : World} {B : Nat} {v : Value} {xs : List Int} (h : OwnZ w B v xs) (hn : 0 < xs.length) :
    ∃ g cap, v = .slice (some ⟨g, 0, none⟩) xs.length cap ∧ B ≤ g ∧ g < w.heap.size ∧ (∀ i, i < xs.length → w.cell? ⟨g, i, none⟩ = some (.int .i64 (xs.getD i 0))) ∧ ∀ i, w.frozen? ⟨g, i, none⟩ = false := by
  have ho' : w.ownsRow B 3 1 v xs.length (cellsZ xs) := h
  rcases h.2 with ⟨rfl, h0⟩ | ⟨g, cap, cur, rfl, hb, hg, hn, hm, hsz, ht⟩
  · omega
  · refine ⟨g, cap, rfl, hb, (Array.getElem?_eq_some_iff.1 hg).1, fun i hi => ?_, fun i => ho'.frozenAt i⟩
    rw [ho'.cellAt i (by omega), cellsZ_get xs i hi]
theorem OwnZ.stored {w : World} {B g cap n : Nat} {xs : List Int} (h : OwnZ w B (.slice (some ⟨g, 0, none⟩) n cap) xs) (i : Nat) (x : Int) :
    OwnZ (w.setCell ⟨g, i, none⟩ (.int .i64 x)) B (.slice (some ⟨g, 0, none⟩) n cap) (xs.set i x) := by
  obtain rfl : n = xs.length := by
    obtain ⟨a, c, e, _⟩ := h.ints
    simp only [Value.slice.injEq] at e
    exact e.2.1
  have ho : w.ownsRow B 3 1 (.slice (some ⟨g, 0, none⟩) xs.length cap) xs.length (cellsZ xs) := h
  have := (ho.stored i (.int .i64 x)).1
  rw [cellsZ_set] at this
  show World.ownsRow _ B 3 1 _ (xs.set i x).length _
  rw [List.length_set]
  exact this
theorem info_intZ : (Tryz.prog.info? 3).map (fun i => (i.zero, i.size, i.bytes)) = some (some (.int .i64 0), 1, 8) := by kernel_rfl
theorem made_intz (w : World) (n : Nat) (hn : n ≤ 1048576) (xs : List Int) (hxs : xs = List.replicate n 0) :
    OwnZ (w.alloc (.cells (madeCells #[.int .i64 0] n) 3)) w.heap.size (.slice (some ⟨w.heap.size, 0, none⟩) n n) xs := by
  subst hxs
  refine ⟨by simp [cellsZ], .inr ⟨w.heap.size, n, madeCells #[.int .i64 0] n, by simp, Nat.le_refl _, heap_alloc_new w _, by simp, by unfold maxLen; omega, by simp [size_madeCells], ?_⟩⟩
  rw [toList_madeCells_one, List.take_of_length_le (by simp)]
  simp [cellsZ]
theorem make_intz (n : Nat) (hn : n ≤ 1048576) (wx : World) : (Instr.makeSlice 58 (.int .i64 (n : Int)) (.int .i64 (n : Int))).run Tryz.prog wx = .ok (.slice (some ⟨wx.heap.size, 0, none⟩) n n) (wx.alloc (.cells (madeCells #[.int .i64 0] n) 3)) := by
  obtain ⟨i0, hi0, hz0, hzs, hzb⟩ := info_parts info_intZ
  have := run_make (P := Tryz.prog) wx 58 3 i0 (.int .i64 0) Tryz.underlying58 hi0 hz0 .i64 .i64 (n : Int) (n : Int) (by omega) (Int.le_refl _) (by rw [hzb]; omega) (by omega)
  rw [hzs] at this
  simpa [Value.cells] using this
/-- What is written so far. -/
def filledZ (fs : List Int) (k : Nat) : List Int := fs.take k ++ List.replicate (fs.length - k) 0
theorem filledZ_zero (fs : List Int) : filledZ fs 0 = List.replicate fs.length 0 := by simp [filledZ]
theorem filledZ_all (fs : List Int) : filledZ fs fs.length = fs := by simp [filledZ]
theorem filledZ_length (fs : List Int) (k : Nat) (hk : k ≤ fs.length) : (filledZ fs k).length = fs.length := by simp [filledZ]; omega
theorem filledZ_succ (fs : List Int) (k : Nat) (hk : k < fs.length) : (filledZ fs k).set k (fs.getD k 0) = filledZ fs (k + 1) := by
  unfold filledZ
  have hl : (fs.take k).length = k := by simp; omega
  rw [List.set_append_right _ _ (by omega), hl, Nat.sub_self, List.take_succ_eq_append_getElem hk, List.append_assoc, show fs.length - k = (fs.length - (k + 1)) + 1 by omega, List.replicate_succ, List.set_cons_zero]
  simp [List.getD_eq_getElem?_getD, List.getElem?_eq_getElem hk]
/-- 'append(own, x)'. -/
theorem wpList_pushZ {w : World} {ops : Array Oper} {rest : List Oper} {o : Oper} {act : Act} {Q : Exit → Act → World → Prop} (hgd : o.guard = none) (s x : Operand)
    (ho : o.op = .call { callee := .builtin .append, args := #[s, x], argTypes := #[58, 58] }) (B : Nat) (v : Value) (xs : List Int) (y : Int)
    (hs : act.eval s = v) (hx : act.eval x = .slice (some ⟨w.heap.size, 0, none⟩) 1 1) (h : OwnZ w B v xs) (hB : B ≤ w.heap.size) (hn : xs.length ≤ 1048576)
    (hK : ∀ s' w', OwnZ w' B s' (xs ++ [y]) → Below B w w' → wpList Tryz.prog ops Q rest (act.put o.dst s') w') : wpList Tryz.prog ops Q (o :: rest) act (w.alloc (.cells #[.int .i64 y] 3)) := by
  obtain ⟨i0, hi, hz0, hz1, hz2⟩ := info_parts info_intZ
  have hb : Below w.heap.size w (w.alloc (.cells #[.int .i64 y] 3)) := (Below.refl _ _).alloc (Nat.le_refl _) _
  have h1 : (w.alloc (.cells #[.int .i64 y] 3)).ownsRow B 3 1 v xs.length (cellsZ xs) := h.below hb
  refine wpList_append_own _ hgd s x 58 ho B 3 i0 (.int .i64 0) 1 8 Tryz.underlying58 hi hz0 hz1 hz2 rfl (by decide) v xs.length (cellsZ xs) hs h1 ⟨w.heap.size, 0, none⟩ 1 1 [.int .i64 y] hx rfl (fun j u hj => ?_)
    (fun u hu => by rw [List.mem_singleton.1 hu]; rfl) (by unfold maxLen; omega) (by omega) (Nat.le_trans hB hb.size) ?_
  · match j with
    | 0 =>
      have hc : (w.alloc (.cells #[.int .i64 y] 3)).cell? ⟨w.heap.size, 0, none⟩ = some (.int .i64 y) := by rw [World.cell?_alloc_at _ _ _ _ rfl]; rfl
      simpa [Addr.add, hc] using hj
    | j + 1 => simp at hj
  · intro v' w' hown hgrow _
    refine hK v' w' ?_ ((hb.mono hB).grown hgrow (Nat.le_trans hB hb.size) fun k hk => (h1.lt k hk).1)
    rw [show cellsZ xs ++ [.int .i64 y] = cellsZ (xs ++ [y]) by simp [cellsZ]] at hown
    show w'.ownsRow B 3 1 v' (xs ++ [y]).length (cellsZ (xs ++ [y]))
    rw [List.length_append]
    exact hown
/-- 'max(0, x)', 'max(x, 0)'. -/
theorem max0_run (x : Int) (ts : Array TypeId) (t : TypeId) (w : World) : (Builtin.max_ ts t #[.int .i64 0, .int .i64 x]).run Tryz.prog w = .ok (.int .i64 ((x.toNat : Nat) : Int)) w := by
  rw [run_max_int2]
  congr 2
  split <;> omega
theorem max0_run' (x : Int) (ts : Array TypeId) (t : TypeId) (w : World) : (Builtin.max_ ts t #[.int .i64 x, .int .i64 0]).run Tryz.prog w = .ok (.int .i64 ((x.toNat : Nat) : Int)) w := by
  rw [run_max_int2]
  congr 2
  split <;> omega
theorem max1_run (x : Nat) (ts : Array TypeId) (t : TypeId) (w : World) : (Builtin.max_ ts t #[.int .i64 1, .int .i64 (x : Int)]).run Tryz.prog w = .ok (.int .i64 ((max 1 x : Nat) : Int)) w := by
  rw [run_max_int2]
  congr 2
  split <;> omega
theorem min_runZ (x y : Int) (ts : Array TypeId) (t : TypeId) (w : World) : (Builtin.min_ ts t #[.int .i64 x, .int .i64 y]).run Tryz.prog w = .ok (.int .i64 (min x y)) w := by
  rw [run_min_int2]
  congr 2
  split <;> omega
end Go.Proofs.YtakoaadimhpclaaGreatDoor
