/-
  Plain mathematics of a buffer: packets as data ('PD'), what a put makes of them ('bput'), which one goes ('goesTo'), what always holds ('BInv'), that none is made by the others ('FreeD'). No condition.
  From 0 to 256 ('capN'); contract of bucketlineref15.Cap.
  Slices of the rows' vectors, of one's own.
-/
import Derived.Test.YtbcgiodgobmkaaaGreatDoorU8
import Derived.Test.YtbcgiodgobmkaaaGreatDoorKA
import Derived.Test.YtbcgiodgobmkaaaGreatDoorU0
import Derived.BigQuiet
import Derived.Test.YtbcgiodgobmkaaaGreatDoorU3
import Derived.Test.YtbcgiodgobmkaaaGreatDoorU14
namespace Go.Proofs.YtbcgiodgobmkaaaGreatDoor
open Go.RowKit Go.Sort
set_option linter.unusedVariables false
set_option linter.unusedSimpArgs false
set_option maxRecDepth 4000

def alkH : List PD → PD → Bool
  | [], _ => true
  | q :: _, p => alkD q p
/-- Is it taken? -/
def takeD (m : Nat) (L : List PD) (p : PD) : Bool := decide (0 < m) && okD p && alkH L p && freshB (vecsD L) p.xs
/-- How many blocks it is made of. -/
def degD (L : List PD) (i : Nat) : Nat := cnt (L.getD i .dflt).xs
/-- The one to go, of the first i. -/
def goesTo (L : List PD) : Nat → Nat
  | 0 => 0
  | i + 1 => if degD L (goesTo L i) < degD L i then i else goesTo L i
theorem goesTo_succ (L : List PD) (i : Nat) : goesTo L (i + 1) = if degD L (goesTo L i) < degD L i then i else goesTo L i := rfl
theorem goesTo_spec (L : List PD) : ∀ n, 0 < n → goesTo L n < n ∧ (∀ j, j < n → degD L j ≤ degD L (goesTo L n)) ∧ ∀ j, j < goesTo L n → degD L j < degD L (goesTo L n)
  | 0, h => by omega
  | 1, _ => by
    have h : goesTo L 1 = 0 := by rw [goesTo_succ]; exact if_neg (Nat.lt_irrefl _)
    rw [h]
    exact ⟨by omega, fun j hj => by rw [show j = 0 by omega]; exact Nat.le_refl _, fun j hj => by omega⟩
  | n + 2, _ => by
    obtain ⟨h1, h2, h3⟩ := goesTo_spec L (n + 1) (by omega)
    rw [goesTo_succ L (n + 1)]
    by_cases h : degD L (goesTo L (n + 1)) < degD L (n + 1)
    · rw [if_pos h]
      refine ⟨by omega, fun j hj => ?_, fun j hj => Nat.lt_of_le_of_lt (h2 j hj) h⟩
      rcases Nat.lt_or_ge j (n + 1) with e | e
      · exact Nat.le_of_lt (Nat.lt_of_le_of_lt (h2 j e) h)
      · rw [show j = n + 1 by omega]; exact Nat.le_refl _
    · rw [if_neg h]
      refine ⟨by omega, fun j hj => ?_, h3⟩
      rcases Nat.lt_or_ge j (n + 1) with e | e
      · exact h2 j e
      · rw [show j = n + 1 by omega]; omega
theorem goesTo_uniq {L : List PD} {n g : Nat} (hg : g < n) (h1 : ∀ j, j < n → degD L j ≤ degD L g) (h2 : ∀ j, j < g → degD L j < degD L g) : goesTo L n = g := by
  obtain ⟨k1, k2, k3⟩ := goesTo_spec L n (by omega)
  have a1 := h1 _ k1
  have a2 := k2 g hg
  rcases Nat.lt_trichotomy (goesTo L n) g with e | e | e
  · have := h2 _ e; omega
  · exact e
  · have := k3 _ e; omega
/-- What is kept behind a put. -/
def leftD (m : Nat) (L : List PD) : List PD := if m ≤ L.length then L.eraseIdx (goesTo L L.length) else L
def bput (m : Nat) (L : List PD) (p : PD) : List PD := if takeD m L p = true then leftD m L ++ [p] else L
/-- What always holds of what is kept. -/
structure BInv (m : Nat) (L : List PD) : Prop where
  le : L.length ≤ m
  ok : ∀ p ∈ L, okD p = true
  alk : ∀ p ∈ L, ∀ q ∈ L, alkD p q = true
  sm : ∀ p ∈ L, smalls p.xs
theorem BInv.nil (m : Nat) : BInv m [] := ⟨Nat.zero_le _, (fun _ h => by cases h), (fun _ h => by cases h), (fun _ h => by cases h)⟩
theorem BInv.fit {m : Nat} {L : List PD} (h : BInv m L) : Fit 1048576 (vecsD L) := fun v hv => by
  obtain ⟨p, hp, rfl⟩ := List.mem_map.1 hv
  exact ⟨h.sm p hp, by have := okD_len (h.ok p hp); omega⟩
theorem left_sub {m : Nat} {L : List PD} : ∀ p ∈ leftD m L, p ∈ L := fun p hp => by
  unfold leftD at hp
  split at hp
  · exact List.mem_of_mem_eraseIdx hp
  · exact hp
theorem left_len {m : Nat} {L : List PD} (h : L.length ≤ m) (hm : 0 < m) : (leftD m L).length + 1 ≤ m ∧ (leftD m L).length ≤ L.length ∧ L.length ≤ (leftD m L).length + 1 := by
  unfold leftD
  by_cases e : m ≤ L.length
  · rw [if_pos e, List.length_eraseIdx_of_lt (goesTo_spec L L.length (by omega)).1]
    omega
  · rw [if_neg e]; omega
theorem take_parts {m : Nat} {L : List PD} {p : PD} (h : takeD m L p = true) : 0 < m ∧ okD p = true ∧ alkH L p = true ∧ freshB (vecsD L) p.xs = true := by
  unfold takeD at h
  rw [Bool.and_eq_true, Bool.and_eq_true, Bool.and_eq_true, decide_eq_true_eq] at h
  exact ⟨h.1.1.1, h.1.1.2, h.1.2, h.2⟩
theorem BInv.alkH {m : Nat} {L : List PD} (h : BInv m L) {p : PD} (hp : alkH L p = true) : ∀ q ∈ L, alkD q p = true := fun q hq => by
  cases L with
  | nil => cases hq
  | cons a L => exact alk_trans (h.alk q hq a List.mem_cons_self) hp
theorem BInv.put {m : Nat} {L : List PD} (h : BInv m L) {p : PD} (hs : smalls p.xs) : BInv m (bput m L p) := by
  unfold bput
  by_cases ht : takeD m L p = true
  · rw [if_pos ht]
    obtain ⟨hm, ho, ha, _⟩ := take_parts ht
    have hal := h.alkH ha
    refine ⟨by rw [List.length_append, List.length_singleton]; exact (left_len h.le hm).1, fun q hq => ?_, fun q hq r hr => ?_, fun q hq => ?_⟩
    · rcases List.mem_append.1 hq with hq | hq
      · exact h.ok q (left_sub q hq)
      · rw [List.mem_singleton.1 hq]; exact ho
    · rcases List.mem_append.1 hq with hq | hq <;> rcases List.mem_append.1 hr with hr | hr
      · exact h.alk q (left_sub q hq) r (left_sub r hr)
      · rw [List.mem_singleton.1 hr]; exact hal q (left_sub q hq)
      · rw [List.mem_singleton.1 hq]; exact alk_symm (hal r (left_sub r hr))
      · rw [List.mem_singleton.1 hq, List.mem_singleton.1 hr]; exact alk_refl p
    · rcases List.mem_append.1 hq with hq | hq
      · exact h.sm q (left_sub q hq)
      · rw [List.mem_singleton.1 hq]; exact hs
  · rw [if_neg ht]; exact h
theorem BInv.get {m : Nat} {L : List PD} (h : BInv m L) {i : Nat} (hi : i < L.length) : okD (L.getD i .dflt) = true ∧ alkD (L.getD 0 .dflt) (L.getD i .dflt) = true := by
  have hm : L.getD i .dflt ∈ L := by rw [List.getD_eq_getElem?_getD, List.getElem?_eq_getElem hi]; exact List.getElem_mem hi
  have h0 : L.getD 0 .dflt ∈ L := by rw [List.getD_eq_getElem?_getD, List.getElem?_eq_getElem (show 0 < L.length by omega)]; exact List.getElem_mem _
  exact ⟨h.ok _ hm, h.alk _ h0 _ hm⟩
/-- No degree is greater than the number of blocks. -/
theorem BInv.deg {m : Nat} {L : List PD} (h : BInv m L) {i : Nat} (hi : i < L.length) : (degD L i : Int) ≤ (L.getD 0 .dflt).k ∧ (L.getD 0 .dflt).k ≤ 128 := by
  obtain ⟨h1, h2⟩ := h.get hi
  unfold alkD at h2
  rw [decide_eq_true_eq] at h2
  have h3 := okD_cnt h1
  have h4 := (okD_valid h1).2.2.2.2.1
  unfold degD
  rw [h2.2.2.1]
  exact ⟨h3, h4⟩

theorem erase_map {α β : Type} (f : α → β) : ∀ (l : List α) (i : Nat), (l.eraseIdx i).map f = (l.map f).eraseIdx i
  | [], _ => rfl
  | a :: l, 0 => rfl
  | a :: l, i + 1 => by simp only [List.eraseIdx_cons_succ, List.map_cons]; rw [erase_map f l i]
end Go.Proofs.YtbcgiodgobmkaaaGreatDoor
namespace Go.Proofs.YtbcgiodgobmkaaaGreatDoor
open Go.RowKit
set_option linter.unusedVariables false
set_option linter.unusedSimpArgs false
set_option maxRecDepth 4000

/-- From 0 to 256. -/
def capN (n : Int) : Nat := min (max n 0).toNat 256
theorem capN_le (n : Int) : capN n ≤ 256 := Nat.min_le_right _ _
theorem cap_min (n : Int) : min (max n 0) 256 = (capN n : Int) := by unfold capN; omega
theorem max_run (n : Int) (ts : Array TypeId) (t : TypeId) (w : World) : (Builtin.max_ ts t #[.int .i64 n, .int .i64 0]).run Tryz.prog w = .ok (.int .i64 (max n 0)) w := by
  rw [run_max_int2]
  congr 2
  split <;> omega
theorem cap_run (n : Int) (ts : Array TypeId) (t : TypeId) (w : World) : (Builtin.min_ ts t #[.int .i64 (max n 0), .int .i64 256]).run Tryz.prog w = .ok (.int .i64 (capN n : Int)) w := by
  rw [run_min_int2, ← cap_min]
  congr 2
  split <;> omega
theorem rcap_any (n : Int) (w : World) : Calls Tryz.prog 24 #[.int .i64 n] w fun e w' => e = .returned (.int .i64 (capN n : Int)) ∧ w' = w := by
  have h1 := max_run n
  have h2 := cap_run n
  go_enter Tryz.func24, Tryz.ntmps24
  go_wp2
  go_ret
  exact ⟨rfl, rfl⟩
end Go.Proofs.YtbcgiodgobmkaaaGreatDoor
namespace Go.Proofs.YtbcgiodgobmkaaaGreatDoor
open Go.RowKit Go.Sort
set_option linter.unusedVariables false
set_option linter.unusedSimpArgs false
set_option maxRecDepth 4000

/-- The rows' vectors. -/
def vecsL (rs : List RV) : List (List Nat) := rs.map fun r => r.xs
/-- A slice of the rows' vectors, of one's own. -/
def OwnW (w : World) (B : Nat) (v : Value) (ts : List RV) : Prop := w.ownsRow B 25 1 v ts.length (ts.map fun r => .slice r.a r.n r.c)
theorem OwnW.nil (w : World) (B : Nat) : OwnW w B (.slice none 0 0) [] := World.ownsRow_nil _ _ _ _
theorem OwnW.vecs {w : World} {B : Nat} {v : Value} {ts : List RV} (h : OwnW w B v ts) (hr : RowsIn w ts) : ∃ a c, v = .slice a ts.length c ∧ VecsAt w a ts.length (vecsL ts) := by
  have h' : w.ownsRow B 25 1 v ts.length (ts.map fun r => .slice r.a r.n r.c) := h
  rcases h.2 with ⟨rfl, h0⟩ | ⟨g, cap, cur, rfl, hb, hg, hn, hm, hsz, ht⟩
  · exact ⟨none, 0, by rw [h0], by simp [vecsL], .inl h0, fun b off i ai k ci e => by cases e⟩
  · have hcell : ∀ i, i < ts.length → w.cell? ⟨g, 0 + i, none⟩ = some (.slice (ts.getD i .dflt).a (ts.getD i .dflt).n (ts.getD i .dflt).c) := fun i hi => by
      rw [Nat.zero_add, h'.cellAt i (by omega), List.getElem?_map, List.getElem?_eq_getElem hi, List.getD_eq_getElem?_getD, List.getElem?_eq_getElem hi]
      rfl
    have hxs : ∀ i, i < ts.length → (vecsL ts).getD i [] = (ts.getD i .dflt).xs := fun i hi => by
      unfold vecsL
      rw [List.getD_eq_getElem?_getD, List.getElem?_map, List.getElem?_eq_getElem hi, List.getD_eq_getElem?_getD, List.getElem?_eq_getElem hi]
      rfl
    refine ⟨_, cap, rfl, by simp [vecsL], .inr ⟨g, 0, rfl, fun i hi => ?_⟩, fun b off i ai k ci e hi hc => ?_⟩
    · have hri := hr.get hi
      rw [hxs i hi]
      refine ⟨(ts.getD i .dflt).a, (ts.getD i .dflt).c, ?_, ?_⟩
      · rw [hri.1.1]; exact hcell i hi
      · rw [hri.1.1]; exact hri.1
    · simp only [Option.some.injEq, Addr.mk.injEq, and_true] at e
      obtain ⟨rfl, rfl⟩ := e
      rw [hcell i hi] at hc
      simp only [Option.some.injEq, Value.slice.injEq] at hc
      have := (hr.get hi).2
      omega
theorem wpList_pushW {w : World} {ops : Array Oper} {rest : List Oper} {o : Oper} {act : Act} {Q : Exit → Act → World → Prop} (hgd : o.guard = none) (s x : Operand)
    (ho : o.op = .call { callee := .builtin .append, args := #[s, x], argTypes := #[105, 105] }) (B : Nat) (v : Value) (ts : List RV) (r : RV)
    (hs : act.eval s = v) (hx : act.eval x = .slice (some ⟨w.heap.size, 0, none⟩) 1 1) (h : OwnW w B v ts) (hB : B ≤ w.heap.size) (hn : ts.length ≤ 1048576)
    (hK : ∀ s' w', OwnW w' B s' (ts ++ [r]) → Below B w w' → wpList Tryz.prog ops Q rest (act.put o.dst s') w') : wpList Tryz.prog ops Q (o :: rest) act (w.alloc (.cells #[.slice r.a r.n r.c] 25)) := by
  obtain ⟨i0, hi, hz0, hz1, hz2⟩ := info_parts info_u64s
  have hb : Below w.heap.size w (w.alloc (.cells #[.slice r.a r.n r.c] 25)) := (Below.refl _ _).alloc (Nat.le_refl _) _
  have h1 := ownsRow_below h hb
  refine wpList_append_own _ hgd s x 105 ho B 25 i0 (.slice none 0 0) 1 24 Tryz.underlying105 hi hz0 hz1 hz2 rfl (by decide) v ts.length _ hs h1 ⟨w.heap.size, 0, none⟩ 1 1 [.slice r.a r.n r.c] hx rfl (fun j u hj => ?_)
    (fun u hu => by rw [List.mem_singleton.1 hu]; rfl) (by unfold maxLen; omega) (by omega) (Nat.le_trans hB hb.size) ?_
  · match j with
    | 0 =>
      have hc : (w.alloc (.cells #[.slice r.a r.n r.c] 25)).cell? ⟨w.heap.size, 0, none⟩ = some (.slice r.a r.n r.c) := by rw [World.cell?_alloc_at _ _ _ _ rfl]; rfl
      simpa [Addr.add, hc] using hj
    | j + 1 => simp at hj
  · intro v' w' hown hgrow _
    refine hK v' w' ?_ ((hb.mono hB).grown hgrow (Nat.le_trans hB hb.size) fun k hk => (h1.lt k hk).1)
    show w'.ownsRow B 25 1 v' (ts ++ [r]).length ((ts ++ [r]).map fun r => .slice r.a r.n r.c)
    rw [List.length_append, List.map_append]
    exact hown
theorem OwnW.below {w w' : World} {B : Nat} {v : Value} {ts : List RV} (h : OwnW w B v ts) (hb : Below w.heap.size w w') : OwnW w' B v ts := ownsRow_below h hb
/-- The rows' vectors, of the first k; the others none yet. -/
def fillW (ts : List RV) (k : Nat) : List Value := (ts.take k).map (fun r => Value.slice r.a r.n r.c) ++ List.replicate (ts.length - k) (.slice none 0 0)
theorem fillW_zero (ts : List RV) : fillW ts 0 = List.replicate ts.length (.slice none 0 0) := by simp [fillW]
theorem fillW_all (ts : List RV) : fillW ts ts.length = ts.map fun r => Value.slice r.a r.n r.c := by simp [fillW]
theorem fillW_succ (ts : List RV) (k : Nat) (hk : k < ts.length) : (fillW ts k).set k (.slice (ts.getD k .dflt).a (ts.getD k .dflt).n (ts.getD k .dflt).c) = fillW ts (k + 1) := by
  unfold fillW
  have hl : ((ts.take k).map fun r => Value.slice r.a r.n r.c).length = k := by simp; omega
  rw [List.set_append_right _ _ (by omega), hl, Nat.sub_self, List.take_succ_eq_append_getElem hk, List.map_append, List.append_assoc, show ts.length - k = (ts.length - (k + 1)) + 1 by omega, List.replicate_succ, List.set_cons_zero]
  simp [List.getD_eq_getElem?_getD, List.getElem?_eq_getElem hk]
theorem make_v (n : Nat) (hn : n ≤ 1048576) (wx : World) : (Instr.makeSlice 105 (.int .i64 (n : Int)) (.int .i64 (n : Int))).run Tryz.prog wx = .ok (.slice (some ⟨wx.heap.size, 0, none⟩) n n) (wx.alloc (.cells (madeCells #[.slice none 0 0] n) 25)) := by
  obtain ⟨i0, hi0, hz0, hzs, hzb⟩ := info_parts info_u64s
  have := run_make (P := Tryz.prog) wx 105 25 i0 (.slice none 0 0) Tryz.underlying105 hi0 hz0 .i64 .i64 (n : Int) (n : Int) (by omega) (Int.le_refl _) (by rw [hzb]; omega) (by omega)
  rw [hzs] at this
  simpa [Value.cells] using this
theorem made_v (w : World) (n : Nat) (hn : n ≤ 1048576) :
    (w.alloc (.cells (madeCells #[.slice none 0 0] n) 25)).ownsRow w.heap.size 25 1 (.slice (some ⟨w.heap.size, 0, none⟩) n n) n (List.replicate n (.slice none 0 0)) := by
  refine ⟨by simp, .inr ⟨w.heap.size, n, madeCells #[.slice none 0 0] n, by simp, Nat.le_refl _, heap_alloc_new w _, by simp, by unfold maxLen; omega, by simp [size_madeCells], ?_⟩⟩
  rw [toList_madeCells_one, List.take_of_length_le (by simp)]
end Go.Proofs.YtbcgiodgobmkaaaGreatDoor
