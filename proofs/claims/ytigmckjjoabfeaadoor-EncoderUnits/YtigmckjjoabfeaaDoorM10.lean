/-
  Plain mathematics of a source: the row of chosen blocks (rowL), the degree (degN), the packet's row (vecL) and text (ofL). No condition.
  A source in memory ('SrcAt'); slices of texts that are made and filled. Contracts of encoder.cut, New, Source.K, Source.Blocks: for every int and every text of at most 2^63 - 1 bytes.
-/
import Derived.Test.YtigmckjjoabfeaaDoorM3
import Derived.Test.YtigmckjjoabfeaaDoorM5
import Derived.Test.YtigmckjjoabfeaaDoorM7
import Derived.Test.YtigmckjjoabfeaaDoorM6
import Derived.Test.YtigmckjjoabfeaaDoorM9
namespace Go.Proofs.YtigmckjjoabfeaaDoor
set_option linter.unusedVariables false
set_option maxRecDepth 4000

theorem getB_setB (xs : List Nat) (i j : Nat) (h : i < 64 * xs.length) : getB (setB xs i true) j = (decide (j = i) || getB xs j) := by
  have hi : i / 64 < xs.length := by omega
  unfold getB setB setW
  rw [getD_set]
  by_cases h1 : j / 64 = i / 64
  · rw [if_pos ⟨h1, hi⟩, h1]
    by_cases h2 : j % 64 = i % 64
    · have h3 : j = i := by omega
      subst h3
      split
      · rename_i hb; rw [hb]; simp
      · rename_i hb; rw [Nat.testBit_xor, Nat.testBit_two_pow]; simp at hb; simp [hb]
    · have h3 : decide (j = i) = false := by simp; omega
      have h4 : decide (i % 64 = j % 64) = false := by simp; omega
      split
      · rw [h3]; rfl
      · rw [Nat.testBit_xor, Nat.testBit_two_pow, h3, h4]; simp
  · have h3 : decide (j = i) = false := by simp; omega
    rw [if_neg (fun k => h1 k.1), h3]; rfl
theorem setB_small {xs : List Nat} (h : smalls xs) (i : Nat) (on : Bool) : smalls (setB xs i on) := h.set _ _ (setW_lt _ _ _ (h.get _) (by omega))
theorem getB_zeros (n i : Nat) : getB (List.replicate n 0) i = false := by
  unfold getB
  have : (List.replicate n 0).getD (i / 64) 0 = 0 := by
    rw [List.getD_eq_getElem?_getD, List.getElem?_replicate]
    split <;> rfl
  rw [this]; simp

/-- The row of chosen ones of k blocks. -/
def rowL (k : Nat) (ns : List Nat) : List Nat := ns.foldl (fun v i => setB v i true) (List.replicate (sizeOfK (k : Int)) 0)
theorem rowL_nil (k : Nat) : rowL k [] = List.replicate (sizeOfK (k : Int)) 0 := rfl
theorem rowL_snoc (k : Nat) (ns : List Nat) (i : Nat) : rowL k (ns ++ [i]) = setB (rowL k ns) i true := by simp [rowL, List.foldl_append]
theorem rowL_take (k : Nat) (ns : List Nat) (j : Nat) (h : j < ns.length) : rowL k (ns.take (j + 1)) = setB (rowL k (ns.take j)) (ns.getD j 0) true := by
  rw [List.take_succ_eq_append_getElem h, rowL_snoc]
  simp [List.getD_eq_getElem?_getD, List.getElem?_eq_getElem h]
theorem sizeOfK_nat {k : Nat} (h1 : 1 ≤ k) (h2 : k ≤ 128) : sizeOfK (k : Int) = (k + 63) / 64 := by
  unfold sizeOfK
  rw [if_neg (by omega)]
  omega
theorem fold_len : ∀ (ns v : List Nat), (ns.foldl (fun v i => setB v i true) v).length = v.length
  | [], _ => rfl
  | i :: ns, v => by rw [List.foldl_cons, fold_len ns, setB_length]
theorem rowL_length (k : Nat) (ns : List Nat) : (rowL k ns).length = sizeOfK (k : Int) := by rw [rowL, fold_len, List.length_replicate]
theorem fold_small : ∀ (ns v : List Nat), smalls v → smalls (ns.foldl (fun v i => setB v i true) v)
  | [], _, h => h
  | i :: ns, v, h => fold_small ns _ (setB_small h i true)
theorem zeros_smalls (n : Nat) : smalls (List.replicate n 0) := by
  intro x hx
  rw [(List.mem_replicate.1 hx).2]
  show 0 < 18446744073709551616
  decide
theorem rowL_small (k : Nat) (ns : List Nat) : smalls (rowL k ns) := fold_small ns _ (zeros_smalls _)
theorem fold_get : ∀ (ns v : List Nat) (j : Nat), (∀ i ∈ ns, i < 64 * v.length) → getB (ns.foldl (fun v i => setB v i true) v) j = (decide (j ∈ ns) || getB v j)
  | [], v, j, _ => by simp
  | i :: ns, v, j, h => by
    rw [List.foldl_cons, fold_get ns _ j (fun x hx => by rw [setB_length]; exact h x (by simp [hx])), getB_setB v i j (h i (by simp))]
    by_cases h1 : j ∈ ns <;> by_cases h2 : j = i <;> simp [h1, h2]
theorem rowL_get {k : Nat} {ns : List Nat} (h1 : 1 ≤ k) (h2 : k ≤ 128) (h : ∀ i ∈ ns, i < k) (j : Nat) : getB (rowL k ns) j = decide (j ∈ ns) := by
  rw [rowL, fold_get ns _ j (fun i hi => by have := h i hi; rw [List.length_replicate, sizeOfK_nat h1 h2]; omega), getB_zeros]
  simp
theorem rowL_valid {k : Nat} {ns : List Nat} (h1 : 1 ≤ k) (h2 : k ≤ 128) (h : ∀ i ∈ ns, i < k) : ValidP (k : Int) (rowL k ns) := by
  refine ⟨by rw [rowL_length, sizeOfK_nat h1 h2]; omega, rowL_length _ _, fun i hi => ?_⟩
  rw [rowL_get h1 h2 h, decide_eq_false_iff_not]
  intro hm
  have := h i hm
  omega
theorem cnt_some {xs : List Nat} {i : Nat} (h : getB xs i = true) : 0 < cnt xs := by
  rcases Nat.eq_zero_or_pos (cnt xs) with h0 | h0
  · exfalso
    have h1 : upTo xs 0 = cnt xs := by rw [h0]; rfl
    rw [(upTo_cnt xs 0).1 h1 i (Nat.zero_le _)] at h
    cases h
  · exact h0
theorem rowL_cnt {k : Nat} {ns : List Nat} (h1 : 1 ≤ k) (h2 : k ≤ 128) (h : ∀ i ∈ ns, i < k) (hn : ns ≠ []) : 0 < cnt (rowL k ns) := by
  obtain ⟨i, ns', rfl⟩ := List.exists_cons_of_ne_nil hn
  exact cnt_some (i := i) (by rw [rowL_get h1 h2 h]; simp)

/-- The degree by a draw. -/
def degN (k s x : Nat) : Nat := pickD (tableL k s) x
theorem degN_in (k s x : Nat) (hk : 1 ≤ k) (hs : s ≤ 128) : 1 ≤ degN k s x ∧ degN k s x ≤ k := by
  have := pickD_in (tableL_pos k s hk hs) x
  rw [tableL_len] at this
  exact this
/-- The degree of the packet that the draws behind the N-th say; the row; how many draws are used then. -/
def degL (k s : Nat) (L : List Nat) (N : Nat) : Nat := degN k s (drawN L (N + 1))
def vecL (k s : Nat) (L : List Nat) (N : Nat) : List Nat := rowL k (distL L (N + 1) k (degL k s L N))
def nextN (k s : Nat) (L : List Nat) (N : Nat) : Nat := N + 1 + degL k s L N
theorem degL_in (k s : Nat) (L : List Nat) (N : Nat) (hk : 1 ≤ k) (hs : s ≤ 128) : 1 ≤ degL k s L N ∧ degL k s L N ≤ k := degN_in k s _ hk hs
theorem deg_min (k s : Nat) (L : List Nat) (N : Nat) (hk : 1 ≤ k) (hs : s ≤ 128) : min ((degL k s L N : Nat) : Int).toNat k = degL k s L N := by
  have := degL_in k s L N hk hs
  omega
theorem dist_mem (L : List Nat) (N n k i : Nat) (h : i ∈ distL L N n k) : i < n := by
  unfold distL at h
  exact List.mem_range.1 (List.mem_filter.1 h).1
theorem vecL_length (k s : Nat) (L : List Nat) (N : Nat) : (vecL k s L N).length = sizeOfK (k : Int) := rowL_length _ _
theorem vecL_small (k s : Nat) (L : List Nat) (N : Nat) : smalls (vecL k s L N) := rowL_small _ _
theorem vecL_valid (k s : Nat) (L : List Nat) (N : Nat) (h1 : 1 ≤ k) (h2 : k ≤ 128) : ValidP (k : Int) (vecL k s L N) := rowL_valid h1 h2 fun i hi => dist_mem _ _ _ _ i hi
theorem vecL_some (k s : Nat) (L : List Nat) (N : Nat) (h1 : 1 ≤ k) (h2 : k ≤ 128) (hs : s ≤ 128) : ∃ i, i < k ∧ getB (vecL k s L N) i = true := by
  have hd := degL_in k s L N h1 hs
  have hl := distL_length L (N + 1) k (degL k s L N) hd.2
  obtain ⟨i, ns', he⟩ := List.exists_cons_of_ne_nil (show distL L (N + 1) k (degL k s L N) ≠ [] from fun e => by rw [e] at hl; simp at hl; omega)
  have hm : i ∈ distL L (N + 1) k (degL k s L N) := by rw [he]; simp
  refine ⟨i, dist_mem _ _ _ _ i hm, ?_⟩
  rw [vecL, rowL_get h1 h2 (fun i hi => dist_mem _ _ _ _ i hi)]
  exact decide_eq_true hm
theorem vecL_cnt (k s : Nat) (L : List Nat) (N : Nat) (h1 : 1 ≤ k) (h2 : k ≤ 128) (hs : s ≤ 128) : 0 < cnt (vecL k s L N) := by
  obtain ⟨i, _, hi⟩ := vecL_some k s L N h1 h2 hs
  exact cnt_some hi

/-- All blocks of one size: the xor of some of them has it, too. -/
theorem ofL_sizes (ss : List ByteArray) (vs : List Nat) (z : Nat) (h : ∀ i, i < ss.length → (ss.getD i ByteArray.empty).size = z) : ∀ n, n ≤ ss.length → ((∃ i, i < n ∧ getB vs i = true) → (ofL ss vs n).length = z) ∧ ((ofL ss vs n).length = 0 ∨ (ofL ss vs n).length = z)
  | 0, _ => ⟨fun ⟨i, hi, _⟩ => by omega, .inl rfl⟩
  | n + 1, hn => by
    obtain ⟨h1, h2⟩ := ofL_sizes ss vs z h n (by omega)
    cases hg : getB vs n
    · rw [ofL_no hg]
      refine ⟨fun ⟨i, hi, hb⟩ => h1 ⟨i, ?_, hb⟩, h2⟩
      rcases Nat.lt_or_ge i n with hlt | hge
      · exact hlt
      · obtain rfl : i = n := by omega
        rw [hg] at hb; cases hb
    · rw [ofL_yes hg, xorL_length, tx_length, h n (by omega)]
      have : max (ofL ss vs n).length z = z := by rcases h2 with h2 | h2 <;> omega
      exact ⟨fun _ => this, .inr this⟩
theorem blk_size (xs : List Nat) (z k i : Nat) (h : i < k) : ((blocksL xs z k).getD i ByteArray.empty).size = z := by rw [blocks_get xs z k i h, st_len, blk_length]
theorem of_size (xs : List Nat) (z k s : Nat) (L : List Nat) (N : Nat) (h1 : 1 ≤ k) (h2 : k ≤ 128) (hs : s ≤ 128) : (st (ofL (blocksL xs z k) (vecL k s L N) k)).size = z := by
  rw [st_len]
  refine (ofL_sizes (blocksL xs z k) (vecL k s L N) z (fun i hi => ?_) k (by rw [blocksL_length]; exact Nat.le_refl _)).1 (vecL_some k s L N h1 h2 hs)
  rw [blocksL_length] at hi
  exact blk_size xs z k i hi
/-- The packet may be. -/
theorem emit_ok (o len z k s : Nat) (xs : List Nat) (L : List Nat) (N : Nat) (ho : o ≤ 4294967295) (hz1 : 1 ≤ z) (hz2 : z ≤ 64) (h1 : 1 ≤ k) (h2 : k ≤ 128) (hs : s ≤ 128) (hl : len ≤ k * z) :
    CheckP (o : Int) (len : Int) (k : Int) (z : Int) 0 (vecL k s L N) (st (ofL (blocksL xs z k) (vecL k s L N) k)).size := by
  refine ⟨⟨⟨⟨by omega, by omega⟩, by omega, by omega⟩, ⟨by omega, by omega⟩, ⟨by omega, ?_⟩, by omega, by omega⟩, vecL_valid k s L N h1 h2, vecL_cnt k s L N h1 h2 hs, ?_⟩
  · have : ((k : Int) * (z : Int)) = ((k * z : Nat) : Int) := by simp
    rw [this]; omega
  · rw [of_size xs z k s L N h1 h2 hs]

/-- Draws 0, i: block i alone. -/
theorem deg_zero (k s : Nat) (hk : 1 ≤ k) (hs : s ≤ 128) : degN k s 0 = 1 := by
  have := pickD_at (tableL k s) 0 0 (by rw [tableL_len]; omega) (by rw [tableL_get k s 0 (by omega)]; have := (shareN_le k s (0 + 1) hs).1; omega)
  unfold degN
  simpa [sumZ] using this
theorem unit_deg (k s i : Nat) (hk : 1 ≤ k) (hs : s ≤ 128) : degL k s [0, i] 0 = 1 := by
  unfold degL
  rw [show drawN [0, i] (0 + 1) = 0 from by rw [drawN_in (by simp)]; rfl]
  exact deg_zero k s hk hs
theorem range_getD (k i : Nat) (h : i < k) : (List.range k).getD i 0 = i := by simp [List.getD_eq_getElem?_getD, h]
theorem unit_dist (k i : Nat) (hi : i < k) : distL [0, i] 1 k 1 = [i] := by
  have hp := dist_perm [0, i] 1 k 1 (by omega)
  have hq : picksL [0, i] 1 (List.range k) 1 = [i] := by
    show [] ++ [_] = [i]
    rw [show drawN [0, i] (1 + 0 + 1) = i from by rw [drawN_in (by simp)]; rfl]
    show [] ++ [(List.range k).getD (i % (List.range k).length) 0] = [i]
    rw [List.length_range, Nat.mod_eq_of_lt hi, range_getD k i hi]
    rfl
  rw [hq] at hp
  exact (List.perm_singleton.1 hp.symm)
theorem unit_vec (k s i : Nat) (hk : 1 ≤ k) (hs : s ≤ 128) (hi : i < k) : vecL k s [0, i] 0 = rowL k [i] := by
  unfold vecL
  rw [unit_deg k s i hk hs, show (0 + 1 : Nat) = 1 from rfl, unit_dist k i hi]
theorem unit_row (k i : Nat) (hi : i < k) : rowL k [i] = unitL (k : Int) (i : Int) := by
  unfold unitL setI
  rw [if_neg (by omega), if_neg (by omega)]
  rfl
theorem ofL_unit (ss : List ByteArray) (vs : List Nat) (i : Nat) (h : ∀ j, getB vs j = decide (j = i)) : ∀ n, ofL ss vs n = if i < n then tx (ss.getD i ByteArray.empty) else []
  | 0 => by simp [ofL]
  | n + 1 => by
    by_cases hn : n = i
    · subst hn
      rw [ofL_yes (by rw [h]; simp), ofL_unit ss vs n h n, if_neg (by omega), if_pos (by omega), nil_xorL]
    · rw [ofL_no (by rw [h]; simp [hn]), ofL_unit ss vs i h n]
      by_cases h2 : i < n
      · rw [if_pos h2, if_pos (by omega)]
      · rw [if_neg h2, if_neg (by omega)]
theorem unit_data (ss : List ByteArray) (k s i : Nat) (hk : 1 ≤ k) (hk2 : k ≤ 128) (hs : s ≤ 128) (hi : i < k) : st (ofL ss (vecL k s [0, i] 0) k) = ss.getD i ByteArray.empty := by
  rw [unit_vec k s i hk hs hi, ofL_unit ss (rowL k [i]) i (fun j => by rw [rowL_get hk hk2 (fun x hx => by rw [List.mem_singleton.1 hx]; exact hi)]; simp) k, if_pos hi, st_tx]
end Go.Proofs.YtigmckjjoabfeaaDoor
namespace Go.Proofs.YtigmckjjoabfeaaDoor
open Go.RowKit
set_option linter.unusedVariables false
set_option maxRecDepth 4000

/-- A source at block g, that can be read. -/
def SrcAt (w : World) (g : Nat) (o l z : Int) (s : Nat) (ss : List ByteArray) : Prop :=
  ∃ a c, (w.cell? ⟨g, 0, none⟩ = some (.int .i64 o) ∧ w.cell? ⟨g, 1, none⟩ = some (.int .i64 l) ∧ w.cell? ⟨g, 2, none⟩ = some (.int .i64 z) ∧ w.cell? ⟨g, 3, none⟩ = some (.slice a ss.length c) ∧ w.cell? ⟨g, 4, none⟩ = some (.int .i64 (s : Int))) ∧ TextsAt w a ss.length ss
theorem SrcAt.below {w w' : World} {g : Nat} {o l z : Int} {s : Nat} {ss : List ByteArray} (h : SrcAt w g o l z s ss) (hb : Below w.heap.size w w') : SrcAt w' g o l z s ss := by
  obtain ⟨a, c, ⟨h0, h1, h2, h3, h4⟩, ht⟩ := h
  have e : ∀ o, w'.cell? ⟨g, o, none⟩ = w.cell? ⟨g, o, none⟩ := fun o => hb.cell (show g < w.heap.size from World.block_lt_of_cell? w ⟨g, 0, none⟩ h0)
  exact ⟨a, c, ⟨(e _).trans h0, (e _).trans h1, (e _).trans h2, (e _).trans h3, (e _).trans h4⟩, ht.below hb⟩
/-- Draws that are turned are no part of a source. -/
theorem SrcAt.kept {w w' : World} {g k : Nat} {o l z : Int} {s : Nat} {ss : List ByteArray} {T : TypeId} {a' : Option Addr} {n' c' : Nat} {i : Int} (h : SrcAt w g o l z s ss) (hg : w.grownBy w' (some k)) (hap : Bk2 T w k (.slice a' n' c') (.int .i64 i)) : SrcAt w' g o l z s ss := by
  obtain ⟨a, c, ⟨h0, h1, h2, h3, h4⟩, hl, ht⟩ := h
  have hne : g ≠ k := by
    rintro rfl
    rw [hap.at0] at h0
    simp at h0
  refine ⟨a, c, ⟨hg.cell h0 (fun e => hne (Option.some.inj e)), hg.cell h1 (fun e => hne (Option.some.inj e)), hg.cell h2 (fun e => hne (Option.some.inj e)), hg.cell h3 (fun e => hne (Option.some.inj e)), hg.cell h4 (fun e => hne (Option.some.inj e))⟩, hl, ?_⟩
  rcases ht with h0 | ⟨b, off, rfl, hc⟩
  · exact .inl h0
  · refine .inr ⟨b, off, rfl, fun j hj => hg.cell (hc j hj) (fun e => ?_)⟩
    have e : b = k := Option.some.inj e
    subst e
    have h0 := hc j hj
    unfold Bk2 at hap
    rw [cell_of_row w b _ _ _ _ hap] at h0
    match off + j, h0 with
    | 0, h0 => simp at h0
    | 1, h0 => simp at h0
    | q + 2, h0 => simp at h0

/-- The error's number of New. -/
def newE (o : Int) (n : Nat) (z p : Int) : Int := if o < 0 ∨ 4294967295 < o ∨ p < 0 then 1 else planE (n : Int) z
theorem newE_arg {o : Int} {n : Nat} {z p : Int} (h : o < 0 ∨ 4294967295 < o ∨ p < 0) : newE o n z p = 1 := if_pos h
theorem newE_plan {o : Int} {n : Nat} {z p : Int} (h : ¬ (o < 0 ∨ 4294967295 < o ∨ p < 0)) : newE o n z p = planE (n : Int) z := if_neg h
theorem newE_yes {o : Int} {n : Nat} {z p : Int} (h : newE o n z p = 0) : ∃ O Z Q : Nat, o = (O : Int) ∧ O ≤ 4294967295 ∧ p = (Q : Int) ∧ z = (Z : Int) ∧ 1 ≤ Z ∧ Z ≤ 64 ∧ kc n Z ≤ 128 := by
  by_cases h1 : o < 0 ∨ 4294967295 < o ∨ p < 0
  · rw [newE_arg h1] at h; cases h
  · rw [newE_plan h1] at h
    obtain ⟨Z, rfl, h2, h3, h4⟩ := plan_yes h
    exact ⟨o.toNat, Z, p.toNat, by omega, by omega, by omega, rfl, h2, h3, h4⟩

/-- A block that holds an object, none of it frozen. -/
def ObB (w : World) (g : Nat) (v0 v1 v2 v3 : Value) : Prop := w.heap[g]? = some (.cells #[v0, v1, v2, v3] 60 (0, 0))
theorem obb_new (w : World) (v0 v1 v2 v3 : Value) : ObB (w.alloc (.cells #[v0, v1, v2, v3] 60)) w.heap.size v0 v1 v2 v3 := by
  show (w.heap.push _)[w.heap.size]? = _
  simp
theorem ObB.lt {w : World} {g : Nat} {v0 v1 v2 v3 : Value} (h : ObB w g v0 v1 v2 v3) : g < w.heap.size := (Array.getElem?_eq_some_iff.1 h).1
theorem ObB.below {w w' : World} {g : Nat} {v0 v1 v2 v3 : Value} (h : ObB w g v0 v1 v2 v3) (hb : Below w.heap.size w w') : ObB w' g v0 v1 v2 v3 := (hb.block g h.lt).trans h
theorem ObB.cells {w : World} {g : Nat} {v0 v1 v2 v3 : Value} (h : ObB w g v0 v1 v2 v3) : w.cell? ⟨g, 0, none⟩ = some v0 ∧ w.cell? ⟨g, 1, none⟩ = some v1 ∧ w.cell? ⟨g, 2, none⟩ = some v2 ∧ w.cell? ⟨g, 3, none⟩ = some v3 := by
  unfold ObB at h
  refine ⟨?_, ?_, ?_, ?_⟩ <;> rw [cell_of_row w g _ _ _ _ h] <;> rfl
theorem ObB.frz {w : World} {g : Nat} {v0 v1 v2 v3 : Value} (h : ObB w g v0 v1 v2 v3) (i : Nat) : w.frozen? ⟨g, i, none⟩ = false := by
  unfold ObB at h
  simp [World.frozen?, h]
def set4 (w : World) (g : Nat) (u0 u1 u2 u3 : Value) : World := (((w.setCell ⟨g, 0, none⟩ u0).setCell ⟨g, 1, none⟩ u1).setCell ⟨g, 2, none⟩ u2).setCell ⟨g, 3, none⟩ u3
theorem ObB.set0 {w : World} {g : Nat} {v0 v1 v2 v3 : Value} (h : ObB w g v0 v1 v2 v3) (u : Value) : ObB (w.setCell ⟨g, 0, none⟩ u) g u v1 v2 v3 := heap_setCell_same w g 0 _ _ u h
theorem ObB.set1 {w : World} {g : Nat} {v0 v1 v2 v3 : Value} (h : ObB w g v0 v1 v2 v3) (u : Value) : ObB (w.setCell ⟨g, 1, none⟩ u) g v0 u v2 v3 := heap_setCell_same w g 1 _ _ u h
theorem ObB.set2 {w : World} {g : Nat} {v0 v1 v2 v3 : Value} (h : ObB w g v0 v1 v2 v3) (u : Value) : ObB (w.setCell ⟨g, 2, none⟩ u) g v0 v1 u v3 := heap_setCell_same w g 2 _ _ u h
theorem ObB.set3 {w : World} {g : Nat} {v0 v1 v2 v3 : Value} (h : ObB w g v0 v1 v2 v3) (u : Value) : ObB (w.setCell ⟨g, 3, none⟩ u) g v0 v1 v2 u := heap_setCell_same w g 3 _ _ u h
theorem ObB.sets {w : World} {g : Nat} {v0 v1 v2 v3 : Value} (h : ObB w g v0 v1 v2 v3) (u0 u1 u2 u3 : Value) : ObB (set4 w g u0 u1 u2 u3) g u0 u1 u2 u3 := (((h.set0 u0).set1 u1).set2 u2).set3 u3
theorem below4 {B : Nat} {a w : World} (h : Below B a w) {g : Nat} (hg : B ≤ g) (u0 u1 u2 u3 : Value) : Below B a (set4 w g u0 u1 u2 u3) :=
  (((h.setCell hg u0).setCell hg u1).setCell hg u2).setCell hg u3
theorem gb4 (w : World) (g : Nat) (u0 u1 u2 u3 : Value) : w.grownBy (set4 w g u0 u1 u2 u3) (some g) :=
  gb_trans (gb_trans (gb_trans (gb_setCell _ _ _ _) (gb_setCell _ _ _ _) (.inl rfl)) (gb_setCell _ _ _ _) (.inl rfl)) (gb_setCell _ _ _ _) (.inl rfl)
theorem OwnT.kept {w w' : World} {B : Nat} {v : Value} {ss : List ByteArray} {k : Nat} (h : OwnT w B v ss) (hg : w.grownBy w' (some k)) (hk : k < B) : OwnT w' B v ss := by
  refine ⟨h.1, ?_⟩
  rcases h.2 with h0 | ⟨g, cap, cur, h1, hb, hgg, r⟩
  · exact .inl h0
  · exact .inr ⟨g, cap, cur, h1, hb, (hg.block g (Array.getElem?_eq_some_iff.1 hgg).1 (fun e => by have := Option.some.inj e; omega)).trans hgg, r⟩
theorem OwnT.at' {w : World} {B : Nat} {a : Option Addr} {n c : Nat} {ss : List ByteArray} (h : OwnT w B (.slice a n c) ss) : TextsAt w a n ss := by
  obtain ⟨a1, c1, e, hi⟩ := h.texts
  simp only [Value.slice.injEq] at e
  obtain ⟨rfl, rfl, rfl⟩ := e
  exact hi
theorem results_cut {tmps : Array Value} {W : World} {g : Nat} {x : Int} {u0 u1 u2 u3 : Value} (h2 : tmps.getD 6 undef = .pointer (some ⟨g, 0, none⟩)) (h3 : tmps.getD 7 undef = .int .i64 x) (hq : ObB W g u0 u1 u2 u3) :
    (results Tryd.f23 tmps).run Tryd.prog W = .ok (.tuple #[.agg #[u0, u1, u2, u3], .int .i64 x]) W := by
  obtain ⟨k0, k1, k2, k3⟩ := hq.cells
  have h2' : tmps[6]?.getD undef = .pointer (some ⟨g, 0, none⟩) := by simpa using h2
  have h3' : tmps[7]?.getD undef = .int .i64 x := by simpa using h3
  simp [results, Tryd.results23, go_sem, h2', h3', k0, k1, k2, k3]

set_option maxHeartbeats 1000000 in
theorem ecut_no (o : Int) (s : ByteArray) (z : Int) (w : World) (hs : s.size ≤ 9223372036854775807) (h : planE (s.size : Int) z ≠ 0) :
    Calls Tryd.prog 23 #[.int .i64 o, .string s, .int .i64 z] w fun e w' => e = .returned (.tuple #[.agg #[.int .i64 0, .int .i64 0, .int .i64 0, .slice none 0 0], .int .i64 (planE (s.size : Int) z)]) ∧ Below w.heap.size w w' := by
  have X0 := hide (obb_new w (.int .i64 0) (.int .i64 0) (.int .i64 0) (.slice none 0 0))
  have HS := hide (split_no s z (w.alloc (.cells #[.int .i64 0, .int .i64 0, .int .i64 0, .slice none 0 0] 60)) hs h)
  have B0 := hide ((Below.refl _ w).alloc (Nat.le_refl _) (.cells #[.int .i64 0, .int .i64 0, .int .i64 0, .slice none 0 0] 60))
  have h' : (planE (s.size : Int) z != 0) = true := bne_iff_ne.2 h
  generalize planE (s.size : Int) z = E0 at *
  go_enter Tryd.func23, Tryd.ntmps23
  go_wp2_with (go_at_call 47; refine (unhide HS).mono ?_; rintro e w1 ⟨rfl, hw⟩; obtain rfl := hw.symm; clear hw)
  exact bodyPost_ret (results_cut rfl rfl (unhide X0)) rfl ⟨rfl, unhide B0⟩

set_option maxHeartbeats 1000000 in
theorem ecut_yes (o : Int) (s : ByteArray) (Z : Nat) (w : World) (hz1 : 1 ≤ Z) (hz2 : Z ≤ 64) (hk2 : kc s.size Z ≤ 128) :
    Calls Tryd.prog 23 #[.int .i64 o, .string s, .int .i64 (Z : Int)] w fun e w' => ∃ a c, e = .returned (.tuple #[.agg #[.int .i64 o, .int .i64 (s.size : Int), .int .i64 (Z : Int), .slice a (kc s.size Z) c], .int .i64 0]) ∧ TextsAt w' a (kc s.size Z) (blocksL (tx s) Z (kc s.size Z)) ∧ Below w.heap.size w w' := by
  have hbl := blocksL_length (tx s) Z (kc s.size Z)
  have X0 := hide (obb_new w (.int .i64 0) (.int .i64 0) (.int .i64 0) (.slice none 0 0))
  have HS := hide (split_yes s Z (w.alloc (.cells #[.int .i64 0, .int .i64 0, .int .i64 0, .slice none 0 0] 60)) hz1 hz2 hk2)
  have B0 := hide ((Below.refl _ w).alloc (Nat.le_refl _) (.cells #[.int .i64 0, .int .i64 0, .int .i64 0, .slice none 0 0] 60))
  generalize kc s.size Z = k at *
  generalize blocksL (tx s) Z k = ss at *
  go_enter Tryd.func23, Tryd.ntmps23
  go_wp2_with fail
  refine (unhide HS).mono ?_
  rintro e w1 ⟨v, rfl, ho, hb⟩
  obtain ⟨a, c, rfl, ht⟩ := ho.texts
  rw [hbl] at ho ht ⊢
  have x1 := (unhide X0).below hb
  have B1 := hide (below0 (unhide B0) hb)
  have HO := hide ho
  have X1 := hide x1
  obtain ⟨k0, k1, k2, k3⟩ := x1.cells
  have f0 := x1.frz 0
  have f1 := x1.frz 1
  have f2 := x1.frz 2
  have f3 := x1.frz 3
  clear ht ho hb hbl x1
  go_wp2
  exact bodyPost_ret (results_cut rfl rfl ((unhide X1).sets (.int .i64 o) (.int .i64 (s.size : Int)) (.int .i64 (Z : Int)) (.slice a k c))) rfl
    ⟨a, c, rfl, ((unhide HO).kept (gb4 w1 w.heap.size _ _ _ _) (by rw [alloc_size]; omega)).at', below4 (unhide B1) (Nat.le_refl _) _ _ _ _⟩

set_option maxHeartbeats 1000000 in
theorem new_bad (o : Int) (s : ByteArray) (z p : Int) (w : World) (hs : s.size ≤ 9223372036854775807) (h : newE o s.size z p ≠ 0) :
    Calls Tryd.prog 8 #[.int .i64 o, .string s, .int .i64 z, .int .i64 p] w fun e w' => e = .returned (.tuple #[.pointer none, .int .i64 (newE o s.size z p)]) ∧ Below w.heap.size w w' := by
  by_cases h1 : o < 0
  · rw [newE_arg (.inl h1)]
    clear h
    go_enter Tryd.func8, Tryd.ntmps8
    go_wp2
    go_ret2
    exact ⟨rfl, Below.refl _ _⟩
  by_cases h2 : 4294967295 < o
  · rw [newE_arg (.inr (.inl h2))]
    clear h
    go_enter Tryd.func8, Tryd.ntmps8
    go_wp2
    go_ret2
    exact ⟨rfl, Below.refl _ _⟩
  by_cases h3 : p < 0
  · rw [newE_arg (.inr (.inr h3))]
    clear h
    go_enter Tryd.func8, Tryd.ntmps8
    go_wp2
    go_ret2
    exact ⟨rfl, Below.refl _ _⟩
  rw [newE_plan (by omega)] at h ⊢
  have HC := hide (ecut_no o s z w hs h)
  have h' : (planE (s.size : Int) z != 0) = true := bne_iff_ne.2 h
  generalize planE (s.size : Int) z = E0 at *
  clear hs
  go_enter Tryd.func8, Tryd.ntmps8
  go_wp2_with (go_at_call 23; refine (unhide HC).mono ?_; rintro e w1 ⟨rfl, hb⟩; have HB := hide hb; clear hb)
  go_ret2
  exact ⟨rfl, (unhide HB).alloc (unhide HB).size _⟩

theorem src_new {w : World} {a : Option Addr} {k c : Nat} {ss : List ByteArray} (hk : ss.length = k) (h : TextsAt w a k ss) (o l z : Int) (s : Nat) (ob : Obj) :
    SrcAt ((w.alloc ob).alloc (.cells #[.int .i64 o, .int .i64 l, .int .i64 z, .slice a k c, .int .i64 (s : Int)] 64)) (w.heap.size + 1) o l z s ss := by
  subst hk
  refine ⟨a, c, ⟨?_, ?_, ?_, ?_, ?_⟩, (h.below ((Below.refl _ _).alloc (Nat.le_refl _) _)).below ((Below.refl _ _).alloc (Nat.le_refl _) _)⟩ <;>
    (rw [← alloc_size w ob, World.cell?_alloc_at _ _ _ _ rfl]; rfl)

set_option maxHeartbeats 1000000 in
theorem new_yes (O : Nat) (s : ByteArray) (Z Q : Nat) (w : World) (ho : O ≤ 4294967295) (hz1 : 1 ≤ Z) (hz2 : Z ≤ 64) (hk2 : kc s.size Z ≤ 128) :
    Calls Tryd.prog 8 #[.int .i64 (O : Int), .string s, .int .i64 (Z : Int), .int .i64 (Q : Int)] w fun e w' => ∃ g, e = .returned (.tuple #[.pointer (some ⟨g, 0, none⟩), .int .i64 0]) ∧ SrcAt w' g (O : Int) (s.size : Int) (Z : Int) (min Q (kc s.size Z)) (blocksL (tx s) Z (kc s.size Z)) ∧ Below w.heap.size w w' := by
  have hbl := blocksL_length (tx s) Z (kc s.size Z)
  have HC := hide (ecut_yes (O : Int) s Z w hz1 hz2 hk2)
  generalize kc s.size Z = k at *
  have hmin := min_run Q k
  generalize blocksL (tx s) Z k = ss at *
  generalize min Q k = M at *
  have HBL := hide hbl
  clear hbl
  go_enter Tryd.func8, Tryd.ntmps8
  go_wp2_with (go_at_call 23; refine (unhide HC).mono ?_; rintro e w1 ⟨a, c, rfl, ht, hb⟩; have HB := hide hb; have HT := hide ht; clear hb ht)
  go_ret2
  have hB := unhide HB
  have h1 := hB.alloc hB.size (.cells #[.int .i64 (O : Int), .int .i64 (s.size : Int), .int .i64 (Z : Int), .slice a k c] 60)
  exact ⟨_, rfl, src_new (unhide HBL) (unhide HT) _ _ _ _ _, h1.alloc h1.size _⟩

theorem ek_nil (w : World) : Calls Tryd.prog 12 #[.pointer none] w fun e w' => e = .returned (.int .i64 0) ∧ w' = w := by
  go_enter Tryd.func12, Tryd.ntmps12
  go_wp2
  go_ret
  exact ⟨rfl, rfl⟩
theorem ek_any (g : Nat) (o l z : Int) (s : Nat) (ss : List ByteArray) (w : World) (h : SrcAt w g o l z s ss) :
    Calls Tryd.prog 12 #[.pointer (some ⟨g, 0, none⟩)] w fun e w' => e = .returned (.int .i64 (ss.length : Int)) ∧ w' = w := by
  obtain ⟨a, c, ⟨h0, h1, h2, h3, h4⟩, ht⟩ := h
  clear ht h0 h1 h2 h4
  generalize ss.length = n at *
  go_enter Tryd.func12, Tryd.ntmps12
  go_wp2
  go_ret
  exact ⟨rfl, rfl⟩

theorem OwnT.at {w : World} {B : Nat} {v : Value} {ss : List ByteArray} (h : OwnT w B v ss) (hn : 0 < ss.length) :
    ∃ g cap, v = .slice (some ⟨g, 0, none⟩) ss.length cap ∧ B ≤ g ∧ g < w.heap.size ∧ (∀ i, i < ss.length → w.cell? ⟨g, i, none⟩ = some (.string (ss.getD i ByteArray.empty))) ∧ ∀ i, w.frozen? ⟨g, i, none⟩ = false := by
  have ho' : w.ownsRow B 9 1 v ss.length (cellsT ss) := h
  rcases h.2 with ⟨rfl, h0⟩ | ⟨g, cap, cur, rfl, hb, hg, hn, hm, hsz, ht⟩
  · omega
  · refine ⟨g, cap, rfl, hb, (Array.getElem?_eq_some_iff.1 hg).1, fun i hi => ?_, fun i => ho'.frozenAt i⟩
    rw [ho'.cellAt i (by omega), cellsT_get ss i hi]
theorem OwnT.stored {w : World} {B g cap n : Nat} {ss : List ByteArray} (h : OwnT w B (.slice (some ⟨g, 0, none⟩) n cap) ss) (i : Nat) (x : ByteArray) :
    OwnT (w.setCell ⟨g, i, none⟩ (.string x)) B (.slice (some ⟨g, 0, none⟩) n cap) (ss.set i x) := by
  obtain rfl : n = ss.length := by
    obtain ⟨a, c, e, _⟩ := h.texts
    simp only [Value.slice.injEq] at e
    exact e.2.1
  have ho : w.ownsRow B 9 1 (.slice (some ⟨g, 0, none⟩) ss.length cap) ss.length (cellsT ss) := h
  have := (ho.stored i (.string x)).1
  rw [show (cellsT ss).set i (.string x) = cellsT (ss.set i x) by simp [cellsT, List.map_set]] at this
  show World.ownsRow _ B 9 1 _ (ss.set i x).length _
  rw [List.length_set]
  exact this
theorem made_texts (w : World) (n : Nat) (hn : n ≤ 1048576) (ss : List ByteArray) (hss : ss = List.replicate n ByteArray.empty) :
    OwnT (w.alloc (.cells (madeCells #[.string ByteArray.empty] n) 9)) w.heap.size (.slice (some ⟨w.heap.size, 0, none⟩) n n) ss := by
  subst hss
  refine ⟨by simp [cellsT], .inr ⟨w.heap.size, n, madeCells #[.string ByteArray.empty] n, by simp, Nat.le_refl _, heap_alloc_new w _, by simp, by unfold maxLen; omega, by simp [size_madeCells], ?_⟩⟩
  rw [toList_madeCells_one, List.take_of_length_le (by simp)]
  simp [cellsT]
theorem make_texts (n : Nat) (hn : n ≤ 1048576) (wx : World) : (Instr.makeSlice 28 (.int .i64 (n : Int)) (.int .i64 (n : Int))).run Tryd.prog wx = .ok (.slice (some ⟨wx.heap.size, 0, none⟩) n n) (wx.alloc (.cells (madeCells #[.string ByteArray.empty] n) 9)) := by
  obtain ⟨i0, hi0, hz0, hzs, hzb⟩ := info_parts info_strT
  have := run_make (P := Tryd.prog) wx 28 9 i0 (.string ByteArray.empty) Tryd.underlying28 hi0 hz0 .i64 .i64 (n : Int) (n : Int) (by omega) (Int.le_refl _) (by rw [hzb]; omega) (by omega)
  rw [hzs] at this
  simpa [Value.cells] using this
/-- What is written so far. -/
def filledT (fs : List ByteArray) (k : Nat) : List ByteArray := fs.take k ++ List.replicate (fs.length - k) ByteArray.empty
theorem filledT_zero (fs : List ByteArray) : filledT fs 0 = List.replicate fs.length ByteArray.empty := by simp [filledT]
theorem filledT_all (fs : List ByteArray) : filledT fs fs.length = fs := by simp [filledT]
theorem filledT_length (fs : List ByteArray) (k : Nat) (hk : k ≤ fs.length) : (filledT fs k).length = fs.length := by simp [filledT]; omega
theorem filledT_succ (fs : List ByteArray) (k : Nat) (hk : k < fs.length) : (filledT fs k).set k (fs.getD k ByteArray.empty) = filledT fs (k + 1) := by
  unfold filledT
  have hl : (fs.take k).length = k := by simp; omega
  rw [List.set_append_right _ _ (by omega), hl, Nat.sub_self, List.take_succ_eq_append_getElem hk, List.append_assoc, show fs.length - k = (fs.length - (k + 1)) + 1 by omega, List.replicate_succ, List.set_cons_zero]
  simp [List.getD_eq_getElem?_getD, List.getElem?_eq_getElem hk]

theorem eblocks_nil (w : World) : Calls Tryd.prog 11 #[.pointer none] w fun e w' => e = .returned (.slice none 0 0) ∧ w' = w := by
  go_enter Tryd.func11, Tryd.ntmps11
  go_wp2
  go_ret
  exact ⟨rfl, rfl⟩
set_option maxHeartbeats 1000000 in
theorem eblocks_any (g : Nat) (o l z : Int) (s : Nat) (ss : List ByteArray) (w : World) (h : SrcAt w g o l z s ss) (hs : shorts ss) (hn : ss.length ≤ 128) :
    Calls Tryd.prog 11 #[.pointer (some ⟨g, 0, none⟩)] w fun e w' => ∃ v, e = .returned v ∧ OwnT w' w.heap.size v ss ∧ Below w.heap.size w w' := by
  obtain ⟨n, hln⟩ : ∃ n, ss.length = n := ⟨_, rfl⟩
  obtain ⟨a, c, ⟨h0, h1, h2, h3, h4⟩, ht⟩ := h
  rw [hln] at h3 ht hn
  have hmk := make_texts n (by omega) w
  have hO := made_texts w n (by omega) (filledT ss 0) (by rw [filledT_zero, hln])
  have hb1 : Below w.heap.size w (w.alloc (.cells (madeCells #[.string ByteArray.empty] n) 9)) := (Below.refl _ _).alloc (Nat.le_refl _) _
  have h3' : (w.alloc (.cells (madeCells #[.string ByteArray.empty] n) 9)).cell? ⟨g, 3, none⟩ = some (.slice a n c) := (hb1.cell (World.block_lt_of_cell? w _ h3)).trans h3
  have HT := hide ht
  have HO := hide hO
  have HB := hide hb1
  have HS := hide hs
  have HL := hide hln
  clear h0 h1 h2 h4 ht hs hO hb1 hln
  generalize w.alloc (.cells (madeCells #[.string ByteArray.empty] n) 9) = w0 at *
  go_enter Tryd.func11, Tryd.ntmps11
  go_wp2
  go_loopw [21] (fun i wr => ∃ k : Nat, k ≤ n ∧ i = .int .i64 k ∧ Hid (OwnT wr w.heap.size (.slice (some ⟨w.heap.size, 0, none⟩) n n) (filledT ss k) ∧ Below w.heap.size w wr)) (fun i _ => n - (intOf i).toNat)
  case atStart => exact ⟨0, Nat.zero_le _, rfl, hide ⟨unhide HO, unhide HB⟩⟩
  case round =>
    rename_i wr
    obtain ⟨k, hk, rfl, HR⟩ := hrel
    clear HO HB hmk h3 h3'
    by_cases hlt : k < n
    · have hlt' : (k : Int) < (n : Int) := by omega
      obtain ⟨b, off, rfl, hc⟩ := ((unhide HT).below (unhide HR).2).at hlt
      have hcell := hc k hlt
      have hlen : (filledT ss k).length = n := by rw [filledT_length _ _ (by rw [unhide HL]; exact hk), unhide HL]
      have HLN := hide hlen
      clear hc hlen
      go_wp2_with fail
      refine (sclone_any _ _ ((unhide HS).get k)).mono ?_
      rintro e w1 ⟨rfl, hb⟩
      have hO1 := (unhide HR).1.below hb
      have HB1 := hide (below0 (unhide HR).2 hb)
      obtain ⟨g', cap, e, _, hgs, hc, hf⟩ := hO1.at (by rw [unhide HLN]; omega)
      have he : g' = w.heap.size := by
        simp only [Value.slice.injEq, Option.some.injEq, Addr.mk.injEq, and_true] at e
        exact e.1.symm
      subst he
      have hcell1 := hc k (by rw [unhide HLN]; omega)
      have hfz := hf k
      have hO2 := hO1.stored k (ss.getD k ByteArray.empty)
      rw [filledT_succ _ _ (by rw [unhide HL]; exact hlt)] at hO2
      have HR2 := hide (show _ ∧ _ from ⟨hO2, (unhide HB1).setCell (p := ⟨w.heap.size, k, none⟩) (Nat.le_refl _) (.string (ss.getD k ByteArray.empty))⟩)
      generalize ss.getD k ByteArray.empty = t at *
      clear hc hf hO1 hO2 HR e hb hgs hcell
      go_wp2
      go_roundw
      case rel => exact ⟨k + 1, by omega, by go_num, HR2⟩
      case measure => simp [intOf]; omega
    · obtain rfl : k = n := by omega
      have hfin := filledT_all ss
      rw [unhide HL] at hfin
      rw [hfin] at HR
      clear hfin
      go_wp2
      go_ret
      exact ⟨_, rfl, (unhide HR).1, (unhide HR).2⟩
end Go.Proofs.YtigmckjjoabfeaaDoor
