/-
  Configs as data ('CFV': nodes, the object, numbers), slices of nodes in memory ('NdsAt'), which of them may be ('CfgP', 'ChkR'). No condition.
  What the rows' frames of the node share: the two tables as the rows list them, a config that came in by value. No condition.
  Contracts of slices.Index and slices.Contains at []int. Condition: what is asked of can be read.
  Contracts of net.within, kindRight, toRight, boundsRight, modulo. Condition: what is asked of can be read.
-/
import Derived.Test.YtakoaadimhpclaaGreatDoorU3
import Derived.Test.YtakoaadimhpclaaGreatDoorU14
import Derived.Test.YtakoaadimhpclaaGreatDoorU5
import Derived.Laws.Cover2
import Derived.WalkKit
import Derived.Test.YtakoaadimhpclaaGreatDoorU15
import Derived.Test.YtakoaadimhpclaaGreatDoorU18
namespace Go.Proofs.YtakoaadimhpclaaGreatDoor
open Go.RowKit
set_option linter.unusedVariables false
set_option linter.unusedSimpArgs false
set_option maxRecDepth 4000

/-- A node of a config as it lies in memory: its kind, whom it sends to. -/
structure NDV where
  kd : Int
  a : Option Addr
  n : Nat
  c : Nat
  tos : List Int
/-- What stands behind the end of a list of nodes. -/
def NDV.dflt : NDV := ⟨0, none, 0, 0, []⟩
/-- A config as it lies in memory. -/
structure CFV where
  a : Option Addr
  n : Nat
  c : Nat
  ds : List NDV
  obj : ByteArray
  size : Int
  spread : Int
  buffer : Int
  queue : Int
  cache : Int
  rate : Nat
  timeout : Int
  target : Int
/-- The config by value. -/
def CFV.val (f : CFV) : Value := .agg #[.slice f.a f.n f.c, .string f.obj, .int .i64 f.size, .int .i64 f.spread, .int .i64 f.buffer, .int .i64 f.queue, .int .i64 f.cache, .float .f64 f.rate, .int .i64 f.timeout, .int .i64 f.target]
/-- A slice of n nodes that can be read: they are ds. -/
def NdsAt (w : World) (a : Option Addr) (n : Nat) (ds : List NDV) : Prop :=
  ds.length = n ∧ (∀ i, i < n → IntzAt w (ds.getD i .dflt).a (ds.getD i .dflt).n (ds.getD i .dflt).tos) ∧ (n = 0 ∨ ∃ b off, a = some ⟨b, off, none⟩ ∧ ∀ i, i < n → w.cell? ⟨b, off + i * 2, none⟩ = some (.int .i64 (ds.getD i .dflt).kd) ∧ w.cell? ⟨b, off + i * 2 + 1, none⟩ = some (.slice (ds.getD i .dflt).a (ds.getD i .dflt).n (ds.getD i .dflt).c))
theorem NdsAt.at {w : World} {a : Option Addr} {n : Nat} {ds : List NDV} (h : NdsAt w a n ds) {i : Nat} (hi : i < n) : ∃ b off, a = some ⟨b, off, none⟩ ∧ ∀ i, i < n → w.cell? ⟨b, off + i * 2, none⟩ = some (.int .i64 (ds.getD i .dflt).kd) ∧ w.cell? ⟨b, off + i * 2 + 1, none⟩ = some (.slice (ds.getD i .dflt).a (ds.getD i .dflt).n (ds.getD i .dflt).c) := by
  rcases h.2.2 with h0 | h0
  · omega
  · exact h0
theorem NdsAt.below {w w' : World} {a : Option Addr} {n : Nat} {ds : List NDV} (h : NdsAt w a n ds) (hb : Below w.heap.size w w') : NdsAt w' a n ds := by
  refine ⟨h.1, fun i hi => (h.2.1 i hi).below hb, ?_⟩
  rcases h.2.2 with h0 | ⟨b, off, rfl, hc⟩
  · exact .inl h0
  · exact .inr ⟨b, off, rfl, fun i hi => ⟨(hb.cell (p := ⟨b, off + i * 2, none⟩) (World.block_lt_of_cell? w _ (hc i hi).1)).trans (hc i hi).1, (hb.cell (p := ⟨b, off + i * 2 + 1, none⟩) (World.block_lt_of_cell? w _ (hc i hi).2)).trans (hc i hi).2⟩⟩
/-- May these be whom node id of n sends to? -/
def TosP (xs : List Int) (id n : Int) : Prop := (xs.length : Int) < n ∧ ∀ i, i < xs.length → (0 ≤ xs.getD i 0 ∧ xs.getD i 0 ≤ n - 1) ∧ xs.getD i 0 ≠ id ∧ ∀ k, k < i → xs.getD k 0 ≠ xs.getD i 0
/-- May the numbers be? -/
def NumP (f : CFV) : Prop := (1 ≤ f.n ∧ f.n ≤ 8) ∧ (0 ≤ f.spread ∧ f.spread ≤ 128) ∧ (1 ≤ f.buffer ∧ f.buffer ≤ 256) ∧ (1 ≤ f.queue ∧ f.queue ≤ 256) ∧ (0 ≤ f.cache ∧ f.cache ≤ 256) ∧ (0 ≤ f.timeout ∧ f.timeout ≤ 1048576) ∧ (1 ≤ f.target ∧ f.target ≤ 128)
/-- May the i-th node be? -/
def NodP (f : CFV) (i : Nat) : Prop := (1 ≤ (f.ds.getD i .dflt).kd ∧ (f.ds.getD i .dflt).kd ≤ 3) ∧ TosP (f.ds.getD i .dflt).tos i f.n
/-- How many of the first k nodes are sources. -/
def srcN (ds : List NDV) : Nat → Nat
  | 0 => 0
  | k + 1 => srcN ds k + if (ds.getD k .dflt).kd = 1 then 1 else 0
theorem srcN_le (ds : List NDV) (k : Nat) : srcN ds k ≤ k := by
  induction k with
  | zero => exact Nat.le_refl _
  | succ k ih => unfold srcN; split <;> omega
/-- May the network be, but for its object? -/
def CfgP (f : CFV) : Prop := NumP f ∧ (∀ i, i < f.n → NodP f i) ∧ srcN f.ds f.n = 1
/-- What Check tells. -/
def ChkR (f : CFV) (en : Int) : Prop := (CfgP f ∧ en = planE f.obj.size f.size) ∨ (¬ CfgP f ∧ en = 1)
theorem ChkR.uniq {f : CFV} {x y : Int} (h : ChkR f x) (k : ChkR f y) : x = y := by
  rcases h with ⟨h1, h2⟩ | ⟨h1, h2⟩ <;> rcases k with ⟨k1, k2⟩ | ⟨k1, k2⟩
  · rw [h2, k2]
  · exact absurd h1 k1
  · exact absurd k1 h1
  · rw [h2, k2]
theorem info_cfg : (Tryz.prog.info? 51).map (·.size) = some 10 := by kernel_rfl
end Go.Proofs.YtakoaadimhpclaaGreatDoor
namespace Go.Proofs.YtakoaadimhpclaaGreatDoor
open Go.ChangeShapes Go.WideShapes Go.ChangeAt Go.RowKit
set_option linter.unusedVariables false
set_option linter.unusedSimpArgs false
set_option maxRecDepth 4000

/-- What is known of a config that came in. -/
structure CfIn (w : World) (f : CFV) : Prop where
  nds : NdsAt w f.a f.n f.ds
  len : f.n ≤ 9223372036854775807
  obj : f.obj.size ≤ 9223372036854775807
  rate : f.rate < 18446744073709551616
  tos : ∀ i, i < f.n → (f.ds.getD i .dflt).n ≤ 9223372036854775807 ∧ ((f.ds.getD i .dflt).a = none → (f.ds.getD i .dflt).n = 0 ∧ (f.ds.getD i .dflt).c = 0)
  caps : ∀ i, i < f.n → (f.ds.getD i .dflt).n ≤ (f.ds.getD i .dflt).c
theorem CfIn.below {w w' : World} {f : CFV} (h : CfIn w f) (hb : Below w.heap.size w w') : CfIn w' f := ⟨h.nds.below hb, h.len, h.obj, h.rate, h.tos, h.caps⟩
end Go.Proofs.YtakoaadimhpclaaGreatDoor
namespace Go.Proofs.YtakoaadimhpclaaGreatDoor
open Go.RowKit
set_option linter.unusedVariables false
set_option linter.unusedSimpArgs false
set_option maxRecDepth 4000

theorem take_snocZ (xs : List Int) (k : Nat) (hk : k < xs.length) : xs.take (k + 1) = xs.take k ++ [xs.getD k 0] := by
  rw [List.take_succ_eq_append_getElem hk]
  simp [List.getD_eq_getElem?_getD, List.getElem?_eq_getElem hk]
set_option maxHeartbeats 1000000 in
theorem indexI_any (a : Option Addr) (n c : Nat) (xs : List Int) (x : Int) (w : World) (h : IntzAt w a n xs) (hn : n ≤ 1048576) :
    Calls Tryz.prog 105 #[.slice a n c, .int .i64 x] w fun e w' => ∃ r : Int, e = .returned (.int .i64 r) ∧ decide (0 ≤ r) = decide (x ∈ xs) ∧ w' = w := by
  obtain rfl := h.1
  have Hh := hide h
  clear h
  go_enter Tryz.func105, Tryz.ntmps105
  go_wp2
  go_loop [8] (fun i => ∃ k : Nat, k ≤ xs.length ∧ i = .int .i64 k ∧ Hid (x ∉ xs.take k)) (fun i => xs.length - (intOf i).toNat)
  case atStart => exact ⟨0, Nat.zero_le _, rfl, hide (by rw [List.take_zero]; exact List.not_mem_nil)⟩
  case round =>
    obtain ⟨k, hk, rfl, HN⟩ := hrel
    by_cases hlt : k < xs.length
    · obtain ⟨b, off, rfl, hcl⟩ := (unhide Hh).at hlt
      have hcell := hcl k hlt
      have hlt' : (k : Int) < (xs.length : Int) := by omega
      have HT := hide (take_snocZ xs k hlt)
      have HM := hide (show xs.getD k 0 ∈ xs from by rw [List.getD_eq_getElem?_getD, List.getElem?_eq_getElem hlt]; exact List.getElem_mem hlt)
      clear hcl
      generalize xs.getD k 0 = y at *
      by_cases he : x = y
      · subst he
        go_wp2
        go_ret
        exact ⟨_, rfl, ⟨fun _ => unhide HM, fun _ => by omega⟩, rfl⟩
      · go_wp2
        go_round
        case rel => exact ⟨k + 1, by omega, by go_num, hide (by rw [unhide HT, List.mem_append, List.mem_singleton]; exact fun h => h.elim (unhide HN) he)⟩
        case measure => simp [intOf]; omega
    · have hke : xs.take k = xs := List.take_of_length_le (by omega)
      rw [hke] at HN
      go_wp2
      go_ret
      exact ⟨_, rfl, ⟨fun h => absurd h (by decide), fun h => absurd h (unhide HN)⟩, rfl⟩
set_option maxHeartbeats 400000 in
theorem containsI_any (a : Option Addr) (n c : Nat) (xs : List Int) (x : Int) (w : World) (h : IntzAt w a n xs) (hn : n ≤ 1048576) :
    Calls Tryz.prog 92 #[.slice a n c, .int .i64 x] w fun e w' => e = .returned (.bool (decide (x ∈ xs))) ∧ w' = w := by
  have HC := hide (indexI_any a n c xs x w h hn)
  clear h
  go_enter Tryz.func92, Tryz.ntmps92
  go_wp2_with (go_at_call 105; refine (unhide HC).mono ?_; rintro e w1 ⟨r, rfl, hr, hw1⟩; obtain rfl := hw1.symm; clear hw1 HC)
  go_ret
  exact ⟨rfl, rfl⟩
end Go.Proofs.YtakoaadimhpclaaGreatDoor
namespace Go.Proofs.YtakoaadimhpclaaGreatDoor
open Go.RowKit Go.Sort
set_option linter.unusedVariables false
set_option linter.unusedSimpArgs false
set_option maxRecDepth 4000

theorem ntin_yes (n l h : Int) (w : World) (hn : l ≤ n ∧ n ≤ h) : Calls Tryz.prog 73 #[.int .i64 n, .int .i64 l, .int .i64 h] w fun e w' => e = .returned (.bool true) ∧ w' = w := by
  obtain ⟨h1, h2⟩ := hn
  go_enter Tryz.func73, Tryz.ntmps73
  go_wp2
  go_ret
  exact ⟨rfl, rfl⟩
theorem ntin_no (n l h : Int) (w : World) (hn : ¬ (l ≤ n ∧ n ≤ h)) : Calls Tryz.prog 73 #[.int .i64 n, .int .i64 l, .int .i64 h] w fun e w' => e = .returned (.bool false) ∧ w' = w := by
  by_cases h1 : l ≤ n
  · have h2 : ¬ n ≤ h := fun e => hn ⟨h1, e⟩
    clear hn
    go_enter Tryz.func73, Tryz.ntmps73
    go_wp2
    go_ret
    exact ⟨rfl, rfl⟩
  · clear hn
    go_enter Tryz.func73, Tryz.ntmps73
    go_wp2
    go_ret
    exact ⟨rfl, rfl⟩
theorem ntkind_any (k : Int) (w : World) : Calls Tryz.prog 74 #[.int .i64 k] w fun e w' => ((e = .returned (.bool true) ∧ (1 ≤ k ∧ k ≤ 3)) ∨ (e = .returned (.bool false) ∧ ¬ (1 ≤ k ∧ k ≤ 3))) ∧ w' = w := by
  have hk4 : k = 1 ∨ k = 2 ∨ k = 3 ∨ (k ≠ 1 ∧ k ≠ 2 ∧ k ≠ 3) := by omega
  rcases hk4 with rfl | rfl | rfl | ⟨h1, h2, h3⟩
  · go_enter Tryz.func74, Tryz.ntmps74
    go_wp2
    go_ret
    exact ⟨.inl ⟨rfl, by decide⟩, rfl⟩
  · go_enter Tryz.func74, Tryz.ntmps74
    go_wp2
    go_ret
    exact ⟨.inl ⟨rfl, by decide⟩, rfl⟩
  · go_enter Tryz.func74, Tryz.ntmps74
    go_wp2
    go_ret
    exact ⟨.inl ⟨rfl, by decide⟩, rfl⟩
  · have hn : ¬ (1 ≤ k ∧ k ≤ 3) := by omega
    have e1 : (k == 1) = false := beq_eq_false_iff_ne.2 h1
    have e2 : (k == 2) = false := beq_eq_false_iff_ne.2 h2
    have e3 : (k == 3) = false := beq_eq_false_iff_ne.2 h3
    have HN := hide hn
    clear h1 h2 h3 hn
    go_enter Tryz.func74, Tryz.ntmps74
    go_wp2
    go_ret
    exact ⟨.inr ⟨rfl, unhide HN⟩, rfl⟩
/-- How many numbers below m stand among the first k. -/
def nIn (xs : List Int) (k : Nat) : Nat → Nat
  | 0 => 0
  | m + 1 => nIn xs k m + if ∃ j, j < k ∧ xs.getD j 0 = (m : Int) then 1 else 0
theorem nIn_le (xs : List Int) (k m : Nat) : nIn xs k m ≤ m := by
  induction m with
  | zero => exact Nat.le_refl _
  | succ m ih => unfold nIn; split <;> omega
theorem nIn_free (xs : List Int) (k m i : Nat) (hi : i < m) (h : ¬ ∃ j, j < k ∧ xs.getD j 0 = (i : Int)) : nIn xs k m + 1 ≤ m := by
  induction m with
  | zero => omega
  | succ m ih =>
    unfold nIn
    by_cases e : i = m
    · subst e
      rw [if_neg h]
      have := nIn_le xs k i
      omega
    · have := ih (by omega)
      split <;> omega
theorem nIn_same (xs : List Int) (k m : Nat) (h : ¬ ∃ v : Nat, v < m ∧ xs.getD k 0 = (v : Int)) : nIn xs (k + 1) m = nIn xs k m := by
  induction m with
  | zero => rfl
  | succ m ih =>
    unfold nIn
    rw [ih fun ⟨v, h1, h2⟩ => h ⟨v, by omega, h2⟩]
    have e : (∃ j, j < k + 1 ∧ xs.getD j 0 = (m : Int)) ↔ ∃ j, j < k ∧ xs.getD j 0 = (m : Int) := by
      refine ⟨fun ⟨j, h1, h2⟩ => ⟨j, ?_, h2⟩, fun ⟨j, h1, h2⟩ => ⟨j, by omega, h2⟩⟩
      by_cases q : j = k
      · subst q; exact absurd ⟨m, Nat.lt_succ_self m, h2⟩ h
      · omega
    simp only [e]
theorem nIn_step (xs : List Int) (k m x : Nat) (hx : x < m) (hk : xs.getD k 0 = (x : Int)) (h : ¬ ∃ j, j < k ∧ xs.getD j 0 = (x : Int)) : nIn xs (k + 1) m = nIn xs k m + 1 := by
  induction m with
  | zero => omega
  | succ m ih =>
    unfold nIn
    by_cases e : x = m
    · subst e
      rw [nIn_same xs k x fun ⟨v, h1, h2⟩ => by rw [hk] at h2; omega, if_pos ⟨k, Nat.lt_succ_self k, hk⟩, if_neg h]
    · rw [ih (by omega)]
      have q : (∃ j, j < k + 1 ∧ xs.getD j 0 = (m : Int)) ↔ ∃ j, j < k ∧ xs.getD j 0 = (m : Int) := by
        refine ⟨fun ⟨j, h1, h2⟩ => ⟨j, ?_, h2⟩, fun ⟨j, h1, h2⟩ => ⟨j, by omega, h2⟩⟩
        by_cases r : j = k
        · subst r; rw [hk] at h2; omega
        · omega
      simp only [q]
      omega
/-- So many distinct ones of n, none of them id, are fewer than n. -/
theorem dist_lt {xs : List Int} {id n k : Nat} (hid : id < n) (h : ∀ j, j < k → (0 ≤ xs.getD j 0 ∧ xs.getD j 0 ≤ (n : Int) - 1) ∧ xs.getD j 0 ≠ (id : Int) ∧ ∀ q, q < j → xs.getD q 0 ≠ xs.getD j 0) : k < n := by
  have key : ∀ q, q ≤ k → nIn xs q n = q := by
    intro q
    induction q with
    | zero => 
      intro _
      have : ∀ m, nIn xs 0 m = 0 := by
        intro m
        induction m with
        | zero => rfl
        | succ m ih => unfold nIn; rw [ih, if_neg fun ⟨j, h1, _⟩ => by omega]
      exact this n
    | succ q ih =>
      intro hq
      obtain ⟨⟨a, b⟩, _, d⟩ := h q (by omega)
      obtain ⟨x, hx⟩ : ∃ x : Nat, xs.getD q 0 = (x : Int) := ⟨(xs.getD q 0).toNat, by omega⟩
      rw [nIn_step xs q n x (by omega) hx fun ⟨j, h1, h2⟩ => d j h1 (by rw [h2, hx]), ih (by omega)]
  have := nIn_free xs k n id hid fun ⟨j, h1, h2⟩ => (h j h1).2.1 h2
  have := key k (Nat.le_refl _)
  omega
end Go.Proofs.YtakoaadimhpclaaGreatDoor
