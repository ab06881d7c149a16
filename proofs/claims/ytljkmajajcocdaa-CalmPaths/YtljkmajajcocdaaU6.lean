/-
  Configs as data ('CFV': nodes, the object, numbers), slices of nodes in memory ('NdsAt'), which of them may be ('CfgP', 'ChkR'). No condition.
-/
import Derived.Test.YtljkmajajcocdaaU2
import Derived.Test.YtljkmajajcocdaaU5
namespace Go.Proofs.Ytljkmajajcocdaa
open Go.RowKit
set_option linter.unusedVariables false
set_option linter.unusedSimpArgs false
set_option maxRecDepth 4000

/-- A node of a config as it lies in memory: its kind, whom it sends to. -/
structure NDV where
  kd : Int
  a : Option Addr
  n : Nat
  c : Nat
  tos : List Int
/-- What stands behind the end of a list of nodes. -/
def NDV.dflt : NDV := ⟨0, none, 0, 0, []⟩
/-- A config as it lies in memory. -/
structure CFV where
  a : Option Addr
  n : Nat
  c : Nat
  ds : List NDV
  obj : ByteArray
  size : Int
  spread : Int
  buffer : Int
  queue : Int
  cache : Int
  rate : Nat
  timeout : Int
  target : Int
/-- The config by value. -/
def CFV.val (f : CFV) : Value := .agg #[.slice f.a f.n f.c, .string f.obj, .int .i64 f.size, .int .i64 f.spread, .int .i64 f.buffer, .int .i64 f.queue, .int .i64 f.cache, .float .f64 f.rate, .int .i64 f.timeout, .int .i64 f.target]
/-- A slice of n nodes that can be read: they are ds. -/
def NdsAt (w : World) (a : Option Addr) (n : Nat) (ds : List NDV) : Prop :=
  ds.length = n ∧ (∀ i, i < n → IntzAt w (ds.getD i .dflt).a (ds.getD i .dflt).n (ds.getD i .dflt).tos) ∧ (n = 0 ∨ ∃ b off, a = some ⟨b, off, none⟩ ∧ ∀ i, i < n → w.cell? ⟨b, off + i * 2, none⟩ = some (.int .i64 (ds.getD i .dflt).kd) ∧ w.cell? ⟨b, off + i * 2 + 1, none⟩ = some (.slice (ds.getD i .dflt).a (ds.getD i .dflt).n (ds.getD i .dflt).c))
theorem NdsAt.at {w : World} {a : Option Addr} {n : Nat} {ds : List NDV} (h : NdsAt w a n ds) {i : Nat} (hi : i < n) : ∃ b off, a = some ⟨b, off, none⟩ ∧ ∀ i, i < n → w.cell? ⟨b, off + i * 2, none⟩ = some (.int .i64 (ds.getD i .dflt).kd) ∧ w.cell? ⟨b, off + i * 2 + 1, none⟩ = some (.slice (ds.getD i .dflt).a (ds.getD i .dflt).n (ds.getD i .dflt).c) := by
  rcases h.2.2 with h0 | h0
  · omega
  · exact h0
theorem NdsAt.below {w w' : World} {a : Option Addr} {n : Nat} {ds : List NDV} (h : NdsAt w a n ds) (hb : Below w.heap.size w w') : NdsAt w' a n ds := by
  refine ⟨h.1, fun i hi => (h.2.1 i hi).below hb, ?_⟩
  rcases h.2.2 with h0 | ⟨b, off, rfl, hc⟩
  · exact .inl h0
  · exact .inr ⟨b, off, rfl, fun i hi => ⟨(hb.cell (p := ⟨b, off + i * 2, none⟩) (World.block_lt_of_cell? w _ (hc i hi).1)).trans (hc i hi).1, (hb.cell (p := ⟨b, off + i * 2 + 1, none⟩) (World.block_lt_of_cell? w _ (hc i hi).2)).trans (hc i hi).2⟩⟩
/-- May these be whom node id of n sends to? -/
def TosP (xs : List Int) (id n : Int) : Prop := (xs.length : Int) < n ∧ ∀ i, i < xs.length → (0 ≤ xs.getD i 0 ∧ xs.getD i 0 ≤ n - 1) ∧ xs.getD i 0 ≠ id ∧ ∀ k, k < i → xs.getD k 0 ≠ xs.getD i 0
/-- May the numbers be? -/
def NumP (f : CFV) : Prop := (1 ≤ f.n ∧ f.n ≤ 8) ∧ (0 ≤ f.spread ∧ f.spread ≤ 128) ∧ (1 ≤ f.buffer ∧ f.buffer ≤ 256) ∧ (1 ≤ f.queue ∧ f.queue ≤ 256) ∧ (0 ≤ f.cache ∧ f.cache ≤ 256) ∧ (0 ≤ f.timeout ∧ f.timeout ≤ 1048576) ∧ (1 ≤ f.target ∧ f.target ≤ 128)
/-- May the i-th node be? -/
def NodP (f : CFV) (i : Nat) : Prop := (1 ≤ (f.ds.getD i .dflt).kd ∧ (f.ds.getD i .dflt).kd ≤ 3) ∧ TosP (f.ds.getD i .dflt).tos i f.n
/-- How many of the first k nodes are sources. -/
def srcN (ds : List NDV) : Nat → Nat
  | 0 => 0
  | k + 1 => srcN ds k + if (ds.getD k .dflt).kd = 1 then 1 else 0
theorem srcN_le (ds : List NDV) (k : Nat) : srcN ds k ≤ k := by
  induction k with
  | zero => exact Nat.le_refl _
  | succ k ih => unfold srcN; split <;> omega
/-- May the network be, but for its object? -/
def CfgP (f : CFV) : Prop := NumP f ∧ (∀ i, i < f.n → NodP f i) ∧ srcN f.ds f.n = 1
/-- What Check tells. -/
def ChkR (f : CFV) (en : Int) : Prop := (CfgP f ∧ en = planE f.obj.size f.size) ∨ (¬ CfgP f ∧ en = 1)
theorem ChkR.uniq {f : CFV} {x y : Int} (h : ChkR f x) (k : ChkR f y) : x = y := by
  rcases h with ⟨h1, h2⟩ | ⟨h1, h2⟩ <;> rcases k with ⟨k1, k2⟩ | ⟨k1, k2⟩
  · rw [h2, k2]
  · exact absurd h1 k1
  · exact absurd k1 h1
  · rw [h2, k2]
theorem info_cfg : (Try.prog.info? 25).map (·.size) = some 10 := by kernel_rfl
end Go.Proofs.Ytljkmajajcocdaa
