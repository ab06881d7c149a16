/-
  Contracts of bucketlineref01.First, Same, Words, Size, Set and of words.Size, Set: for every row of at most 2^20 words, every int.
  Texts as lists of bytes; slices of bytes of the call's own ('OwnB'); '[]byte(s)', 'string(b)' and 'copy(b, s)' on them. No condition.
  Blocks of a text, on plain lists: how many ('kc'), what each holds ('blk'), all of them ('blocksL'), joined. No condition.
  Configs as data ('CFV': nodes, the object, numbers), slices of nodes in memory ('NdsAt'), which of them may be ('CfgP', 'ChkR'). No condition.
-/
import Derived.Test.YtljkmajajcocdaaU4
import Derived.Deep.RegionWith
import Derived.Test.YtljkmajajcocdaaU1
import Derived.Laws.IdiomStrings
import Derived.Laws.CopyRow
import Derived.Laws.MakeOwn
import Derived.OwnWalk
import Derived.Test.YtljkmajajcocdaaU2
namespace Go.Proofs.Ytljkmajajcocdaa
open Go.RowKit
set_option linter.unusedVariables false
set_option linter.unusedSimpArgs false
set_option maxRecDepth 4000

set_option maxHeartbeats 400000 in
theorem rsame_any (a : Option Addr) (n c : Nat) (xs : List Nat) (a' : Option Addr) (m c' : Nat) (ys : List Nat) (w : World) (h : RowAt w a n xs) (h' : RowAt w a' m ys) (hn : n ≤ 1048576) (hm : m ≤ 1048576) :
    Calls Try.prog 31 #[.slice a n c, .slice a' m c'] w fun e w' => e = .returned (.bool (decide (cnt (xorL xs ys) = 0))) ∧ Below w.heap.size w w' := by
  go_enter Try.func31, Try.ntmps31
  go_wp2_with fail
  refine (rxor_any a n c xs a' m c' ys _ h h' hn hm).mono ?_
  rintro e w1 ⟨v, rfl, ho, hb⟩
  obtain ⟨a1, c1, rfl, hr⟩ := ho.row
  have hl : (xorL xs ys).length ≤ 1048576 := by rw [xorL_length, h.1, h'.1]; omega
  go_wp2_with fail
  refine (rcount_any a1 _ c1 _ _ hr hl).mono ?_
  rintro e w2 ⟨rfl, rfl⟩
  have he : ∀ q : Nat, ((q : Int) == 0) = decide (q = 0) := fun q => by
    by_cases e : q = 0
    · subst e; rfl
    · simp [e]
  have HE := hide (he (cnt (xorL xs ys)))
  clear he
  go_wp2
  go_ret
  exact ⟨ret_bool (unhide HE), hb⟩

set_option maxHeartbeats 400000 in
theorem rwords_any (a : Option Addr) (n c : Nat) (xs : List Nat) (a' : Option Addr) (m c' : Nat) (ys : List Nat) (w : World) (h : RowAt w a n xs) (h' : RowAt w a' m ys) (hn : n ≤ 1048576) (hm : m ≤ 1048576) (he : xs = ys) :
    Calls Try.prog 14 #[.slice a n c, .slice a' m c'] w fun e w' => e = .returned (.bool true) ∧ Below w.heap.size w w' := by
  subst he
  obtain rfl : n = xs.length := h.1.symm
  obtain rfl : m = xs.length := h'.1.symm
  have hs := rsame_any a xs.length c xs a' xs.length c' xs w h h' hn hm
  rw [cnt_of_zero _ (xorL_self_zero xs)] at hs
  have HS := hide hs
  clear hs
  go_enter Try.func14, Try.ntmps14
  go_wp2_with (go_at_call 31; refine (unhide HS).mono ?_; rintro e w1 ⟨rfl, hb⟩)
  go_ret
  exact ⟨rfl, hb⟩

end Go.Proofs.Ytljkmajajcocdaa
namespace Go.Proofs.Ytljkmajajcocdaa
open Go.RowKit
set_option linter.unusedVariables false
set_option linter.unusedSimpArgs false
set_option maxRecDepth 4000

/-- The text of bytes. -/
def st (xs : List Nat) : ByteArray := ⟨(xs.map UInt8.ofNat).toArray⟩

end Go.Proofs.Ytljkmajajcocdaa
namespace Go.Proofs.Ytljkmajajcocdaa
open Go.RowKit
set_option linter.unusedVariables false
set_option linter.unusedSimpArgs false
set_option maxRecDepth 4000

/-- How many blocks of z bytes n bytes have. -/
def kc (n z : Nat) : Nat := if 0 < n % z ∨ n / z = 0 then n / z + 1 else n / z
theorem kc_pos (n z : Nat) : 1 ≤ kc n z := by
  unfold kc
  generalize n / z = q
  generalize n % z = r
  split <;> rename_i h <;> omega
theorem kc_enough (n z : Nat) (hz : 0 < z) : n ≤ kc n z * z := by
  have h1 := Nat.div_add_mod n z
  have h2 := Nat.mod_lt n hz
  rw [Nat.mul_comm] at h1
  unfold kc
  split
  · rw [Nat.add_mul]; omega
  · rename_i h
    have : n % z = 0 := by omega
    omega
theorem kc_least (n z k : Nat) (hz : 0 < z) (hk : 1 ≤ k) (h : n ≤ k * z) : kc n z ≤ k := by
  have h1 := Nat.div_add_mod n z
  have h2 := Nat.mod_lt n hz
  rw [Nat.mul_comm] at h1
  unfold kc
  split
  · rename_i hc
    rcases hc with hc | hc
    · rcases Nat.lt_or_ge (n / z) k with h' | h'
      · omega
      · have := Nat.mul_le_mul_right z h'
        omega
    · omega
  · rename_i hc
    rcases Nat.lt_or_ge k (n / z) with h' | h'
    · have := Nat.mul_le_mul_right z (Nat.succ_le_of_lt h')
      rw [Nat.succ_mul] at this
      omega
    · exact h'
theorem kc_great (n z k : Nat) (hz : 0 < z) (hk : 1 ≤ k) : k < kc n z ↔ k * z < n := by
  constructor
  · intro h
    rcases Nat.lt_or_ge (k * z) n with h' | h'
    · exact h'
    · have := kc_least n z k hz hk h'
      omega
  · intro h
    have h1 := kc_enough n z hz
    rcases Nat.lt_or_ge k (kc n z) with h' | h'
    · exact h'
    · have := Nat.mul_le_mul_right z h'
      omega
theorem kc_eq (n z k : Nat) (hz : 0 < z) (hk : 1 ≤ k) (h : n ≤ k * z) (hl : k = 1 ∨ (k - 1) * z < n) : kc n z = k := by
  have h1 := kc_least n z k hz hk h
  rcases hl with rfl | hl
  · have := kc_pos n z; omega
  · by_cases e : k = 1
    · subst e; have := kc_pos n z; omega
    · have := (kc_great n z (k - 1) hz (by omega)).2 hl
      omega

/-- The error's number, and how many blocks. -/
def planE (n z : Int) : Int := if n < 0 ∨ z < 1 ∨ 64 < z then 1 else if 128 < kc n.toNat z.toNat then 2 else 0
def planK (n z : Int) : Int := if planE n z = 0 then (kc n.toNat z.toNat : Int) else 0
theorem plan_arg {n z : Int} (h : n < 0 ∨ z < 1 ∨ 64 < z) : planE n z = 1 ∧ planK n z = 0 := by
  have e : planE n z = 1 := if_pos h
  exact ⟨e, by unfold planK; rw [e]; rfl⟩
theorem plan_size {n z : Nat} (h1 : 1 ≤ z) (h2 : z ≤ 64) (h : 128 < kc n z) : planE (n : Int) (z : Int) = 2 ∧ planK (n : Int) (z : Int) = 0 := by
  have e : planE (n : Int) (z : Int) = 2 := by
    unfold planE
    rw [if_neg (by omega), if_pos (by simpa using h)]
  exact ⟨e, by unfold planK; rw [e]; rfl⟩
theorem plan_ok {n z : Nat} (h1 : 1 ≤ z) (h2 : z ≤ 64) (h : kc n z ≤ 128) : planE (n : Int) (z : Int) = 0 ∧ planK (n : Int) (z : Int) = (kc n z : Int) := by
  have e : planE (n : Int) (z : Int) = 0 := by
    unfold planE
    rw [if_neg (by omega), if_neg (by simp; omega)]
  exact ⟨e, by unfold planK; rw [e]; simp⟩

end Go.Proofs.Ytljkmajajcocdaa
namespace Go.Proofs.Ytljkmajajcocdaa
open Go.RowKit
set_option linter.unusedVariables false
set_option linter.unusedSimpArgs false
set_option maxRecDepth 4000

/-- A node of a config as it lies in memory: its kind, whom it sends to. -/
structure NDV where
  kd : Int
  a : Option Addr
  n : Nat
  c : Nat
  tos : List Int
/-- What stands behind the end of a list of nodes. -/
def NDV.dflt : NDV := ⟨0, none, 0, 0, []⟩
/-- A config as it lies in memory. -/
structure CFV where
  a : Option Addr
  n : Nat
  c : Nat
  ds : List NDV
  obj : ByteArray
  size : Int
  spread : Int
  buffer : Int
  queue : Int
  cache : Int
  rate : Nat
  timeout : Int
  target : Int
/-- The config by value. -/
def CFV.val (f : CFV) : Value := .agg #[.slice f.a f.n f.c, .string f.obj, .int .i64 f.size, .int .i64 f.spread, .int .i64 f.buffer, .int .i64 f.queue, .int .i64 f.cache, .float .f64 f.rate, .int .i64 f.timeout, .int .i64 f.target]
/-- A slice of n nodes that can be read: they are ds. -/
def NdsAt (w : World) (a : Option Addr) (n : Nat) (ds : List NDV) : Prop :=
  ds.length = n ∧ (∀ i, i < n → IntzAt w (ds.getD i .dflt).a (ds.getD i .dflt).n (ds.getD i .dflt).tos) ∧ (n = 0 ∨ ∃ b off, a = some ⟨b, off, none⟩ ∧ ∀ i, i < n → w.cell? ⟨b, off + i * 2, none⟩ = some (.int .i64 (ds.getD i .dflt).kd) ∧ w.cell? ⟨b, off + i * 2 + 1, none⟩ = some (.slice (ds.getD i .dflt).a (ds.getD i .dflt).n (ds.getD i .dflt).c))
theorem NdsAt.at {w : World} {a : Option Addr} {n : Nat} {ds : List NDV} (h : NdsAt w a n ds) {i : Nat} (hi : i < n) : ∃ b off, a = some ⟨b, off, none⟩ ∧ ∀ i, i < n → w.cell? ⟨b, off + i * 2, none⟩ = some (.int .i64 (ds.getD i .dflt).kd) ∧ w.cell? ⟨b, off + i * 2 + 1, none⟩ = some (.slice (ds.getD i .dflt).a (ds.getD i .dflt).n (ds.getD i .dflt).c) := by
  rcases h.2.2 with h0 | h0
  · omega
  · exact h0
theorem NdsAt.below {w w' : World} {a : Option Addr} {n : Nat} {ds : List NDV} (h : NdsAt w a n ds) (hb : Below w.heap.size w w') : NdsAt w' a n ds := by
  refine ⟨h.1, fun i hi => (h.2.1 i hi).below hb, ?_⟩
  rcases h.2.2 with h0 | ⟨b, off, rfl, hc⟩
  · exact .inl h0
  · exact .inr ⟨b, off, rfl, fun i hi => ⟨(hb.cell (p := ⟨b, off + i * 2, none⟩) (World.block_lt_of_cell? w _ (hc i hi).1)).trans (hc i hi).1, (hb.cell (p := ⟨b, off + i * 2 + 1, none⟩) (World.block_lt_of_cell? w _ (hc i hi).2)).trans (hc i hi).2⟩⟩
/-- May these be whom node id of n sends to? -/
def TosP (xs : List Int) (id n : Int) : Prop := (xs.length : Int) < n ∧ ∀ i, i < xs.length → (0 ≤ xs.getD i 0 ∧ xs.getD i 0 ≤ n - 1) ∧ xs.getD i 0 ≠ id ∧ ∀ k, k < i → xs.getD k 0 ≠ xs.getD i 0
/-- May the numbers be? -/
def NumP (f : CFV) : Prop := (1 ≤ f.n ∧ f.n ≤ 8) ∧ (0 ≤ f.spread ∧ f.spread ≤ 128) ∧ (1 ≤ f.buffer ∧ f.buffer ≤ 256) ∧ (1 ≤ f.queue ∧ f.queue ≤ 256) ∧ (0 ≤ f.cache ∧ f.cache ≤ 256) ∧ (0 ≤ f.timeout ∧ f.timeout ≤ 1048576) ∧ (1 ≤ f.target ∧ f.target ≤ 128)
/-- May the i-th node be? -/
def NodP (f : CFV) (i : Nat) : Prop := (1 ≤ (f.ds.getD i .dflt).kd ∧ (f.ds.getD i .dflt).kd ≤ 3) ∧ TosP (f.ds.getD i .dflt).tos i f.n
/-- How many of the first k nodes are sources. -/
def srcN (ds : List NDV) : Nat → Nat
  | 0 => 0
  | k + 1 => srcN ds k + if (ds.getD k .dflt).kd = 1 then 1 else 0
theorem srcN_le (ds : List NDV) (k : Nat) : srcN ds k ≤ k := by
  induction k with
  | zero => exact Nat.le_refl _
  | succ k ih => unfold srcN; split <;> omega
/-- May the network be, but for its object? -/
def CfgP (f : CFV) : Prop := NumP f ∧ (∀ i, i < f.n → NodP f i) ∧ srcN f.ds f.n = 1
/-- What Check tells. -/
def ChkR (f : CFV) (en : Int) : Prop := (CfgP f ∧ en = planE f.obj.size f.size) ∨ (¬ CfgP f ∧ en = 1)
theorem ChkR.uniq {f : CFV} {x y : Int} (h : ChkR f x) (k : ChkR f y) : x = y := by
  rcases h with ⟨h1, h2⟩ | ⟨h1, h2⟩ <;> rcases k with ⟨k1, k2⟩ | ⟨k1, k2⟩
  · rw [h2, k2]
  · exact absurd h1 k1
  · exact absurd k1 h1
  · rw [h2, k2]
theorem info_cfg : (Try.prog.info? 25).map (·.size) = some 10 := by kernel_rfl
end Go.Proofs.Ytljkmajajcocdaa
