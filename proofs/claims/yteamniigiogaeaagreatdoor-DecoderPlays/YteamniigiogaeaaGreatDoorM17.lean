/-
  Contract of bucketlineref02.Texts: for every two slices of texts.
  Contracts of split.Plan and bucketlineref09.Plan: for every two ints. Of bucketlineref02.Texts: for every two slices of texts.
  Numbers and their bytes, the highest first, on plain lists. No condition.
  strings.Builder in this program: the shelf's contracts of Grow (of a new builder), WriteByte and String, laid at this program's own numbers. Conditions: a builder in a block of its own; at most 2^47 bytes.
  Contracts of split.filled, cut, Split: for every text and int.
  'append([]byte(s), make([]byte, m)...)'; 'string(b[i:j])'. For texts of at most 2^20 bytes.
  Contracts of split.Split and bucketlineref09.Split: for every text and int.
  Contracts of split.lacking, split.Join, bucketlineref09.Join: for up to 2^20 texts, in sum of at most 2^30 bytes.
-/
import Derived.Test.YteamniigiogaeaaGreatDoorM2
import Derived.Deep.QuietTactic
import Derived.BigQuiet
import Derived.Test.YteamniigiogaeaaGreatDoorM15
import Derived.Shelf.Strings.Builder2
import Derived.Test.YteamniigiogaeaaGreatDoorM14
import Derived.WalkMore
import Derived.ScopeJumps
import Derived.Laws.AppendOwn
namespace Go.Proofs.YteamniigiogaeaaGreatDoor
open Go.RowKit
set_option linter.unusedVariables false
set_option maxRecDepth 4000

end Go.Proofs.YteamniigiogaeaaGreatDoor
namespace Go.Proofs.YteamniigiogaeaaGreatDoor
open Go.RowKit
set_option linter.unusedVariables false
set_option maxRecDepth 4000

theorem ret_two {k k' : IntKind} {a b c d : Int} (h : a = c) (h' : b = d) : Ending.returned (.tuple #[.int k a, .int k' b]) = .returned (.tuple #[.int k c, .int k' d]) := by rw [h, h']
theorem kc_yes {n z : Nat} (h : 0 < n % z ∨ n / z = 0) : kc n z = n / z + 1 := if_pos h
theorem kc_no {n z : Nat} (h : ¬ (0 < n % z ∨ n / z = 0)) : kc n z = n / z := if_neg h


set_option maxHeartbeats 400000 in
theorem rplan_any (n z : Int) (w : World) (hn : n ≤ 9223372036854775807) :
    Calls Tryz.prog 35 #[.int .i64 n, .int .i64 z] w fun e w' => e = .returned (.tuple #[.int .i64 (planK n z), .int .i64 (planE n z)]) ∧ w' = w := by
  by_cases h : n < 0 ∨ z < 1 ∨ 64 < z
  · rw [(plan_arg h).1, (plan_arg h).2]
    by_cases h1 : n < 0
    · clear h
      go_enter Tryz.func35, Tryz.ntmps35
      go_wp2
      go_ret2
      exact ⟨rfl, rfl⟩
    · by_cases h2 : z < 1
      · clear h
        go_enter Tryz.func35, Tryz.ntmps35
        go_wp2
        go_ret2
        exact ⟨rfl, rfl⟩
      · have h3 : 64 < z := by omega
        clear h
        go_enter Tryz.func35, Tryz.ntmps35
        go_wp2
        go_ret2
        exact ⟨rfl, rfl⟩
  · obtain ⟨N, rfl⟩ : ∃ N : Nat, n = (N : Int) := ⟨n.toNat, by omega⟩
    obtain ⟨Z, rfl⟩ : ∃ Z : Nat, z = (Z : Int) := ⟨z.toNat, by omega⟩
    have hz1 : 1 ≤ Z := by omega
    have hz2 : Z ≤ 64 := by omega
    have hz0 : (1 : Int) ≤ (Z : Int) := by omega
    have hz3 : (Z : Int) ≤ 64 := by omega
    have hn0 : (0 : Int) ≤ (N : Int) := by omega
    by_cases hbig : 128 < kc N Z
    · have hb2 := (kc_great N Z 128 hz1 (by decide)).1 hbig
      have hb3 : (Z : Int) * 128 < (N : Int) := by omega
      have HR := hide (plan_size hz1 hz2 hbig)
      obtain ⟨E0, hE0⟩ : ∃ E0, planE (N : Int) (Z : Int) = E0 := ⟨_, rfl⟩
      obtain ⟨K0, hK0⟩ : ∃ K0, planK (N : Int) (Z : Int) = K0 := ⟨_, rfl⟩
      rw [hE0, hK0]
      rw [hE0, hK0] at HR
      clear hE0 hK0 hbig hb2 h
      go_enter Tryz.func35, Tryz.ntmps35
      go_wp2
      go_ret2
      exact ⟨ret_two (unhide HR).2.symm (unhide HR).1.symm, rfl⟩
    · have hb2 : ¬ 128 * Z < N := fun h => hbig ((kc_great N Z 128 hz1 (by decide)).2 h)
      have hb3 : (N : Int) ≤ (Z : Int) * 128 := by omega
      have HR := hide (plan_ok (n := N) hz1 hz2 (by omega))
      obtain ⟨E0, hE0⟩ : ∃ E0, planE (N : Int) (Z : Int) = E0 := ⟨_, rfl⟩
      obtain ⟨K0, hK0⟩ : ∃ K0, planK (N : Int) (Z : Int) = K0 := ⟨_, rfl⟩
      rw [hE0, hK0]
      rw [hE0, hK0] at HR
      have hkb : kc N Z ≤ 128 := by omega
      clear hE0 hK0 hbig hb2 h
      go_enter Tryz.func35, Tryz.ntmps35
      go_wp2
      go_loop [6] (fun v => ∃ k : Nat, 1 ≤ k ∧ k ≤ kc N Z ∧ v = .int .i64 k) (fun v => kc N Z - (intOf v).toNat)
      case atStart => exact ⟨1, Nat.le_refl _, kc_pos _ _, rfl⟩
      case round =>
        obtain ⟨k, hk1, hk2, rfl⟩ := hrel
        have hmz : k * Z ≤ 8192 := Nat.le_trans (Nat.mul_le_mul (show k ≤ 128 by omega) hz2) (by decide)
        have emul : (k : Int) * (Z : Int) = ((k * Z : Nat) : Int) := by simp
        have HG := hide (kc_great N Z k hz1 hk1)
        have HP := hide (fun h => kc_eq N Z k hz1 hk1 h)
        have hkb' : (k : Int) ≤ 128 := by omega
        by_cases hlt : k * Z < N
        · have hk3 := (unhide HG).2 hlt
          generalize k * Z = m at *
          generalize kc N Z = K at *
          clear HG HP
          go_wp2
          go_round
          case rel => exact ⟨k + 1, by omega, by omega, by go_num⟩
          case measure => simp [intOf]; omega
        · have hk3 : ¬ k < kc N Z := fun h => hlt ((unhide HG).1 h)
          have HE := hide (show kc N Z = k by omega)
          generalize k * Z = m at *
          generalize kc N Z = K at *
          clear HG HP
          go_wp2
          go_ret2
          exact ⟨ret_two (by rw [(unhide HR).2, unhide HE]) (unhide HR).1.symm, rfl⟩

end Go.Proofs.YteamniigiogaeaaGreatDoor
namespace Go.Proofs.YteamniigiogaeaaGreatDoor
open Go.RowKit
set_option linter.unusedVariables false
set_option maxRecDepth 4000

/-- The number whose bytes these are, the highest first. -/
def num (xs : List Nat) : Nat := xs.foldl (fun a b => a * 256 + b) 0
theorem num_snoc (xs : List Nat) (b : Nat) : num (xs ++ [b]) = num xs * 256 + b := by simp [num]
theorem foldl_num (xs : List Nat) : ∀ a, xs.foldl (fun a b => a * 256 + b) a = a * 256 ^ xs.length + num xs := by
  unfold num
  induction xs with
  | nil => intro a; simp
  | cons x r ih =>
    intro a
    simp only [List.foldl_cons, List.length_cons]
    rw [ih (a * 256 + x), ih (0 * 256 + x), Nat.pow_succ, Nat.add_mul]
    simp only [Nat.zero_mul, Nat.zero_add]
    rw [Nat.mul_assoc a 256, Nat.mul_comm 256, Nat.add_assoc]
theorem num_cons (x : Nat) (r : List Nat) : num (x :: r) = x * 256 ^ r.length + num r := by
  have := foldl_num r (0 * 256 + x)
  simp only [Nat.zero_mul, Nat.zero_add] at this
  simpa [num] using this
theorem num_lt {xs : List Nat} (h : bytes xs) : num xs < 256 ^ xs.length := by
  induction xs with
  | nil => simp [num]
  | cons x r ih =>
    have h1 : x < 256 := h x (List.mem_cons_self ..)
    have h2 := ih (fun y hy => h y (List.mem_cons_of_mem _ hy))
    rw [num_cons, List.length_cons, Nat.pow_succ]
    have h3 : x * 256 ^ r.length ≤ 255 * 256 ^ r.length := Nat.mul_le_mul_right _ (by omega)
    omega
theorem num_lt_of {xs : List Nat} (h : bytes xs) {k : Nat} (hk : xs.length ≤ k) : num xs < 256 ^ k := Nat.lt_of_lt_of_le (num_lt h) (Nat.pow_le_pow_right (by decide) hk)
/-- The W lowest bytes of n, the highest first. -/
def be : Nat → Nat → List Nat
  | 0, _ => []
  | W + 1, n => (n / 256 ^ W % 256) :: be W n
theorem be_length : ∀ (W n : Nat), (be W n).length = W
  | 0, _ => rfl
  | W + 1, n => by rw [be, List.length_cons, be_length W n]
theorem be_bytes : ∀ (W n : Nat), bytes (be W n)
  | 0, _ => bytes_nil
  | W + 1, n => by
    intro x hx
    rw [be] at hx
    rcases List.mem_cons.1 hx with rfl | hx
    · exact Nat.mod_lt _ (by decide)
    · exact be_bytes W n x hx
theorem be_take : ∀ (W n k : Nat), k < W → (be W n).take (k + 1) = (be W n).take k ++ [n / 256 ^ (W - 1 - k) % 256]
  | 0, _, _, h => by omega
  | W + 1, n, 0, _ => by simp [be]
  | W + 1, n, k + 1, h => by
    have := be_take W n k (by omega)
    rw [be, List.take_succ_cons, List.take_succ_cons, this, show W + 1 - 1 - (k + 1) = W - 1 - k by omega]
    rfl
theorem num_be : ∀ (W n : Nat), num (be W n) = n % 256 ^ W
  | 0, n => by simp [be, num, Nat.mod_one]
  | W + 1, n => by
    rw [be, num_cons, be_length, num_be W n, Nat.mod_pow_succ, Nat.mul_comm, Nat.add_comm]
theorem be_mod : ∀ (W m n : Nat), m % 256 ^ W = n % 256 ^ W → be W m = be W n
  | 0, _, _, _ => rfl
  | W + 1, m, n, h => by
    rw [Nat.mod_pow_succ, Nat.mod_pow_succ] at h
    have hp : 0 < 256 ^ W := Nat.pow_pos (by decide)
    have h1 := Nat.mod_lt m hp
    have h2 := Nat.mod_lt n hp
    have e1 : m % 256 ^ W = n % 256 ^ W := by
      have := congrArg (· % 256 ^ W) h
      simpa [Nat.add_mul_mod_self_left, Nat.mod_eq_of_lt h1, Nat.mod_eq_of_lt h2] using this
    have e2 : m / 256 ^ W % 256 = n / 256 ^ W % 256 := by
      rw [e1] at h
      exact Nat.eq_of_mul_eq_mul_left hp (by omega)
    rw [be, be, e2, be_mod W m n e1]
/-- The bytes of words. -/
def beV (v : List Nat) : List Nat := v.flatMap (be 8)
theorem beV_cons (x : Nat) (r : List Nat) : beV (x :: r) = be 8 x ++ beV r := by simp [beV]
theorem beV_length : ∀ v : List Nat, (beV v).length = 8 * v.length
  | [] => rfl
  | x :: r => by rw [beV_cons, List.length_append, be_length, beV_length r, List.length_cons]; omega
theorem beV_bytes (v : List Nat) : bytes (beV v) := by
  intro x hx
  obtain ⟨y, _, hy⟩ := List.mem_flatMap.1 hx
  exact be_bytes 8 y x hy
theorem take_get {v : List Nat} {k : Nat} (hk : k < v.length) : v.take (k + 1) = v.take k ++ [v.getD k 0] := by
  rw [List.take_add_one, List.getElem?_eq_getElem hk, List.getD_eq_getElem?_getD, List.getElem?_eq_getElem hk]
  rfl
theorem beW_take (W : Nat) {v : List Nat} {k : Nat} (hk : k < v.length) : (v.take (k + 1)).flatMap (be W) = (v.take k).flatMap (be W) ++ be W (v.getD k 0) := by
  rw [take_get hk, List.flatMap_append]
  simp
theorem beW_length (W : Nat) : ∀ v : List Nat, (v.flatMap (be W)).length = v.length * W
  | [] => by simp
  | x :: r => by rw [List.flatMap_cons, List.length_append, be_length, beW_length W r, List.length_cons, Nat.add_mul]; omega
theorem beW_bytes (W : Nat) (v : List Nat) : bytes (v.flatMap (be W)) := by
  intro x hx
  obtain ⟨y, _, hy⟩ := List.mem_flatMap.1 hx
  exact be_bytes W y x hy
theorem bytes_append {xs ys : List Nat} (hx : bytes xs) (hy : bytes ys) : bytes (xs ++ ys) := by
  intro x h
  rcases List.mem_append.1 h with h | h
  · exact hx x h
  · exact hy x h
/-- The first n words of bytes. -/
def wsL (xs : List Nat) (n : Nat) : List Nat := (List.range n).map fun i => num ((xs.drop (8 * i)).take 8)
theorem wsL_length (xs : List Nat) (n : Nat) : (wsL xs n).length = n := by simp [wsL]
theorem wsL_succ (xs : List Nat) (n : Nat) : wsL xs (n + 1) = wsL xs n ++ [num ((xs.drop (8 * n)).take 8)] := by simp [wsL, List.range_succ]
theorem wsL_small {xs : List Nat} (h : bytes xs) (n : Nat) : smalls (wsL xs n) := by
  intro x hx
  obtain ⟨i, _, rfl⟩ := List.mem_map.1 hx
  exact num_lt_of (k := 8) (bytes_take (bytes_drop h _) 8) (List.length_take_le ..)
theorem wsL_cons {xs : List Nat} (hx : xs.length = 8) (ys : List Nat) (n : Nat) : wsL (xs ++ ys) (n + 1) = num xs :: wsL ys n := by
  unfold wsL
  rw [List.range_succ_eq_map, List.map_cons, List.map_map]
  congr 1
  · rw [Nat.mul_zero, List.drop_zero, ← hx, List.take_left]
  · apply List.map_congr_left
    intro i _
    show num ((List.drop (8 * (i + 1)) (xs ++ ys)).take 8) = _
    rw [show 8 * (i + 1) = xs.length + 8 * i by omega, List.drop_append, List.drop_eq_nil_of_le (by omega), List.nil_append, show xs.length + 8 * i - xs.length = 8 * i by omega]
theorem wsL_beV : ∀ (v zs : List Nat), smalls v → wsL (beV v ++ zs) v.length = v
  | [], _, _ => rfl
  | x :: r, zs, h => by
    have hx : x < 18446744073709551616 := h x (List.mem_cons_self ..)
    rw [beV_cons, List.append_assoc, List.length_cons, wsL_cons (be_length 8 x), num_be, wsL_beV r zs (fun y hy => h y (List.mem_cons_of_mem _ hy)), Nat.mod_eq_of_lt hx]

/-- '<<8 |'. -/
theorem push_num (x b : Nat) (hx : x < 72057594037927936) (hb : b < 256) : bits .or .u64 ((x : Int) * 256) (b : Int) = ((x * 256 + b : Nat) : Int) := by
  rw [show (x : Int) * 256 = ((256 * x : Nat) : Int) by omega, u64_or_nat (256 * x) b (by omega) (by omega)]
  congr 1
  have := Nat.two_pow_add_eq_or_of_lt (i := 8) (show b < 2 ^ 8 by omega) x
  rw [show (256 : Nat) = 2 ^ 8 from rfl, ← this]
  omega
end Go.Proofs.YteamniigiogaeaaGreatDoor
namespace Go.Proofs.YteamniigiogaeaaGreatDoor
open Go.RowKit Go.Shelf
set_option linter.unusedVariables false
set_option maxRecDepth 4000

def bren : Ren := ⟨fun | 165 => 87 | 166 => 88 | 170 => 89 | 105 => 0 | 99 => 0 | 206 => 0 | 212 => 0 | 263 => 0 | 264 => 0 | 167 => 0 | 169 => 90 | 240 => 103 | 241 => 104 | 276 => 122 | 277 => 123 | n => n, fun | 0 => 0 | 3 => 3 | 4 => 4 | 5 => 5 | 9 => 9 | 20 => 20 | 37 => 74 | 70 => 117 | 72 => 119 | 75 => 122 | 80 => 43 | 46 => 89 | 51 => 165 | 53 => 53 | 76 => 123 | 109 => 0 | 146 => 0 | 148 => 0 | 127 => 104 | 164 => 147 | n => n, fun | n => n⟩
theorem blays165 : Lays.n165 Tryz.prog bren := {
  mixed := by kernel_rfl
  f165 := Tryz.func87.trans (congrArg some (by kernel_rfl))
  f240 := Tryz.func103.trans (congrArg some (by kernel_rfl))
  f241 := Tryz.func104.trans (congrArg some (by kernel_rfl))
  f276 := Tryz.func122.trans (congrArg some (by kernel_rfl))
  f277 := Tryz.func123.trans (congrArg some (by kernel_rfl))
  t0 := Tryz.underlying0
  a0 := Tryz.isAgg0
  z0 := Tryz.sizeOf0
  v0 := Tryz.zeroValue0
  t3 := Tryz.underlying3
  a3 := Tryz.isAgg3
  z3 := Tryz.sizeOf3
  v3 := Tryz.zeroValue3
  t4 := Tryz.underlying4
  a4 := Tryz.isAgg4
  z4 := Tryz.sizeOf4
  v4 := Tryz.zeroValue4
  t9 := Tryz.underlying9
  a9 := Tryz.isAgg9
  z9 := Tryz.sizeOf9
  v9 := Tryz.zeroValue9
  t20 := Tryz.underlying20
  a20 := Tryz.isAgg20
  z20 := Tryz.sizeOf20
  v20 := Tryz.zeroValue20
  t37 := Tryz.underlying74
  a37 := Tryz.isAgg74
  z37 := Tryz.sizeOf74
  v37 := Tryz.zeroValue74
  t70 := Tryz.underlying117
  a70 := Tryz.isAgg117
  z70 := Tryz.sizeOf117
  v70 := Tryz.zeroValue117
  t72 := Tryz.underlying119
  a72 := Tryz.isAgg119
  z72 := Tryz.sizeOf119
  v72 := Tryz.zeroValue119
  t164 := Tryz.underlying147
  a164 := Tryz.isAgg147
  z164 := Tryz.sizeOf147
  v164 := Tryz.zeroValue147 }
theorem blays169 : Lays.n169 Tryz.prog bren := {
  mixed := by kernel_rfl
  f169 := Tryz.func90.trans (congrArg some (by kernel_rfl))
  t0 := Tryz.underlying0
  a0 := Tryz.isAgg0
  z0 := Tryz.sizeOf0
  v0 := Tryz.zeroValue0
  t3 := Tryz.underlying3
  a3 := Tryz.isAgg3
  z3 := Tryz.sizeOf3
  v3 := Tryz.zeroValue3
  t9 := Tryz.underlying9
  a9 := Tryz.isAgg9
  z9 := Tryz.sizeOf9
  v9 := Tryz.zeroValue9
  t37 := Tryz.underlying74
  a37 := Tryz.isAgg74
  z37 := Tryz.sizeOf74
  v37 := Tryz.zeroValue74
  t70 := Tryz.underlying117
  a70 := Tryz.isAgg117
  z70 := Tryz.sizeOf117
  v70 := Tryz.zeroValue117
  t72 := Tryz.underlying119
  a72 := Tryz.isAgg119
  z72 := Tryz.sizeOf119
  v72 := Tryz.zeroValue119
  t127 := Tryz.underlying104
  a127 := Tryz.isAgg104
  z127 := Tryz.sizeOf104
  v127 := Tryz.zeroValue104 }
theorem blays166 : Lays.n166 Tryz.prog bren := {
  mixed := by kernel_rfl
  f166 := Tryz.func88.trans (congrArg some (by kernel_rfl))
  f240 := Tryz.func103.trans (congrArg some (by kernel_rfl))
  f276 := Tryz.func122.trans (congrArg some (by kernel_rfl))
  t0 := Tryz.underlying0
  a0 := Tryz.isAgg0
  z0 := Tryz.sizeOf0
  v0 := Tryz.zeroValue0
  t3 := Tryz.underlying3
  a3 := Tryz.isAgg3
  z3 := Tryz.sizeOf3
  v3 := Tryz.zeroValue3
  t4 := Tryz.underlying4
  a4 := Tryz.isAgg4
  z4 := Tryz.sizeOf4
  v4 := Tryz.zeroValue4
  t9 := Tryz.underlying9
  a9 := Tryz.isAgg9
  z9 := Tryz.sizeOf9
  v9 := Tryz.zeroValue9
  t20 := Tryz.underlying20
  a20 := Tryz.isAgg20
  z20 := Tryz.sizeOf20
  v20 := Tryz.zeroValue20
  t37 := Tryz.underlying74
  a37 := Tryz.isAgg74
  z37 := Tryz.sizeOf74
  v37 := Tryz.zeroValue74
  t70 := Tryz.underlying117
  a70 := Tryz.isAgg117
  z70 := Tryz.sizeOf117
  v70 := Tryz.zeroValue117
  t72 := Tryz.underlying119
  a72 := Tryz.isAgg119
  z72 := Tryz.sizeOf119
  v72 := Tryz.zeroValue119
  t75 := Tryz.underlying122
  a75 := Tryz.isAgg122
  z75 := Tryz.sizeOf122
  v75 := Tryz.zeroValue122
  t164 := Tryz.underlying147
  a164 := Tryz.isAgg147
  z164 := Tryz.sizeOf147
  v164 := Tryz.zeroValue147 }
theorem blays170 : Lays.n170 Tryz.prog bren := {
  mixed := by kernel_rfl
  f170 := Tryz.func89.trans (congrArg some (by kernel_rfl))
  t0 := Tryz.underlying0
  a0 := Tryz.isAgg0
  z0 := Tryz.sizeOf0
  v0 := Tryz.zeroValue0
  t3 := Tryz.underlying3
  a3 := Tryz.isAgg3
  z3 := Tryz.sizeOf3
  v3 := Tryz.zeroValue3
  t37 := Tryz.underlying74
  a37 := Tryz.isAgg74
  z37 := Tryz.sizeOf74
  v37 := Tryz.zeroValue74
  t70 := Tryz.underlying117
  a70 := Tryz.isAgg117
  z70 := Tryz.sizeOf117
  v70 := Tryz.zeroValue117
  t72 := Tryz.underlying119
  a72 := Tryz.isAgg119
  z72 := Tryz.sizeOf119
  v72 := Tryz.zeroValue119 }
theorem bextra : Builder.Extra Tryz.prog bren := {
  sizeBuilder := by kernel_rfl
  liesBuilder := by kernel_rfl
  t5 := Tryz.underlying5
  a5 := Tryz.isAgg5
  z5 := Tryz.sizeOf5
  v5 := Tryz.zeroValue5
  infoByte := by kernel_rfl
  cellsByte := by kernel_rfl
  sizeByte := by kernel_rfl
  neB5 := by decide }

/-- The cells of bytes. -/
def cellsB (xs : List Nat) : List Value := xs.map fun (x : Nat) => Value.int .u8 (x : Int)
theorem cellsB_length (xs : List Nat) : (cellsB xs).length = xs.length := by simp [cellsB]
theorem cellsB_get (xs : List Nat) (i : Nat) (h : i < xs.length) : (cellsB xs)[i]? = some (.int .u8 ((xs.getD i 0 : Nat) : Int)) := by
  simp [cellsB, List.getElem?_eq_getElem h, List.getD_eq_getElem?_getD]
theorem cellsB_snoc (xs : List Nat) (x : Nat) : cellsB xs ++ [.int .u8 (x : Int)] = cellsB (xs ++ [x]) := by simp [cellsB]
theorem cellsB_bytes {xs : List Nat} (h : bytes xs) : Lib.byteCells (xs.map UInt8.ofNat) = cellsB xs := by
  unfold Lib.byteCells cellsB
  rw [List.map_map]
  apply List.map_congr_left
  intro x hx
  have := h x hx
  simp [Nat.mod_eq_of_lt this]
/-- A builder of one's own, in block b: its bytes are xs. -/
def Bld (w : World) (B b : Nat) (xs : List Nat) : Prop := bytes xs ∧ Lib.IsBuilder 119 5 B b (cellsB xs) w
theorem bgrow_new (B b n : Nat) (w : World) (hB : B ≤ b) (hbk : w.heap[b]? = some (.cells #[.pointer none, .slice none 0 0] 119 (0, 0))) (hBw : B ≤ w.heap.size) (hn : n ≤ 1073741824) :
    Calls Tryz.prog 87 #[.pointer (some ⟨b, 0, none⟩), .int .i64 n] w fun e w' => e = .returned (.tuple #[]) ∧ Bld w' B b [] ∧ Below B w w' :=
  (Any.Builder_Grow_fresh blays165 bextra B b n w hB hbk hBw (by omega)).mono fun e w' h => ⟨h.1, ⟨bytes_nil, .inr h.2.1⟩, h.2.2⟩
theorem bstr_any (B b : Nat) (xs : List Nat) (w : World) (h : Bld w B b xs) (hBw : B ≤ w.heap.size) :
    Calls Tryz.prog 90 #[.pointer (some ⟨b, 0, none⟩)] w fun e w' => e = .returned (.string (st xs)) ∧ Below B w w' :=
  (Any.Builder_String_any blays169 bextra B b (xs.map UInt8.ofNat) w (by rw [cellsB_bytes h.1]; exact h.2) hBw)
theorem strCells_tx (s : ByteArray) : Lib.strCells s = cellsB (tx s) := by
  unfold Lib.strCells cellsB tx
  rw [List.map_map]
  rfl
theorem cellsB_append (xs ys : List Nat) : cellsB xs ++ cellsB ys = cellsB (xs ++ ys) := by simp [cellsB]
theorem bwstr_any (B b : Nat) (xs : List Nat) (s : ByteArray) (w : World) (h : Bld w B b xs) (hl : xs.length + s.size ≤ 1073741824) (hBw : B ≤ w.heap.size) :
    Calls Tryz.prog 88 #[.pointer (some ⟨b, 0, none⟩), .string s] w fun e w' => e = .returned (.tuple #[.int .i64 s.size, .nilIface]) ∧ Bld w' B b (xs ++ tx s) ∧ Below B w w' :=
  (Any.Builder_WriteString blays166 bextra B b (cellsB xs) s w h.2 (by rw [cellsB_length]; omega) hBw).mono fun e w' k =>
    ⟨k.1, ⟨bytes_append h.1 (tx_bytes s), .inr (by have := k.2.1; rw [strCells_tx, cellsB_append] at this; exact this)⟩, k.2.2⟩
theorem blen_any (B b : Nat) (xs : List Nat) (w : World) (h : Bld w B b xs) :
    Calls Tryz.prog 89 #[.pointer (some ⟨b, 0, none⟩)] w fun e w' => e = .returned (.int .i64 xs.length) ∧ w' = w :=
  (Any.Builder_Len blays170 B b (cellsB xs) w h.2).mono fun e w' k => by rw [cellsB_length] at k; exact k
end Go.Proofs.YteamniigiogaeaaGreatDoor
namespace Go.Proofs.YteamniigiogaeaaGreatDoor
open Go.RowKit
set_option linter.unusedVariables false
set_option maxRecDepth 4000

theorem st_append (xs ys : List Nat) : st xs ++ st ys = st (xs ++ ys) := by
  apply ByteArray.ext
  unfold st
  rw [ByteArray.data_append]
  simp
theorem add_pad (s : ByteArray) (z : Nat) : s ++ st (List.replicate (z - s.size) 0) = st (pad z (tx s)) := by
  conv => lhs; rw [← st_tx s]
  rw [st_append, st_tx, pad, tx_length]


theorem wp_scope_once {P : Program} {a : Act} {w : World} {Q : Exit → Act → World → Prop} {c X : Code} (l : Nat) (J : Act → World → Prop) (μ : Act → World → Nat) (hf : findLabel c l = some (Code.skip.seq X))
    (pass : ∀ a w, J a w → X.wp P (Exit.jump l (fun a' w' => J a' w' ∧ μ a' w' < μ a w) Q) a w)
    (first : (∀ a w, J a w → X.wp P (Exit.jump l J Q) a w) → c.wp P (Exit.jump l J Q) a w) : (Code.scope c).wp P Q a w :=
  wp_scope_jumps l J μ hf (first fun a w h => wp_mono (pass a w h) fun e a w h => by
    cases e with
    | goto l' => exact ⟨h.1, h.2.1⟩
    | _ => exact h) fun a w h => wp_seq (wp_skip (pass a w h))
def txtOf : Value → Nat | .string s => s.size | _ => 0
theorem cut_step (xs : List Nat) (Z i n : Nat) (h : n = min Z (xs.drop (i * Z)).length) :
    ((xs.drop (i * Z)).drop 0).take (n - 0) = (xs.drop (i * Z)).take Z ∧ ((xs.drop (i * Z)).drop n).take ((xs.drop (i * Z)).length - n) = xs.drop ((i + 1) * Z) := by
  have hl := List.length_drop (i := i * Z) (l := xs)
  constructor
  · rw [List.drop_zero, Nat.sub_zero]
    by_cases hc : Z ≤ (xs.drop (i * Z)).length
    · rw [show n = Z by omega]
    · rw [List.take_of_length_le (by omega), List.take_of_length_le (by omega)]
  · rw [List.take_of_length_le (by rw [List.length_drop]; omega), List.drop_drop, Nat.add_mul, Nat.one_mul]
    by_cases hc : Z ≤ (xs.drop (i * Z)).length
    · rw [show n = Z by omega]
    · rw [List.drop_eq_nil_of_le (by omega), List.drop_eq_nil_of_le (by omega)]

/-- What holds at each jump. -/
def CutJ (s : ByteArray) (Z k : Nat) (w : World) (a' : Act) (w' : World) : Prop := ∃ (i : Nat) (t : ByteArray) (b : Option Addr) (c : Nat) (u8 u9 u10 u11 u12 u13 u14 u15 u16 u17 u18 u19 u20 u21 u22 u23 u24 u25 u26 u27 u28 : Value),
      a' = { tmps := #[.string t, .int .i64 (Z : Int), .int .i64 (k : Int), undef, undef, undef, .slice none 0 0, .slice b i c, u8, u9, u10, u11, u12, u13, u14, u15, u16, u17, u18, u19, u20, u21, u22, u23, u24, u25, u26, u27, u28], defers := [] }
      ∧ i < k ∧ Hid (tx t = (tx s).drop (i * Z)) ∧ Hid (OwnT w' w.heap.size (.slice b i c) (blocksL (tx s) Z i)) ∧ Hid (Below w.heap.size w w')
theorem CutJ.mk (s : ByteArray) (Z k : Nat) (w : World) {w' : World} (i : Nat) {t : ByteArray} {b : Option Addr} {c : Nat} {u8 u9 u10 u11 u12 u13 u14 u15 u16 u17 u18 u19 u20 u21 u22 u23 u24 u25 u26 u27 u28 : Value} (hi : i < k) (HT : Hid (tx t = (tx s).drop (i * Z)))
    (HO : Hid (OwnT w' w.heap.size (.slice b i c) (blocksL (tx s) Z i))) (HB : Hid (Below w.heap.size w w')) :
    CutJ s Z k w { tmps := #[.string t, .int .i64 (Z : Int), .int .i64 (k : Int), undef, undef, undef, .slice none 0 0, .slice b i c, u8, u9, u10, u11, u12, u13, u14, u15, u16, u17, u18, u19, u20, u21, u22, u23, u24, u25, u26, u27, u28], defers := [] } w' :=
  ⟨i, t, b, c, u8, u9, u10, u11, u12, u13, u14, u15, u16, u17, u18, u19, u20, u21, u22, u23, u24, u25, u26, u27, u28, rfl, hi, HT, HO, HB⟩
theorem isEmpty_tx (x : ByteArray) : x.toList.isEmpty = (tx x).isEmpty := by
  rw [ByteArray.toList_eq]
  unfold tx
  simp

end Go.Proofs.YteamniigiogaeaaGreatDoor
namespace Go.Proofs.YteamniigiogaeaaGreatDoor
open Go.RowKit
set_option linter.unusedVariables false
set_option maxRecDepth 4000

/-- Cells stored into a row whose mark lies behind them. -/
theorem run_storeCells_free (P : Program) (g o : Nat) (t : TypeId) (lo hi : Nat) : ∀ (vs : List Value) (i : Nat) (cur : Array Value) (w : World), w.heap[g]? = some (.cells cur t (lo, hi)) → o + i + vs.length ≤ lo → o + i + vs.length ≤ cur.size → (∀ v ∈ vs, v.oneCell' = true) →
    (storeCells ⟨g, o, none⟩ vs i).run P w = .ok () (w.setRow g (cur.toList.take (o + i) ++ vs ++ cur.toList.drop (o + i + vs.length)).toArray)
  | [], i, cur, w, hg, _, _, _ => by
    simp only [storeCells, List.append_nil, List.length_nil, Nat.add_zero, List.take_append_drop, Array.toArray_toList]
    rw [setRow_self w g cur t (lo, hi) hg]
    rfl
  | v :: rest, i, cur, w, hg, hlo, hl, h1 => by
    have hi' : o + i < cur.size := by simp at hl; omega
    have hlo' : o + i < lo := by simp at hlo; omega
    have hadd : (⟨g, o, none⟩ : Addr).add i = ⟨g, o + i, none⟩ := by unfold Addr.add; split <;> simp_all
    have hcell : w.cell? ⟨g, o + i, none⟩ = some cur[o + i] := by simp [World.cell?, hg, hi']
    have hfro : w.frozen? ⟨g, o + i, none⟩ = false := by simp [World.frozen?, hg]; omega
    have hst : (store ((⟨g, o, none⟩ : Addr).add i) v).run P w = .ok () (w.setRow g (cur.setIfInBounds (o + i) v)) := by
      rw [hadd, run_store P w _ v _ (h1 v (by simp)), hcell]
      simp [hfro, setCell_eq_setRow w g (o + i) cur t (lo, hi) v hg]
    have ih := run_storeCells_free P g o t lo hi rest (i + 1) (cur.setIfInBounds (o + i) v) (w.setRow g (cur.setIfInBounds (o + i) v)) (setRow_heap w g cur _ t _ hg) (by simp at hlo; omega) (by simp at hl ⊢; omega) (fun x hx => h1 x (by simp [hx]))
    simp only [storeCells, Sem.run_bind, hst, Result.andThen_ok, ih, setRow_setRow]
    congr 3
    have e := list_seg_step cur.toList (o + i) v rest (by simp at hl ⊢; omega)
    simpa [Array.toList_setIfInBounds, Nat.add_assoc] using e

/-- An append whose run is known, in a walk. -/
theorem wpList_append_run {P : Program} {w w' : World} {ops : Array Oper} {rest : List Oper} {o : Oper} {act : Act} {Q : Exit → Act → World → Prop} (hgd : o.guard = none) (s x : Operand) (t u : TypeId)
    (ho : o.op = .call { callee := .builtin .append, args := #[s, x], argTypes := #[t, u] }) (v vx r : Value) (hs : act.eval s = v) (hx : act.eval x = vx)
    (hr : ∀ ty, (Builtin.append_ #[t, u] ty #[v, vx]).run P w = .ok r w') (hK : wpList P ops Q rest (act.put o.dst r) w') : wpList P ops Q (o :: rest) act w :=
  wpList_plain hgd fun _ hK' => by
    unfold Oper.wp execOp
    simp only [ho, resolve, invoke, builtin, Sem.run_bind, Sem.run_pure, Result.andThen_ok, List.map_toArray, List.map_cons, List.map_nil, hs, hx, hr]
    exact hK' _ _ hK
theorem zeroCells_u8 (m : Nat) : Builtin.zeroCells (Value.int .u8 0).cells m = Array.replicate m (.int .u8 0) := by
  unfold Builtin.zeroCells
  apply Array.ext
  · simp [Value.cells]
  · intro i h1 h2
    simp [Value.cells, Nat.mod_one]
theorem made_bytes (w : World) (s : ByteArray) (m : Nat) (hs : s.size ≤ 1048576) (hm : m ≤ 1048576) : ∃ w1 C w2 g cap, (convert 9 74 (.string s)).run Tryz.prog w = .ok (.slice (some ⟨w.heap.size, 0, none⟩) s.size C) w1 ∧
    (∀ ty, (Builtin.append_ #[74, 3] ty #[.slice (some ⟨w.heap.size, 0, none⟩) s.size C, .int .i64 (m : Int)]).run Tryz.prog w1 = .ok (.slice (some ⟨g, 0, none⟩) (s.size + m) cap) w2) ∧
    OwnB w2 w.heap.size (.slice (some ⟨g, 0, none⟩) (s.size + m) cap) (tx s ++ List.replicate m 0) ∧ Below w.heap.size w w2 ∧ s.size + m ≤ cap ∧ cap ≤ 9223372036854775807 := by
  obtain ⟨i0, hi0, hz0, hz1, hz2⟩ := info_parts info_u8
  have hrun := run_bytes_of_string (P := Tryz.prog) w 9 74 5 s Tryz.underlying9 Tryz.underlying74 Tryz.underlying5
  have hCge := grownCap_ge w s.size 0 5
  have hCle := grownCap_le_maxLen w s.size 0 5 (by unfold maxLen; omega)
  unfold maxLen at hCle
  generalize grownCap w s.size 0 5 = C at *
  have hsz : (bytesRow s C).size = C := by
    unfold bytesRow
    rw [Array.size_append, Array.size_map, Array.size_replicate]
    show s.size + (C - s.size) = C
    omega
  rw [hsz] at hrun
  have hbl : bytes (tx s ++ List.replicate m 0) := fun x hx => by
    rcases List.mem_append.1 hx with hx | hx
    · exact tx_bytes s x hx
    · rw [(List.mem_replicate.1 hx).2]; decide
  have hln : (tx s ++ List.replicate m 0).length = s.size + m := by rw [List.length_append, tx_length, List.length_replicate]
  have hget : ∀ i, (tx s ++ List.replicate m 0).getD i 0 = (tx s).getD i 0 := fun i => by
    rw [List.getD_eq_getElem?_getD, List.getD_eq_getElem?_getD]
    by_cases h : i < (tx s).length
    · rw [List.getElem?_append_left h]
    · rw [List.getElem?_append_right (by omega), List.getElem?_eq_none (l := tx s) (by omega), List.getElem?_replicate]
      split <;> rfl
  have hold : ∀ i, i < s.size → (bytesRow s C)[i]? = some (.int .u8 (((tx s).getD i 0 : Nat) : Int)) := fun i hi => by
    rw [bytesRow_at s _ i hi, ← tx_get s i hi]
    rfl
  have hgw : (w.drew.alloc (.cells (bytesRow s C) 5 (C, C + 1))).heap[w.heap.size]? = some (.cells (bytesRow s C) 5 (C, C + 1)) := by
    show (w.heap.push _)[w.heap.size]? = _
    simp
  have hb1 : Below w.heap.size w (w.drew.alloc (.cells (bytesRow s C) 5 (C, C + 1))) := ((Below.refl _ _).drew).alloc (Nat.le_refl _) _
  generalize hw1 : w.drew.alloc (.cells (bytesRow s C) 5 (C, C + 1)) = w1 at *
  have hwm : IntKind.i64.wrap (m : Int) = (m : Int) := by
    rw [IntKind.wrap_i64]
    omega
  have hasi : ∀ W, (asInt (.int .i64 (m : Int))).run Tryz.prog W = .ok (m : Int) W := fun _ => rfl
  have hl0 : ¬ ((m : Int) < 0) := by omega
  have hby : ¬ (281474976710656 < (m : Int) * (i0.bytes : Int)) := by rw [hz2]; omega
  by_cases hroom : s.size + m ≤ C
  · have hst := run_storeCells_free Tryz.prog w.heap.size s.size 5 C (C + 1) (List.replicate m (.int .u8 0)) 0 (bytesRow s C) w1 hgw (by simp; omega) (by simp [hsz]; omega) (fun v hv => by rw [(List.mem_replicate.1 hv).2]; rfl)
    rw [Nat.add_zero, List.length_replicate] at hst
    obtain ⟨R, hR⟩ : ∃ R, (List.take s.size (bytesRow s C).toList ++ List.replicate m (Value.int .u8 0) ++ List.drop (s.size + m) (bytesRow s C).toList).toArray = R := ⟨_, rfl⟩
    rw [hR] at hst
    have hw2 := setRow_heap w1 w.heap.size (bytesRow s C) R 5 (C, C + 1) hgw
    have hlen : (List.take s.size (bytesRow s C).toList).length = s.size := by rw [List.length_take, Array.length_toList, hsz]; omega
    have hRat : ∀ i, i < s.size + m → R[i]? = some (.int .u8 (((tx s).getD i 0 : Nat) : Int)) := fun i hi => by
      rw [← hR, List.getElem?_toArray, List.append_assoc]
      by_cases h : i < s.size
      · rw [List.getElem?_append_left (by omega), List.getElem?_take, if_pos h, Array.getElem?_toList, hold i h]
      · rw [List.getElem?_append_right (by omega), hlen, List.getElem?_append_left (by rw [List.length_replicate]; omega), List.getElem?_replicate, if_pos (by omega)]
        rw [List.getD_eq_getElem?_getD, List.getElem?_eq_none (by rw [tx_length]; omega)]
        rfl
    refine ⟨w1, C, w1.setRow w.heap.size R, w.heap.size, C, hrun, fun ty => ?_, ⟨hbl, .inr ⟨w.heap.size, C, by rw [hln], Nat.le_refl _, (Array.getElem?_eq_some_iff.1 hw2).1, fun i hi => ?_, fun i hi => ?_⟩⟩, ?_, hroom, hCle⟩
    · unfold Builtin.append_
      by_cases hm0 : m = 0
      · subst hm0
        have hself : w1.setRow w.heap.size R = w1 := by
          simp [storeCells] at hst
          exact hst.symm
        rw [hself]
        simp [run_underlying Tryz.underlying74, run_underlying Tryz.underlying3, sizeOf, typeInfo, zeroValue, hi0, hz0, hCge, storeCells, show ∀ W, (asInt (.int .i64 (0 : Int))).run Tryz.prog W = .ok (0 : Int) W from fun _ => rfl, show IntKind.i64.wrap 0 = 0 from rfl]
      · have hadd : (⟨w.heap.size, 0, none⟩ : Addr).add s.size = ⟨w.heap.size, s.size, none⟩ := by unfold Addr.add; split <;> simp_all
        simp [run_underlying Tryz.underlying74, run_underlying Tryz.underlying3, sizeOf, typeInfo, zeroValue, hi0, hz0, hz1, hasi, hwm, hl0, hby, hroom, hm0, zeroCells_u8, hadd, hst]
    · rw [hget]
      rw [hln] at hi
      exact (Lib.cell_of_heap hw2 i).trans (hRat i hi)
    · rw [hln] at hi
      have : ¬ C ≤ i := by omega
      simp [World.frozen?, hw2, this]
    · exact hb1.trans ⟨rfl, rfl, rfl, by simp, fun k hk => setRow_other _ _ k _ (by omega)⟩
  · have hfc := run_firstCells_some (P := Tryz.prog) w1.drew 1 s.size ⟨w.heap.size, 0, none⟩ s.size C (cellsB (tx s)) (by rw [cellsB_length, tx_length, Nat.mul_one]) (fun j v hj => by
      have hlt : j < (tx s).length := by
        have := (List.getElem?_eq_some_iff.1 hj).1
        rwa [cellsB_length] at this
      have e : (⟨w.heap.size, 0, none⟩ : Addr).add j = ⟨w.heap.size, j, none⟩ := by unfold Addr.add; split <;> simp_all
      rw [e, ← hj, cellsB_get _ _ hlt]
      exact (Lib.cell_of_heap hgw j).trans (hold j (by rwa [tx_length] at hlt)))
    have hfit := growslice_fits (need := s.size + m) (old := C) (bytes := i0.bytes) (by omega) (by rw [hz2]; omega)
    have hG := grownCap_ge w1 (s.size + m) C 5
    have hGm := grownCap_le_maxLen w1 (s.size + m) C 5 (by unfold maxLen; omega)
    unfold maxLen at hGm
    have h48 : ¬ (281474976710656 < Builtin.nextslicecap (s.size + m) C * i0.bytes) := by omega
    have h63 : ¬ (9223372036854775807 < (s.size : Int) + (m : Int)) := by omega
    have hm0 : m ≠ 0 := by omega
    obtain ⟨R, hR⟩ : ∃ R, (cellsB (tx s)).toArray ++ Array.replicate m (Value.int .u8 0) ++ Array.replicate (grownCap w1 (s.size + m) C 5 - (s.size + m)) (Value.int .u8 0) = R := ⟨_, rfl⟩
    have hRat : ∀ i, i < s.size + m → R[i]? = some (.int .u8 (((tx s).getD i 0 : Nat) : Int)) := fun i hi => by
      rw [← hR, Array.append_assoc]
      have hlc : (cellsB (tx s)).toArray.size = s.size := by simp [cellsB_length, tx_length]
      by_cases h : i < s.size
      · rw [Array.getElem?_append_left (by omega), List.getElem?_toArray, cellsB_get _ _ (by rw [tx_length]; exact h)]
      · rw [Array.getElem?_append_right (by omega), hlc, Array.getElem?_append_left (by simp; omega), Array.getElem?_replicate, if_pos (by omega)]
        rw [List.getD_eq_getElem?_getD, List.getElem?_eq_none (by rw [tx_length]; omega)]
        rfl
    have hw2 : (w1.drew.alloc (.cells R 5)).heap[w1.heap.size]? = some (.cells R 5 (0, 0)) := by
      show (w1.heap.push _)[w1.heap.size]? = _
      simp
    refine ⟨w1, C, w1.drew.alloc (.cells R 5), w1.heap.size, grownCap w1 (s.size + m) C 5, hrun, fun ty => ?_, ⟨hbl, .inr ⟨w1.heap.size, _, by rw [hln], hb1.size, (Array.getElem?_eq_some_iff.1 hw2).1, fun i hi => ?_, fun i hi => ?_⟩⟩, ?_, hG, hGm⟩
    · unfold Builtin.append_
      simp [run_underlying Tryz.underlying74, run_underlying Tryz.underlying3, sizeOf, typeInfo, zeroValue, hi0, hz0, hz1, hasi, hwm, hl0, hby, hroom, hm0, zeroCells_u8, h48, h63, Question.forced, hfc, newRow, grownCap]
      rw [← hR]
      simp [grownCap]
    · rw [hget]
      rw [hln] at hi
      exact (Lib.cell_of_heap hw2 i).trans (hRat i hi)
    · exact Lib.frozen_of_heap hw2 i
    · exact (hb1.drew).alloc hb1.size _
end Go.Proofs.YteamniigiogaeaaGreatDoor
namespace Go.Proofs.YteamniigiogaeaaGreatDoor
open Go.RowKit
set_option linter.unusedVariables false
set_option maxRecDepth 4000



/-- 'string(b[o:o+n])'. -/
theorem OwnB.textAt {w : World} {B g cap : Nat} {m : Nat} {xs : List Nat} (h : OwnB w B (.slice (some ⟨g, 0, none⟩) m cap) xs) (hm : xs.length = m) (o n c : Nat) (hn : o + n ≤ m) :
    (convert 74 9 (.slice (some ⟨g, o, none⟩) n c)).run Tryz.prog w = .ok (.string (st ((xs.drop o).take n))) w := by
  subst hm
  rcases h.2 with ⟨e, _⟩ | ⟨g', cap', e, hg, hgg, hc, hf⟩
  · cases e
  · simp only [Value.slice.injEq, Option.some.injEq, Addr.mk.injEq, and_true, true_and] at e
    obtain ⟨rfl, rfl⟩ := e
    have hl : ((xs.drop o).take n).length = n := by rw [List.length_take, List.length_drop]; omega
    have := run_convert_bytes_back (P := Tryz.prog) w 74 9 5 ⟨g, o, none⟩ c (((xs.drop o).take n).map UInt8.ofNat) Tryz.underlying74 Tryz.underlying5 Tryz.underlying9 (fun j hj => by
      have hj' : j < n := by rw [List.length_map, hl] at hj; exact hj
      have e : (⟨g, o, none⟩ : Addr).add j = ⟨g, o + j, none⟩ := by unfold Addr.add; split <;> simp_all
      rw [e, hc (o + j) (by omega)]
      have hb := h.1.get (o + j)
      have hx : ((xs.drop o).take n)[j]'(by rw [hl]; exact hj') = xs.getD (o + j) 0 := by
        have h1 := getD_take (xs.drop o) n j
        rw [if_pos hj', getD_drop] at h1
        rw [← h1, List.getD_eq_getElem?_getD, List.getElem?_eq_getElem (by rw [hl]; exact hj')]
        rfl
      simp only [List.getElem_map]
      rw [hx, UInt8.toNat_ofNat_of_lt' hb])
    rw [List.length_map, hl] at this
    exact this

set_option maxHeartbeats 400000 in
theorem rsplit_no (s : ByteArray) (z : Int) (w : World) (hs : s.size ≤ 9223372036854775807) (h : planE (s.size : Int) z ≠ 0) :
    Calls Tryz.prog 18 #[.string s, .int .i64 z] w fun e w' => e = .returned (.tuple #[.slice none 0 0, .int .i64 (planE (s.size : Int) z)]) ∧ w' = w := by
  have HP := hide (rplan_any (s.size : Int) z w (by omega))
  generalize planE (s.size : Int) z = E0 at *
  generalize planK (s.size : Int) z = K0 at *
  go_enter Tryz.func18, Tryz.ntmps18
  go_wp2_with (go_at_call 35; refine (unhide HP).mono ?_; rintro e w1 ⟨rfl, hw⟩; obtain rfl := hw.symm)
  go_ret2
  exact ⟨rfl, rfl⟩

set_option maxHeartbeats 1000000 in
theorem rsplit_yes (s : ByteArray) (Z : Nat) (w : World) (hz1 : 1 ≤ Z) (hz2 : Z ≤ 64) (hk2 : kc s.size Z ≤ 128) :
    Calls Tryz.prog 18 #[.string s, .int .i64 (Z : Int)] w fun e w' => ∃ v, e = .returned (.tuple #[v, .int .i64 0]) ∧ OwnT w' w.heap.size v (blocksL (tx s) Z (kc s.size Z)) ∧ Below w.heap.size w w' := by
  have hke := kc_enough s.size Z hz1
  have hkz : kc s.size Z * Z ≤ 128 * 64 := Nat.mul_le_mul hk2 hz2
  have hp := rplan_any (s.size : Int) (Z : Int) w (by omega)
  rw [(plan_ok hz1 hz2 hk2).1, (plan_ok hz1 hz2 hk2).2] at hp
  have HP := hide hp
  clear hp
  generalize kc s.size Z = k at *
  have emul : (k : Int) * (Z : Int) = ((k * Z : Nat) : Int) := by simp
  have esub : ((k * Z : Nat) : Int) - (s.size : Int) = ((k * Z - s.size : Nat) : Int) := by omega
  obtain ⟨w1, C, w2, g, cap, hr1, hr2, hob, hb2, hcap, hcap2⟩ := made_bytes w s (k * Z - s.size) (by omega) (by omega)
  have e1 : s.size + (k * Z - s.size) = k * Z := by omega
  rw [e1] at hr2 hob hcap
  have HPD := hide (show tx s ++ List.replicate (k * Z - s.size) 0 = pad (k * Z) (tx s) by rw [pad, tx_length])
  have HM := hide (fun i (h : i < k) => (Nat.mul_le_mul_right Z h : (i + 1) * Z ≤ k * Z))
  have HPL := hide (show (pad (k * Z) (tx s)).length = k * Z from pad_length _ _ (by rw [tx_length]; exact hke))
  rw [unhide HPD] at hob
  have HOB := hide hob
  have HB2 := hide hb2
  have HREF := hide (fun i (h : i < k) => blk_ref (tx s) Z k i h)
  generalize k * Z - s.size = d at *
  obtain ⟨m, hm⟩ : ∃ m, k * Z = m := ⟨_, rfl⟩
  rw [hm] at emul esub hr2 hob hcap HPD HM HPL HOB HREF hke hkz
  have hcz : (m : Int) ≤ (cap : Int) := by omega
  have HR2 := hide hr2
  clear hob hb2 e1 hm HPD hr2
  go_enter Tryz.func18, Tryz.ntmps18
  go_wp2_with (first | (go_at_call 35; refine (unhide HP).mono ?_; rintro e w1 ⟨rfl, hw⟩; obtain rfl := hw.symm) | (at_builtin; refine wpList_append_run rfl _ _ _ _ rfl (.slice (some ⟨w.heap.size, 0, none⟩) s.size C) (.int .i64 (d : Int)) _ rfl rfl (unhide HR2) ?_))
  clear HP HR2 hr1
  go_loopw [9, 10] (fun v i wr => ∃ (j : Nat) (b : Option Addr) (c : Nat), j ≤ k ∧ i = .int .i64 j ∧ v = .slice b j c ∧ Hid (OwnT wr w2.heap.size (.slice b j c) (blocksL (tx s) Z j)) ∧ Hid (Below w2.heap.size w2 wr)) (fun _ i _ => k - (intOf i).toNat)
  case atStart => exact ⟨0, none, 0, Nat.zero_le _, rfl, rfl, hide (OwnT.nil _ _), hide (Below.refl _ _)⟩
  case round =>
    rename_i wr
    obtain ⟨j, b, c, hj, rfl, rfl, HO, HB⟩ := hrel
    by_cases hlt : j < k
    · obtain ⟨A, hA⟩ : ∃ A, j * Z = A := ⟨_, rfl⟩
      obtain ⟨H, hH⟩ : ∃ H, (j + 1) * Z = H := ⟨_, rfl⟩
      have eA : (j : Int) * (Z : Int) = (A : Int) := by rw [← hA]; simp
      have eH : ((j : Int) + 1) * (Z : Int) = (H : Int) := by rw [← hH]; simp
      have hHm : H ≤ m := by rw [← hH]; exact unhide HM j hlt
      have hAH : A + Z = H := by rw [← hA, ← hH, Nat.add_mul, Nat.one_mul]
      have HE := hide (unhide HREF j hlt)
      rw [hA] at HE
      have hAH2 : A ≤ H := by omega
      have hAH3 : A < m := by omega
      have htx := ((unhide HOB).below (unhide HB)).textAt (unhide HPL) A (H - A) (cap - A) (by omega)
      have hZ : H - A = Z := by omega
      rw [show List.take (H - A) (List.drop A (pad m (tx s))) = blk (tx s) Z j by rw [hZ]; exact unhide HE] at htx
      have hHA : (H : Int) - (A : Int) = (Z : Int) := by omega
      have HQ := hide (blocksL_succ (tx s) Z j)
      have HQL := hide (blocksL_length (tx s) Z j)
      have hsb := (unhide HB).size
      have HAHZ := hide hAH
      have HZ := hide hZ
      clear hA hH hAH HE HM HREF hZ
      go_wp2_with (at_builtin; refine wpList_pushT rfl _ _ rfl w2.heap.size (.slice b j c) _ _ rfl rfl (unhide HO) hsb (by rw [unhide HQL]; omega) ?_)
      intro v2 w3 ho2 hb2
      rw [← unhide HQ] at ho2
      obtain ⟨b2, c2, rfl, -⟩ := ho2.texts
      rw [blocksL_length] at ho2 ⊢
      have HO2 := hide ho2
      have HB3 := hide ((unhide HB).trans hb2)
      clear ho2 hb2 HO HB HOB htx
      go_wp2
      go_roundw
      case rel => exact ⟨j + 1, b2, c2, by omega, by go_num, rfl, HO2, HB3⟩
      case measure => simp [intOf]; omega
    · obtain rfl : j = k := by omega
      clear HREF HM
      go_wp2
      go_ret2
      exact ⟨_, rfl, (unhide HO).mono (unhide HB2).size, (unhide HB2).trans ((unhide HB).mono (unhide HB2).size)⟩
end Go.Proofs.YteamniigiogaeaaGreatDoor
namespace Go.Proofs.YteamniigiogaeaaGreatDoor
open Go.RowKit
set_option linter.unusedVariables false
set_option maxRecDepth 4000

theorem heap_new (w : World) (o : Obj) : (w.alloc o).heap[w.heap.size]? = some o := by
  show (w.heap.push o)[w.heap.size]? = _
  simp
set_option maxHeartbeats 400000 in
theorem lacking_any (a : Option Addr) (l c : Nat) (ss : List ByteArray) (n : Nat) (w : World) (h : TextsAt w a l ss) (hl : l ≤ 1048576) (hn : n ≤ 9223372036854775807) :
    Calls Tryz.prog 86 #[.slice a l c, .int .i64 (n : Int)] w fun e w' => e = .returned (.int .i64 ((n - (joinL ss).length : Nat) : Int)) ∧ w' = w := by
  obtain rfl := h.1
  go_enter Tryz.func86, Tryz.ntmps86
  go_wp2
  go_loop [1, 9] (fun v i => ∃ k r : Nat, k ≤ ss.length ∧ i = .int .i64 k ∧ v = .int .i64 (r : Int) ∧ r ≤ n ∧ Hid (r = n - (joinL (ss.take k)).length)) (fun _ i => ss.length - (intOf i).toNat)
  case atStart => exact ⟨0, n, Nat.zero_le _, rfl, rfl, Nat.le_refl _, hide (by simp [joinL])⟩
  case round =>
    obtain ⟨k, r, hk, rfl, rfl, hr, HR⟩ := hrel
    by_cases hlt : k < ss.length
    · obtain ⟨b, off, rfl, hc⟩ := h.at hlt
      have hcell := hc k hlt
      have hj := joinL_take ss k hlt
      have hjl := congrArg List.length hj
      rw [List.length_append, tx_length] at hjl
      have HJ := hide hjl
      generalize ss.getD k ByteArray.empty = t at *
      have M := min_run t.size r
      obtain ⟨q, hq⟩ : ∃ q, min t.size r = q := ⟨_, rfl⟩
      rw [hq] at M
      have esub : (r : Int) - (q : Int) = ((r - q : Nat) : Int) := by omega
      have hqr : q ≤ r := by omega
      have hlt' : (k : Int) < (ss.length : Int) := by omega
      have HR2 := hide (show r - q = n - (joinL (ss.take (k + 1))).length by have := unhide HR; have := unhide HJ; omega)
      clear hc hj hjl hq h
      go_wp2
      go_round
      case rel => exact ⟨k + 1, r - q, by omega, by go_num, by first | rfl | rw [esub], by omega, HR2⟩
      case measure => simp [intOf]; omega
    · obtain rfl : k = ss.length := by omega
      rw [List.take_length] at HR
      clear h
      go_wp2
      go_ret
      exact ⟨ret_int (by rw [unhide HR]), rfl⟩

set_option maxHeartbeats 400000 in
theorem join_no (a : Option Addr) (l c : Nat) (ss : List ByteArray) (n : Int) (w : World) (h : TextsAt w a l ss) (hl : l ≤ 1048576) (hn : n ≤ 9223372036854775807) (hj : n < 0 ∨ ((joinL ss).length : Int) < n) :
    Calls Tryz.prog 67 #[.slice a l c, .int .i64 n] w fun e w' => e = .returned (.tuple #[.string ⟨#[]⟩, .int .i64 1]) ∧ w' = w := by
  by_cases h0 : n < 0
  · clear h hj
    go_enter Tryz.func67, Tryz.ntmps67
    go_wp2
    go_ret2
    exact ⟨rfl, rfl⟩
  · obtain ⟨N, rfl⟩ : ∃ N : Nat, n = (N : Int) := ⟨n.toNat, by omega⟩
    have HL := hide (lacking_any a l c ss N w h hl (by omega))
    have hpos : 0 < N - (joinL ss).length := by omega
    generalize N - (joinL ss).length = r at *
    clear h hj
    go_enter Tryz.func67, Tryz.ntmps67
    go_wp2_with (go_at_call 86; refine (unhide HL).mono ?_; rintro e w1 ⟨rfl, hw⟩; obtain rfl := hw.symm)
    go_ret2
    exact ⟨rfl, rfl⟩

set_option maxHeartbeats 2000000 in
theorem join_yes (a : Option Addr) (l c : Nat) (ss : List ByteArray) (n : Nat) (w : World) (h : TextsAt w a l ss) (hl : l ≤ 1048576) (hn : n ≤ 1073741824) (hj : n ≤ (joinL ss).length) :
    Calls Tryz.prog 67 #[.slice a l c, .int .i64 (n : Int)] w fun e w' => e = .returned (.tuple #[.string (st ((joinL ss).take n)), .int .i64 0]) ∧ Below w.heap.size w w' := by
  obtain rfl := h.1
  have hlk := lacking_any a ss.length c ss n w h hl (by omega)
  rw [show n - (joinL ss).length = 0 by omega] at hlk
  have HL := hide hlk
  have HG := hide (bgrow_new w.heap.size w.heap.size n (w.alloc (.cells #[.pointer none, .slice none 0 0] 119)) (Nat.le_refl _) (heap_new w _) (by simp) hn)
  have hb0 : Below w.heap.size w (w.alloc (.cells #[.pointer none, .slice none 0 0] 119)) := (Below.refl _ _).alloc (Nat.le_refl _) _
  have hnn : (0 : Int) ≤ (n : Int) := by omega
  clear hlk
  go_enter Tryz.func67, Tryz.ntmps67
  go_wp2_with (first | (go_at_call 86; refine (unhide HL).mono ?_; rintro e w1 ⟨rfl, hw⟩; obtain rfl := hw.symm) | (go_at_call 87; refine (unhide HG).mono ?_; rintro e w1 ⟨rfl, hB1, hb1⟩))
  have HB0 := hide hB1
  have HBB := hide (hb0.trans hb1)
  clear hb0 hb1 hB1 HG HL
  go_loopw [21] (fun i wr => ∃ k : Nat, k ≤ ss.length ∧ i = .int .i64 k ∧ Hid (Bld wr w.heap.size w.heap.size ((joinL (ss.take k)).take n)) ∧ Hid (Below w.heap.size w wr)) (fun i _ => ss.length - (intOf i).toNat)
  case atStart => exact ⟨0, Nat.zero_le _, rfl, hide (by simpa [joinL] using unhide HB0), HBB⟩
  case round =>
    obtain ⟨k, hk, rfl, HO, HB⟩ := hrel
    clear HB0 HBB
    by_cases hlt : k < ss.length
    · obtain ⟨b, off, rfl, hc⟩ := (h.below (unhide HB)).at hlt
      have hcell := hc k hlt
      have HT := hide (joinL_take ss k hlt)
      generalize ss.getD k ByteArray.empty = t at *
      obtain ⟨P, hP⟩ : ∃ P, joinL (ss.take k) = P := ⟨_, rfl⟩
      rw [hP] at HO HT
      have hPl : (P.take n).length ≤ n := List.length_take_le _ _
      obtain ⟨q, hq⟩ : ∃ q, (P.take n).length = q := ⟨_, rfl⟩
      have HLn := hide (blen_any w.heap.size w.heap.size (P.take n) _ (unhide HO))
      rw [hq] at HLn hPl
      have esub : (n : Int) - (q : Int) = ((n - q : Nat) : Int) := by omega
      have M := min_run t.size (n - q)
      obtain ⟨r, hr⟩ : ∃ r, min t.size (n - q) = r := ⟨_, rfl⟩
      rw [hr] at M
      have hrt : r ≤ t.size := by omega
      have hx1 : (t.extract 0 r).size = r := by rw [ByteArray.size_extract]; omega
      have HW := hide (bwstr_any w.heap.size w.heap.size (P.take n) (t.extract 0 r) _ (unhide HO) (by rw [hq, hx1]; omega) (unhide HB).size)
      have HE := hide (show P.take n ++ tx (t.extract 0 r) = (joinL (ss.take (k + 1))).take n by
        rw [unhide HT, List.take_append, tx_cut, List.drop_zero, Nat.sub_zero]
        congr 1
        rw [List.length_take] at hq
        by_cases hc : n ≤ P.length
        · rw [show r = 0 by omega, show n - P.length = 0 by omega]
        · by_cases hc2 : t.size ≤ n - P.length
          · rw [List.take_of_length_le (by rw [tx_length]; omega), List.take_of_length_le (by rw [tx_length]; omega)]
          · rw [show r = n - P.length by omega])
      have hlt' : (k : Int) < (ss.length : Int) := by omega
      clear hc hP hq hr hx1 HT
      go_wp2_with (first | (go_at_call 89; refine (unhide HLn).mono ?_; rintro e w1 ⟨rfl, hw⟩; obtain rfl := hw.symm) | (go_at_call 88; refine (unhide HW).mono ?_; rintro e w2 ⟨rfl, hB2, hb2⟩))
      rw [unhide HE] at hB2
      have HB2 := hide hB2
      have HBB2 := hide ((unhide HB).trans hb2)
      clear hB2 hb2 HO HB
      go_wp2
      go_roundw
      case rel => exact ⟨k + 1, by omega, by go_num, HB2, HBB2⟩
      case measure => simp [intOf]; omega
    · obtain rfl : k = ss.length := by omega
      rw [List.take_length] at HO
      have HS := hide (bstr_any w.heap.size w.heap.size _ _ (unhide HO) (unhide HB).size)
      clear h HO
      go_wp2_with (go_at_call 90; refine (unhide HS).mono ?_; rintro e w1 ⟨rfl, hb1⟩)
      go_ret2
      exact ⟨rfl, (unhide HB).trans hb1⟩

theorem rjoin_part (ss : List ByteArray) (n : Nat) (t : ByteArray) (h : t = st (joinL ss)) (hn : n ≤ (joinL ss).length) : t.extract 0 n = st ((joinL ss).take n) := by
  apply tx_inj
  rw [tx_cut, h, tx_st (joinL_bytes ss), tx_st (bytes_take (joinL_bytes ss) n)]
  simp

set_option maxHeartbeats 1000000 in
theorem rjoin_any (a : Option Addr) (l c : Nat) (ss : List ByteArray) (n : Int) (w : World) (h : TextsAt w a l ss) (hl : l ≤ 1048576) (hj : (joinL ss).length ≤ 1073741824) :
    Calls Tryz.prog 25 #[.slice a l c, .int .i64 n] w fun e w' => e = .returned (if n < 0 ∨ ((joinL ss).length : Int) < n then .tuple #[.string ⟨#[]⟩, .int .i64 1] else .tuple #[.string (st ((joinL ss).take n.toNat)), .int .i64 0]) ∧ w' = w := by
  obtain rfl := h.1
  obtain ⟨R, hR⟩ : ∃ R, (if n < 0 ∨ ((joinL ss).length : Int) < n then Value.tuple #[.string ⟨#[]⟩, .int .i64 1] else .tuple #[.string (st ((joinL ss).take n.toNat)), .int .i64 0]) = R := ⟨_, rfl⟩
  have HR := hide hR
  rw [hR]
  clear hR
  go_enter Tryz.func25, Tryz.ntmps25
  go_wp2
  go_loop [6, 7] (fun v i => ∃ (k : Nat) (t : ByteArray), k ≤ ss.length ∧ i = .int .i64 k ∧ v = .string t ∧ Hid (t = st (joinL (ss.take k)))) (fun _ i => ss.length - (intOf i).toNat)
  case atStart => exact ⟨0, _, Nat.zero_le _, rfl, rfl, hide (by simp [joinL]; rfl)⟩
  case round =>
    obtain ⟨k, t, hk, rfl, rfl, HT⟩ := hrel
    by_cases hlt : k < ss.length
    · obtain ⟨b, off, rfl, hc⟩ := h.at hlt
      have hcell := hc k hlt
      have HJ := hide (joinL_take ss k hlt)
      have hle := joinL_le ss (k + 1)
      rw [unhide HJ, List.length_append, tx_length] at hle
      generalize ss.getD k ByteArray.empty = u at *
      have hts : t.size = (joinL (ss.take k)).length := by rw [unhide HT, st_len]
      have hadd : (9223372036854775807 < t.size + u.size) = False := by simp; omega
      have HT2 := hide (show t ++ u = st (joinL (ss.take (k + 1))) by
        apply tx_inj
        rw [tx_append, unhide HT, unhide HJ, tx_st (joinL_bytes _), tx_st (fun x hx => by
          rcases List.mem_append.1 hx with hx | hx
          · exact joinL_bytes _ x hx
          · exact tx_bytes u x hx)])
      have hlt' : (k : Int) < (ss.length : Int) := by omega
      clear hc h hts hle
      go_wp2
      go_round
      case rel => exact ⟨k + 1, _, by omega, by go_num, rfl, HT2⟩
      case measure => simp [intOf]; omega
    · obtain rfl : k = ss.length := by omega
      rw [List.take_length] at HT
      have hts : t.size = (joinL ss).length := by rw [unhide HT, st_len]
      clear h
      by_cases hb : n < 0 ∨ ((joinL ss).length : Int) < n
      · have HR2 := hide (unhide HR)
        rw [if_pos hb] at HR2
        by_cases h0 : n < 0
        · clear hb HR
          go_wp2
          go_ret2
          exact ⟨congrArg _ (unhide HR2), rfl⟩
        · have hb2 : (t.size : Int) < n := by omega
          clear hb HR hts
          go_wp2
          go_ret2
          exact ⟨congrArg _ (unhide HR2), rfl⟩
      · have HR2 := hide (unhide HR)
        rw [if_neg hb] at HR2
        obtain ⟨N, rfl⟩ : ∃ N : Nat, n = (N : Int) := ⟨n.toNat, by omega⟩
        have hle : N ≤ (joinL ss).length := by omega
        rw [Int.toNat_natCast] at HR2
        rw [← rjoin_part ss N t (unhide HT) hle] at HR2
        have h0 : (0 : Int) ≤ (N : Int) := by omega
        have h1 : (N : Int) ≤ (t.size : Int) := by omega
        clear hb HR hts hle
        go_wp2
        go_ret2
        exact ⟨congrArg _ (unhide HR2), rfl⟩
end Go.Proofs.YteamniigiogaeaaGreatDoor
