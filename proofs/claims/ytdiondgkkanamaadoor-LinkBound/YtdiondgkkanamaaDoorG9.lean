/-
  Contracts of xor.add, xor.Xor, bucketlineref02.Xor, xor.zero: for every text of at most 2^20 bytes.
  Plain mathematics of the sum of bytes: the step on 32 bits, linear and one to one; the sum of a list of bytes; what other bytes do to it. Of no program. No condition but that numbers are below 2^32 where it is said.
  Contracts of crc.shift, crc.Sum, bucketlineref05.Sum: for every text of at most 2^20 bytes.
  Contracts of crc.tail, crc.Seal, bucketlineref05.Seal: for every text of at most 2^20 bytes.
  Contracts of crc.Seal, bucketlineref05.Seal, crc.Open, bucketlineref05.Open: for every text of at most 2^20 bytes.
  Plain mathematics of sealed texts as lists of bytes; one byte of a sealed text that is another one is found. No condition but that what it is xored by is not 0.
-/
import Derived.Test.YtdiondgkkanamaaDoorTx
import Derived.BigQuiet
import Derived.Lib.TrailingZeros
import Derived.Laws.ShiftsVarLaws
import Derived.Test.YtdiondgkkanamaaDoorG3
import Derived.Lib.UnsafeStr
import Derived.Laws.Concat
import Derived.Lib.QuietBelow
namespace Go.Proofs.YtdiondgkkanamaaDoor
open Go.RowKit
set_option linter.unusedVariables false
set_option maxRecDepth 4000

theorem copy_text (w : World) (g : Nat) (t : ByteArray) (cur : Array Value) (e : TypeId) (hg : w.heap[g]? = some (.cells cur e (0, 0))) (hc : cur.size = t.size)
    (B : Nat) (w0 : World) (hb : Below B w0 w) (hBg : B ≤ g) :
    ∃ w', (Builtin.copy_ #[83, 9] 3 #[.slice (some ⟨g, 0, none⟩) t.size t.size, .string t]).run Tryd.prog w = .ok (goInt t.size) w' ∧ OwnB w' B (.slice (some ⟨g, 0, none⟩) t.size t.size) (tx t) ∧ Below B w0 w' := by
  obtain ⟨i0, hi0, hz0, hz1, hz2⟩ := info_parts info_u8
  refine ⟨_, run_copy_text_of w 83 9 3 5 g t.size t.size t cur e Tryd.underlying83 (by rw [hi0]; simp [hz1]) hg hc rfl, ⟨tx_bytes t, .inr ⟨g, t.size, by rw [tx_length], hBg, ?_, fun i hi => ?_, fun i hi => ?_⟩⟩, ?_⟩
  · simpa using (Array.getElem?_eq_some_iff.1 hg).1
  · rw [cell_setRow_same w g i _ _ _ _ hg]
    have hi' : i < t.size := by rwa [tx_length] at hi
    rw [← tx_get t i hi']
    have : i < t.data.size := hi'
    simp only [Array.getElem?_map, Array.getElem?_eq_getElem this]
    rfl
  · simp [World.frozen?, setRow_heap w g _ _ _ _ hg]
  · exact hb.trans ⟨rfl, rfl, rfl, by simp, fun k hk => setRow_other w g k _ (by omega)⟩

end Go.Proofs.YtdiondgkkanamaaDoor
namespace Go.Proofs.YtdiondgkkanamaaDoor

/-- One bit goes out. -/
def step1 (c : Nat) : Nat := if c % 2 = 1 then (c / 2) ^^^ 3988292384 else c / 2
def stepN : Nat → Nat → Nat
  | 0, c => c
  | k + 1, c => step1 (stepN k c)
def byte1 (c b : Nat) : Nat := stepN 8 (c ^^^ b)
def crcF (c : Nat) (xs : List Nat) : Nat := xs.foldl byte1 c
def sumN (xs : List Nat) : Nat := crcF 4294967295 xs ^^^ 4294967295
/-- The bytes of a sum, the highest first. -/
def be4 (c : Nat) : List Nat := [c / 16777216 % 256, c / 65536 % 256, c / 256 % 256, c % 256]

theorem step1_lt {c : Nat} (h : c < 4294967296) : step1 c < 4294967296 := by
  unfold step1
  split
  · exact Nat.xor_lt_two_pow (n := 32) (by omega) (by decide)
  · omega
theorem stepN_lt {c : Nat} (h : c < 4294967296) (k : Nat) : stepN k c < 4294967296 := by
  induction k with
  | zero => exact h
  | succ k ih => exact step1_lt ih
theorem xor32_lt {a b : Nat} (ha : a < 4294967296) (hb : b < 4294967296) : a ^^^ b < 4294967296 := Nat.xor_lt_two_pow (n := 32) ha hb
theorem byte1_lt {c b : Nat} (h : c < 4294967296) (hb : b < 256) : byte1 c b < 4294967296 := stepN_lt (xor32_lt h (by omega)) 8
theorem crcF_lt {c : Nat} {xs : List Nat} (h : c < 4294967296) (hx : ∀ x ∈ xs, x < 256) : crcF c xs < 4294967296 := by
  induction xs generalizing c with
  | nil => exact h
  | cons x xs ih => exact ih (byte1_lt h (hx x (by simp))) (fun y hy => hx y (by simp [hy]))
theorem sumN_lt {xs : List Nat} (hx : ∀ x ∈ xs, x < 256) : sumN xs < 4294967296 := xor32_lt (crcF_lt (by decide) hx) (by decide)

theorem swap4 (a b c d : Nat) : (a ^^^ b) ^^^ (c ^^^ d) = (a ^^^ c) ^^^ (b ^^^ d) := by
  rw [Nat.xor_assoc, ← Nat.xor_assoc b, Nat.xor_comm b c, Nat.xor_assoc c, ← Nat.xor_assoc a]
theorem xor_twice (a b : Nat) : a ^^^ b ^^^ b = a := by rw [Nat.xor_assoc, Nat.xor_self, Nat.xor_zero]
theorem eq_of_xor {a b : Nat} (h : a ^^^ b = 0) : a = b := by
  have := congrArg (· ^^^ b) h
  simpa only [xor_twice, Nat.zero_xor] using this
theorem step1_xor (a b : Nat) : step1 (a ^^^ b) = step1 a ^^^ step1 b := by
  unfold step1
  rw [Nat.xor_div_two]
  by_cases ha : a % 2 = 1
  · by_cases hb : b % 2 = 1
    · rw [if_neg (by rw [Nat.xor_mod_two_eq_one]; simp [ha, hb]), if_pos ha, if_pos hb, swap4, Nat.xor_self, Nat.xor_zero]
    · rw [if_pos (by rw [Nat.xor_mod_two_eq_one]; simp [ha, hb]), if_pos ha, if_neg hb, Nat.xor_assoc, Nat.xor_assoc, Nat.xor_comm (b / 2)]
  · by_cases hb : b % 2 = 1
    · rw [if_pos (by rw [Nat.xor_mod_two_eq_one]; simp [ha, hb]), if_neg ha, if_pos hb, Nat.xor_assoc]
    · rw [if_neg (by rw [Nat.xor_mod_two_eq_one]; simp [ha, hb]), if_neg ha, if_neg hb]
theorem stepN_xor (k a b : Nat) : stepN k (a ^^^ b) = stepN k a ^^^ stepN k b := by
  induction k with
  | zero => rfl
  | succ k ih => show step1 _ = step1 _ ^^^ step1 _; rw [ih, step1_xor]
theorem byte1_xor (c d a b : Nat) : byte1 (c ^^^ d) (a ^^^ b) = byte1 c a ^^^ byte1 d b := by
  unfold byte1; rw [swap4, stepN_xor]
theorem step1_zero {c : Nat} (h : c < 4294967296) (h0 : step1 c = 0) : c = 0 := by
  unfold step1 at h0
  split at h0
  · have := eq_of_xor h0
    omega
  · omega
theorem stepN_zero {c : Nat} (h : c < 4294967296) (k : Nat) (h0 : stepN k c = 0) : c = 0 := by
  induction k with
  | zero => exact h0
  | succ k ih => exact ih (step1_zero (stepN_lt h k) h0)
theorem stepN_even (k z : Nat) : stepN k (2 ^ k * z) = z := by
  induction k generalizing z with
  | zero => show 2 ^ 0 * z = z; omega
  | succ k ih =>
    show step1 (stepN k (2 ^ (k + 1) * z)) = z
    rw [show 2 ^ (k + 1) * z = 2 ^ k * (2 * z) by rw [Nat.pow_succ]; exact Nat.mul_assoc ..]
    rw [ih]
    unfold step1
    rw [if_neg (by omega)]
    omega

/-- Two lists of one length. -/
def zipX (a b : List Nat) : List Nat := List.zipWith (fun x y => x ^^^ y) a b
theorem crcF_zip (c d : Nat) (xs ys : List Nat) (h : xs.length = ys.length) : crcF (c ^^^ d) (zipX xs ys) = crcF c xs ^^^ crcF d ys := by
  induction xs generalizing c d ys with
  | nil => cases ys with
    | nil => rfl
    | cons y ys => simp at h
  | cons x xs ih => cases ys with
    | nil => simp at h
    | cons y ys =>
      show crcF (byte1 (c ^^^ d) (x ^^^ y)) (zipX xs ys) = crcF (byte1 c x) xs ^^^ crcF (byte1 d y) ys
      rw [byte1_xor, ih]
      simpa using h
theorem zipX_length (a b : List Nat) (h : a.length = b.length) : (zipX a b).length = a.length := by simp [zipX, h]
/-- The sums of four texts. -/
theorem sum_linear (a b c : List Nat) (hb : a.length = b.length) (hc : a.length = c.length) : sumN a ^^^ sumN b ^^^ sumN c ^^^ sumN (zipX (zipX a b) c) = 0 := by
  unfold sumN
  have h1 := crcF_zip 4294967295 4294967295 a b hb
  have h2 := crcF_zip (4294967295 ^^^ 4294967295) 4294967295 (zipX a b) c (by rw [zipX_length a b hb]; exact hc)
  rw [h1, show (4294967295 ^^^ 4294967295 ^^^ 4294967295 : Nat) = 4294967295 by decide] at h2
  rw [h2, swap4 (crcF 4294967295 a), Nat.xor_self, Nat.xor_zero]
  generalize crcF 4294967295 a ^^^ crcF 4294967295 b = x
  generalize crcF 4294967295 c = y
  rw [← Nat.xor_assoc x y 4294967295, Nat.xor_self]

theorem crcF_append (c : Nat) (xs ys : List Nat) : crcF c (xs ++ ys) = crcF (crcF c xs) ys := List.foldl_append ..
theorem xor_eq_zero_of {a b : Nat} (h : a = b) : a ^^^ b = 0 := by rw [h, Nat.xor_self]
/-- What is behind keeps a difference. -/
theorem crcF_behind (c d : Nat) (q : List Nat) (hq : ∀ x ∈ q, x < 256) (hc : c < 4294967296) (hd : d < 4294967296) (h : crcF c q = crcF d q) : c = d := by
  induction q generalizing c d with
  | nil => exact h
  | cons x q ih =>
    have hx := hq x (by simp)
    have h1 : byte1 c x = byte1 d x := ih _ _ (fun y hy => hq y (by simp [hy])) (byte1_lt hc hx) (byte1_lt hd hx) h
    have h2 : byte1 (c ^^^ d) (x ^^^ x) = 0 := by rw [byte1_xor, h1, Nat.xor_self]
    unfold byte1 at h2
    rw [Nat.xor_self, Nat.xor_zero] at h2
    exact eq_of_xor (stepN_zero (xor32_lt hc hd) 8 h2)
theorem low_byte (y : Nat) : y = (256 * (y / 256)) ^^^ (y % 256) := by
  have h := Nat.two_pow_add_eq_or_of_lt (i := 8) (b := y % 256) (by omega) (y / 256)
  have h2 : 2 ^ 8 * (y / 256) ^^^ y % 256 = 2 ^ 8 * (y / 256) ||| y % 256 := by
    apply Nat.eq_of_testBit_eq
    intro i
    rw [Nat.testBit_xor, Nat.testBit_or, Nat.testBit_two_pow_mul]
    by_cases hi : 8 ≤ i
    · have : (y % 256).testBit i = false := by
        apply Nat.testBit_lt_two_pow
        calc y % 256 < 2 ^ 8 := by omega
          _ ≤ 2 ^ i := Nat.pow_le_pow_right (by decide) hi
      rw [this]; simp
    · simp [hi]
  have h3 : y = 2 ^ 8 * (y / 256) + y % 256 := by omega
  rw [← h, ← h3] at h2
  exact h2.symm
theorem byte1_low (c y : Nat) : stepN 8 (c ^^^ y) = byte1 c (y % 256) ^^^ y / 256 := by
  conv => lhs; rw [low_byte y]
  rw [Nat.xor_comm (256 * (y / 256)), ← Nat.xor_assoc, stepN_xor, show 256 * (y / 256) = 2 ^ 8 * (y / 256) from rfl, stepN_even]
  rfl
/-- The four bytes of a number of 32 bits, the lowest first. -/
def le4 (y : Nat) : List Nat := [y % 256, y / 256 % 256, y / 65536 % 256, y / 16777216 % 256]
theorem le4_zero {y : Nat} (hy : y < 4294967296) (h : crcF 0 (le4 y) = 0) : y = 0 := by
  have e : crcF 0 (le4 y) = stepN 8 (stepN 8 (stepN 8 (stepN 8 y))) := by
    have e0 := byte1_low 0 y
    rw [Nat.zero_xor] at e0
    rw [e0, byte1_low, byte1_low, byte1_low]
    simp only [Nat.div_div_eq_div_mul]
    rw [show y / (256 * 256 * 256 * 256) = 0 by omega, Nat.xor_zero]
    rfl
  rw [e] at h
  have l1 := stepN_lt hy 8
  have l2 := stepN_lt l1 8
  have l3 := stepN_lt l2 8
  exact stepN_zero hy 8 (stepN_zero l1 8 (stepN_zero l2 8 (stepN_zero l3 8 h)))
/-- Four bytes of a text that are others make another sum. -/
theorem sum_flip (p m q : List Nat) (y : Nat) (hm : m.length = 4) (hp : ∀ x ∈ p, x < 256) (hmb : ∀ x ∈ m, x < 256) (hq : ∀ x ∈ q, x < 256) (hy : y < 4294967296)
    (h : sumN (p ++ m ++ q) = sumN (p ++ zipX m (le4 y) ++ q)) : y = 0 := by
  have hz : ∀ x ∈ zipX m (le4 y), x < 256 := by
    intro x hx
    unfold zipX at hx
    obtain ⟨i, hi, rfl⟩ := List.getElem_of_mem hx
    rw [List.getElem_zipWith]
    refine Nat.xor_lt_two_pow (n := 8) (hmb _ (List.getElem_mem _)) ?_
    have : ∀ x ∈ le4 y, x < 256 := by
      intro x hx
      simp only [le4, List.mem_cons, List.mem_nil_iff, or_false] at hx
      rcases hx with rfl | rfl | rfl | rfl <;> omega
    exact this _ (List.getElem_mem _)
  have hc := crcF_lt (c := 4294967295) (by decide) hp
  unfold sumN at h
  have h1 : crcF 4294967295 (p ++ m ++ q) = crcF 4294967295 (p ++ zipX m (le4 y) ++ q) := by
    have := congrArg (· ^^^ 4294967295) h
    simp only [xor_twice] at this
    exact this
  rw [crcF_append, crcF_append, crcF_append, crcF_append] at h1
  have h2 := crcF_behind _ _ q hq (crcF_lt hc hmb) (crcF_lt hc hz) h1
  have h3 := crcF_zip (crcF 4294967295 p) 0 m (le4 y) (by rw [hm]; rfl)
  rw [Nat.xor_zero, ← h2] at h3
  apply le4_zero hy
  generalize crcF (crcF 4294967295 p) m = x at h3
  generalize crcF 0 (le4 y) = z at h3
  have h4 : x ^^^ x = x ^^^ (x ^^^ z) := by rw [← h3]
  rw [Nat.xor_self, ← Nat.xor_assoc, Nat.xor_self, Nat.zero_xor] at h4
  exact h4.symm
theorem be4_bytes (c : Nat) : ∀ x ∈ be4 c, x < 256 := by
  intro x hx
  simp only [be4, List.mem_cons, List.mem_nil_iff, or_false] at hx
  rcases hx with rfl | rfl | rfl | rfl <;> omega
/-- Four bytes xored by a number that is not 0 are others. -/
theorem zip_flip (m : List Nat) (y : Nat) (hm : m.length = 4) (hy : y < 4294967296) (h : zipX m (le4 y) = m) : y = 0 := by
  match m, hm with
  | [a, b, c, d], _ =>
    simp only [zipX, le4, List.zipWith_cons_cons, List.zipWith_nil_left, List.cons.injEq, and_true] at h
    obtain ⟨h1, h2, h3, h4⟩ := h
    have z : ∀ x t : Nat, x ^^^ t = x → t = 0 := by
      intro x t e
      have := congrArg (x ^^^ ·) e
      simp only [← Nat.xor_assoc, Nat.xor_self, Nat.zero_xor] at this
      exact this
    have := z _ _ h1
    have := z _ _ h2
    have := z _ _ h3
    have := z _ _ h4
    omega

theorem ex_sum : sumN [49, 50, 51, 52, 53, 54, 55, 56, 57] = 3421780262 := by decide +kernel
theorem ex_nil : sumN [] = 0 := by decide +kernel
end Go.Proofs.YtdiondgkkanamaaDoor
namespace Go.Proofs.YtdiondgkkanamaaDoor
open Go.RowKit
set_option linter.unusedVariables false
set_option maxRecDepth 4000

theorem low_bit (x : Nat) (hx : x < 4294967296) : bits .and .u32 (x : Int) 1 = ((x % 2 : Nat) : Int) := by
  have h := u32_and_nat x 1 hx (by decide)
  rw [Nat.and_one_is_mod] at h
  exact h
theorem step_odd (x : Nat) (hx : x < 4294967296) (h : x % 2 = 1) : bits .xor .u32 ((x : Int) / 2) 3988292384 = ((step1 x : Nat) : Int) := by
  have e := u32_xor_nat (x / 2) 3988292384 (by omega) (by decide)
  unfold step1
  rw [if_pos h, ← e]
  rfl
theorem step_even (x : Nat) (h : x % 2 = 0) : (x : Int) / 2 = ((step1 x : Nat) : Int) := by
  unfold step1
  rw [if_neg (by omega)]
  rfl

set_option maxHeartbeats 400000 in
theorem shift_any (c : Nat) (w : World) (hc : c < 4294967296) :
    Calls Tryd.prog 64 #[.int .u32 (c : Int)] w fun e w' => e = .returned (.int .u32 ((stepN 8 c : Nat) : Int)) ∧ w' = w := by
  go_enter Tryd.func64, Tryd.ntmps64
  go_wp2
  go_loop [0, 4] (fun t i => ∃ k x : Nat, k ≤ 8 ∧ i = .int .i64 k ∧ t = .int .u32 (x : Int) ∧ Hid (x = stepN k c)) (fun _ i => 8 - (intOf i).toNat)
  case atStart => exact ⟨0, c, by decide, rfl, rfl, hide rfl⟩
  case round =>
    obtain ⟨k, x, hk, rfl, rfl, HX⟩ := hrel
    have hx : x < 4294967296 := by rw [unhide HX]; exact stepN_lt hc k
    by_cases hlt : k < 8
    · have hlt' : (k : Int) < 8 := by omega
      have hlow := low_bit x hx
      rcases Nat.mod_two_eq_zero_or_one x with h2 | h2
      · rw [h2] at hlow
        have HS := hide (step_even x h2)
        clear h2
        go_wp2
        go_round
        case rel => exact ⟨k + 1, step1 x, by omega, by go_num, by rw [unhide HS], hide (by rw [unhide HX]; rfl)⟩
        case measure => simp [intOf]; omega
      · rw [h2] at hlow
        have hs := step_odd x hx h2
        clear h2
        go_wp2
        go_round
        case rel => exact ⟨k + 1, step1 x, by omega, by go_num, rfl, hide (by rw [unhide HX]; rfl)⟩
        case measure => simp [intOf]; omega
    · have hke : k = 8 := by omega
      have HF : Hid (stepN 8 c = x) := hide (by rw [unhide HX, hke])
      go_wp2
      go_ret
      exact ⟨ret_int (by rw [unhide HF]), rfl⟩

theorem crcF_take (c : Nat) (xs : List Nat) (k : Nat) (h : k < xs.length) : crcF c (xs.take (k + 1)) = byte1 (crcF c (xs.take k)) (xs.getD k 0) := by
  rw [List.take_add_one, crcF_append, List.getElem?_eq_getElem h, List.getD_eq_getElem?_getD, List.getElem?_eq_getElem h]
  rfl
theorem turn_all (x : Nat) (hx : x < 4294967296) : bits .xor .u32 IntKind.u32.max (x : Int) = ((x ^^^ 4294967295 : Nat) : Int) := by
  have := u32_xor_nat 4294967295 x (by decide) hx
  rw [Nat.xor_comm] at this
  exact this
/-- The sum of a text. -/
def sumS (s : ByteArray) : Nat := sumN (tx s)
theorem sumS_lt (s : ByteArray) : sumS s < 4294967296 := sumN_lt (tx_bytes s)

set_option maxHeartbeats 400000 in
theorem csum_any (s : ByteArray) (w : World) (hn : s.size ≤ 1048576) :
    Calls Tryd.prog 51 #[.string s] w fun e w' => e = .returned (.int .u32 ((sumS s : Nat) : Int)) ∧ w' = w := by
  go_enter Tryd.func51, Tryd.ntmps51
  go_wp2
  go_loop [3, 7] (fun t i => ∃ k x : Nat, k ≤ s.size ∧ i = .int .i64 k ∧ t = .int .u32 (x : Int) ∧ Hid (x = crcF 4294967295 ((tx s).take k))) (fun _ i => s.size - (intOf i).toNat)
  case atStart => exact ⟨0, 4294967295, Nat.zero_le _, rfl, rfl, hide rfl⟩
  case round =>
    obtain ⟨k, x, hk, rfl, rfl, HX⟩ := hrel
    have hx : x < 4294967296 := by rw [unhide HX]; exact crcF_lt (by decide) (fun y hy => tx_bytes s y (List.mem_of_mem_take hy))
    by_cases hlt : k < s.size
    · have hlt' : (k : Int) < (s.size : Int) := by omega
      have hb : s[k].toNat < 256 := s[k].toNat_lt
      have hxo := u32_xor_nat x s[k].toNat hx (by omega)
      have HN := hide (show stepN 8 (x ^^^ s[k].toNat) = crcF 4294967295 ((tx s).take (k + 1)) from by
        rw [crcF_take _ _ _ (by rw [tx_length]; exact hlt), ← unhide HX, ← tx_get s k hlt]; rfl)
      have hsx := shift_any (x ^^^ s[k].toNat) w (xor32_lt hx (by omega))
      go_wp2_with (go_at_call 64; refine hsx.mono ?_; rintro e w' ⟨rfl, hw⟩; obtain rfl := hw.symm)
      go_round
      case rel => exact ⟨k + 1, _, by omega, by go_num, rfl, HN⟩
      case measure => simp [intOf]; omega
    · have hke : k = (tx s).length := by rw [tx_length]; omega
      have HF : Hid (sumS s = x ^^^ 4294967295) := hide (by unfold sumS sumN; rw [unhide HX, hke, List.take_length])
      clear hke
      go_wp2
      go_ret
      exact ⟨ret_int (by rw [unhide HF]; exact turn_all x hx), rfl⟩

end Go.Proofs.YtdiondgkkanamaaDoor
namespace Go.Proofs.YtdiondgkkanamaaDoor
open Go.RowKit
set_option linter.unusedVariables false
set_option maxRecDepth 4000

/-- The first k bytes of a sum, 0 behind. -/
def beTo (c k : Nat) : List Nat := [if 0 < k then c / 16777216 % 256 else 0, if 1 < k then c / 65536 % 256 else 0, if 2 < k then c / 256 % 256 else 0, if 3 < k then c % 256 else 0]
theorem beTo_bytes (c k : Nat) : bytes (beTo c k) := by
  intro x hx
  simp only [beTo, List.mem_cons, List.mem_nil_iff, or_false] at hx
  rcases hx with rfl | rfl | rfl | rfl <;> split <;> omega
theorem u32_div (c d : Nat) : (((c / d % 256 : Nat) : Nat) : Int) = (c : Int) / (d : Int) % 256 := by simp

theorem u32_top (c : Nat) : ((c / 16777216 : Nat) : Int) = (c : Int) / 16777216 := by simp
/-- A new array of four bytes. -/
theorem arr_new (w : World) (t : TypeId) : OwnB (w.alloc (.cells #[.int .u8 0, .int .u8 0, .int .u8 0, .int .u8 0] t)) w.heap.size (.slice (some ⟨w.heap.size, 0, none⟩) 4 4) [0, 0, 0, 0] := by
  refine ⟨fun x hx => ?_, .inr ⟨w.heap.size, 4, rfl, Nat.le_refl _, by simp, fun i hi => ?_, fun i hi => ?_⟩⟩
  · simp only [List.mem_cons, List.mem_nil_iff, or_false, or_self] at hx
    omega
  · match i, hi with
    | 0, _ => simp
    | 1, _ => simp
    | 2, _ => simp
    | 3, _ => simp
  · match i, hi with
    | 0, _ => simp
    | 1, _ => simp
    | 2, _ => simp
    | 3, _ => simp
theorem arr_store {w wr : World} {B g : Nat} {xs : List Nat} (h4 : xs.length = 4) (ho : OwnB wr B (.slice (some ⟨g, 0, none⟩) 4 4) xs) (hb : Below B w wr) (hB : B ≤ g) (i x : Nat) (hx : x < 256) :
    OwnB (wr.setCell ⟨g, i, none⟩ (.int .u8 (x : Int))) B (.slice (some ⟨g, 0, none⟩) 4 4) (xs.set i x) ∧ Below B w (wr.setCell ⟨g, i, none⟩ (.int .u8 (x : Int))) := by
  rw [← h4] at ho ⊢
  exact ⟨ho.stored i x hx, hb.setCell (by exact hB) _⟩

set_option maxHeartbeats 1000000 in
theorem ctail_any (s : ByteArray) (w : World) (hn : s.size ≤ 1048576) :
    Calls Tryd.prog 41 #[.string s] w fun e w' => e = .returned (.string (st (be4 (sumS s)))) ∧ Below w.heap.size w w' := by
  have hc := sumS_lt s
  have HS := hide (csum_any s w hn)
  obtain ⟨c, hcs⟩ : ∃ c, sumS s = c := ⟨_, rfl⟩
  rw [hcs] at hc HS
  rw [hcs]
  clear hcs
  go_enter Tryd.func41, Tryd.ntmps41
  go_wp2_with (go_at_call 51; refine (unhide HS).mono ?_; rintro e w' ⟨rfl, hw⟩; obtain rfl := hw.symm)
  go_loopw [8] (fun i wr => ∃ k : Nat, k ≤ 4 ∧ i = .int .i64 k ∧ Hid (OwnB wr w.heap.size (.slice (some ⟨w.heap.size, 0, none⟩) 4 4) (beTo c k)) ∧ Hid (Below w.heap.size w wr)) (fun i _ => 4 - (intOf i).toNat)
  case atStart => exact ⟨0, by decide, rfl, hide (arr_new _ _), hide ((Below.refl _ _).alloc (Nat.le_refl _) _)⟩
  case round =>
    obtain ⟨k, hk, rfl, HO, HB⟩ := hrel
    by_cases hlt : k < 4
    · obtain ⟨g, cap, hv, hBg, hgs, hcg, hfg⟩ := (unhide HO).at (by simp [beTo])
      simp only [Value.slice.injEq, Option.some.injEq, Addr.mk.injEq, and_true] at hv
      obtain ⟨rfl, -⟩ := hv
      have hcell := hcg k (by simpa [beTo] using hlt)
      have hfz := hfg k (by simpa [beTo] using hlt)
      clear hcg hfg
      match k, hlt with
      | 0, _ => 
        have R := hide (arr_store rfl (unhide HO) (unhide HB) (Nat.le_refl _) 0 (c / 16777216) (by omega))
        rw [u32_top, show (beTo c 0).set 0 (c / 16777216) = beTo c 1 from by unfold beTo; rw [show c / 16777216 = c / 16777216 % 256 by omega]; simp] at R
        clear HO HB
        go_wp2
        go_roundw
        case rel => exact ⟨1, by omega, rfl, hide (unhide R).1, hide (unhide R).2⟩
        case measure => simp [intOf]
      | 1, _ => 
        have R := hide (arr_store rfl (unhide HO) (unhide HB) (Nat.le_refl _) 1 (c / 65536 % 256) (by omega))
        rw [u32_div] at R
        clear HO HB
        go_wp2
        go_roundw
        case rel => exact ⟨2, by omega, rfl, hide (unhide R).1, hide (unhide R).2⟩
        case measure => simp [intOf]
      | 2, _ => 
        have R := hide (arr_store rfl (unhide HO) (unhide HB) (Nat.le_refl _) 2 (c / 256 % 256) (by omega))
        rw [u32_div] at R
        clear HO HB
        go_wp2
        go_roundw
        case rel => exact ⟨3, by omega, rfl, hide (unhide R).1, hide (unhide R).2⟩
        case measure => simp [intOf]
      | 3, _ => 
        have R := hide (arr_store rfl (unhide HO) (unhide HB) (Nat.le_refl _) 3 (c % 256) (by omega))
        clear HO HB
        go_wp2
        go_roundw
        case rel => exact ⟨4, by omega, rfl, hide (unhide R).1, hide (unhide R).2⟩
        case measure => simp [intOf]
    · obtain rfl : k = 4 := by omega
      have hct := (unhide HO).text
      rw [show beTo c 4 = be4 c from rfl] at hct
      clear HO
      go_wp2
      go_ret
      exact ⟨rfl, unhide HB⟩

end Go.Proofs.YtdiondgkkanamaaDoor
namespace Go.Proofs.YtdiondgkkanamaaDoor
open Go.RowKit Go.Sort
set_option linter.unusedVariables false
set_option maxRecDepth 4000

theorem quietC {W : World} {f : FuncId} {args : Array Value} {v : Value} (h : ∀ w', Below W.heap.size W w' → Calls Tryd.prog f args w' fun e w'' => e = .returned v ∧ Below w'.heap.size w' w'') (d : Nat) (os : Array Obj) :
    Calls Tryd.prog f args (grow (redrawn W d) os) fun e w'' => e = .returned v ∧ ∃ p : Regrown, w'' = grow (redrawn W p.d) p.os :=
  Calls.regrown_of (h _ (below_regrown W d os))
theorem sameC {f : FuncId} {args : Array Value} {v : Value} {w : World} (h : Calls Tryd.prog f args w fun e w'' => e = .returned v ∧ w'' = w) : Calls Tryd.prog f args w fun e w'' => e = .returned v ∧ Below w.heap.size w w'' :=
  h.mono fun e w' ⟨he, hw⟩ => ⟨he, by rw [hw]; exact Below.refl _ _⟩

/-- The bytes of a text's sum. -/
def tailS (s : ByteArray) : ByteArray := st (be4 (sumS s))
def sealS (s : ByteArray) : ByteArray := s ++ tailS s
def headS (s : ByteArray) : ByteArray := s.extract 0 (s.size - 4)
def lastS (s : ByteArray) : ByteArray := s.extract (s.size - 4) s.size
theorem tailS_size (s : ByteArray) : (tailS s).size = 4 := by unfold tailS; rw [st_len]; rfl
theorem sealS_size (s : ByteArray) : (sealS s).size = s.size + 4 := by unfold sealS; rw [ByteArray.size_append, tailS_size]
theorem headS_size (s : ByteArray) (h : 4 ≤ s.size) : (headS s).size = s.size - 4 := by unfold headS; rw [ByteArray.size_extract]; omega
theorem head_last (s : ByteArray) (h : 4 ≤ s.size) : s = headS s ++ lastS s := by
  unfold headS lastS
  rw [ByteArray.extract_append_extract]
  have e1 : min 0 (s.size - 4) = 0 := by omega
  have e2 : max (s.size - 4) s.size = s.size := by omega
  rw [e1, e2]
  exact (ByteArray.extract_zero_size).symm
theorem lastS_size (s : ByteArray) (h : 4 ≤ s.size) : (lastS s).size = 4 := by unfold lastS; rw [ByteArray.size_extract]; omega
theorem seal_head (s : ByteArray) : headS (sealS s) = s := by
  unfold headS
  rw [sealS_size, Nat.add_sub_cancel]
  unfold sealS
  rw [ByteArray.extract_append_size_left]
  exact ByteArray.extract_zero_size
theorem seal_last (s : ByteArray) : lastS (sealS s) = tailS s := by
  have h := head_last (sealS s) (by rw [sealS_size]; omega)
  rw [seal_head] at h
  unfold sealS at h
  exact (ByteArray.append_right_inj _).1 h |>.symm
/-- What was sealed, and the error. -/
def openE (s : ByteArray) : Nat := if s.size < 4 then 2 else if lastS s = tailS (headS s) then 0 else 4
def openT (s : ByteArray) : ByteArray := if openE s = 0 then headS s else ⟨#[]⟩
theorem open_seal (s : ByteArray) : openE (sealS s) = 0 ∧ openT (sealS s) = s := by
  have h : openE (sealS s) = 0 := by
    unfold openE
    rw [if_neg (by rw [sealS_size]; omega), if_pos (by rw [seal_last, seal_head])]
  exact ⟨h, by unfold openT; rw [if_pos h, seal_head]⟩
theorem seal_open (s : ByteArray) (h : openE s = 0) : sealS (openT s) = s := by
  unfold openT
  rw [if_pos h]
  unfold openE at h
  by_cases h4 : s.size < 4
  · rw [if_pos h4] at h; omega
  · rw [if_neg h4] at h
    by_cases hl : lastS s = tailS (headS s)
    · unfold sealS
      rw [← hl]
      exact (head_last s (by omega)).symm
    · rw [if_neg hl] at h; omega
theorem seal_iff (s : ByteArray) (h4 : 4 ≤ s.size) : sealS (headS s) = s ↔ lastS s = tailS (headS s) := by
  constructor
  · intro h
    have := seal_last (headS s)
    rw [h] at this
    exact this
  · intro h
    unfold sealS
    rw [← h]
    exact (head_last s h4).symm

theorem cseal_any (s : ByteArray) (w : World) (hn : s.size ≤ 1048576) :
    Calls Tryd.prog 30 #[.string s] w fun e w' => e = .returned (.string (sealS s)) ∧ Below w.heap.size w w' := by
  have ht := tailS_size s
  have HT := hide (show ∀ w', Calls Tryd.prog 41 #[.string s] w' fun e w'' => e = .returned (.string (tailS s)) ∧ Below w'.heap.size w' w'' from fun w' => ctail_any s w' hn)
  have hsum : ¬ (9223372036854775807 < s.size + (tailS s).size) := by omega
  unfold sealS
  generalize tailS s = t at *
  go_enter Tryd.func30, Tryd.ntmps30
  go_wp2_with fail
  refine (unhide HT _).mono ?_
  rintro e w1 ⟨rfl, hb⟩
  have HB := hide hb
  clear hb
  go_wp2
  go_ret
  exact ⟨rfl, unhide HB⟩

theorem lit4 (w : World) (t : TypeId) (c : Nat) (hc : c < 4294967296) : OwnB (w.alloc (.cells #[.int .u8 ((c : Int) / 16777216), .int .u8 ((c : Int) / 65536 % 256), .int .u8 ((c : Int) / 256 % 256), .int .u8 ((c : Int) % 256)] t)) w.heap.size (.slice (some ⟨w.heap.size, 0, none⟩) 4 4) (be4 c) := by
  refine ⟨be4_bytes c, .inr ⟨w.heap.size, 4, rfl, Nat.le_refl _, by simp, fun i hi => ?_, fun i hi => ?_⟩⟩
  · match i, hi with
    | 0, _ => simp [be4]; omega
    | 1, _ => simp [be4]
    | 2, _ => simp [be4]
    | 3, _ => simp [be4]
  · match i, hi with
    | 0, _ => simp
    | 1, _ => simp
    | 2, _ => simp
    | 3, _ => simp


theorem open_short {s : ByteArray} (h : s.size < 4) : openE s = 2 ∧ openT s = ⟨#[]⟩ := by
  have e : openE s = 2 := by unfold openE; rw [if_pos h]
  exact ⟨e, by unfold openT; rw [if_neg (by omega)]⟩
theorem open_yes {s : ByteArray} (h : ¬ s.size < 4) (hl : lastS s = tailS (headS s)) : openE s = 0 ∧ openT s = headS s := by
  have e : openE s = 0 := by unfold openE; rw [if_neg h, if_pos hl]
  exact ⟨e, by unfold openT; rw [if_pos e]⟩
theorem open_no {s : ByteArray} (h : ¬ s.size < 4) (hl : ¬ lastS s = tailS (headS s)) : openE s = 4 ∧ openT s = ⟨#[]⟩ := by
  have e : openE s = 4 := by unfold openE; rw [if_neg h, if_neg hl]
  exact ⟨e, by unfold openT; rw [if_neg (by omega)]⟩
theorem ret_pair {a b : ByteArray} {i j : Int} (h : a = b) (h' : i = j) : Ending.returned (.tuple #[.string a, .int .i64 i]) = .returned (.tuple #[.string b, .int .i64 j]) := by rw [h, h']


end Go.Proofs.YtdiondgkkanamaaDoor
namespace Go.Proofs.YtdiondgkkanamaaDoor
open Go.RowKit
set_option linter.unusedVariables false
set_option maxRecDepth 4000

theorem tx_extract (s : ByteArray) (a b : Nat) : tx (s.extract a b) = ((tx s).take b).drop a := by
  unfold tx
  rw [ByteArray.data_extract, Array.toList_extract, List.extract_eq_take_drop, List.map_take, List.map_drop, List.take_drop]
  by_cases h : a ≤ b
  · rw [show a + (b - a) = b by omega]
  · rw [show b - a = 0 by omega, Nat.add_zero]
    rw [List.drop_eq_nil_of_le (by rw [List.length_take]; omega), List.drop_eq_nil_of_le (by rw [List.length_take]; omega)]
theorem be4_inj {c d : Nat} (hc : c < 4294967296) (hd : d < 4294967296) (h : be4 c = be4 d) : c = d := by
  simp only [be4, List.cons.injEq, and_true] at h
  omega
theorem tx_seal (s : ByteArray) : tx (sealS s) = tx s ++ be4 (sumN (tx s)) := by
  unfold sealS tailS
  rw [tx_append, tx_st (be4_bytes _)]
  rfl
theorem open_not {u : ByteArray} {n : Nat} (hn : u.size = n + 4) (h : ¬ (tx u).drop n = be4 (sumN ((tx u).take n))) : openE u = 4 ∧ openT u = ⟨#[]⟩ := by
  refine open_no (by omega) fun e => h ?_
  have h1 := congrArg tx e
  have e1 : tx (headS u) = (tx u).take n := by unfold headS; rw [tx_extract, hn, Nat.add_sub_cancel]; rfl
  have e2 : tx (lastS u) = (tx u).drop n := by
    unfold lastS
    rw [tx_extract, List.take_of_length_le (by rw [tx_length]; omega), hn, Nat.add_sub_cancel]
  unfold tailS sumS at h1
  rw [tx_st (be4_bytes _), e1, e2] at h1
  exact h1

theorem byte_flip {c a y : Nat} (hy : y < 256) (h : byte1 c a = byte1 c (a ^^^ y)) : y = 0 := by
  have h1 := byte1_xor c c a (a ^^^ y)
  rw [xor_eq_zero_of h, Nat.xor_self, ← Nat.xor_assoc, Nat.xor_self, Nat.zero_xor] at h1
  unfold byte1 at h1
  rw [Nat.zero_xor] at h1
  exact stepN_zero (by omega) 8 h1
theorem sum_one {p q : List Nat} {a y : Nat} (hp : bytes p) (hq : bytes q) (ha : a < 256) (hy : y < 256) (h : sumN (p ++ a :: q) = sumN (p ++ (a ^^^ y) :: q)) : y = 0 := by
  unfold sumN at h
  have h1 := congrArg (· ^^^ 4294967295) h
  simp only [xor_twice] at h1
  rw [crcF_append, crcF_append] at h1
  have e : ∀ c b, crcF c (b :: q) = crcF (byte1 c b) q := fun _ _ => rfl
  rw [e, e] at h1
  have hc := crcF_lt (c := 4294967295) (by decide) hp
  exact byte_flip hy (crcF_behind _ _ q hq (byte1_lt hc ha) (byte1_lt hc (xorB_lt ha hy)) h1)
theorem get_mid (p r : List Nat) (a : Nat) : (p ++ a :: r).getD p.length 0 = a := by
  rw [List.getD_eq_getElem?_getD, List.getElem?_append_right (Nat.le_refl _), Nat.sub_self]
  rfl
theorem set_mid (p r : List Nat) (a x : Nat) : (p ++ a :: r).set p.length x = p ++ x :: r := by
  rw [List.set_append_right _ _ (Nat.le_refl _), Nat.sub_self]
  rfl
theorem cut1 (xs : List Nat) (k : Nat) (h : k < xs.length) : ∃ p a q, p.length = k ∧ xs = p ++ a :: q :=
  ⟨xs.take k, xs[k], xs.drop (k + 1), by rw [List.length_take]; omega, by rw [← List.drop_eq_getElem_cons, List.take_append_drop]⟩
theorem xor_id {a y : Nat} (h : a ^^^ y = a) : y = 0 := by
  have h1 := congrArg (a ^^^ ·) h
  simpa [← Nat.xor_assoc] using h1
/-- A sealed text with one other byte, in the text or in the sum. -/
theorem one_open (s : ByteArray) (k y : Nat) (hk : k < s.size + 4) (hy : y < 256) (h0 : y ≠ 0) :
    openE (st ((tx (sealS s)).set k ((tx (sealS s)).getD k 0 ^^^ y))) = 4 ∧ openT (st ((tx (sealS s)).set k ((tx (sealS s)).getD k 0 ^^^ y))) = ⟨#[]⟩ := by
  have hs := tx_seal s
  have hlen := tx_length s
  have hby := tx_bytes s
  have hbs := tx_bytes (sealS s)
  have hb : bytes ((tx (sealS s)).set k ((tx (sealS s)).getD k 0 ^^^ y)) := hbs.set _ _ (xorB_lt (hbs.get _) hy)
  have hsz : (st ((tx (sealS s)).set k ((tx (sealS s)).getD k 0 ^^^ y))).size = s.size + 4 := by rw [st_len, List.length_set, tx_length, sealS_size]
  refine open_not hsz fun e => ?_
  rw [tx_st hb, hs] at e
  have hS := sumN_lt hby
  by_cases h : k < s.size
  · obtain ⟨p, a, q, hp, hx⟩ := cut1 (tx s) k (by omega)
    rw [hx] at e hlen hby hS
    subst hp
    rw [List.append_assoc, List.cons_append, get_mid, set_mid] at e
    have hpb : bytes p := fun x hxm => hby x (by simp [hxm])
    have hqb : bytes q := fun x hxm => hby x (by simp [hxm])
    have hab : a < 256 := hby a (by simp)
    have e2 : ∀ r : List Nat, p ++ (a ^^^ y) :: (q ++ r) = (p ++ (a ^^^ y) :: q) ++ r := fun r => by simp
    have hz : (p ++ (a ^^^ y) :: q).length = s.size := by rw [← hlen]; simp
    rw [e2, ← hz, List.drop_left, List.take_left] at e
    have hzb : bytes (p ++ (a ^^^ y) :: q) := fun x hxm => by
      rcases List.mem_append.1 hxm with hm | hm
      · exact hpb x hm
      · rcases List.mem_cons.1 hm with rfl | hm
        · exact xorB_lt hab hy
        · exact hqb x hm
    exact h0 (sum_one hpb hqb hab hy (be4_inj hS (sumN_lt hzb) e))
  · obtain ⟨i, rfl⟩ : ∃ i, k = (tx s).length + i := ⟨k - s.size, by omega⟩
    have hi : i < (be4 (sumN (tx s))).length := by show i < 4; omega
    obtain ⟨p, a, q, hp, hx⟩ := cut1 _ i hi
    subst hp
    rw [hx, ← List.append_assoc, ← List.length_append, get_mid, set_mid, List.append_assoc, ← hlen, List.drop_left, List.take_left, hx] at e
    have e3 := congrArg (fun l => l.getD p.length 0) e
    simp only [get_mid] at e3
    exact h0 (xor_id e3)
end Go.Proofs.YtdiondgkkanamaaDoor
