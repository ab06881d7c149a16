/-
  Rows (a slice of words and a text) by value and in slices; contracts of bucketlineref02.Same, xor.Holds, bucketlineref02.Holds.
  Contracts of bucketlineref02.Holds, bucketlinelaw02.few.
  Rows that are true of blocks, by bits and bytes ('HoldsP'); their xor is, too ('holds_all'). No condition.
-/
import Derived.Test.YtfimbbiholllhaaDoorM6
import Derived.Test.YtfimbbiholllhaaDoorM2
import Derived.Deep.RegionWith
import Derived.Lib.QuietBelow
import Derived.Test.YtfimbbiholllhaaDoorM3
namespace Go.Proofs.YtfimbbiholllhaaDoor
open Go.RowKit Go.Sort
set_option linter.unusedVariables false
set_option maxRecDepth 4000

theorem TextsAt.alloc {w : World} {a : Option Addr} {n : Nat} {ss : List ByteArray} (h : TextsAt w a n ss) (o : Obj) : TextsAt (w.alloc o) a n ss := h.below ((Below.refl _ _).alloc (Nat.le_refl _) _)

theorem holds_yes {vs : List Nat} {n : Nat} : (((upTo vs n : Nat) : Int) == ((cnt vs : Nat) : Int)) = decide (upTo vs n = cnt vs) := by
  by_cases h : upTo vs n = cnt vs
  · simp [h]
  · simp [h]; omega
/-- What xor.Holds tells. -/
def holdsB (ss : List ByteArray) (vs : List Nat) (s : ByteArray) : Bool := zeroB (xorS (st (ofL ss vs ss.length)) s) && decide (upTo vs ss.length = cnt vs)

end Go.Proofs.YtfimbbiholllhaaDoor
namespace Go.Proofs.YtfimbbiholllhaaDoor
open Go.RowKit Go.Sort
set_option linter.unusedVariables false
set_option maxRecDepth 4000

theorem holdsB_iff (ss : List ByteArray) (vs : List Nat) (s : ByteArray) : holdsB ss vs s = true ↔ zeroB (xorS (st (ofL ss vs ss.length)) s) = true ∧ ∀ i, ss.length ≤ i → getB vs i = false := by
  unfold holdsB
  rw [Bool.and_eq_true, decide_eq_true_eq, upTo_cnt]
theorem holdsB_bit {ss : List ByteArray} {vs : List Nat} {s : ByteArray} {k : Nat} (hk : ss.length ≤ k) (hg : getB vs k = true) : holdsB ss vs s = false := by
  rw [← Bool.not_eq_true, holdsB_iff]
  intro h
  rw [h.2 k hk] at hg
  cases hg
theorem holdsB_byte {ss : List ByteArray} {vs : List Nat} {s : ByteArray} (hg : zeroB (xorS (st (ofL ss vs ss.length)) s) = false) : holdsB ss vs s = false := by
  unfold holdsB
  rw [hg]; rfl

set_option maxHeartbeats 1000000 in
theorem rholds_any (a : Option Addr) (n c : Nat) (ss : List ByteArray) (a' : Option Addr) (m c' : Nat) (vs : List Nat) (s : ByteArray) (w : World) (h : TextsAt w a n ss) (hs : shorts ss) (hn : n ≤ 1048576) (h' : RowAt w a' m vs) (hm : m ≤ 1048576) (hz : s.size ≤ 1048576) :
    Calls Tryd.prog 21 #[.slice a n c, .agg #[.slice a' m c', .string s]] w fun e w' => e = .returned (.bool (holdsB ss vs s)) ∧ Below w.heap.size w w' := by
  obtain rfl := h.1
  have hx := box_new w (.slice a' m c') (.string s)
  have h0 := h.alloc (.cells #[.slice a' m c', .string s] 36)
  have r0 := row_alloc h' (.cells #[.slice a' m c', .string s] 36)
  have b0 := (Below.refl _ w).alloc (Nat.le_refl _) (.cells #[.slice a' m c', .string s] 36)
  have hsz : (st (ofL ss vs ss.length)).size ≤ 1048576 := by rw [st_size (ofL_bytes _ _ _)]; exact ofL_len ss vs hs _
  have hsz2 : (xorS (st (ofL ss vs ss.length)) s).size ≤ 1048576 := by rw [xorS_size]; omega
  have k0 := hide (cell_regrown hx.1)
  have k1 := hide (cell_regrown hx.2)
  have cOf := hide (quietB (fun w' hb => rof_any a _ c ss a' m c' vs w' (h0.below hb) hs hn (r0.below hb) hm))
  have cXor := hide (quietB (W := w.alloc (.cells #[.slice a' m c', .string s] 36)) (fun w' hb => rx_any (st (ofL ss vs ss.length)) s w' hsz hz))
  have B0 := hide b0
  have R0 := hide r0
  have hml : Hid (vs.length = m) := hide h'.1
  clear h hs h' h0 r0 b0 hx hsz
  go_enter Tryd.func21, Tryd.ntmps21
  go_wp2
  go_loop [5] (fun i => ∃ k : Nat, ss.length ≤ k ∧ k ≤ 67108864 ∧ i = .int .i64 k ∧ Hid (∀ j, ss.length ≤ j → j < k → getB vs j = false)) (fun i => 64 * m - (intOf i).toNat)
  case atStart => exact ⟨ss.length, Nat.le_refl _, by omega, rfl, hide (fun j h1 h2 => by omega)⟩
  case round =>
    obtain ⟨k, hk, hkm, rfl, HZ⟩ := hrel
    by_cases hlt : k < 64 * m
    · have hlt' : decide ((k : Int) < 64 * (m : Int)) = true := by simp; omega
      go_wp2_with fail
      refine (rgetN_any a' m c' vs k _ (unhide R0) hm (by omega)).mono ?_
      rintro e w1 ⟨rfl, hw⟩
      subst hw
      cases hg : getB vs k
      · have HS := hide (show ∀ j, ss.length ≤ j → j < k + 1 → getB vs j = false from fun j h1 h2 => by
          by_cases e : j = k
          · rw [e]; exact hg
          · exact unhide HZ j h1 (by omega))
        clear hg HZ
        go_wp2
        go_round
        case rel => exact ⟨k + 1, by omega, by omega, by go_num, HS⟩
        case measure => simp [intOf]; omega
      · have HE := hide (holdsB_bit (s := s) hk hg)
        clear hg HZ
        go_wp2
        go_ret
        exact ⟨ret_bool (unhide HE).symm, unhide B0⟩
    · have hlt' : decide ((k : Int) < 64 * (m : Int)) = false := by simp; omega
      have HA := hide (show ∀ j, ss.length ≤ j → getB vs j = false from fun j h1 => by
        by_cases e : j < k
        · exact unhide HZ j h1 e
        · exact getB_out vs j (by rw [unhide hml]; omega))
      clear HZ
      go_wp2_with fail
      have k0 := unhide k0
      have k1 := unhide k1
      have cOf := unhide cOf
      have cXor := unhide cXor
      refine wp_region_quiet_below (by kernel_rfl) (by kernel_rfl) ?_
      repeat (with_reducible refine wpQuiet_step (fun K hK => ?_); go_simp; first | (with_reducible refine hK _ ?_; clear hK K) | (apply Exists.intro; apply And.intro; (intro _; first | (go_at_call 45; exact cOf _ _) | (go_at_call 44; exact cXor _ _)); with_reducible refine hK _ ?_; clear hK K))
      refine wpQuiet_nil ?_
      intro _ hw'
      obtain ⟨⟨dq, osq⟩, hw''⟩ := hw'
      subst hw''
      have B1 := hide (below0 (unhide B0) (below_regrown _ dq osq))
      have HE : Hid (∀ z, zeroB (xorS (st (ofL ss vs ss.length)) s) = z → holdsB ss vs s = z) := hide (fun z hz => by
        cases z with
        | false => exact holdsB_byte hz
        | true => exact (holdsB_iff ss vs s).2 ⟨hz, unhide HA⟩)
      generalize grow _ _ = wq at *
      generalize xorS (st (ofL ss vs ss.length)) s = x at *
      clear HA k0 k1 cOf cXor hlt hlt'
      go_wp2
      go_loop [7] (fun i => ∃ k : Nat, k ≤ x.size ∧ i = .int .i64 k ∧ Hid (∀ j, j < k → (tx x).getD j 0 = 0)) (fun i => x.size - (intOf i).toNat)
      case atStart => exact ⟨0, Nat.zero_le _, rfl, hide (fun j hj => by omega)⟩
      case round =>
        obtain ⟨k, hk, rfl, HZ⟩ := hrel
        by_cases hlt : k < x.size
        · have hlt' : (k : Int) < (x.size : Int) := by omega
          have hg := tx_get x k hlt
          by_cases h0 : x[k].toNat = 0
          · have hne : (((x[k].toNat : Nat) : Int) != 0) = false := by rw [h0]; rfl
            have HS := hide (zeroS_step (unhide HZ) (by rw [← hg]; exact h0))
            clear hg h0 HZ
            go_wp2
            go_round
            case rel => exact ⟨k + 1, by omega, by go_num, HS⟩
            case measure => simp [intOf]; omega
          · have hne : (((x[k].toNat : Nat) : Int) != 0) = true := by rw [bne_iff_ne]; omega
            have HF := hide (unhide HE false (show zeroB x = false from by
              rw [← Bool.not_eq_true]
              intro h
              exact h0 (by rw [hg]; exact (zeroB_iff x).1 h k)))
            clear hg h0 HZ
            go_wp2
            go_ret
            exact ⟨ret_bool (unhide HF).symm, unhide B1⟩
        · have HF := hide (unhide HE true (show zeroB x = true from by
            rw [zeroB_iff]
            intro i
            by_cases hi : i < k
            · exact unhide HZ i hi
            · exact getD_of_le (by rw [tx_length]; omega)))
          go_wp2
          go_ret
          exact ⟨ret_bool (unhide HF).symm, unhide B1⟩

/-- Texts that are not too many nor too long. -/
def FewT (ss : List ByteArray) : Prop := ss.length ≤ 300 ∧ ∀ i, (ss.getD i ByteArray.empty).size ≤ 1000
theorem FewT.shorts {ss : List ByteArray} (h : FewT ss) : shorts ss := by
  intro s hs
  obtain ⟨i, hi, rfl⟩ := List.mem_iff_getElem.1 hs
  have := h.2 i
  rw [List.getD_eq_getElem?_getD, List.getElem?_eq_getElem hi] at this
  simp at this
  omega
/-- What few tells, behind a name. -/
def RetP (e : Ending) (P : Prop) : Prop := ∃ b : Bool, e = .returned (.bool b) ∧ (b = true ↔ P)
end Go.Proofs.YtfimbbiholllhaaDoor
namespace Go.Proofs.YtfimbbiholllhaaDoor
open Go.RowKit Go.Sort
set_option linter.unusedVariables false
set_option maxRecDepth 4000

/-- A row that is true of blocks, by bits and bytes. -/
def HoldsP (ss : List ByteArray) (vs : List Nat) (xs : List Nat) : Prop := (∀ i, (ofL ss vs ss.length).getD i 0 = xs.getD i 0) ∧ ∀ i, ss.length ≤ i → getB vs i = false
theorem xor_zero_iff (x y : Nat) : x ^^^ y = 0 ↔ x = y := by
  constructor
  · intro h
    have h2 : (x ^^^ y) ^^^ y = x := by rw [Nat.xor_assoc, Nat.xor_self, Nat.xor_zero]
    rw [h, Nat.zero_xor] at h2
    exact h2.symm
  · intro h; rw [h, Nat.xor_self]
theorem holds_iff (ss : List ByteArray) (vs : List Nat) (s : ByteArray) : holdsB ss vs s = true ↔ HoldsP ss vs (tx s) := by
  rw [holdsB_iff, zeroB_iff, tx_xorS, tx_st (ofL_bytes _ _ _)]
  unfold HoldsP
  refine and_congr_left fun _ => forall_congr' fun i => ?_
  rw [xorL_getD]
  exact xor_zero_iff _ _
theorem ofL_xor (ss : List ByteArray) (u v : List Nat) (i : Nat) : ∀ k, (ofL ss (xorL u v) k).getD i 0 = (ofL ss u k).getD i 0 ^^^ (ofL ss v k).getD i 0
  | 0 => by simp [ofL]
  | k + 1 => by
    have ih := ofL_xor ss u v i k
    have hx := getB_xorL u v k
    unfold ofL
    rw [hx]
    cases getB u k <;> cases getB v k
    · simpa using ih
    · simp only [Bool.false_xor, if_true, xorL_getD, ih, Bool.false_eq_true, if_false]
      rw [Nat.xor_assoc]
    · simp only [Bool.xor_false, if_true, xorL_getD, ih, Bool.false_eq_true, if_false]
      rw [Nat.xor_assoc, Nat.xor_comm ((ofL ss v k).getD i 0), ← Nat.xor_assoc]
    · simp only [Bool.xor_self, if_true, xorL_getD, ih, Bool.false_eq_true, if_false]
      generalize (ofL ss u k).getD i 0 = x
      generalize (ofL ss v k).getD i 0 = y
      generalize (tx (ss.getD k ByteArray.empty)).getD i 0 = z
      rw [Nat.xor_assoc x z, ← Nat.xor_assoc z y, Nat.xor_comm z y, Nat.xor_assoc y z z, Nat.xor_self, Nat.xor_zero]
theorem HoldsP.nil (ss : List ByteArray) : HoldsP ss [] [] := by
  refine ⟨fun i => ?_, fun i _ => getB_nil i⟩
  have : ∀ k, ofL ss [] k = [] := fun k => by
    induction k with
    | zero => rfl
    | succ k ih => unfold ofL; rw [getB_nil]; simpa using ih
  rw [this]
theorem HoldsP.xor {ss : List ByteArray} {u v xs ys : List Nat} (h : HoldsP ss u xs) (h' : HoldsP ss v ys) : HoldsP ss (xorL u v) (xorL xs ys) := by
  refine ⟨fun i => ?_, fun i hi => ?_⟩
  · rw [ofL_xor, xorL_getD, h.1 i, h'.1 i]
  · rw [getB_xorL, h.2 i hi, h'.2 i hi]; rfl
theorem HoldsP.all (ss : List ByteArray) (rs : List RV) (h : ∀ r ∈ rs, HoldsP ss r.xs (tx r.s)) : ∀ u xs, HoldsP ss u xs → HoldsP ss (rs.foldl (fun a r => xorL a r.xs) u) ((rs.map fun r => r.s).foldl (fun a s => xorL a (tx s)) xs) := by
  induction rs with
  | nil => exact fun u xs hu => hu
  | cons r rs ih => exact fun u xs hu => ih (fun r hr => h r (List.mem_cons_of_mem _ hr)) _ _ (hu.xor (h r List.mem_cons_self))
theorem holds_all (ss : List ByteArray) (rs : List RV) (h : ∀ r ∈ rs, holdsB ss r.xs r.s = true) : holdsB ss (vecL rs) (st (sumL (rs.map fun r => r.s))) = true := by
  rw [holds_iff, tx_st (sumL_bytes _)]
  exact HoldsP.all ss rs (fun r hr => (holds_iff _ _ _).1 (h r hr)) [] [] (HoldsP.nil ss)
end Go.Proofs.YtfimbbiholllhaaDoor
