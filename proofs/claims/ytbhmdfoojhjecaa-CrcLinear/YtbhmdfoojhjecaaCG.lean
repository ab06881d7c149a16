/-
  The walk of CrcLinear.
-/
import Derived.Test.YtbhmdfoojhjecaaCE
import Derived.Laws.OwnMore
namespace Go.Proofs.Ytbhmdfoojhjecaa
open Go.RowKit Go.Sort
set_option linter.unusedVariables false

/-- The three texts' first n bytes, xored. -/
def lin3 (a b c : ByteArray) (n : Nat) : List Nat := zipX (zipX ((tx a).take n) ((tx b).take n)) ((tx c).take n)
theorem cut_len {s : ByteArray} {n : Nat} (h : n ≤ s.size) : ((tx s).take n).length = n := by rw [List.length_take, tx_length]; omega
theorem lin3_length {a b c : ByteArray} {n : Nat} (ha : n ≤ a.size) (hb : n ≤ b.size) (hc : n ≤ c.size) : (lin3 a b c n).length = n := by
  unfold lin3
  rw [zipX_length _ _ (by rw [zipX_length _ _ (by rw [cut_len ha, cut_len hb]), cut_len ha, cut_len hc]), zipX_length _ _ (by rw [cut_len ha, cut_len hb]), cut_len ha]
theorem zipX_getD (a b : List Nat) (h : a.length = b.length) (i : Nat) : (zipX a b).getD i 0 = a.getD i 0 ^^^ b.getD i 0 := by
  unfold zipX
  by_cases hi : i < a.length
  · simp only [List.getD_eq_getElem?_getD, List.getElem?_eq_getElem hi, List.getElem?_eq_getElem (show i < b.length by omega), List.getElem?_eq_getElem (show i < (List.zipWith (fun x y => x ^^^ y) a b).length by simp; omega), List.getElem_zipWith, Option.getD_some]
  · rw [getD_of_le (a := a) (by omega), getD_of_le (a := b) (by omega), getD_of_le (by simp; omega)]
    rfl
theorem take_getD (xs : List Nat) (n i : Nat) (h : i < n) : (xs.take n).getD i 0 = xs.getD i 0 := by
  simp [List.getD_eq_getElem?_getD, h]
theorem lin3_get {a b c : ByteArray} {n : Nat} (ha : n ≤ a.size) (hb : n ≤ b.size) (hc : n ≤ c.size) (i : Nat) (hi : i < n) : (lin3 a b c n).getD i 0 = (tx a).getD i 0 ^^^ (tx b).getD i 0 ^^^ (tx c).getD i 0 := by
  unfold lin3
  rw [zipX_getD _ _ (by rw [zipX_length _ _ (by rw [cut_len ha, cut_len hb]), cut_len ha, cut_len hc]), zipX_getD _ _ (by rw [cut_len ha, cut_len hb]), take_getD _ _ _ hi, take_getD _ _ _ hi, take_getD _ _ _ hi]
theorem lin3_bytes {a b c : ByteArray} {n : Nat} (ha : n ≤ a.size) (hb : n ≤ b.size) (hc : n ≤ c.size) : bytes (lin3 a b c n) := by
  intro x hx
  obtain ⟨i, hi, rfl⟩ := List.getElem_of_mem hx
  have hl := lin3_length ha hb hc
  have := lin3_get ha hb hc i (by omega)
  rw [List.getD_eq_getElem?_getD, List.getElem?_eq_getElem hi] at this
  simp only [Option.getD_some] at this
  rw [this]
  exact xorB_lt (xorB_lt ((tx_bytes a).get i) ((tx_bytes b).get i)) ((tx_bytes c).get i)
theorem zeros_bytes (n : Nat) : bytes (List.replicate n 0) := by
  intro x hx
  rw [List.eq_of_mem_replicate hx]
  decide
theorem zeros_xor {n : Nat} {d : List Nat} (h : d.length = n) : xorL (List.replicate n 0) d = d := by
  apply ext_getD
  · rw [xorL_length, List.length_replicate, h]; omega
  · intro i hi
    rw [xorL_getD]
    have : (List.replicate n 0).getD i 0 = 0 := by
      rw [List.getD_eq_getElem?_getD, List.getElem?_replicate]
      split <;> rfl
    rw [this, Nat.zero_xor]
theorem zeros_get (n i : Nat) : (List.replicate n 0).getD i 0 = 0 := by
  rw [List.getD_eq_getElem?_getD, List.getElem?_replicate]
  split <;> rfl
theorem sum_cut (s : ByteArray) (n : Nat) : sumS (s.extract 0 n) = sumN ((tx s).take n) := by
  unfold sumS
  rw [tx_extract]
  rfl
theorem lin_zero {a b c : ByteArray} {n : Nat} (ha : n ≤ a.size) (hb : n ≤ b.size) (hc : n ≤ c.size) :
    sumS (a.extract 0 n) ^^^ sumS (b.extract 0 n) ^^^ sumS (c.extract 0 n) ^^^ sumS (st (lin3 a b c n)) = 0 := by
  rw [sum_cut, sum_cut, sum_cut]
  unfold sumS
  rw [tx_st (lin3_bytes ha hb hc)]
  exact sum_linear _ _ _ (by rw [cut_len ha, cut_len hb]) (by rw [cut_len ha, cut_len hc])
/-- A new slice of n bytes. -/
theorem bytes_new (w : World) (n : Nat) (hn : n ≤ 1048576) : ∃ w', (Instr.makeSlice 32 (.int .i64 (n : Int)) (.int .i64 (n : Int))).run Try.prog w = .ok (.slice (some ⟨w.heap.size, 0, none⟩) n n) w' ∧
    OwnB w' w.heap.size (.slice (some ⟨w.heap.size, 0, none⟩) n n) (List.replicate n 0) ∧ Below w.heap.size w w' := by
  obtain ⟨i0, hi0, hz0, hz1, hz2⟩ := info_parts info_u8
  have hrun := run_make (P := Try.prog) w 32 5 i0 (.int .u8 0) Try.underlying32 hi0 hz0 .i64 .i64 (n : Int) (n : Int) (by omega) (by omega) (by rw [hz2]; omega) (by omega)
  simp only [Int.toNat_natCast] at hrun
  refine ⟨_, hrun, ⟨zeros_bytes n, .inr ⟨w.heap.size, n, by rw [List.length_replicate], Nat.le_refl _, by simp, fun i hi => ?_, fun i hi => ?_⟩⟩, (Below.refl _ _).alloc (Nat.le_refl _) _⟩
  · rw [zeros_get]
    rw [List.length_replicate] at hi
    have h1 := World.cell?_alloc_mark w (madeCells (Value.int .u8 0).cells (n * i0.size)) 5 (0, 0) i
    refine h1.trans ?_
    rw [hz1, Nat.mul_one, ← Array.getElem?_toList, show (Value.int .u8 0).cells = #[.int .u8 0] from rfl, toList_madeCells_one, List.getElem?_replicate, if_pos hi]
    rfl
  · have h1 := World.frozen?_alloc_mark w (madeCells (Value.int .u8 0).cells (n * i0.size)) 5 0 0 i
    refine h1.trans ?_
    simp

theorem min_run (x y : Nat) (ts : Array TypeId) (t : TypeId) (w : World) : (Builtin.min_ ts t #[.int .i64 (x : Int), .int .i64 (y : Int)]).run Try.prog w = .ok (.int .i64 ((min x y : Nat) : Int)) w := by
  rw [run_min_int2]
  congr 2
  split <;> omega

set_option maxHeartbeats 2000000 in
theorem linear_walk (a b c : ByteArray) (w : World) (ha : a.size ≤ 9223372036854775807) (hb : b.size ≤ 9223372036854775807) (hc : c.size ≤ 9223372036854775807) :
    Calls Try.prog 7 #[.string a, .string b, .string c] w fun e w' => e = .returned (.bool true) ∧ Below w.heap.size w w' := by
  have M1 := min_run a.size b.size
  have M2 := min_run (min a.size b.size) c.size
  obtain ⟨n0, hn0⟩ : ∃ n0, n0 = min a.size b.size := ⟨_, rfl⟩
  rw [← hn0] at M1 M2
  obtain ⟨n, hn⟩ : ∃ n, n = min n0 c.size := ⟨_, rfl⟩
  rw [← hn] at M2
  have na : n ≤ a.size := by omega
  have nb : n ≤ b.size := by omega
  have nc : n ≤ c.size := by omega
  clear hn hn0
  by_cases hg : 10000 < n
  · have hg' : decide ((10000 : Int) < (n : Int)) = true := by rw [decide_eq_true_iff]; omega
    clear hg
    go_enter Try.func7, Try.ntmps7
    go_wp2_with fail
    refine (awake_any _).mono ?_
    rintro e w5 ⟨rfl, hb5⟩
    have B5 := hide hb5
    clear hb5
    go_wp2
    go_ret
    exact ⟨rfl, unhide B5⟩
  · have hg' : decide ((10000 : Int) < (n : Int)) = false := by rw [decide_eq_false_iff_not]; omega
    have hn1 : n ≤ 10000 := by omega
    obtain ⟨w1, hmk, ho, hbw⟩ := bytes_new w n (by omega)
    have HO1 := hide ho
    have HB1 := hide hbw
    have hz := lin3_length na nb nc
    have hzb := hide (lin3_bytes na nb nc)
    clear ho hbw hg
    go_enter Try.func7, Try.ntmps7
    go_wp2
    go_loopw [9] (fun i wr => ∃ k : Nat, k ≤ n ∧ i = .int .i64 k ∧ Hid (OwnB wr w.heap.size (.slice (some ⟨w.heap.size, 0, none⟩) n n) (xorTo (List.replicate n 0) (lin3 a b c n) k)) ∧ Hid (Below w.heap.size w wr)) (fun i _ => n - (intOf i).toNat)
    case atStart => exact ⟨0, Nat.zero_le _, rfl, hide (by rw [xorTo_zero]; exact unhide HO1), HB1⟩
    case round =>
      obtain ⟨k, hk, rfl, HO, HB⟩ := hrel
      clear HO1 HB1 hmk
      by_cases hlt : k < n
      · have hlt' : (k : Int) < (n : Int) := by omega
        have hka : k < a.size := by omega
        have hkb : k < b.size := by omega
        have hkc : k < c.size := by omega
        have hka' : (k : Int) < (a.size : Int) := by omega
        have hkb' : (k : Int) < (b.size : Int) := by omega
        have hkc' : (k : Int) < (c.size : Int) := by omega
        obtain ⟨g, cap, hv, hBg, hgs, hcg, hfg⟩ := (unhide HO).at (by rw [xorTo_length, List.length_replicate]; omega)
        rw [xorTo_length, List.length_replicate] at hv
        simp only [Value.slice.injEq, Option.some.injEq, Addr.mk.injEq, and_true, true_and] at hv
        obtain ⟨rfl, rfl⟩ := hv
        have hcell := hcg k (by rw [xorTo_length, List.length_replicate]; omega)
        have hfz := hfg k (by rw [xorTo_length, List.length_replicate]; omega)
        have hx1 := u8_xor_nat a[k].toNat b[k].toNat a[k].toNat_lt b[k].toNat_lt
        have hx2 := u8_xor_nat (a[k].toNat ^^^ b[k].toNat) c[k].toNat (xorB_lt a[k].toNat_lt b[k].toNat_lt) c[k].toNat_lt
        have HO' : OwnB wr w.heap.size (.slice (some ⟨w.heap.size, 0, none⟩) (List.replicate n 0).length n) (xorTo (List.replicate n 0) (lin3 a b c n) k) := by rw [List.length_replicate]; exact unhide HO
        have R := hide (xb_roundd (z := a[k].toNat ^^^ b[k].toNat ^^^ c[k].toNat) (zeros_bytes n) (unhide hzb) (by rw [List.length_replicate]; omega) hBg HO' (unhide HB) (by rw [zeros_get, Nat.zero_xor, lin3_get na nb nc k hlt, tx_get a k hka, tx_get b k hkb, tx_get c k hkc]))
        rw [List.length_replicate] at R
        generalize (xorTo (List.replicate n 0) (lin3 a b c n) k).getD k 0 = x at *
        clear hcg hfg HO HO'
        go_wp2
        go_region
        all_goals go_wp2
        go_roundw
        case rel => exact ⟨k + 1, by omega, by go_num, hide (unhide R).1, hide (unhide R).2⟩
        case measure => simp [intOf]; omega
      · have hke : k = (lin3 a b c n).length := by omega
        rw [hke, xorTo_all _ _ (by rw [List.length_replicate]; omega), zeros_xor hz] at HO
        have hct := fun d os => ((unhide HO).below (below_regrown wr d os)).text
        have hL := lin_zero na nb nc
        have hla : (a.extract 0 n).size ≤ 1048576 := by rw [ByteArray.size_extract]; omega
        have hlb : (b.extract 0 n).size ≤ 1048576 := by rw [ByteArray.size_extract]; omega
        have hlc : (c.extract 0 n).size ≤ 1048576 := by rw [ByteArray.size_extract]; omega
        have hld : (st (lin3 a b c n)).size ≤ 1048576 := by rw [st_len, hz]; omega
        have cA := quietC (W := wr) (fun w' _ => sameC (csum_any (a.extract 0 n) w' hla))
        have cB := quietC (W := wr) (fun w' _ => sameC (csum_any (b.extract 0 n) w' hlb))
        have cC := quietC (W := wr) (fun w' _ => sameC (csum_any (c.extract 0 n) w' hlc))
        have cD := quietC (W := wr) (fun w' _ => sameC (csum_any (st (lin3 a b c n)) w' hld))
        have cW := quietC (W := wr) (fun w' _ => awake_any w')
        have la := sumS_lt (a.extract 0 n)
        have lb := sumS_lt (b.extract 0 n)
        have lc := sumS_lt (c.extract 0 n)
        have ld := sumS_lt (st (lin3 a b c n))
        have na' : (n : Int) ≤ (a.size : Int) := by omega
        have nb' : (n : Int) ≤ (b.size : Int) := by omega
        have nc' : (n : Int) ≤ (c.size : Int) := by omega
        generalize sumS (a.extract 0 n) = p at *
        generalize sumS (b.extract 0 n) = q at *
        generalize sumS (c.extract 0 n) = r at *
        generalize sumS (st (lin3 a b c n)) = u at *
        generalize st (lin3 a b c n) = t at *
        have hx1 := u32_xor_nat p q la lb
        have hx2 := u32_xor_nat (p ^^^ q) r (xor32_lt la lb) lc
        have hx3 := u32_xor_nat (p ^^^ q ^^^ r) u (xor32_lt (xor32_lt la lb) lc) ld
        rw [hL] at hx3
        generalize p ^^^ q ^^^ r = pqr at *
        generalize p ^^^ q = pq at *
        clear hla hlb hlc hld la lb lc ld hL hke HO hzb hz
        go_wp2_with fail
        refine wp_region_quiet_below (by kernel_rfl) (by kernel_rfl) ?_
        repeat (with_reducible refine wpQuiet_step (fun K hK => ?_); go_simp; first | (with_reducible refine hK _ ?_; clear hK K) | (apply Exists.intro; apply And.intro; (intro _; first | (go_at_call 8; first | exact cA _ _ | exact cB _ _ | exact cC _ _ | exact cD _ _) | (go_at_call 12; exact cW _ _)); with_reducible refine hK _ ?_; clear hK K))
        refine wpQuiet_nil ?_
        intro _ hw'
        obtain ⟨⟨dq, osq⟩, hw''⟩ := hw'
        subst hw''
        have B2 := hide (below0 (unhide HB) (below_regrown wr dq osq))
        generalize grow (redrawn wr dq) osq = w3 at *
        go_wp2
        go_ret
        exact ⟨rfl, unhide B2⟩
end Go.Proofs.Ytbhmdfoojhjecaa
