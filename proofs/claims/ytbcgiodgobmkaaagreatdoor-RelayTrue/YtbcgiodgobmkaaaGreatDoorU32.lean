/-
  Contracts of bucketlineref02.Holds, bucketlinelaw02.few.
  Rows that are true of blocks, by bits and bytes ('HoldsP'); their xor is, too ('holds_all'). No condition.
  Plain mathematics of what a relay emits: of packets that may be ('emitD'): it may be, it is in the span of what was put, it is true of blocks where they are. No condition.
  Contracts of slices.Index, Contains and Clone at ints, recode.around and distance, bucketlineref18.far, bucketlinelaw18.far. Conditions: at most 2^20 ints; a target from -2^40 to 2^40, a degree of at most 2^20.
-/
import Derived.Test.YtbcgiodgobmkaaaGreatDoorU31
import Derived.Test.YtbcgiodgobmkaaaGreatDoorU8
import Derived.Test.YtbcgiodgobmkaaaGreatDoorGE
import Derived.Test.YtbcgiodgobmkaaaGreatDoorU29
import Derived.Test.YtbcgiodgobmkaaaGreatDoorU16
import Derived.Test.YtbcgiodgobmkaaaGreatDoorU11
namespace Go.Proofs.YtbcgiodgobmkaaaGreatDoor
open Go.RowKit Go.Sort
set_option linter.unusedVariables false
set_option linter.unusedSimpArgs false
set_option maxRecDepth 4000

theorem holdsB_iff (ss : List ByteArray) (vs : List Nat) (s : ByteArray) : holdsB ss vs s = true ↔ zeroB (xorS (st (ofL ss vs ss.length)) s) = true ∧ ∀ i, ss.length ≤ i → getB vs i = false := by
  unfold holdsB
  rw [Bool.and_eq_true, decide_eq_true_eq, upTo_cnt]
theorem holdsB_bit {ss : List ByteArray} {vs : List Nat} {s : ByteArray} {k : Nat} (hk : ss.length ≤ k) (hg : getB vs k = true) : holdsB ss vs s = false := by
  rw [← Bool.not_eq_true, holdsB_iff]
  intro h
  rw [h.2 k hk] at hg
  cases hg
theorem holdsB_byte {ss : List ByteArray} {vs : List Nat} {s : ByteArray} (hg : zeroB (xorS (st (ofL ss vs ss.length)) s) = false) : holdsB ss vs s = false := by
  unfold holdsB
  rw [hg]; rfl

set_option maxHeartbeats 1000000 in
theorem rholds_any (a : Option Addr) (n c : Nat) (ss : List ByteArray) (a' : Option Addr) (m c' : Nat) (vs : List Nat) (s : ByteArray) (w : World) (h : TextsAt w a n ss) (hs : shorts ss) (hn : n ≤ 1048576) (h' : RowAt w a' m vs) (hm : m ≤ 1048576) (hz : s.size ≤ 1048576) :
    Calls Tryz.prog 21 #[.slice a n c, .agg #[.slice a' m c', .string s]] w fun e w' => e = .returned (.bool (holdsB ss vs s)) ∧ Below w.heap.size w w' := by
  obtain rfl := h.1
  have hx := box_new w (.slice a' m c') (.string s)
  have h0 := h.alloc (.cells #[.slice a' m c', .string s] 40)
  have r0 := row_alloc h' (.cells #[.slice a' m c', .string s] 40)
  have b0 := (Below.refl _ w).alloc (Nat.le_refl _) (.cells #[.slice a' m c', .string s] 40)
  have hsz : (st (ofL ss vs ss.length)).size ≤ 1048576 := by rw [st_size (ofL_bytes _ _ _)]; exact ofL_len ss vs hs _
  have hsz2 : (xorS (st (ofL ss vs ss.length)) s).size ≤ 1048576 := by rw [xorS_size]; omega
  have k0 := hide (cell_regrown hx.1)
  have k1 := hide (cell_regrown hx.2)
  have cOf := hide (quietB (fun w' hb => rof_any a _ c ss a' m c' vs w' (h0.below hb) hs hn (r0.below hb) hm))
  have cXor := hide (quietB (W := w.alloc (.cells #[.slice a' m c', .string s] 40)) (fun w' hb => rx_any (st (ofL ss vs ss.length)) s w' hsz hz))
  have B0 := hide b0
  have R0 := hide r0
  have hml : Hid (vs.length = m) := hide h'.1
  clear h hs h' h0 r0 b0 hx hsz
  go_enter Tryz.func21, Tryz.ntmps21
  go_wp2
  go_loop [5] (fun i => ∃ k : Nat, ss.length ≤ k ∧ k ≤ 67108864 ∧ i = .int .i64 k ∧ Hid (∀ j, ss.length ≤ j → j < k → getB vs j = false)) (fun i => 64 * m - (intOf i).toNat)
  case atStart => exact ⟨ss.length, Nat.le_refl _, by omega, rfl, hide (fun j h1 h2 => by omega)⟩
  case round =>
    obtain ⟨k, hk, hkm, rfl, HZ⟩ := hrel
    by_cases hlt : k < 64 * m
    · have hlt' : decide ((k : Int) < 64 * (m : Int)) = true := by simp; omega
      go_wp2_with fail
      refine (rgetN_any a' m c' vs k _ (unhide R0) hm (by omega)).mono ?_
      rintro e w1 ⟨rfl, hw⟩
      subst hw
      cases hg : getB vs k
      · have HS := hide (show ∀ j, ss.length ≤ j → j < k + 1 → getB vs j = false from fun j h1 h2 => by
          by_cases e : j = k
          · rw [e]; exact hg
          · exact unhide HZ j h1 (by omega))
        clear hg HZ
        go_wp2
        go_round
        case rel => exact ⟨k + 1, by omega, by omega, by go_num, HS⟩
        case measure => simp [intOf]; omega
      · have HE := hide (holdsB_bit (s := s) hk hg)
        clear hg HZ
        go_wp2
        go_ret
        exact ⟨ret_bool (unhide HE).symm, unhide B0⟩
    · have hlt' : decide ((k : Int) < 64 * (m : Int)) = false := by simp; omega
      have HA := hide (show ∀ j, ss.length ≤ j → getB vs j = false from fun j h1 => by
        by_cases e : j < k
        · exact unhide HZ j h1 e
        · exact getB_out vs j (by rw [unhide hml]; omega))
      clear HZ
      go_wp2_with fail
      have k0 := unhide k0
      have k1 := unhide k1
      have cOf := unhide cOf
      have cXor := unhide cXor
      refine wp_region_quiet_below (by kernel_rfl) (by kernel_rfl) ?_
      repeat (with_reducible refine wpQuiet_step (fun K hK => ?_); go_simp; first | (with_reducible refine hK _ ?_; clear hK K) | (apply Exists.intro; apply And.intro; (intro _; first | (go_at_call 39; exact cOf _ _) | (go_at_call 38; exact cXor _ _)); with_reducible refine hK _ ?_; clear hK K))
      refine wpQuiet_nil ?_
      intro _ hw'
      obtain ⟨⟨dq, osq⟩, hw''⟩ := hw'
      subst hw''
      have B1 := hide (below0 (unhide B0) (below_regrown _ dq osq))
      have HE : Hid (∀ z, zeroB (xorS (st (ofL ss vs ss.length)) s) = z → holdsB ss vs s = z) := hide (fun z hz => by
        cases z with
        | false => exact holdsB_byte hz
        | true => exact (holdsB_iff ss vs s).2 ⟨hz, unhide HA⟩)
      generalize grow _ _ = wq at *
      generalize xorS (st (ofL ss vs ss.length)) s = x at *
      clear HA k0 k1 cOf cXor hlt hlt'
      go_wp2
      go_loop [7] (fun i => ∃ k : Nat, k ≤ x.size ∧ i = .int .i64 k ∧ Hid (∀ j, j < k → (tx x).getD j 0 = 0)) (fun i => x.size - (intOf i).toNat)
      case atStart => exact ⟨0, Nat.zero_le _, rfl, hide (fun j hj => by omega)⟩
      case round =>
        obtain ⟨k, hk, rfl, HZ⟩ := hrel
        by_cases hlt : k < x.size
        · have hlt' : (k : Int) < (x.size : Int) := by omega
          have hg := tx_get x k hlt
          by_cases h0 : x[k].toNat = 0
          · have hne : (((x[k].toNat : Nat) : Int) != 0) = false := by rw [h0]; rfl
            have HS := hide (zeroS_step (unhide HZ) (by rw [← hg]; exact h0))
            clear hg h0 HZ
            go_wp2
            go_round
            case rel => exact ⟨k + 1, by omega, by go_num, HS⟩
            case measure => simp [intOf]; omega
          · have hne : (((x[k].toNat : Nat) : Int) != 0) = true := by rw [bne_iff_ne]; omega
            have HF := hide (unhide HE false (show zeroB x = false from by
              rw [← Bool.not_eq_true]
              intro h
              exact h0 (by rw [hg]; exact (zeroB_iff x).1 h k)))
            clear hg h0 HZ
            go_wp2
            go_ret
            exact ⟨ret_bool (unhide HF).symm, unhide B1⟩
        · have HF := hide (unhide HE true (show zeroB x = true from by
            rw [zeroB_iff]
            intro i
            by_cases hi : i < k
            · exact unhide HZ i hi
            · exact getD_of_le (by rw [tx_length]; omega)))
          go_wp2
          go_ret
          exact ⟨ret_bool (unhide HF).symm, unhide B1⟩

end Go.Proofs.YtbcgiodgobmkaaaGreatDoor
namespace Go.Proofs.YtbcgiodgobmkaaaGreatDoor
open Go.RowKit Go.Sort
set_option linter.unusedVariables false
set_option linter.unusedSimpArgs false
set_option maxRecDepth 4000

/-- A row that is true of blocks, by bits and bytes. -/
def HoldsP (ss : List ByteArray) (vs : List Nat) (xs : List Nat) : Prop := (∀ i, (ofL ss vs ss.length).getD i 0 = xs.getD i 0) ∧ ∀ i, ss.length ≤ i → getB vs i = false
theorem xor_zero_iff (x y : Nat) : x ^^^ y = 0 ↔ x = y := by
  constructor
  · intro h
    have h2 : (x ^^^ y) ^^^ y = x := by rw [Nat.xor_assoc, Nat.xor_self, Nat.xor_zero]
    rw [h, Nat.zero_xor] at h2
    exact h2.symm
  · intro h; rw [h, Nat.xor_self]
theorem holds_iff (ss : List ByteArray) (vs : List Nat) (s : ByteArray) : holdsB ss vs s = true ↔ HoldsP ss vs (tx s) := by
  rw [holdsB_iff, zeroB_iff, tx_xorS, tx_st (ofL_bytes _ _ _)]
  unfold HoldsP
  refine and_congr_left fun _ => forall_congr' fun i => ?_
  rw [xorL_getD]
  exact xor_zero_iff _ _
theorem ofL_xor (ss : List ByteArray) (u v : List Nat) (i : Nat) : ∀ k, (ofL ss (xorL u v) k).getD i 0 = (ofL ss u k).getD i 0 ^^^ (ofL ss v k).getD i 0
  | 0 => by simp [ofL]
  | k + 1 => by
    have ih := ofL_xor ss u v i k
    have hx := getB_xorL u v k
    unfold ofL
    rw [hx]
    cases getB u k <;> cases getB v k
    · simpa using ih
    · simp only [Bool.false_xor, if_true, xorL_getD, ih, Bool.false_eq_true, if_false]
      rw [Nat.xor_assoc]
    · simp only [Bool.xor_false, if_true, xorL_getD, ih, Bool.false_eq_true, if_false]
      rw [Nat.xor_assoc, Nat.xor_comm ((ofL ss v k).getD i 0), ← Nat.xor_assoc]
    · simp only [Bool.xor_self, if_true, xorL_getD, ih, Bool.false_eq_true, if_false]
      generalize (ofL ss u k).getD i 0 = x
      generalize (ofL ss v k).getD i 0 = y
      generalize (tx (ss.getD k ByteArray.empty)).getD i 0 = z
      rw [Nat.xor_assoc x z, ← Nat.xor_assoc z y, Nat.xor_comm z y, Nat.xor_assoc y z z, Nat.xor_self, Nat.xor_zero]
theorem HoldsP.nil (ss : List ByteArray) : HoldsP ss [] [] := by
  refine ⟨fun i => ?_, fun i _ => getB_nil i⟩
  have : ∀ k, ofL ss [] k = [] := fun k => by
    induction k with
    | zero => rfl
    | succ k ih => unfold ofL; rw [getB_nil]; simpa using ih
  rw [this]
theorem HoldsP.xor {ss : List ByteArray} {u v xs ys : List Nat} (h : HoldsP ss u xs) (h' : HoldsP ss v ys) : HoldsP ss (xorL u v) (xorL xs ys) := by
  refine ⟨fun i => ?_, fun i hi => ?_⟩
  · rw [ofL_xor, xorL_getD, h.1 i, h'.1 i]
  · rw [getB_xorL, h.2 i hi, h'.2 i hi]; rfl
theorem HoldsP.all (ss : List ByteArray) (rs : List RV) (h : ∀ r ∈ rs, HoldsP ss r.xs (tx r.s)) : ∀ u xs, HoldsP ss u xs → HoldsP ss (rs.foldl (fun a r => xorL a r.xs) u) ((rs.map fun r => r.s).foldl (fun a s => xorL a (tx s)) xs) := by
  induction rs with
  | nil => exact fun u xs hu => hu
  | cons r rs ih => exact fun u xs hu => ih (fun r hr => h r (List.mem_cons_of_mem _ hr)) _ _ (hu.xor (h r List.mem_cons_self))
end Go.Proofs.YtbcgiodgobmkaaaGreatDoor
namespace Go.Proofs.YtbcgiodgobmkaaaGreatDoor
open Go.RowKit Go.Sort
set_option linter.unusedVariables false
set_option linter.unusedSimpArgs false
set_option maxRecDepth 4000

/-- What is emitted, where the row at b is the first to be chosen. -/
def emitD (L : List PD) (b : Nat) (t : Int) : Option PD := mixD L (castZ (placesCh (chTo (vecsD L) t b 31).ch L.length))
theorem mixD_parts {L : List PD} {ws : List Int} {d : PD} (h : mixD L ws = some d) : ∃ q Q, selL .dflt L ws = q :: Q ∧ mixL (q :: Q) = some d ∧ d.xs = vecX (q :: Q) ∧ d.s = st (txtX (q :: Q)) ∧ (∀ p ∈ q :: Q, p ∈ L) := by
  have h2 : mixL (selL .dflt L ws) = some d := h
  cases hu : selL .dflt L ws with
  | nil => rw [hu] at h2; cases h2
  | cons q Q =>
    rw [hu] at h2
    refine ⟨q, Q, rfl, h2, ?_, ?_, fun p hp => selL_mem (by rw [hu]; exact hp)⟩
    all_goals
      rw [mixL_cons] at h2
      split at h2
      · obtain rfl := Option.some.inj h2; rfl
      · cases h2
theorem mixD_ok {L : List PD} {ws : List Int} {d : PD} (hok : ∀ p ∈ L, okD p = true) (h : mixD L ws = some d) : okD d = true ∧ 1 ≤ d.h := by
  obtain ⟨q, Q, _, h2, _, _, hsub⟩ := mixD_parts h
  obtain ⟨k1, k2⟩ := mix_ok (fun p hp => hok p (hsub p hp)) h2
  have hg := hop_ge (q := q) (Q := Q) (p := q) List.mem_cons_self
  obtain ⟨⟨_, _, _, hh⟩, _⟩ := okD_iff.1 (hok q (hsub q List.mem_cons_self))
  have h5 : 0 ≤ q.h := hh.1
  exact ⟨k1, by omega⟩
/-- .. and true of the blocks that all of them are true of. -/
theorem mixD_true {bs : List ByteArray} {L : List PD} {ws : List Int} {d : PD} (hT : ∀ p ∈ L, holdsB bs p.xs p.s = true) (h : mixD L ws = some d) : holdsB bs d.xs d.s = true := by
  obtain ⟨q, Q, _, _, h3, h4, hsub⟩ := mixD_parts h
  have key : ∀ (Q : List PD) (u xs : List Nat), (∀ p ∈ Q, holdsB bs p.xs p.s = true) → HoldsP bs u xs → HoldsP bs (Q.foldl (fun a p => xorL a p.xs) u) (Q.foldl (fun a p => xorL a (tx p.s)) xs) := fun Q => by
    induction Q with
    | nil => exact fun u xs _ hu => hu
    | cons r rs ih => exact fun u xs hp hu => ih _ _ (fun x hx => hp x (List.mem_cons_of_mem _ hx)) (hu.xor ((holds_iff _ _ _).1 (hp r List.mem_cons_self)))
  have hb : ∀ (Q : List PD) (a : List Nat), bytes a → bytes (Q.foldl (fun a p => xorL a (tx p.s)) a) := fun Q => by
    induction Q with
    | nil => exact fun a h => h
    | cons s ss ih => exact fun a h => ih _ (xorL_bytes h (tx_bytes s.s))
  have hbx : bytes (txtX (q :: Q)) := hb (q :: Q) [] (fun x hx => by cases hx)
  rw [h3, h4, holds_iff, tx_st hbx]
  exact key (q :: Q) [] [] (fun p hp => hT p (hsub p hp)) (HoldsP.nil bs)
end Go.Proofs.YtbcgiodgobmkaaaGreatDoor
namespace Go.Proofs.YtbcgiodgobmkaaaGreatDoor
open Go.RowKit
set_option linter.unusedVariables false
set_option linter.unusedSimpArgs false
set_option maxRecDepth 4000

theorem take_snocZ (xs : List Int) (k : Nat) (hk : k < xs.length) : xs.take (k + 1) = xs.take k ++ [xs.getD k 0] := by
  rw [List.take_succ_eq_append_getElem hk]
  simp [List.getD_eq_getElem?_getD, List.getElem?_eq_getElem hk]
set_option maxHeartbeats 1000000 in
theorem indexI_any (a : Option Addr) (n c : Nat) (xs : List Int) (x : Int) (w : World) (h : IntzAt w a n xs) (hn : n ≤ 1048576) :
    Calls Tryz.prog 85 #[.slice a n c, .int .i64 x] w fun e w' => ∃ r : Int, e = .returned (.int .i64 r) ∧ decide (0 ≤ r) = decide (x ∈ xs) ∧ w' = w := by
  obtain rfl := h.1
  have Hh := hide h
  clear h
  go_enter Tryz.func85, Tryz.ntmps85
  go_wp2
  go_loop [8] (fun i => ∃ k : Nat, k ≤ xs.length ∧ i = .int .i64 k ∧ Hid (x ∉ xs.take k)) (fun i => xs.length - (intOf i).toNat)
  case atStart => exact ⟨0, Nat.zero_le _, rfl, hide (by rw [List.take_zero]; exact List.not_mem_nil)⟩
  case round =>
    obtain ⟨k, hk, rfl, HN⟩ := hrel
    by_cases hlt : k < xs.length
    · obtain ⟨b, off, rfl, hcl⟩ := (unhide Hh).at hlt
      have hcell := hcl k hlt
      have hlt' : (k : Int) < (xs.length : Int) := by omega
      have HT := hide (take_snocZ xs k hlt)
      have HM := hide (show xs.getD k 0 ∈ xs from by rw [List.getD_eq_getElem?_getD, List.getElem?_eq_getElem hlt]; exact List.getElem_mem hlt)
      clear hcl
      generalize xs.getD k 0 = y at *
      by_cases he : x = y
      · subst he
        go_wp2
        go_ret
        exact ⟨_, rfl, ⟨fun _ => unhide HM, fun _ => by omega⟩, rfl⟩
      · go_wp2
        go_round
        case rel => exact ⟨k + 1, by omega, by go_num, hide (by rw [unhide HT, List.mem_append, List.mem_singleton]; exact fun h => h.elim (unhide HN) he)⟩
        case measure => simp [intOf]; omega
    · have hke : xs.take k = xs := List.take_of_length_le (by omega)
      rw [hke] at HN
      go_wp2
      go_ret
      exact ⟨_, rfl, ⟨fun h => absurd h (by decide), fun h => absurd h (unhide HN)⟩, rfl⟩
set_option maxHeartbeats 400000 in
theorem containsI_any (a : Option Addr) (n c : Nat) (xs : List Int) (x : Int) (w : World) (h : IntzAt w a n xs) (hn : n ≤ 1048576) :
    Calls Tryz.prog 75 #[.slice a n c, .int .i64 x] w fun e w' => e = .returned (.bool (decide (x ∈ xs))) ∧ w' = w := by
  have HC := hide (indexI_any a n c xs x w h hn)
  clear h
  go_enter Tryz.func75, Tryz.ntmps75
  go_wp2_with (go_at_call 85; refine (unhide HC).mono ?_; rintro e w1 ⟨r, rfl, hr, hw1⟩; obtain rfl := hw1.symm; clear hw1 HC)
  go_ret
  exact ⟨rfl, rfl⟩
set_option maxHeartbeats 1000000 in
theorem cloneI_any (a : Addr) (n c : Nat) (xs : List Int) (w : World) (h : IntzAt w (some a) n xs) (hn : n ≤ 1048576) :
    Calls Tryz.prog 66 #[.slice (some a) n c] w fun e w' => ∃ v, e = .returned v ∧ OwnZ w' w.heap.size v xs ∧ Below w.heap.size w w' := by
  have hnil := fun wx => Lib.run_eql_slice_nil (P := Tryz.prog) wx 72 3 (some a) n c 0 0 Tryz.underlying72
  obtain ⟨i0, hi, hz0, hz1, hz2⟩ := info_parts info_intZ
  go_enter Tryz.func66, Tryz.ntmps66
  go_wp2_with (first | (at_builtin; refine wpList_append_own _ rfl (.tmp 5) (.tmp 6) 72 rfl w.heap.size 3 i0 (.int .i64 0) 1 8 Tryz.underlying72 hi hz0 hz1 hz2 rfl (by decide) _ _ _ rfl (World.ownsRow_lit _ #[] 0 (Nat.le_refl _) (by decide) rfl) a n c (cellsZ xs) rfl ?c0 ?c1 ?c2 ?c3 ?c4 ?c5 ?_))
  case c0 => rw [cellsZ_length, h.1, Nat.mul_one]
  case c1 =>
    have h2 := h.below ((Below.refl _ _).alloc (Nat.le_refl _) (.cells #[] 3))
    intro j u hj
    obtain ⟨b, off, e, hc⟩ := h2.at (i := j) (by have := (List.getElem?_eq_some_iff.1 hj).1; rw [cellsZ_length, h.1] at this; exact this)
    simp only [Option.some.injEq] at e
    subst e
    have hjl : j < n := by have := (List.getElem?_eq_some_iff.1 hj).1; rw [cellsZ_length, h.1] at this; exact this
    rw [cellsZ_get xs j (by rw [h.1]; exact hjl)] at hj
    rw [show (⟨b, off, none⟩ : Addr).add j = ⟨b, off + j, none⟩ by unfold Addr.add; split <;> simp_all, hc j hjl]
    exact hj
  case c2 => intro u hu; obtain ⟨x, _, rfl⟩ := List.mem_map.1 hu; rfl
  case c3 => unfold maxLen; omega
  case c4 => omega
  case c5 => simp
  intro v' w1 hown hgrow _
  have HB := hide (show Below w.heap.size w w1 from ((Below.refl _ _).alloc (Nat.le_refl _) _).grown hgrow (by simp) (fun k hk => by simp [Value.ownBlock] at hk; omega))
  have HO := hide (show OwnZ w1 w.heap.size v' xs from by have hl := h.1; show w1.ownsRow _ _ _ _ xs.length _; rw [hl]; simpa using hown)
  clear hown hgrow
  go_wp2
  go_ret
  exact ⟨_, rfl, unhide HO, unhide HB⟩

theorem place_emod (b : Int) {n : Nat} (hn : 0 < n) : ((placeN b n : Nat) : Int) = (b.tmod n + n) % n := by
  rw [(place_is b hn).1]
  have h3 : -(n : Int) < b.tmod n := by
    have := Int.lt_tmod_of_pos b (show (0 : Int) < n by omega)
    omega
  exact Int.tmod_eq_emod_of_nonneg (by omega)
theorem around_any (b : Int) (n : Nat) (hn : 0 < n) (hm : n ≤ 1048576) (hb : -9223372036854775808 ≤ b ∧ b ≤ 9223372036854775807) (w : World) :
    Calls Tryz.prog 43 #[.int .i64 b, .int .i64 (n : Int)] w fun e w' => e = .returned (.int .i64 ((placeN b n : Nat) : Int)) ∧ w' = w := by
  have hnz : ¬ ((n : Int) = 0) := by omega
  have h1 := place_emod b hn
  have h2 : (b.tmod n) < n := Int.tmod_lt_of_pos _ (by omega)
  have h3 : -(n : Int) < b.tmod n := by
    have := Int.lt_tmod_of_pos b (show (0 : Int) < n by omega)
    omega
  go_enter Tryz.func43, Tryz.ntmps43
  go_wp2
  go_ret
  exact ⟨congrArg (fun x => Ending.returned (.int .i64 x)) h1.symm, rfl⟩
theorem dist_wrap (d : Nat) (t : Int) (hd : d ≤ 1048576) (ht : -1099511627776 ≤ t ∧ t ≤ 1099511627776) : IntKind.u64.wrap (max (d : Int) t - IntKind.u64.wrap (min (d : Int) t)) = ((distN d t : Nat) : Int) := by
  rw [IntKind.wrap_u64, IntKind.wrap_u64, distN_cast]
  unfold distZ
  split <;> omega
theorem distance_any (d : Nat) (t : Int) (hd : d ≤ 1048576) (ht : -1099511627776 ≤ t ∧ t ≤ 1099511627776) (w : World) :
    Calls Tryz.prog 62 #[.int .i64 (d : Int), .int .i64 t] w fun e w' => e = .returned (.int .u64 ((distN d t : Nat) : Int)) ∧ w' = w := by
  have hmax := max_runZ (d : Int) t
  have hmin := min_runZ (d : Int) t
  go_enter Tryz.func62, Tryz.ntmps62
  go_wp2
  go_ret
  exact ⟨congrArg (fun x => Ending.returned (.int .u64 x)) (dist_wrap d t hd ht), rfl⟩
end Go.Proofs.YtbcgiodgobmkaaaGreatDoor
