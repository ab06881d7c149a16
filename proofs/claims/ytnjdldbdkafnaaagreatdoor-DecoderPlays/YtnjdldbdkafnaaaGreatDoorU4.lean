/-
  How many of the first k bits of a row are set; the xor of two rows bit by bit. Plain lists of words; no condition.
  Slices of texts that can be read ('TextsAt'); slices of texts of the call's own ('OwnT'): made, appended to. No condition.
  Slices of texts ('TextsAt'); contracts of xor.Sum, bucketlineref02.Sum, xor.Of, bucketlineref02.Of, xor.reached: for up to 2^20 texts of at most 2^20 bytes.
  Rows (a slice of words and a text) by value and in slices; contracts of bucketlineref02.Same, xor.Holds, bucketlineref02.Holds.
  Contracts of bucketlineref02.Holds, bucketlinelaw02.few.
  Slices of rows ('RowsAt'); contracts of bucketlinelaw02.Few, xor.vecs.
  Rows that can be read and have as much room as words ('RowsIn'). No condition.
  Memory in which one block is turned ('grownBy' with that block), rows beside it, and 'copy' as a step of a walk. No condition.
-/
import Derived.Test.YtnjdldbdkafnaaaGreatDoorU0
import Derived.Test.YtnjdldbdkafnaaaGreatDoorU2
import Derived.OwnWalk
import Derived.Test.YtnjdldbdkafnaaaGreatDoorU3
import Derived.Deep.RegionWith
import Derived.Lib.QuietBelow
import Derived.Laws.IdiomCopy
import Derived.Laws.NewBlocks
import Derived.Deep.RegionLaw
namespace Go.Proofs.YtnjdldbdkafnaaaGreatDoor

/-- How many of the first k bits are set. -/
def upTo (vs : List Nat) : Nat → Nat
  | 0 => 0
  | k + 1 => upTo vs k + if getB vs k then 1 else 0
theorem upTo_le (vs : List Nat) : ∀ k, upTo vs k ≤ k
  | 0 => Nat.le_refl _
  | k + 1 => by
    have := upTo_le vs k
    unfold upTo
    split <;> omega
theorem upTo_mono (vs : List Nat) (n : Nat) : ∀ d, upTo vs n ≤ upTo vs (n + d)
  | 0 => Nat.le_refl _
  | d + 1 => by
    have := upTo_mono vs n d
    show _ ≤ upTo vs (n + d) + _
    omega
theorem upTo_same (vs : List Nat) (n : Nat) (h : ∀ i, n ≤ i → getB vs i = false) : ∀ d, upTo vs (n + d) = upTo vs n
  | 0 => rfl
  | d + 1 => by
    show upTo vs (n + d) + (if getB vs (n + d) then 1 else 0) = _
    rw [upTo_same vs n h d, h (n + d) (by omega)]
    simp
theorem upTo_more (vs : List Nat) (n d i : Nat) (h1 : n ≤ i) (h2 : i < n + d) (hg : getB vs i = true) : upTo vs n < upTo vs (n + d) := by
  have a := upTo_mono vs n (i - n)
  have b := upTo_mono vs (i + 1) (n + d - (i + 1))
  rw [show n + (i - n) = i from by omega] at a
  rw [show i + 1 + (n + d - (i + 1)) = n + d from by omega] at b
  have c : upTo vs (i + 1) = upTo vs i + 1 := by simp [upTo, hg]
  omega
/-- The bits of one word. -/
def tbs (x : Nat) : Nat → Nat
  | 0 => 0
  | f + 1 => tbs x f + if x.testBit f then 1 else 0
theorem tbs_low (x : Nat) : ∀ f, tbs x (f + 1) = x % 2 + tbs (x / 2) f
  | 0 => by
    have : x.testBit 0 = decide (x % 2 = 1) := Nat.testBit_zero x
    simp only [tbs, this]
    by_cases h : x % 2 = 1
    · simp [h]
    · simp [h]; omega
  | f + 1 => by
    have e : x.testBit (f + 1) = (x / 2).testBit f := by rw [Nat.testBit_succ]
    show tbs x (f + 1) + (if x.testBit (f + 1) then 1 else 0) = x % 2 + (tbs (x / 2) f + if (x / 2).testBit f then 1 else 0)
    rw [tbs_low x f, e]
    omega
theorem popF_tbs : ∀ f x, popF f x = tbs x f
  | 0, x => rfl
  | f + 1, x => by
    rw [tbs_low, ← popF_tbs f (x / 2)]
    rfl
theorem getB_cons_lt (x : Nat) (xs : List Nat) (i : Nat) (h : i < 64) : getB (x :: xs) i = x.testBit i := by
  unfold getB
  rw [show i / 64 = 0 from by omega, show i % 64 = i from by omega]
  rfl
theorem getB_cons_ge (x : Nat) (xs : List Nat) (i : Nat) : getB (x :: xs) (64 + i) = getB xs i := by
  unfold getB
  rw [show (64 + i) / 64 = i / 64 + 1 from by omega, show (64 + i) % 64 = i % 64 from by omega]
  rfl
theorem upTo_head (x : Nat) (xs : List Nat) : ∀ f, f ≤ 64 → upTo (x :: xs) f = tbs x f
  | 0, _ => rfl
  | f + 1, h => by
    show upTo (x :: xs) f + _ = tbs x f + _
    rw [upTo_head x xs f (by omega), getB_cons_lt x xs f (by omega)]
theorem upTo_tail (x : Nat) (xs : List Nat) : ∀ k, upTo (x :: xs) (64 + k) = pop x + upTo xs k
  | 0 => by rw [Nat.add_zero, upTo_head x xs 64 (Nat.le_refl _)]; unfold pop; rw [popF_tbs]; rfl
  | k + 1 => by
    show upTo (x :: xs) (64 + k) + (if getB (x :: xs) (64 + k) then 1 else 0) = pop x + (upTo xs k + if getB xs k then 1 else 0)
    rw [upTo_tail x xs k, getB_cons_ge]
    omega
theorem cnt_upTo : ∀ xs, cnt xs = upTo xs (64 * xs.length)
  | [] => rfl
  | x :: xs => by
    rw [cnt_cons, List.length_cons, show 64 * (xs.length + 1) = 64 + 64 * xs.length from by omega, upTo_tail, cnt_upTo xs]
/-- All bits are among the first n just if no bit is set from n on. -/
theorem upTo_cnt (vs : List Nat) (n : Nat) : upTo vs n = cnt vs ↔ ∀ i, n ≤ i → getB vs i = false := by
  rw [cnt_upTo]
  constructor
  · intro h i hi
    by_cases hl : i < 64 * vs.length
    · cases hg : getB vs i with
      | false => rfl
      | true =>
        have := upTo_more vs n (64 * vs.length - n) i hi (by omega) hg
        rw [show n + (64 * vs.length - n) = 64 * vs.length from by omega] at this
        omega
    · exact getB_out vs i (by omega)
  · intro h
    by_cases hl : n ≤ 64 * vs.length
    · have := upTo_same vs n h (64 * vs.length - n)
      rw [show n + (64 * vs.length - n) = 64 * vs.length from by omega] at this
      omega
    · have := upTo_same vs (64 * vs.length) (fun i hi => getB_out vs i hi) (n - 64 * vs.length)
      rw [show 64 * vs.length + (n - 64 * vs.length) = n from by omega] at this
      omega
theorem getB_xorL (a b : List Nat) (i : Nat) : getB (xorL a b) i = (getB a i ^^ getB b i) := by
  unfold getB
  rw [xorL_getD, Nat.testBit_xor]
theorem getB_nil (i : Nat) : getB [] i = false := getB_out [] i (by simp)
end Go.Proofs.YtnjdldbdkafnaaaGreatDoor
namespace Go.Proofs.YtnjdldbdkafnaaaGreatDoor
open Go.RowKit
set_option linter.unusedVariables false
set_option linter.unusedSimpArgs false
set_option maxRecDepth 4000

/-- A slice of n texts that can be read: they are ss. -/
def TextsAt (w : World) (a : Option Addr) (n : Nat) (ss : List ByteArray) : Prop :=
  ss.length = n ∧ (n = 0 ∨ ∃ b off, a = some ⟨b, off, none⟩ ∧ ∀ i, i < n → w.cell? ⟨b, off + i, none⟩ = some (.string (ss.getD i ByteArray.empty)))
theorem TextsAt.at {w : World} {a : Option Addr} {n : Nat} {ss : List ByteArray} (h : TextsAt w a n ss) {i : Nat} (hi : i < n) :
    ∃ b off, a = some ⟨b, off, none⟩ ∧ ∀ i, i < n → w.cell? ⟨b, off + i, none⟩ = some (.string (ss.getD i ByteArray.empty)) := by
  rcases h.2 with h0 | h0
  · omega
  · exact h0
theorem TextsAt.below {w w' : World} {a : Option Addr} {n : Nat} {ss : List ByteArray} (h : TextsAt w a n ss) (hb : Below w.heap.size w w') : TextsAt w' a n ss := by
  refine ⟨h.1, ?_⟩
  rcases h.2 with h0 | ⟨b, off, rfl, hc⟩
  · exact .inl h0
  · exact .inr ⟨b, off, rfl, fun i hi => (hb.cell (World.block_lt_of_cell? w _ (hc i hi))).trans (hc i hi)⟩
def shorts (ss : List ByteArray) : Prop := ∀ s ∈ ss, s.size ≤ 1048576
theorem shorts.get {ss : List ByteArray} (h : shorts ss) (i : Nat) : (ss.getD i ByteArray.empty).size ≤ 1048576 := by
  rw [List.getD_eq_getElem?_getD]
  cases hx : ss[i]? with
  | none => simp
  | some x => exact h x (List.mem_of_getElem? hx)

theorem TextsAt.none (w : World) : TextsAt w none 0 [] := ⟨rfl, .inl rfl⟩
theorem info_strT : (Tryz.prog.info? 9).map (fun i => (i.zero, i.size, i.bytes)) = some (some (.string ByteArray.empty), 1, 16) := by kernel_rfl
/-- The cells of texts. -/
def cellsT (ss : List ByteArray) : List Value := ss.map Value.string
theorem cellsT_get (ss : List ByteArray) (i : Nat) (h : i < ss.length) : (cellsT ss)[i]? = some (.string (ss.getD i ByteArray.empty)) := by
  simp [cellsT, List.getElem?_eq_getElem h, List.getD_eq_getElem?_getD]
/-- A slice of texts of the call's own that can grow. -/
def OwnT (w : World) (B : Nat) (v : Value) (ss : List ByteArray) : Prop := w.ownsRow B 9 1 v ss.length (cellsT ss)
theorem OwnT.nil (w : World) (B : Nat) : OwnT w B (.slice none 0 0) [] := World.ownsRow_nil _ _ _ _
theorem OwnT.texts {w : World} {B : Nat} {v : Value} {ss : List ByteArray} (h : OwnT w B v ss) : ∃ a c, v = .slice a ss.length c ∧ TextsAt w a ss.length ss := by
  have h' : w.ownsRow B 9 1 v ss.length (cellsT ss) := h
  rcases h.2 with ⟨rfl, h0⟩ | ⟨g, cap, cur, rfl, hb, hg, hn, hm, hsz, ht⟩
  · exact ⟨none, 0, by rw [h0], rfl, .inl h0⟩
  · refine ⟨_, cap, rfl, rfl, .inr ⟨g, 0, rfl, fun i hi => ?_⟩⟩
    rw [Nat.zero_add, h'.cellAt i (by omega), cellsT_get ss i hi]
theorem OwnT.mono {w : World} {B B' : Nat} {v : Value} {ss : List ByteArray} (h : OwnT w B v ss) (hB : B' ≤ B) : OwnT w B' v ss := by
  refine ⟨h.1, ?_⟩
  rcases h.2 with h0 | ⟨g, cap, cur, h1, hb, r⟩
  · exact .inl h0
  · exact .inr ⟨g, cap, cur, h1, Nat.le_trans hB hb, r⟩
theorem OwnT.below {w w' : World} {B : Nat} {v : Value} {ss : List ByteArray} (h : OwnT w B v ss) (hb : Below w.heap.size w w') : OwnT w' B v ss := by
  refine ⟨h.1, ?_⟩
  rcases h.2 with h0 | ⟨g, cap, cur, h1, hg, hgg, r⟩
  · exact .inl h0
  · exact .inr ⟨g, cap, cur, h1, hg, (hb.block g (Array.getElem?_eq_some_iff.1 hgg).1).trans hgg, r⟩
/-- 'append(l, t)'. -/
theorem wpList_pushT {w : World} {ops : Array Oper} {rest : List Oper} {o : Oper} {act : Act} {Q : Exit → Act → World → Prop} (hgd : o.guard = none) (s x : Operand)
    (ho : o.op = .call { callee := .builtin .append, args := #[s, x], argTypes := #[46, 46] }) (B : Nat) (v : Value) (ss : List ByteArray) (t : ByteArray)
    (hs : act.eval s = v) (hx : act.eval x = .slice (some ⟨w.heap.size, 0, none⟩) 1 1) (h : OwnT w B v ss) (hB : B ≤ w.heap.size) (hn : ss.length ≤ 1048576)
    (hK : ∀ s' w', OwnT w' B s' (ss ++ [t]) → Below B w w' → wpList Tryz.prog ops Q rest (act.put o.dst s') w') : wpList Tryz.prog ops Q (o :: rest) act (w.alloc (.cells #[.string t] 9)) := by
  obtain ⟨i0, hi, hz0, hz1, hz2⟩ := info_parts info_strT
  have hb : Below w.heap.size w (w.alloc (.cells #[.string t] 9)) := (Below.refl _ _).alloc (Nat.le_refl _) _
  have h1 : (w.alloc (.cells #[.string t] 9)).ownsRow B 9 1 v ss.length (cellsT ss) := h.below hb
  refine wpList_append_own _ hgd s x 46 ho B 9 i0 (.string ByteArray.empty) 1 16 Tryz.underlying46 hi hz0 hz1 hz2 rfl (by decide) v ss.length (cellsT ss) hs h1 ⟨w.heap.size, 0, none⟩ 1 1 [.string t] hx rfl (fun j u hj => ?_)
    (fun u hu => by rw [List.mem_singleton.1 hu]; rfl) (by unfold maxLen; omega) (by omega) (Nat.le_trans hB hb.size) ?_
  · match j with
    | 0 =>
      have hc : (w.alloc (.cells #[.string t] 9)).cell? ⟨w.heap.size, 0, none⟩ = some (.string t) := by rw [World.cell?_alloc_at _ _ _ _ rfl]; rfl
      simpa [Addr.add, hc] using hj
    | j + 1 => simp at hj
  · intro v' w' hown hgrow _
    refine hK v' w' ?_ ((hb.mono hB).grown hgrow (Nat.le_trans hB hb.size) fun k hk => (h1.lt k hk).1)
    rw [show cellsT ss ++ [.string t] = cellsT (ss ++ [t]) by simp [cellsT]] at hown
    show w'.ownsRow B 9 1 v' (ss ++ [t]).length (cellsT (ss ++ [t]))
    rw [List.length_append]
    exact hown
end Go.Proofs.YtnjdldbdkafnaaaGreatDoor
namespace Go.Proofs.YtnjdldbdkafnaaaGreatDoor
open Go.RowKit
set_option linter.unusedVariables false
set_option linter.unusedSimpArgs false
set_option maxRecDepth 4000

/-- The xor of all. -/
def sumL (ss : List ByteArray) : List Nat := ss.foldl (fun a s => xorL a (tx s)) []
theorem sumL_take (ss : List ByteArray) (k : Nat) (h : k < ss.length) : sumL (ss.take (k + 1)) = xorL (sumL (ss.take k)) (tx (ss.getD k ByteArray.empty)) := by
  unfold sumL
  rw [List.take_succ_eq_append_getElem h, List.foldl_append]
  simp [List.getD_eq_getElem?_getD, List.getElem?_eq_getElem h]
theorem foldl_bytes (ss : List ByteArray) : ∀ a, bytes a → bytes (ss.foldl (fun a s => xorL a (tx s)) a) := by
  induction ss with
  | nil => exact fun a h => h
  | cons s ss ih => exact fun a h => ih _ (xorL_bytes h (tx_bytes s))
theorem sumL_bytes (ss : List ByteArray) : bytes (sumL ss) := foldl_bytes ss [] bytes_nil
theorem foldl_len (ss : List ByteArray) (hs : shorts ss) : ∀ a : List Nat, a.length ≤ 1048576 → (ss.foldl (fun a s => xorL a (tx s)) a).length ≤ 1048576 := by
  induction ss with
  | nil => exact fun a h => h
  | cons s ss ih =>
    intro a h
    refine ih (fun s hs' => hs s (List.mem_cons_of_mem _ hs')) _ ?_
    rw [xorL_length, tx_length]
    have := hs s List.mem_cons_self
    omega
theorem sumL_len (ss : List ByteArray) (hs : shorts ss) (k : Nat) : (sumL (ss.take k)).length ≤ 1048576 := foldl_len _ (fun s h => hs s (List.mem_of_mem_take h)) [] (by simp)
theorem st_size {xs : List Nat} (h : bytes xs) : (st xs).size = xs.length := by rw [← tx_length, tx_st h]
theorem xorS_st {xs : List Nat} (h : bytes xs) (s : ByteArray) : xorS (st xs) s = st (xorL xs (tx s)) := by unfold xorS; rw [tx_st h]

set_option maxHeartbeats 400000 in
theorem sum_any (a : Option Addr) (n c : Nat) (ss : List ByteArray) (w : World) (h : TextsAt w a n ss) (hs : shorts ss) (hn : n ≤ 1048576) :
    Calls Tryz.prog 121 #[.slice a n c] w fun e w' => e = .returned (.string (st (sumL ss))) ∧ Below w.heap.size w w' := by
  go_enter Tryz.func121, Tryz.ntmps121
  go_wp2
  go_loopw [3, 8] (fun v i wr => ∃ k : Nat, k ≤ n ∧ i = .int .i64 k ∧ Hid (OwnB wr w.heap.size v (sumL (ss.take k))) ∧ Hid (Below w.heap.size w wr)) (fun _ i _ => n - (intOf i).toNat)
  case atStart => exact ⟨0, Nat.zero_le _, rfl, hide (OwnB.nil _ _), hide (Below.refl _ _)⟩
  case round =>
    rename_i wr
    obtain ⟨k, hk, rfl, HO, HB⟩ := hrel
    by_cases hlt : k < n
    · obtain ⟨b, off, rfl, hc⟩ := (h.below (unhide HB)).at hlt
      have hcell := hc k hlt
      have H := hide h
      have HS := hide hs
      have hlt' : (k : Int) < (n : Int) := by omega
      clear hc h hs
      go_wp2_with fail
      refine (add_any _ _ _ w.heap.size _ (unhide HO) (unhide HB).size (sumL_len ss (unhide HS) k) ((unhide HS).get k)).mono ?_
      rintro e w1 ⟨v1, rfl, ho1, hb1⟩
      rw [← sumL_take ss k (by rw [(unhide H).1]; exact hlt)] at ho1
      have HO1 := hide ho1
      have HB1 := hide ((unhide HB).trans hb1)
      clear ho1 hb1 HO HB hcell
      go_wp2
      go_roundw
      case rel => exact ⟨k + 1, by omega, by go_num, HO1, HB1⟩
      case measure => simp [intOf]; omega
    · have hct := (unhide HO).text
      have he : ss.take k = ss := List.take_of_length_le (by rw [h.1]; omega)
      rw [he] at hct
      clear h hs he
      go_wp2
      go_ret
      exact ⟨rfl, unhide HB⟩

/-- The xor of the blocks whose bits are set, of the first k. -/
def ofL (ss : List ByteArray) (vs : List Nat) : Nat → List Nat
  | 0 => []
  | k + 1 => if getB vs k then xorL (ofL ss vs k) (tx (ss.getD k ByteArray.empty)) else ofL ss vs k
theorem ofL_bytes (ss : List ByteArray) (vs : List Nat) : ∀ k, bytes (ofL ss vs k)
  | 0 => bytes_nil
  | k + 1 => by
    unfold ofL
    split
    · exact xorL_bytes (ofL_bytes ss vs k) (tx_bytes _)
    · exact ofL_bytes ss vs k
theorem ofL_len (ss : List ByteArray) (vs : List Nat) (hs : shorts ss) : ∀ k, (ofL ss vs k).length ≤ 1048576
  | 0 => by simp [ofL]
  | k + 1 => by
    unfold ofL
    have := ofL_len ss vs hs k
    split
    · rw [xorL_length, tx_length]; have := hs.get k; omega
    · exact this
theorem ofL_yes {ss : List ByteArray} {vs : List Nat} {k : Nat} (h : getB vs k = true) : ofL ss vs (k + 1) = xorL (ofL ss vs k) (tx (ss.getD k ByteArray.empty)) := by simp [ofL, h]
theorem ofL_no {ss : List ByteArray} {vs : List Nat} {k : Nat} (h : getB vs k = false) : ofL ss vs (k + 1) = ofL ss vs k := by simp [ofL, h]

set_option maxHeartbeats 400000 in
theorem of_any (a : Option Addr) (n c : Nat) (ss : List ByteArray) (a' : Option Addr) (m c' : Nat) (vs : List Nat) (w : World) (h : TextsAt w a n ss) (hs : shorts ss) (hn : n ≤ 1048576) (h' : RowAt w a' m vs) (hm : m ≤ 1048576) :
    Calls Tryz.prog 138 #[.slice a n c, .slice a' m c'] w fun e w' => e = .returned (.string (st (ofL ss vs n))) ∧ Below w.heap.size w w' := by
  go_enter Tryz.func138, Tryz.ntmps138
  go_wp2
  go_loopw [5, 10] (fun v i wr => ∃ k : Nat, k ≤ n ∧ i = .int .i64 k ∧ Hid (OwnB wr w.heap.size v (ofL ss vs k)) ∧ Hid (Below w.heap.size w wr)) (fun _ i _ => n - (intOf i).toNat)
  case atStart => exact ⟨0, Nat.zero_le _, rfl, hide (OwnB.nil _ _), hide (Below.refl _ _)⟩
  case round =>
    rename_i wr
    obtain ⟨k, hk, rfl, HO, HB⟩ := hrel
    by_cases hlt : k < n
    · obtain ⟨b, off, rfl, hc⟩ := (h.below (unhide HB)).at hlt
      have hcell := hc k hlt
      have HS := hide hs
      have HR := hide (h'.below (unhide HB))
      have hlt' : (k : Int) < (n : Int) := by omega
      clear hc h hs h'
      go_wp2_with fail
      refine (getN_any a' m c' vs k _ (unhide HR) hm (by omega)).mono ?_
      rintro e w1 ⟨rfl, hb1⟩
      have HO1 := hide ((unhide HO).below hb1)
      have HB1 := hide (below0 (unhide HB) hb1)
      clear HO HB hb1 HR hcell
      cases hg : getB vs k
      · rw [← ofL_no (ss := ss) hg] at HO1
        go_wp2
        go_roundw
        case rel => exact ⟨k + 1, by omega, by go_num, HO1, HB1⟩
        case measure => simp [intOf]; omega
      · go_wp2_with fail
        refine (add_any _ _ _ w.heap.size _ (unhide HO1) (unhide HB1).size (ofL_len ss vs (unhide HS) k) ((unhide HS).get k)).mono ?_
        rintro e w2 ⟨v2, rfl, ho2, hb2⟩
        rw [← ofL_yes hg] at ho2
        have HO2 := hide ho2
        have HB2 := hide ((unhide HB1).trans hb2)
        clear ho2 hb2 HO1 HB1
        go_wp2
        go_roundw
        case rel => exact ⟨k + 1, by omega, by go_num, HO2, HB2⟩
        case measure => simp [intOf]; omega
    · have hke : k = n := by omega
      subst hke
      have hct := (unhide HO).text
      clear h hs h'
      go_wp2
      go_ret
      exact ⟨rfl, unhide HB⟩

end Go.Proofs.YtnjdldbdkafnaaaGreatDoor
namespace Go.Proofs.YtnjdldbdkafnaaaGreatDoor
open Go.RowKit Go.Sort
set_option linter.unusedVariables false
set_option linter.unusedSimpArgs false
set_option maxRecDepth 4000

theorem TextsAt.alloc {w : World} {a : Option Addr} {n : Nat} {ss : List ByteArray} (h : TextsAt w a n ss) (o : Obj) : TextsAt (w.alloc o) a n ss := h.below ((Below.refl _ _).alloc (Nat.le_refl _) _)

/-- What xor.Holds tells. -/
def holdsB (ss : List ByteArray) (vs : List Nat) (s : ByteArray) : Bool := zeroB (xorS (st (ofL ss vs ss.length)) s) && decide (upTo vs ss.length = cnt vs)

end Go.Proofs.YtnjdldbdkafnaaaGreatDoor
namespace Go.Proofs.YtnjdldbdkafnaaaGreatDoor
open Go.RowKit Go.Sort
set_option linter.unusedVariables false
set_option linter.unusedSimpArgs false
set_option maxRecDepth 4000

theorem holdsB_iff (ss : List ByteArray) (vs : List Nat) (s : ByteArray) : holdsB ss vs s = true ↔ zeroB (xorS (st (ofL ss vs ss.length)) s) = true ∧ ∀ i, ss.length ≤ i → getB vs i = false := by
  unfold holdsB
  rw [Bool.and_eq_true, decide_eq_true_eq, upTo_cnt]

end Go.Proofs.YtnjdldbdkafnaaaGreatDoor
namespace Go.Proofs.YtnjdldbdkafnaaaGreatDoor
open Go.RowKit Go.Sort
set_option linter.unusedVariables false
set_option linter.unusedSimpArgs false
set_option maxRecDepth 4000

/-- A row as it lies in memory: its slice of words, what it holds, its text. -/
structure RV where
  a : Option Addr
  n : Nat
  c : Nat
  xs : List Nat
  s : ByteArray
/-- What stands behind the end of a list of rows. -/
def RV.dflt : RV := ⟨none, 0, 0, [], ⟨#[]⟩⟩
/-- A slice of n rows that can be read: they are rs. -/
def RowsAt (w : World) (a : Option Addr) (n : Nat) (rs : List RV) : Prop :=
  rs.length = n ∧ (∀ i, i < n → RowAt w (rs.getD i .dflt).a (rs.getD i .dflt).n (rs.getD i .dflt).xs) ∧ (n = 0 ∨ ∃ b off, a = some ⟨b, off, none⟩ ∧
    ∀ i, i < n → w.cell? ⟨b, off + i * 2, none⟩ = some (.slice (rs.getD i .dflt).a (rs.getD i .dflt).n (rs.getD i .dflt).c) ∧ w.cell? ⟨b, off + i * 2 + 1, none⟩ = some (.string (rs.getD i .dflt).s))
theorem RowsAt.at {w : World} {a : Option Addr} {n : Nat} {rs : List RV} (h : RowsAt w a n rs) {i : Nat} (hi : i < n) :
    ∃ b off, a = some ⟨b, off, none⟩ ∧ ∀ i, i < n → w.cell? ⟨b, off + i * 2, none⟩ = some (.slice (rs.getD i .dflt).a (rs.getD i .dflt).n (rs.getD i .dflt).c) ∧ w.cell? ⟨b, off + i * 2 + 1, none⟩ = some (.string (rs.getD i .dflt).s) := by
  rcases h.2.2 with h0 | h0
  · omega
  · exact h0
theorem RowsAt.below {w w' : World} {a : Option Addr} {n : Nat} {rs : List RV} (h : RowsAt w a n rs) (hb : Below w.heap.size w w') : RowsAt w' a n rs := by
  refine ⟨h.1, fun i hi => (h.2.1 i hi).below hb, ?_⟩
  rcases h.2.2 with h0 | ⟨b, off, rfl, hc⟩
  · exact .inl h0
  · exact .inr ⟨b, off, rfl, fun i hi => ⟨(hb.cell (World.block_lt_of_cell? w _ (hc i hi).1)).trans (hc i hi).1, (hb.cell (World.block_lt_of_cell? w _ (hc i hi).2)).trans (hc i hi).2⟩⟩
/-- Rows that are not too long. -/
def shortR (rs : List RV) : Prop := ∀ i, (rs.getD i .dflt).n ≤ 10 ∧ (rs.getD i .dflt).s.size ≤ 1000
def RetI (e : Ending) (P : Prop) : Prop := (e = .returned (.int .i64 1) ∧ P) ∨ (e = .returned (.int .i64 0) ∧ ¬ P)

end Go.Proofs.YtnjdldbdkafnaaaGreatDoor
namespace Go.Proofs.YtnjdldbdkafnaaaGreatDoor
open Go.RowKit Go.Sort
set_option linter.unusedVariables false
set_option linter.unusedSimpArgs false
set_option maxRecDepth 4000

/-- Each of the rows can be read, and has as much room as words. -/
def RowsIn (w : World) (rs : List RV) : Prop := ∀ r ∈ rs, RowAt w r.a r.n r.xs ∧ r.n ≤ r.c
theorem RowsIn.below {w w' : World} {rs : List RV} (h : RowsIn w rs) (hb : Below w.heap.size w w') : RowsIn w' rs := fun r hr => ⟨(h r hr).1.below hb, (h r hr).2⟩
theorem RowsIn.nil (w : World) : RowsIn w [] := fun r hr => by cases hr
theorem RowsIn.append {w : World} {rs ss : List RV} (h : RowsIn w rs) (k : RowsIn w ss) : RowsIn w (rs ++ ss) := fun r hr => (List.mem_append.1 hr).elim (h r) (k r)
theorem RowsIn.one {w : World} {r : RV} (h : RowAt w r.a r.n r.xs) (hc : r.n ≤ r.c) : RowsIn w [r] := fun x hx => by rw [List.mem_singleton.1 hx]; exact ⟨h, hc⟩
theorem RowsIn.get {w : World} {rs : List RV} (h : RowsIn w rs) {i : Nat} (hi : i < rs.length) : RowAt w (rs.getD i .dflt).a (rs.getD i .dflt).n (rs.getD i .dflt).xs ∧ (rs.getD i .dflt).n ≤ (rs.getD i .dflt).c := by
  have := h rs[i] (List.getElem_mem hi)
  rwa [List.getD_eq_getElem?_getD, List.getElem?_eq_getElem hi]
end Go.Proofs.YtnjdldbdkafnaaaGreatDoor
namespace Go.Proofs.YtnjdldbdkafnaaaGreatDoor
open Go.RowKit
set_option linter.unusedVariables false
set_option linter.unusedSimpArgs false
set_option maxRecDepth 4000

theorem gb_refl (w : World) (r : Option Nat) : w.grownBy w r := ⟨rfl, rfl, rfl, Nat.le_refl _, fun _ _ _ => rfl⟩
theorem gb_of_below {w w' : World} (h : Below w.heap.size w w') (r : Option Nat) : w.grownBy w' r := ⟨h.os, h.tape, h.output, h.size, fun k hk _ => h.block k hk⟩
theorem gb_trans {w w1 w2 : World} {r r' : Option Nat} (h : w.grownBy w1 r) (k : w1.grownBy w2 r') (hr : r' = r ∨ ∀ j, r' = some j → w.heap.size ≤ j) : w.grownBy w2 r := by
  refine ⟨k.os.trans h.os, k.tape.trans h.tape, k.output.trans h.output, Nat.le_trans h.size k.size, fun j hj hne => ?_⟩
  refine (k.block j (Nat.lt_of_lt_of_le hj h.size) fun e => ?_).trans (h.block j hj hne)
  rcases hr with hr | hr
  · exact hne (e.trans hr)
  · have := hr j e.symm; omega
theorem gb_below {w w' : World} {r : Option Nat} (h : w.grownBy w' r) {B : Nat} (hB : B ≤ w.heap.size) (hr : ∀ k, r = some k → B ≤ k) : Below B w w' := (Below.refl B w).grown h hB hr
theorem gb_setCell (w : World) (g i : Nat) (u : Value) : w.grownBy (w.setCell ⟨g, i, none⟩ u) (some g) :=
  ⟨rfl, rfl, rfl, by simp [World.setCell], fun k _ hk => Below.heap_setCell _ _ _ _ (fun e => hk (by rw [e]))⟩
theorem gb_drew {w w' : World} {r : Option Nat} (h : w.grownBy w' r) : w.grownBy w'.drew r := ⟨h.os, h.tape, h.output, h.size, h.block⟩
theorem Own.kept {w w' : World} {B : Nat} {v : Value} {xs : List Nat} {row : Option Nat} (h : Own w B v xs) (hg : w.grownBy w' row) (hd : v.ownBlock = none ∨ v.ownBlock ≠ row) : Own w' B v xs := ⟨h.1, h.2.kept hg hd⟩
theorem Own.lt {w : World} {B : Nat} {v : Value} {xs : List Nat} (h : Own w B v xs) {k : Nat} (hk : v.ownBlock = some k) : B ≤ k ∧ k < w.heap.size := h.2.lt k hk
theorem RowAt.kept {w w' : World} {a : Option Addr} {n : Nat} {xs : List Nat} {row : Option Nat} (h : RowAt w a n xs) (hg : w.grownBy w' row) (hd : n = 0 ∨ ∀ ad, a = some ad → some ad.block ≠ row) : RowAt w' a n xs := by
  refine ⟨h.1, h.2.1, ?_⟩
  rcases h.2.2 with h0 | ⟨b, off, rfl, hc⟩
  · exact .inl h0
  · rcases hd with h0 | hd
    · exact .inl h0
    · exact .inr ⟨b, off, rfl, fun i hi => hg.cell (hc i hi) (hd ⟨b, off, none⟩ rfl)⟩
theorem RowAt.lt {w : World} {a : Option Addr} {n : Nat} {xs : List Nat} (h : RowAt w a n xs) : n = 0 ∨ ∀ ad, a = some ad → ad.block < w.heap.size := by
  rcases h.2.2 with h0 | ⟨b, off, rfl, hc⟩
  · exact .inl h0
  · by_cases h0 : n = 0
    · exact .inl h0
    · right
      intro ad e
      simp only [Option.some.injEq] at e
      subst e
      exact World.block_lt_of_cell? w _ (hc 0 (by omega))
theorem copy_step {o : Oper} {a : Act} {w : World} {K : Act → World → Prop} {Q : Exit → Act → World → Prop} (d s : Operand) (t : TypeId)
    (ho : o.op = .call { callee := .builtin .copy, args := #[d, s], argTypes := #[t, t] }) (v u : Value) (hd : a.eval d = v) (hs : a.eval s = u) {v' : Value} {w' : World}
    (hr : (Builtin.copy_ #[t, t] o.type #[v, u]).run Tryz.prog w = .ok v' w') (h : K (a.put o.dst v') w') : o.wp Tryz.prog a w K Q := by
  unfold Oper.wp execOp
  simp only [ho, resolve, invoke, builtin, Sem.run_bind, Sem.run_pure, Result.andThen_ok, List.map_toArray, List.map_cons, List.map_nil, hd, hs, hr]
  exact h
theorem copy_list {w : World} {ops : Array Oper} {rest : List Oper} {o : Oper} {a : Act} {Q : Exit → Act → World → Prop} (hgd : o.guard = none) (d s : Operand) (t : TypeId)
    (ho : o.op = .call { callee := .builtin .copy, args := #[d, s], argTypes := #[t, t] }) (v u : Value) (hd : a.eval d = v) (hs : a.eval s = u) {v' : Value} {w' : World}
    (hr : (Builtin.copy_ #[t, t] o.type #[v, u]).run Tryz.prog w = .ok v' w') (h : wpList Tryz.prog ops Q rest (a.put o.dst v') w') : wpList Tryz.prog ops Q (o :: rest) a w :=
  wpList_plain hgd fun _ hK => copy_step d s t ho v u hd hs hr (hK _ _ h)

/-- A block of one's own behind a row of stores. -/
theorem setCells_block (g : Nat) (e : TypeId) : ∀ (vs : List Value) (o : Nat) (w : World) (cur : Array Value), w.heap[g]? = some (.cells cur e (0, 0)) →
    ∃ cur', (w.setCells g o vs).heap[g]? = some (.cells cur' e (0, 0)) ∧ cur'.size = cur.size ∧ ∀ j, j < cur.size → cur'[j]? = if o ≤ j ∧ j < o + vs.length then vs[j - o]? else cur[j]?
  | [], o, w, cur, h => ⟨cur, h, rfl, fun j hj => by rw [if_neg (by simp only [List.length_nil]; omega)]⟩
  | v :: r, o, w, cur, h => by
    obtain ⟨cur', h1, h2, h3⟩ := setCells_block g e r (o + 1) (w.setCell ⟨g, o, none⟩ v) (cur.setIfInBounds o v) (heap_setCell_same w g o cur e v h)
    refine ⟨cur', h1, by simpa using h2, fun j hj => ?_⟩
    rw [h3 j (by simpa using hj)]
    by_cases hjo : j = o
    · subst hjo
      rw [if_neg (by omega), if_pos (by simp)]
      simp [hj]
    · by_cases hin : o + 1 ≤ j ∧ j < o + 1 + r.length
      · rw [if_pos hin, if_pos (by simp; omega)]
        rw [show j - o = (j - (o + 1)) + 1 by omega, List.getElem?_cons_succ]
      · rw [if_neg hin, if_neg (by simp; omega)]
        rw [Array.getElem?_setIfInBounds_ne (by omega)]
theorem setCells_gb (g : Nat) : ∀ (vs : List Value) (o : Nat) (w : World), w.grownBy (w.setCells g o vs) (some g)
  | [], o, w => gb_refl _ _
  | v :: r, o, w => gb_trans (gb_setCell w g o v) (setCells_gb g r (o + 1) _) (.inl rfl)
end Go.Proofs.YtnjdldbdkafnaaaGreatDoor
