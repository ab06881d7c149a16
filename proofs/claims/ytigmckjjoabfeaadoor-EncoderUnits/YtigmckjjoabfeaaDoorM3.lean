/-
  Slices of texts that can be read ('TextsAt'); slices of texts of the call's own ('OwnT'): made, appended to. No condition.
  Slices of texts ('TextsAt'); contracts of xor.Sum, bucketlineref02.Sum, xor.Of, bucketlineref02.Of, xor.reached: for up to 2^20 texts of at most 2^20 bytes.
  A row (a slice of words and a text) by value; contract of bucketlineref02.Same; callees in regions that draw their order.
  Rows (a slice of words and a text) by value and in slices; contracts of bucketlineref02.Same, xor.Holds, bucketlineref02.Holds.
  Contracts of bucketlineref02.Holds, bucketlinelaw02.few.
  Which packets may be (CheckP); bools and errors' numbers that tell a proposition. No condition.
  Contracts of packet.within, shaped, bounded, rowed, Check, of bucketlineref07.sizes, Check, and of bucketlinelaw07.few: for every packet.
  Blocks that hold packets, none of them frozen (PkB); all of one written (set7). No condition.
-/
import Derived.Test.YtigmckjjoabfeaaDoorM2
import Derived.OwnWalk
import Derived.Deep.RegionWith
import Derived.Lib.QuietBelow
import Derived.Laws.Rows
namespace Go.Proofs.YtigmckjjoabfeaaDoor
open Go.RowKit
set_option linter.unusedVariables false
set_option maxRecDepth 4000

/-- A slice of n texts that can be read: they are ss. -/
def TextsAt (w : World) (a : Option Addr) (n : Nat) (ss : List ByteArray) : Prop :=
  ss.length = n ∧ (n = 0 ∨ ∃ b off, a = some ⟨b, off, none⟩ ∧ ∀ i, i < n → w.cell? ⟨b, off + i, none⟩ = some (.string (ss.getD i ByteArray.empty)))
theorem TextsAt.at {w : World} {a : Option Addr} {n : Nat} {ss : List ByteArray} (h : TextsAt w a n ss) {i : Nat} (hi : i < n) :
    ∃ b off, a = some ⟨b, off, none⟩ ∧ ∀ i, i < n → w.cell? ⟨b, off + i, none⟩ = some (.string (ss.getD i ByteArray.empty)) := by
  rcases h.2 with h0 | h0
  · omega
  · exact h0
theorem TextsAt.below {w w' : World} {a : Option Addr} {n : Nat} {ss : List ByteArray} (h : TextsAt w a n ss) (hb : Below w.heap.size w w') : TextsAt w' a n ss := by
  refine ⟨h.1, ?_⟩
  rcases h.2 with h0 | ⟨b, off, rfl, hc⟩
  · exact .inl h0
  · exact .inr ⟨b, off, rfl, fun i hi => (hb.cell (World.block_lt_of_cell? w _ (hc i hi))).trans (hc i hi)⟩
def shorts (ss : List ByteArray) : Prop := ∀ s ∈ ss, s.size ≤ 1048576
theorem shorts.get {ss : List ByteArray} (h : shorts ss) (i : Nat) : (ss.getD i ByteArray.empty).size ≤ 1048576 := by
  rw [List.getD_eq_getElem?_getD]
  cases hx : ss[i]? with
  | none => simp
  | some x => exact h x (List.mem_of_getElem? hx)


theorem TextsAt.none (w : World) : TextsAt w none 0 [] := ⟨rfl, .inl rfl⟩
theorem info_strT : (Tryd.prog.info? 9).map (fun i => (i.zero, i.size, i.bytes)) = some (some (.string ByteArray.empty), 1, 16) := by kernel_rfl
/-- The cells of texts. -/
def cellsT (ss : List ByteArray) : List Value := ss.map Value.string
theorem cellsT_length (ss : List ByteArray) : (cellsT ss).length = ss.length := by simp [cellsT]
theorem cellsT_get (ss : List ByteArray) (i : Nat) (h : i < ss.length) : (cellsT ss)[i]? = some (.string (ss.getD i ByteArray.empty)) := by
  simp [cellsT, List.getElem?_eq_getElem h, List.getD_eq_getElem?_getD]
/-- A slice of texts of the call's own that can grow. -/
def OwnT (w : World) (B : Nat) (v : Value) (ss : List ByteArray) : Prop := w.ownsRow B 9 1 v ss.length (cellsT ss)
theorem OwnT.nil (w : World) (B : Nat) : OwnT w B (.slice none 0 0) [] := World.ownsRow_nil _ _ _ _
theorem OwnT.texts {w : World} {B : Nat} {v : Value} {ss : List ByteArray} (h : OwnT w B v ss) : ∃ a c, v = .slice a ss.length c ∧ TextsAt w a ss.length ss := by
  have h' : w.ownsRow B 9 1 v ss.length (cellsT ss) := h
  rcases h.2 with ⟨rfl, h0⟩ | ⟨g, cap, cur, rfl, hb, hg, hn, hm, hsz, ht⟩
  · exact ⟨none, 0, by rw [h0], rfl, .inl h0⟩
  · refine ⟨_, cap, rfl, rfl, .inr ⟨g, 0, rfl, fun i hi => ?_⟩⟩
    rw [Nat.zero_add, h'.cellAt i (by omega), cellsT_get ss i hi]
theorem OwnT.mono {w : World} {B B' : Nat} {v : Value} {ss : List ByteArray} (h : OwnT w B v ss) (hB : B' ≤ B) : OwnT w B' v ss := by
  refine ⟨h.1, ?_⟩
  rcases h.2 with h0 | ⟨g, cap, cur, h1, hb, r⟩
  · exact .inl h0
  · exact .inr ⟨g, cap, cur, h1, Nat.le_trans hB hb, r⟩
theorem OwnT.below {w w' : World} {B : Nat} {v : Value} {ss : List ByteArray} (h : OwnT w B v ss) (hb : Below w.heap.size w w') : OwnT w' B v ss := by
  refine ⟨h.1, ?_⟩
  rcases h.2 with h0 | ⟨g, cap, cur, h1, hg, hgg, r⟩
  · exact .inl h0
  · exact .inr ⟨g, cap, cur, h1, hg, (hb.block g (Array.getElem?_eq_some_iff.1 hgg).1).trans hgg, r⟩
/-- 'append(l, t)'. -/
theorem wpList_pushT {w : World} {ops : Array Oper} {rest : List Oper} {o : Oper} {act : Act} {Q : Exit → Act → World → Prop} (hgd : o.guard = none) (s x : Operand)
    (ho : o.op = .call { callee := .builtin .append, args := #[s, x], argTypes := #[28, 28] }) (B : Nat) (v : Value) (ss : List ByteArray) (t : ByteArray)
    (hs : act.eval s = v) (hx : act.eval x = .slice (some ⟨w.heap.size, 0, none⟩) 1 1) (h : OwnT w B v ss) (hB : B ≤ w.heap.size) (hn : ss.length ≤ 1048576)
    (hK : ∀ s' w', OwnT w' B s' (ss ++ [t]) → Below B w w' → wpList Tryd.prog ops Q rest (act.put o.dst s') w') : wpList Tryd.prog ops Q (o :: rest) act (w.alloc (.cells #[.string t] 9)) := by
  obtain ⟨i0, hi, hz0, hz1, hz2⟩ := info_parts info_strT
  have hb : Below w.heap.size w (w.alloc (.cells #[.string t] 9)) := (Below.refl _ _).alloc (Nat.le_refl _) _
  have h1 : (w.alloc (.cells #[.string t] 9)).ownsRow B 9 1 v ss.length (cellsT ss) := h.below hb
  refine wpList_append_own _ hgd s x 28 ho B 9 i0 (.string ByteArray.empty) 1 16 Tryd.underlying28 hi hz0 hz1 hz2 rfl (by decide) v ss.length (cellsT ss) hs h1 ⟨w.heap.size, 0, none⟩ 1 1 [.string t] hx rfl (fun j u hj => ?_)
    (fun u hu => by rw [List.mem_singleton.1 hu]; rfl) (by unfold maxLen; omega) (by omega) (Nat.le_trans hB hb.size) ?_
  · match j with
    | 0 =>
      have hc : (w.alloc (.cells #[.string t] 9)).cell? ⟨w.heap.size, 0, none⟩ = some (.string t) := by rw [World.cell?_alloc_at _ _ _ _ rfl]; rfl
      simpa [Addr.add, hc] using hj
    | j + 1 => simp at hj
  · intro v' w' hown hgrow _
    refine hK v' w' ?_ ((hb.mono hB).grown hgrow (Nat.le_trans hB hb.size) fun k hk => (h1.lt k hk).1)
    rw [show cellsT ss ++ [.string t] = cellsT (ss ++ [t]) by simp [cellsT]] at hown
    show w'.ownsRow B 9 1 v' (ss ++ [t]).length (cellsT (ss ++ [t]))
    rw [List.length_append]
    exact hown
theorem texts_lit2 (w : World) (s t : ByteArray) : TextsAt (w.alloc (.cells #[.string s, .string t] 9)) (some ⟨w.heap.size, 0, Option.none⟩) 2 [s, t] := by
  refine ⟨rfl, .inr ⟨w.heap.size, 0, rfl, fun i hi => ?_⟩⟩
  match i, hi with
  | 0, _ => simp
  | 1, _ => simp
end Go.Proofs.YtigmckjjoabfeaaDoor
namespace Go.Proofs.YtigmckjjoabfeaaDoor
open Go.RowKit
set_option linter.unusedVariables false
set_option maxRecDepth 4000

/-- The xor of all. -/
def sumL (ss : List ByteArray) : List Nat := ss.foldl (fun a s => xorL a (tx s)) []
theorem sumL_take (ss : List ByteArray) (k : Nat) (h : k < ss.length) : sumL (ss.take (k + 1)) = xorL (sumL (ss.take k)) (tx (ss.getD k ByteArray.empty)) := by
  unfold sumL
  rw [List.take_succ_eq_append_getElem h, List.foldl_append]
  simp [List.getD_eq_getElem?_getD, List.getElem?_eq_getElem h]
theorem foldl_bytes (ss : List ByteArray) : ∀ a, bytes a → bytes (ss.foldl (fun a s => xorL a (tx s)) a) := by
  induction ss with
  | nil => exact fun a h => h
  | cons s ss ih => exact fun a h => ih _ (xorL_bytes h (tx_bytes s))
theorem sumL_bytes (ss : List ByteArray) : bytes (sumL ss) := foldl_bytes ss [] bytes_nil
theorem foldl_len (ss : List ByteArray) (hs : shorts ss) : ∀ a : List Nat, a.length ≤ 1048576 → (ss.foldl (fun a s => xorL a (tx s)) a).length ≤ 1048576 := by
  induction ss with
  | nil => exact fun a h => h
  | cons s ss ih =>
    intro a h
    refine ih (fun s hs' => hs s (List.mem_cons_of_mem _ hs')) _ ?_
    rw [xorL_length, tx_length]
    have := hs s List.mem_cons_self
    omega
theorem sumL_len (ss : List ByteArray) (hs : shorts ss) (k : Nat) : (sumL (ss.take k)).length ≤ 1048576 := foldl_len _ (fun s h => hs s (List.mem_of_mem_take h)) [] (by simp)
theorem st_size {xs : List Nat} (h : bytes xs) : (st xs).size = xs.length := by rw [← tx_length, tx_st h]
theorem xorS_st {xs : List Nat} (h : bytes xs) (s : ByteArray) : xorS (st xs) s = st (xorL xs (tx s)) := by unfold xorS; rw [tx_st h]



/-- The xor of the blocks whose bits are set, of the first k. -/
def ofL (ss : List ByteArray) (vs : List Nat) : Nat → List Nat
  | 0 => []
  | k + 1 => if getB vs k then xorL (ofL ss vs k) (tx (ss.getD k ByteArray.empty)) else ofL ss vs k
theorem ofL_bytes (ss : List ByteArray) (vs : List Nat) : ∀ k, bytes (ofL ss vs k)
  | 0 => bytes_nil
  | k + 1 => by
    unfold ofL
    split
    · exact xorL_bytes (ofL_bytes ss vs k) (tx_bytes _)
    · exact ofL_bytes ss vs k
theorem ofL_len (ss : List ByteArray) (vs : List Nat) (hs : shorts ss) : ∀ k, (ofL ss vs k).length ≤ 1048576
  | 0 => by simp [ofL]
  | k + 1 => by
    unfold ofL
    have := ofL_len ss vs hs k
    split
    · rw [xorL_length, tx_length]; have := hs.get k; omega
    · exact this
theorem ofL_yes {ss : List ByteArray} {vs : List Nat} {k : Nat} (h : getB vs k = true) : ofL ss vs (k + 1) = xorL (ofL ss vs k) (tx (ss.getD k ByteArray.empty)) := by simp [ofL, h]
theorem ofL_no {ss : List ByteArray} {vs : List Nat} {k : Nat} (h : getB vs k = false) : ofL ss vs (k + 1) = ofL ss vs k := by simp [ofL, h]

set_option maxHeartbeats 400000 in
theorem of_any (a : Option Addr) (n c : Nat) (ss : List ByteArray) (a' : Option Addr) (m c' : Nat) (vs : List Nat) (w : World) (h : TextsAt w a n ss) (hs : shorts ss) (hn : n ≤ 1048576) (h' : RowAt w a' m vs) (hm : m ≤ 1048576) :
    Calls Tryd.prog 33 #[.slice a n c, .slice a' m c'] w fun e w' => e = .returned (.string (st (ofL ss vs n))) ∧ Below w.heap.size w w' := by
  go_enter Tryd.func33, Tryd.ntmps33
  go_wp2
  go_loopw [5, 10] (fun v i wr => ∃ k : Nat, k ≤ n ∧ i = .int .i64 k ∧ Hid (OwnB wr w.heap.size v (ofL ss vs k)) ∧ Hid (Below w.heap.size w wr)) (fun _ i _ => n - (intOf i).toNat)
  case atStart => exact ⟨0, Nat.zero_le _, rfl, hide (OwnB.nil _ _), hide (Below.refl _ _)⟩
  case round =>
    rename_i wr
    obtain ⟨k, hk, rfl, HO, HB⟩ := hrel
    by_cases hlt : k < n
    · obtain ⟨b, off, rfl, hc⟩ := (h.below (unhide HB)).at hlt
      have hcell := hc k hlt
      have HS := hide hs
      have HR := hide (h'.below (unhide HB))
      have hlt' : (k : Int) < (n : Int) := by omega
      clear hc h hs h'
      go_wp2_with fail
      refine (getN_any a' m c' vs k _ (unhide HR) hm (by omega)).mono ?_
      rintro e w1 ⟨rfl, hb1⟩
      have HO1 := hide ((unhide HO).below hb1)
      have HB1 := hide (below0 (unhide HB) hb1)
      clear HO HB hb1 HR hcell
      cases hg : getB vs k
      · rw [← ofL_no (ss := ss) hg] at HO1
        go_wp2
        go_roundw
        case rel => exact ⟨k + 1, by omega, by go_num, HO1, HB1⟩
        case measure => simp [intOf]; omega
      · go_wp2_with fail
        refine (add_any _ _ _ w.heap.size _ (unhide HO1) (unhide HB1).size (ofL_len ss vs (unhide HS) k) ((unhide HS).get k)).mono ?_
        rintro e w2 ⟨v2, rfl, ho2, hb2⟩
        rw [← ofL_yes hg] at ho2
        have HO2 := hide ho2
        have HB2 := hide ((unhide HB1).trans hb2)
        clear ho2 hb2 HO1 HB1
        go_wp2
        go_roundw
        case rel => exact ⟨k + 1, by omega, by go_num, HO2, HB2⟩
        case measure => simp [intOf]; omega
    · have hke : k = n := by omega
      subst hke
      have hct := (unhide HO).text
      clear h hs h'
      go_wp2
      go_ret
      exact ⟨rfl, unhide HB⟩

set_option maxHeartbeats 400000 in
theorem rof_any (a : Option Addr) (n c : Nat) (ss : List ByteArray) (a' : Option Addr) (m c' : Nat) (vs : List Nat) (w : World) (h : TextsAt w a n ss) (hs : shorts ss) (hn : n ≤ 1048576) (h' : RowAt w a' m vs) (hm : m ≤ 1048576) :
    Calls Tryd.prog 40 #[.slice a n c, .slice a' m c'] w fun e w' => e = .returned (.string (st (ofL ss vs n))) ∧ Below w.heap.size w w' := by
  go_enter Tryd.func40, Tryd.ntmps40
  go_wp2
  go_loopw [5, 6] (fun v i wr => ∃ k : Nat, ∃ t : ByteArray, k ≤ n ∧ i = .int .i64 k ∧ v = .string t ∧ Hid (t = st (ofL ss vs k)) ∧ Hid (Below w.heap.size w wr)) (fun _ i _ => n - (intOf i).toNat)
  case atStart => exact ⟨0, _, Nat.zero_le _, rfl, rfl, hide rfl, hide (Below.refl _ _)⟩
  case round =>
    rename_i wr
    obtain ⟨k, t, hk, rfl, rfl, HT, HB⟩ := hrel
    by_cases hlt : k < n
    · obtain ⟨b, off, rfl, hc⟩ := (h.below (unhide HB)).at hlt
      have hcell := hc k hlt
      have HS := hide hs
      have HR := hide (h'.below (unhide HB))
      have hlt' : (k : Int) < (n : Int) := by omega
      clear hc h hs h'
      go_wp2_with fail
      refine (rgetN_any a' m c' vs k _ (unhide HR) hm (by omega)).mono ?_
      rintro e w1 ⟨rfl, hw⟩
      obtain rfl := hw.symm
      clear HR
      cases hg : getB vs k
      · rw [← ofL_no (ss := ss) hg] at HT
        go_wp2
        go_roundw
        case rel => exact ⟨k + 1, _, by omega, by go_num, rfl, HT, HB⟩
        case measure => simp [intOf]; omega
      · go_wp2_with fail
        refine (rx_any t _ _ (by rw [unhide HT, st_size (ofL_bytes _ _ _)]; exact ofL_len ss vs (unhide HS) k) ((unhide HS).get k)).mono ?_
        rintro e w2 ⟨rfl, hb2⟩
        have HT1 := hide (show xorS t (ss.getD k ByteArray.empty) = st (ofL ss vs (k + 1)) from by rw [unhide HT, xorS_st (ofL_bytes _ _ _), ofL_yes hg])
        have HB1 := hide (below0 (unhide HB) hb2)
        clear hb2 HT HB hcell
        go_wp2
        go_roundw
        case rel => exact ⟨k + 1, _, by omega, by go_num, rfl, HT1, HB1⟩
        case measure => simp [intOf]; omega
    · have hke : k = n := by omega
      subst hke
      clear h hs h'
      go_wp2
      go_ret
      exact ⟨ret_str (unhide HT), unhide HB⟩

end Go.Proofs.YtigmckjjoabfeaaDoor
namespace Go.Proofs.YtigmckjjoabfeaaDoor
open Go.RowKit Go.Sort
set_option linter.unusedVariables false
set_option maxRecDepth 4000

/-- A block that holds a row. -/
def BoxAt (w : World) (g : Nat) (x y : Value) : Prop := w.cell? ⟨g, 0, none⟩ = some x ∧ w.cell? ⟨g, 1, none⟩ = some y
theorem box_new (w : World) (x y : Value) : BoxAt (w.alloc (.cells #[x, y] 46)) w.heap.size x y := by
  constructor <;> simp
theorem BoxAt.below {w w' : World} {g : Nat} {x y : Value} (h : BoxAt w g x y) (hb : Below w.heap.size w w') : BoxAt w' g x y :=
  ⟨(hb.cell (World.block_lt_of_cell? w _ h.1)).trans h.1, (hb.cell (World.block_lt_of_cell? w _ h.2)).trans h.2⟩
theorem BoxAt.alloc {w : World} {g : Nat} {x y : Value} (h : BoxAt w g x y) (o : Obj) : BoxAt (w.alloc o) g x y := h.below ((Below.refl _ _).alloc (Nat.le_refl _) _)

set_option maxHeartbeats 400000 in
theorem rsame2_any (a : Option Addr) (n c : Nat) (xs : List Nat) (s : ByteArray) (a' : Option Addr) (m c' : Nat) (ys : List Nat) (t : ByteArray) (w : World) (h : RowAt w a n xs) (h' : RowAt w a' m ys) (hn : n ≤ 1048576) (hm : m ≤ 1048576) :
    Calls Tryd.prog 27 #[.agg #[.slice a n c, .string s], .agg #[.slice a' m c', .string t]] w fun e w' => e = .returned (.bool (decide (cnt (xorL xs ys) = 0) && decide (s = t))) ∧ Below w.heap.size w w' := by
  have hst := eq_texts s t
  have H := hide h
  have H' := hide h'
  clear h h'
  go_enter Tryd.func27, Tryd.ntmps27
  go_wp2_with fail
  refine (rsame_any a n c xs a' m c' ys _ (row_alloc (row_alloc (unhide H) _) _) (row_alloc (row_alloc (unhide H') _) _) hn hm).mono ?_
  rintro e w1 ⟨rfl, hb⟩
  have hx1 := ((box_new w (.slice a n c) (.string s)).alloc (.cells #[.slice a' m c', .string t] 46)).below hb
  have hx2 := (box_new (w.alloc (.cells #[.slice a n c, .string s] 46)) (.slice a' m c') (.string t)).below hb
  rw [alloc_size] at hx2
  obtain ⟨_, hc1⟩ := hx1
  obtain ⟨_, hc2⟩ := hx2
  have HB := hide (below2 (Below.refl _ w) hb)
  clear hb
  cases hd : decide (cnt (xorL xs ys) = 0)
  · go_wp2
    go_ret
    exact ⟨ret_bool (by rw [hd]; rfl), unhide HB⟩
  · go_wp2
    go_ret
    exact ⟨ret_bool (by rw [hd]; rfl), unhide HB⟩

/-- A callee in a region that draws its order, in whatever world that region can have come to. -/
theorem quietB {W : World} {f : FuncId} {args : Array Value} {v : Value} (h : ∀ w', Below W.heap.size W w' → Calls Tryd.prog f args w' fun e w'' => e = .returned v ∧ Below w'.heap.size w' w'') (d : Nat) (os : Array Obj) :
    Calls Tryd.prog f args (grow (redrawn W d) os) fun e w'' => e = .returned v ∧ ∃ p : Regrown, w'' = grow (redrawn W p.d) p.os :=
  Calls.regrown_of (h _ (below_regrown W d os))
theorem same_below {f : FuncId} {args : Array Value} {v : Value} {w : World} (h : Calls Tryd.prog f args w fun e w'' => e = .returned v ∧ w'' = w) : Calls Tryd.prog f args w fun e w'' => e = .returned v ∧ Below w.heap.size w w'' :=
  h.mono fun e w' ⟨he, hw⟩ => ⟨he, by rw [hw]; exact Below.refl _ _⟩
end Go.Proofs.YtigmckjjoabfeaaDoor
namespace Go.Proofs.YtigmckjjoabfeaaDoor
open Go.RowKit Go.Sort
set_option linter.unusedVariables false
set_option maxRecDepth 4000

theorem TextsAt.alloc {w : World} {a : Option Addr} {n : Nat} {ss : List ByteArray} (h : TextsAt w a n ss) (o : Obj) : TextsAt (w.alloc o) a n ss := h.below ((Below.refl _ _).alloc (Nat.le_refl _) _)

theorem holds_yes {vs : List Nat} {n : Nat} : (((upTo vs n : Nat) : Int) == ((cnt vs : Nat) : Int)) = decide (upTo vs n = cnt vs) := by
  by_cases h : upTo vs n = cnt vs
  · simp [h]
  · simp [h]; omega
/-- What xor.Holds tells. -/
def holdsB (ss : List ByteArray) (vs : List Nat) (s : ByteArray) : Bool := zeroB (xorS (st (ofL ss vs ss.length)) s) && decide (upTo vs ss.length = cnt vs)

end Go.Proofs.YtigmckjjoabfeaaDoor
namespace Go.Proofs.YtigmckjjoabfeaaDoor
open Go.RowKit Go.Sort
set_option linter.unusedVariables false
set_option maxRecDepth 4000

theorem holdsB_iff (ss : List ByteArray) (vs : List Nat) (s : ByteArray) : holdsB ss vs s = true ↔ zeroB (xorS (st (ofL ss vs ss.length)) s) = true ∧ ∀ i, ss.length ≤ i → getB vs i = false := by
  unfold holdsB
  rw [Bool.and_eq_true, decide_eq_true_eq, upTo_cnt]
theorem holdsB_bit {ss : List ByteArray} {vs : List Nat} {s : ByteArray} {k : Nat} (hk : ss.length ≤ k) (hg : getB vs k = true) : holdsB ss vs s = false := by
  rw [← Bool.not_eq_true, holdsB_iff]
  intro h
  rw [h.2 k hk] at hg
  cases hg
theorem holdsB_byte {ss : List ByteArray} {vs : List Nat} {s : ByteArray} (hg : zeroB (xorS (st (ofL ss vs ss.length)) s) = false) : holdsB ss vs s = false := by
  unfold holdsB
  rw [hg]; rfl

set_option maxHeartbeats 1000000 in
theorem rholds_any (a : Option Addr) (n c : Nat) (ss : List ByteArray) (a' : Option Addr) (m c' : Nat) (vs : List Nat) (s : ByteArray) (w : World) (h : TextsAt w a n ss) (hs : shorts ss) (hn : n ≤ 1048576) (h' : RowAt w a' m vs) (hm : m ≤ 1048576) (hz : s.size ≤ 1048576) :
    Calls Tryd.prog 20 #[.slice a n c, .agg #[.slice a' m c', .string s]] w fun e w' => e = .returned (.bool (holdsB ss vs s)) ∧ Below w.heap.size w w' := by
  obtain rfl := h.1
  have hx := box_new w (.slice a' m c') (.string s)
  have h0 := h.alloc (.cells #[.slice a' m c', .string s] 46)
  have r0 := row_alloc h' (.cells #[.slice a' m c', .string s] 46)
  have b0 := (Below.refl _ w).alloc (Nat.le_refl _) (.cells #[.slice a' m c', .string s] 46)
  have hsz : (st (ofL ss vs ss.length)).size ≤ 1048576 := by rw [st_size (ofL_bytes _ _ _)]; exact ofL_len ss vs hs _
  have hsz2 : (xorS (st (ofL ss vs ss.length)) s).size ≤ 1048576 := by rw [xorS_size]; omega
  have k0 := hide (cell_regrown hx.1)
  have k1 := hide (cell_regrown hx.2)
  have cOf := hide (quietB (fun w' hb => rof_any a _ c ss a' m c' vs w' (h0.below hb) hs hn (r0.below hb) hm))
  have cXor := hide (quietB (W := w.alloc (.cells #[.slice a' m c', .string s] 46)) (fun w' hb => rx_any (st (ofL ss vs ss.length)) s w' hsz hz))
  have B0 := hide b0
  have R0 := hide r0
  have hml : Hid (vs.length = m) := hide h'.1
  clear h hs h' h0 r0 b0 hx hsz
  go_enter Tryd.func20, Tryd.ntmps20
  go_wp2
  go_loop [5] (fun i => ∃ k : Nat, ss.length ≤ k ∧ k ≤ 67108864 ∧ i = .int .i64 k ∧ Hid (∀ j, ss.length ≤ j → j < k → getB vs j = false)) (fun i => 64 * m - (intOf i).toNat)
  case atStart => exact ⟨ss.length, Nat.le_refl _, by omega, rfl, hide (fun j h1 h2 => by omega)⟩
  case round =>
    obtain ⟨k, hk, hkm, rfl, HZ⟩ := hrel
    by_cases hlt : k < 64 * m
    · have hlt' : decide ((k : Int) < 64 * (m : Int)) = true := by simp; omega
      go_wp2_with fail
      refine (rgetN_any a' m c' vs k _ (unhide R0) hm (by omega)).mono ?_
      rintro e w1 ⟨rfl, hw⟩
      subst hw
      cases hg : getB vs k
      · have HS := hide (show ∀ j, ss.length ≤ j → j < k + 1 → getB vs j = false from fun j h1 h2 => by
          by_cases e : j = k
          · rw [e]; exact hg
          · exact unhide HZ j h1 (by omega))
        clear hg HZ
        go_wp2
        go_round
        case rel => exact ⟨k + 1, by omega, by omega, by go_num, HS⟩
        case measure => simp [intOf]; omega
      · have HE := hide (holdsB_bit (s := s) hk hg)
        clear hg HZ
        go_wp2
        go_ret
        exact ⟨ret_bool (unhide HE).symm, unhide B0⟩
    · have hlt' : decide ((k : Int) < 64 * (m : Int)) = false := by simp; omega
      have HA := hide (show ∀ j, ss.length ≤ j → getB vs j = false from fun j h1 => by
        by_cases e : j < k
        · exact unhide HZ j h1 e
        · exact getB_out vs j (by rw [unhide hml]; omega))
      clear HZ
      go_wp2_with fail
      have k0 := unhide k0
      have k1 := unhide k1
      have cOf := unhide cOf
      have cXor := unhide cXor
      refine wp_region_quiet_below (by kernel_rfl) (by kernel_rfl) ?_
      repeat (with_reducible refine wpQuiet_step (fun K hK => ?_); go_simp; first | (with_reducible refine hK _ ?_; clear hK K) | (apply Exists.intro; apply And.intro; (intro _; first | (go_at_call 40; exact cOf _ _) | (go_at_call 45; exact cXor _ _)); with_reducible refine hK _ ?_; clear hK K))
      refine wpQuiet_nil ?_
      intro _ hw'
      obtain ⟨⟨dq, osq⟩, hw''⟩ := hw'
      subst hw''
      have B1 := hide (below0 (unhide B0) (below_regrown _ dq osq))
      have HE : Hid (∀ z, zeroB (xorS (st (ofL ss vs ss.length)) s) = z → holdsB ss vs s = z) := hide (fun z hz => by
        cases z with
        | false => exact holdsB_byte hz
        | true => exact (holdsB_iff ss vs s).2 ⟨hz, unhide HA⟩)
      generalize grow _ _ = wq at *
      generalize xorS (st (ofL ss vs ss.length)) s = x at *
      clear HA k0 k1 cOf cXor hlt hlt'
      go_wp2
      go_loop [7] (fun i => ∃ k : Nat, k ≤ x.size ∧ i = .int .i64 k ∧ Hid (∀ j, j < k → (tx x).getD j 0 = 0)) (fun i => x.size - (intOf i).toNat)
      case atStart => exact ⟨0, Nat.zero_le _, rfl, hide (fun j hj => by omega)⟩
      case round =>
        obtain ⟨k, hk, rfl, HZ⟩ := hrel
        by_cases hlt : k < x.size
        · have hlt' : (k : Int) < (x.size : Int) := by omega
          have hg := tx_get x k hlt
          by_cases h0 : x[k].toNat = 0
          · have hne : (((x[k].toNat : Nat) : Int) != 0) = false := by rw [h0]; rfl
            have HS := hide (zeroS_step (unhide HZ) (by rw [← hg]; exact h0))
            clear hg h0 HZ
            go_wp2
            go_round
            case rel => exact ⟨k + 1, by omega, by go_num, HS⟩
            case measure => simp [intOf]; omega
          · have hne : (((x[k].toNat : Nat) : Int) != 0) = true := by rw [bne_iff_ne]; omega
            have HF := hide (unhide HE false (show zeroB x = false from by
              rw [← Bool.not_eq_true]
              intro h
              exact h0 (by rw [hg]; exact (zeroB_iff x).1 h k)))
            clear hg h0 HZ
            go_wp2
            go_ret
            exact ⟨ret_bool (unhide HF).symm, unhide B1⟩
        · have HF := hide (unhide HE true (show zeroB x = true from by
            rw [zeroB_iff]
            intro i
            by_cases hi : i < k
            · exact unhide HZ i hi
            · exact getD_of_le (by rw [tx_length]; omega)))
          go_wp2
          go_ret
          exact ⟨ret_bool (unhide HF).symm, unhide B1⟩

/-- Texts that are not too many nor too long. -/
def FewT (ss : List ByteArray) : Prop := ss.length ≤ 300 ∧ ∀ i, (ss.getD i ByteArray.empty).size ≤ 1000
theorem FewT.shorts {ss : List ByteArray} (h : FewT ss) : shorts ss := by
  intro s hs
  obtain ⟨i, hi, rfl⟩ := List.mem_iff_getElem.1 hs
  have := h.2 i
  rw [List.getD_eq_getElem?_getD, List.getElem?_eq_getElem hi] at this
  simp at this
  omega
/-- What few tells, behind a name. -/
def RetP (e : Ending) (P : Prop) : Prop := ∃ b : Bool, e = .returned (.bool b) ∧ (b = true ↔ P)
end Go.Proofs.YtigmckjjoabfeaaDoor
namespace Go.Proofs.YtigmckjjoabfeaaDoor
set_option linter.unusedVariables false
set_option maxRecDepth 4000

/-- A bool that tells P. -/
def TB (b : Bool) (P : Prop) : Prop := b = true ↔ P
theorem tb_ex (P : Prop) : ∃ b, TB b P := by
  by_cases h : P
  · exact ⟨true, by simp [TB, h]⟩
  · exact ⟨false, by simp [TB, h]⟩
theorem TB.no {b : Bool} {P : Prop} (h : TB b P) (hp : ¬ P) : b = false := by
  cases b
  · rfl
  · exact absurd (h.1 rfl) hp
theorem TB.yes {b : Bool} {P : Prop} (h : TB b P) (hp : P) : b = true := h.2 hp
/-- The error's number of what may be, or not. -/
def CkP (en : Nat) (P : Prop) : Prop := (P ∧ en = 0) ∨ (¬ P ∧ en = 1)
theorem ck_ex (P : Prop) : ∃ en, CkP en P := by
  by_cases h : P
  · exact ⟨0, .inl ⟨h, rfl⟩⟩
  · exact ⟨1, .inr ⟨h, rfl⟩⟩
theorem CkP.yes {en : Nat} {P : Prop} (h : CkP en P) (hp : P) : en = 0 := by
  rcases h with ⟨_, h⟩ | ⟨h, _⟩
  · exact h
  · exact absurd hp h
theorem CkP.no {en : Nat} {P : Prop} (h : CkP en P) (hp : ¬ P) : en = 1 := by
  rcases h with ⟨h, _⟩ | ⟨_, h⟩
  · exact absurd h hp
  · exact h

def shapedP (k z : Int) : Prop := (1 ≤ k ∧ k ≤ 128) ∧ 1 ≤ z ∧ z ≤ 64
def boundP (o l k z h : Int) : Prop := shapedP k z ∧ (0 ≤ o ∧ o ≤ 4294967295) ∧ (0 ≤ l ∧ l ≤ k * z) ∧ 0 ≤ h ∧ h ≤ 15
def rowedP (k z : Int) (xs : List Nat) (n : Nat) : Prop := ValidP k xs ∧ 0 < cnt xs ∧ (n : Int) = z
/-- A packet that may be: n is how many bytes its text has. -/
def CheckP (o l k z h : Int) (xs : List Nat) (n : Nat) : Prop := boundP o l k z h ∧ rowedP k z xs n
theorem mul_le {k z : Int} (h : shapedP k z) : 0 ≤ k * z ∧ k * z ≤ 8192 := by
  obtain ⟨⟨h1, h2⟩, h3, h4⟩ := h
  have e1 : 0 ≤ k * z := Int.mul_nonneg (by omega) (by omega)
  have e2 : k * z ≤ 128 * z := Int.mul_le_mul_of_nonneg_right h2 (by omega)
  omega

end Go.Proofs.YtigmckjjoabfeaaDoor
namespace Go.Proofs.YtigmckjjoabfeaaDoor
open Go.RowKit
set_option linter.unusedVariables false
set_option maxRecDepth 4000

/-- A block that holds a packet. -/
def PkAt (w : World) (g : Nat) (v0 v1 v2 v3 v4 v5 v6 : Value) : Prop :=
  w.cell? ⟨g, 0, none⟩ = some v0 ∧ w.cell? ⟨g, 1, none⟩ = some v1 ∧ w.cell? ⟨g, 2, none⟩ = some v2 ∧ w.cell? ⟨g, 3, none⟩ = some v3 ∧ w.cell? ⟨g, 4, none⟩ = some v4 ∧ w.cell? ⟨g, 5, none⟩ = some v5 ∧ w.cell? ⟨g, 6, none⟩ = some v6
theorem pk_new (w : World) (v0 v1 v2 v3 v4 v5 v6 : Value) : PkAt (w.alloc (.cells #[v0, v1, v2, v3, v4, v5, v6] 48)) w.heap.size v0 v1 v2 v3 v4 v5 v6 := by
  refine ⟨?_, ?_, ?_, ?_, ?_, ?_, ?_⟩ <;> simp
theorem PkAt.below {w w' : World} {g : Nat} {v0 v1 v2 v3 v4 v5 v6 : Value} (h : PkAt w g v0 v1 v2 v3 v4 v5 v6) (hb : Below w.heap.size w w') : PkAt w' g v0 v1 v2 v3 v4 v5 v6 := by
  obtain ⟨h0, h1, h2, h3, h4, h5, h6⟩ := h
  have e : ∀ o, w'.cell? ⟨g, o, none⟩ = w.cell? ⟨g, o, none⟩ := fun o => hb.cell (show g < w.heap.size from World.block_lt_of_cell? w ⟨g, 0, none⟩ h0)
  exact ⟨(e _).trans h0, (e _).trans h1, (e _).trans h2, (e _).trans h3, (e _).trans h4, (e _).trans h5, (e _).trans h6⟩
theorem PkAt.alloc {w : World} {g : Nat} {v0 v1 v2 v3 v4 v5 v6 : Value} (h : PkAt w g v0 v1 v2 v3 v4 v5 v6) (o : Obj) : PkAt (w.alloc o) g v0 v1 v2 v3 v4 v5 v6 := h.below ((Below.refl _ _).alloc (Nat.le_refl _) _)
theorem below_new (w : World) (o : Obj) : Below w.heap.size w (w.alloc o) := (Below.refl _ _).alloc (Nat.le_refl _) _




theorem valid_len {k : Int} {xs : List Nat} (h : ValidP k xs) : xs.length ≤ 2 := by
  have := sizeOfK_le k
  have := h.2.1
  omega


end Go.Proofs.YtigmckjjoabfeaaDoor
namespace Go.Proofs.YtigmckjjoabfeaaDoor
open Go.RowKit Go.Sort
set_option linter.unusedVariables false
set_option maxRecDepth 4000

/-- A block that holds a packet, none of it frozen. -/
def PkB (w : World) (g : Nat) (v0 v1 v2 v3 v4 v5 v6 : Value) : Prop := w.heap[g]? = some (.cells #[v0, v1, v2, v3, v4, v5, v6] 48 (0, 0))
theorem pkb_new (w : World) (v0 v1 v2 v3 v4 v5 v6 : Value) : PkB (w.alloc (.cells #[v0, v1, v2, v3, v4, v5, v6] 48)) w.heap.size v0 v1 v2 v3 v4 v5 v6 := by
  show (w.heap.push _)[w.heap.size]? = _
  simp
theorem PkB.lt {w : World} {g : Nat} {v0 v1 v2 v3 v4 v5 v6 : Value} (h : PkB w g v0 v1 v2 v3 v4 v5 v6) : g < w.heap.size := (Array.getElem?_eq_some_iff.1 h).1
theorem PkB.below {w w' : World} {g : Nat} {v0 v1 v2 v3 v4 v5 v6 : Value} (h : PkB w g v0 v1 v2 v3 v4 v5 v6) (hb : Below w.heap.size w w') : PkB w' g v0 v1 v2 v3 v4 v5 v6 := (hb.block g h.lt).trans h
theorem PkB.at {w : World} {g : Nat} {v0 v1 v2 v3 v4 v5 v6 : Value} (h : PkB w g v0 v1 v2 v3 v4 v5 v6) : PkAt w g v0 v1 v2 v3 v4 v5 v6 := by
  unfold PkB at h
  refine ⟨?_, ?_, ?_, ?_, ?_, ?_, ?_⟩ <;> rw [cell_of_row w g _ _ _ _ h] <;> rfl
theorem PkB.frz {w : World} {g : Nat} {v0 v1 v2 v3 v4 v5 v6 : Value} (h : PkB w g v0 v1 v2 v3 v4 v5 v6) (i : Nat) : w.frozen? ⟨g, i, none⟩ = false := by
  unfold PkB at h
  simp [World.frozen?, h]
theorem PkB.other {w : World} {g : Nat} {v0 v1 v2 v3 v4 v5 v6 : Value} (h : PkB w g v0 v1 v2 v3 v4 v5 v6) {a : Addr} (ha : g ≠ a.block) (u : Value) : PkB (w.setCell a u) g v0 v1 v2 v3 v4 v5 v6 :=
  (Below.heap_setCell w a u g ha).trans h
theorem PkB.set0 {w : World} {g : Nat} {v0 v1 v2 v3 v4 v5 v6 : Value} (h : PkB w g v0 v1 v2 v3 v4 v5 v6) (u : Value) : PkB (w.setCell ⟨g, 0, none⟩ u) g u v1 v2 v3 v4 v5 v6 := heap_setCell_same w g 0 _ _ u h
theorem PkB.set1 {w : World} {g : Nat} {v0 v1 v2 v3 v4 v5 v6 : Value} (h : PkB w g v0 v1 v2 v3 v4 v5 v6) (u : Value) : PkB (w.setCell ⟨g, 1, none⟩ u) g v0 u v2 v3 v4 v5 v6 := heap_setCell_same w g 1 _ _ u h
theorem PkB.set2 {w : World} {g : Nat} {v0 v1 v2 v3 v4 v5 v6 : Value} (h : PkB w g v0 v1 v2 v3 v4 v5 v6) (u : Value) : PkB (w.setCell ⟨g, 2, none⟩ u) g v0 v1 u v3 v4 v5 v6 := heap_setCell_same w g 2 _ _ u h
theorem PkB.set3 {w : World} {g : Nat} {v0 v1 v2 v3 v4 v5 v6 : Value} (h : PkB w g v0 v1 v2 v3 v4 v5 v6) (u : Value) : PkB (w.setCell ⟨g, 3, none⟩ u) g v0 v1 v2 u v4 v5 v6 := heap_setCell_same w g 3 _ _ u h
theorem PkB.set4 {w : World} {g : Nat} {v0 v1 v2 v3 v4 v5 v6 : Value} (h : PkB w g v0 v1 v2 v3 v4 v5 v6) (u : Value) : PkB (w.setCell ⟨g, 4, none⟩ u) g v0 v1 v2 v3 u v5 v6 := heap_setCell_same w g 4 _ _ u h
theorem PkB.set5 {w : World} {g : Nat} {v0 v1 v2 v3 v4 v5 v6 : Value} (h : PkB w g v0 v1 v2 v3 v4 v5 v6) (u : Value) : PkB (w.setCell ⟨g, 5, none⟩ u) g v0 v1 v2 v3 v4 u v6 := heap_setCell_same w g 5 _ _ u h
theorem PkB.set6 {w : World} {g : Nat} {v0 v1 v2 v3 v4 v5 v6 : Value} (h : PkB w g v0 v1 v2 v3 v4 v5 v6) (u : Value) : PkB (w.setCell ⟨g, 6, none⟩ u) g v0 v1 v2 v3 v4 v5 u := heap_setCell_same w g 6 _ _ u h
/-- All cells of a packet's block are written. -/
def set7 (w : World) (g : Nat) (u0 u1 u2 u3 u4 u5 u6 : Value) : World := ((((((w.setCell ⟨g, 0, none⟩ u0).setCell ⟨g, 1, none⟩ u1).setCell ⟨g, 2, none⟩ u2).setCell ⟨g, 3, none⟩ u3).setCell ⟨g, 4, none⟩ u4).setCell ⟨g, 5, none⟩ u5).setCell ⟨g, 6, none⟩ u6
theorem PkB.sets {w : World} {g : Nat} {v0 v1 v2 v3 v4 v5 v6 : Value} (h : PkB w g v0 v1 v2 v3 v4 v5 v6) (u0 u1 u2 u3 u4 u5 u6 : Value) : PkB (set7 w g u0 u1 u2 u3 u4 u5 u6) g u0 u1 u2 u3 u4 u5 u6 :=
  ((((((h.set0 u0).set1 u1).set2 u2).set3 u3).set4 u4).set5 u5).set6 u6
theorem below7 {B : Nat} {a w : World} (h : Below B a w) {g : Nat} (hg : B ≤ g) (u0 u1 u2 u3 u4 u5 u6 : Value) : Below B a (set7 w g u0 u1 u2 u3 u4 u5 u6) :=
  ((((((h.setCell hg u0).setCell hg u1).setCell hg u2).setCell hg u3).setCell hg u4).setCell hg u5).setCell hg u6
theorem Own.apart {w : World} {B : Nat} {a : Option Addr} {n c : Nat} {xs : List Nat} (h : Own w B (.slice a n c) xs) : ∀ ad, a = some ad → n ≠ 0 → B ≤ ad.block := by
  intro ad ha hn
  obtain ⟨a', c', he, hr⟩ := h.row
  simp only [Value.slice.injEq] at he
  obtain ⟨rfl, rfl, rfl⟩ := he
  obtain ⟨g, cap, hv, hB, _⟩ := h.at (by omega)
  simp only [Value.slice.injEq] at hv
  rw [ha] at hv
  obtain rfl := Option.some.inj hv.1
  exact hB
theorem RowAt.other {w : World} {a : Option Addr} {n : Nat} {xs : List Nat} (h : RowAt w a n xs) {B : Nat} (hB : ∀ ad, a = some ad → n ≠ 0 → ad.block ≠ B) (i : Nat) (u : Value) : RowAt (w.setCell ⟨B, i, none⟩ u) a n xs := by
  refine ⟨h.1, h.2.1, ?_⟩
  rcases h.2.2 with h0 | ⟨b, off, rfl, hc⟩
  · exact .inl h0
  · by_cases hn : n = 0
    · exact .inl hn
    · exact .inr ⟨b, off, rfl, fun j hj => (World.cell?_setCell_other (h := fun e => hB _ rfl hn (congrArg Addr.block e).symm) ..).trans (hc j hj)⟩
theorem RowAt.other7 {w : World} {a : Option Addr} {n : Nat} {xs : List Nat} (h : RowAt w a n xs) {B : Nat} (hB : ∀ ad, a = some ad → n ≠ 0 → ad.block ≠ B) (u0 u1 u2 u3 u4 u5 u6 : Value) : RowAt (set7 w B u0 u1 u2 u3 u4 u5 u6) a n xs :=
  ((((((h.other hB 0 u0).other hB 1 u1).other hB 2 u2).other hB 3 u3).other hB 4 u4).other hB 5 u5).other hB 6 u6
end Go.Proofs.YtigmckjjoabfeaaDoor
