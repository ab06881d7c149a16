/-
  Plain mathematics of mixing packets: those at the places that are there ('selD'), the packet that they make ('mixD'); it may be, where they may ('mix_ok'). No condition.
  Plain mathematics of places that are named again and again: how often each is ('timesL'), what stands there once or twice ('atTo'), and that the xor, the members and the packet made are those of the places as they are named. No condition.
  Plain mathematics of choosing rows: a distance ('distZ'), the first row that brings the degree nearest ('nearTo', 'near_is'), what is chosen step by step ('chTo') and what always holds of it; the xor of what is chosen ('sumCh'). No condition.
  Plain lists for draws: the n-th draw of a list ('drawN'), numbers taken one after the other of those that are left ('leftL', 'picksL'), the same rising ('distL'), and what is taken by marks ('untaken', 'marked'). No condition.
  Plain mathematics of what is chosen as a list of places ('Chn'): it is what 'chTo' holds, its sort is 'placesCh'; a degree that is told from the words that meet ('deg_with'); a distance as a number without sign. No condition.
-/
import Derived.Test.YtmdmipojbeppiaaGreatDoorM6
import Derived.Test.YtmdmipojbeppiaaGreatDoorM2
import Derived.Test.YtmdmipojbeppiaaGreatDoorM9
import Derived.Test.YtmdmipojbeppiaaGreatDoorM1
namespace Go.Proofs.YtmdmipojbeppiaaGreatDoor
open Go.RowKit
set_option linter.unusedVariables false
set_option maxRecDepth 4000

/-- Those at the places that are there. -/
def selD (L : List PD) (ws : List Int) : List PD := ws.filterMap fun (i : Int) => if 0 ≤ i ∧ i < (L.length : Int) then some (L.getD i.toNat .dflt) else none
theorem sel_snoc (L : List PD) (ws : List Int) (i : Int) : selD L (ws ++ [i]) = if 0 ≤ i ∧ i < (L.length : Int) then selD L ws ++ [L.getD i.toNat .dflt] else selD L ws := by
  unfold selD
  rw [List.filterMap_append]
  by_cases h : 0 ≤ i ∧ i < (L.length : Int)
  · rw [if_pos h, List.filterMap_cons, List.filterMap_nil, if_pos h]
  · rw [if_neg h, List.filterMap_cons, List.filterMap_nil, if_neg h]
    exact List.append_nil _
theorem sel_mem {L : List PD} {ws : List Int} {p : PD} (h : p ∈ selD L ws) : p ∈ L := by
  obtain ⟨i, _, hi⟩ := List.mem_filterMap.1 h
  split at hi
  · rename_i hc
    rw [← Option.some.inj hi, List.getD_eq_getElem?_getD, List.getElem?_eq_getElem (show i.toNat < L.length by omega)]
    exact List.getElem_mem _
  · cases hi
/-- The xor of their rows, of their texts; the greatest of their hops. -/
def vecX (Q : List PD) : List Nat := Q.foldl (fun a p => xorL a p.xs) []
def txtX (Q : List PD) : List Nat := Q.foldl (fun a p => xorL a (tx p.s)) []
def hopX : List PD → Int
  | [] => 0
  | p :: Q => Q.foldl (fun a q => max a q.h) p.h
/-- The packet that they make. -/
def mixL : List PD → Option PD
  | [] => none
  | q :: Q => if (∀ p ∈ Q, alkD q p = true) ∧ 0 < cnt (vecX (q :: Q)) ∧ hopX (q :: Q) < 15 then some ⟨q.o, q.l, q.k, q.z, IntKind.i64.wrap (hopX (q :: Q) + 1), vecX (q :: Q), st (txtX (q :: Q))⟩ else none
def mixD (L : List PD) (ws : List Int) : Option PD := mixL (selD L ws)
theorem mixL_cons (q : PD) (Q : List PD) : mixL (q :: Q) = if (∀ p ∈ Q, alkD q p = true) ∧ 0 < cnt (vecX (q :: Q)) ∧ hopX (q :: Q) < 15 then some ⟨q.o, q.l, q.k, q.z, IntKind.i64.wrap (hopX (q :: Q) + 1), vecX (q :: Q), st (txtX (q :: Q))⟩ else none := rfl
theorem hop_fold : ∀ (Q : List PD) (a : Int), a ≤ Q.foldl (fun a q => max a q.h) a ∧ (∀ p ∈ Q, p.h ≤ Q.foldl (fun a q => max a q.h) a) ∧ ∀ b, a ≤ b → (∀ p ∈ Q, p.h ≤ b) → Q.foldl (fun a q => max a q.h) a ≤ b
  | [], a => ⟨Int.le_refl _, (fun p hp => by cases hp), fun b h _ => h⟩
  | q :: Q, a => by
    obtain ⟨h1, h2, h3⟩ := hop_fold Q (max a q.h)
    rw [List.foldl_cons]
    refine ⟨by omega, fun p hp => ?_, fun b hb hp => h3 b (by have := hp q List.mem_cons_self; omega) fun p hq => hp p (List.mem_cons_of_mem _ hq)⟩
    rcases List.mem_cons.1 hp with e | e
    · rw [e]; omega
    · exact h2 p e
theorem hop_le {q : PD} {Q : List PD} {b : Int} (h : ∀ p ∈ q :: Q, p.h ≤ b) : hopX (q :: Q) ≤ b := (hop_fold Q q.h).2.2 b (h q List.mem_cons_self) fun p hp => h p (List.mem_cons_of_mem _ hp)
theorem hop_ge {q : PD} {Q : List PD} {p : PD} (h : p ∈ q :: Q) : p.h ≤ hopX (q :: Q) := by
  rcases List.mem_cons.1 h with e | e
  · rw [e]; exact (hop_fold Q q.h).1
  · exact (hop_fold Q q.h).2.1 p e
theorem valid_xor {k : Int} {a b : List Nat} (ha : ValidP k a) (hb : ValidP k b) : ValidP k (xorL a b) := by
  obtain ⟨a1, a2, a3⟩ := ha
  obtain ⟨b1, b2, b3⟩ := hb
  refine ⟨by rw [xorL_length]; omega, by rw [xorL_length]; omega, fun i hi => ?_⟩
  rw [getB_xorL, a3 i hi, b3 i hi, Bool.xor_false]
theorem vec_valid {k : Int} : ∀ (Q : List PD) (a : List Nat), ValidP k a → (∀ p ∈ Q, ValidP k p.xs) → ValidP k (Q.foldl (fun a p => xorL a p.xs) a)
  | [], a, ha, _ => ha
  | q :: Q, a, ha, h => by
    rw [List.foldl_cons]
    exact vec_valid Q _ (valid_xor ha (h q List.mem_cons_self)) fun p hp => h p (List.mem_cons_of_mem _ hp)
theorem txt_len {m : Nat} : ∀ (Q : List PD) (a : List Nat), a.length = m → (∀ p ∈ Q, p.s.size = m) → (Q.foldl (fun a p => xorL a (tx p.s)) a).length = m
  | [], a, ha, _ => ha
  | q :: Q, a, ha, h => by
    rw [List.foldl_cons]
    refine txt_len Q _ ?_ fun p hp => h p (List.mem_cons_of_mem _ hp)
    rw [xorL_length, tx_length, ha, h q List.mem_cons_self, Nat.max_self]
theorem xorL_nil' (a : List Nat) : xorL [] a = a := by rw [xorL_comm, xorL_nil]
/-- Packets that may be, and are alike, make one that may be, one relay further than the furthest. -/
theorem mix_ok {q : PD} {Q : List PD} {r : PD} (hok : ∀ p ∈ q :: Q, okD p = true) (h : mixL (q :: Q) = some r) : okD r = true ∧ r.h = hopX (q :: Q) + 1 := by
  rw [mixL_cons] at h
  by_cases hc : (∀ p ∈ Q, alkD q p = true) ∧ 0 < cnt (vecX (q :: Q)) ∧ hopX (q :: Q) < 15
  · rw [if_pos hc] at h
    obtain ⟨h1, h2, h3⟩ := hc
    obtain rfl := Option.some.inj h
    have hq := okD_iff.1 (hok q List.mem_cons_self)
    obtain ⟨⟨hs, ho, hl, hh⟩, hv, hcn, hz⟩ := hq
    have hg := hop_ge (q := q) (Q := Q) (p := q) List.mem_cons_self
    have hwr : IntKind.i64.wrap (hopX (q :: Q) + 1) = hopX (q :: Q) + 1 := by rw [IntKind.wrap_i64]; omega
    refine ⟨okD_iff.2 ⟨⟨hs, ho, hl, ?_, ?_⟩, ?_, h2, ?_⟩, hwr⟩
    · show 0 ≤ IntKind.i64.wrap (hopX (q :: Q) + 1)
      omega
    · show IntKind.i64.wrap (hopX (q :: Q) + 1) ≤ 15
      omega
    · show ValidP q.k (vecX (q :: Q))
      unfold vecX
      rw [List.foldl_cons, xorL_nil']
      refine vec_valid Q _ hv fun p hp => ?_
      have h4 := (okD_valid (hok p (List.mem_cons_of_mem _ hp))).1
      have h5 := h1 p hp
      unfold alkD at h5
      rw [decide_eq_true_eq] at h5
      rw [h5.2.2.1]
      exact h4
    · show ((st (txtX (q :: Q))).size : Int) = q.z
      unfold txtX
      rw [st_len, List.foldl_cons, xorL_nil', txt_len (m := q.s.size) Q _ (tx_length _) fun p hp => ?_]
      · exact hz
      · have h4 := (okD_valid (hok p (List.mem_cons_of_mem _ hp))).2.2.1
        have h5 := h1 p hp
        unfold alkD at h5
        rw [decide_eq_true_eq] at h5
        have h6 := h5.2.2.2
        have h7 : (p.s.size : Int) = (q.s.size : Int) := by rw [h4, ← h6, ← hz]
        omega
  · rw [if_neg hc] at h; cases h
end Go.Proofs.YtmdmipojbeppiaaGreatDoor
namespace Go.Proofs.YtmdmipojbeppiaaGreatDoor
open Go.RowKit
set_option linter.unusedVariables false
set_option maxRecDepth 4000

/-- How often each of n places is named. -/
def timesL (n : Nat) (ws : List Int) : List Nat := ws.foldl (fun c i => if 0 ≤ i ∧ i < (n : Int) then c.set i.toNat (c.getD i.toNat 0 + 1) else c) (List.replicate n 0)
theorem times_nil (n : Nat) : timesL n [] = List.replicate n 0 := rfl
theorem times_snoc (n : Nat) (ws : List Int) (i : Int) : timesL n (ws ++ [i]) = if 0 ≤ i ∧ i < (n : Int) then (timesL n ws).set i.toNat ((timesL n ws).getD i.toNat 0 + 1) else timesL n ws := by
  unfold timesL
  rw [List.foldl_append]
  rfl
theorem snoc_ind {α : Type} {P : List α → Prop} (h0 : P []) (h1 : ∀ l a, P l → P (l ++ [a])) : ∀ l, P l := fun l => by
  have : ∀ k, k ≤ l.length → P (l.take k) := fun k => by
    induction k with
    | zero => intro _; rw [List.take_zero]; exact h0
    | succ k ih => intro hk; rw [List.take_succ_eq_append_getElem (by omega)]; exact h1 _ _ (ih (by omega))
  have h2 := this l.length (Nat.le_refl _)
  rwa [List.take_length] at h2
theorem times_len (n : Nat) (ws : List Int) : (timesL n ws).length = n := by
  refine snoc_ind (P := fun ws => (timesL n ws).length = n) (by rw [times_nil, List.length_replicate]) (fun l i ih => ?_) ws
  rw [times_snoc]
  split
  · rw [List.length_set, ih]
  · exact ih
theorem times_le (n : Nat) (ws : List Int) : ∀ b, (timesL n ws).getD b 0 ≤ ws.length := by
  refine snoc_ind (P := fun ws => ∀ b, (timesL n ws).getD b 0 ≤ ws.length) (fun b => ?_) (fun l i ih b => ?_) ws
  · rw [times_nil, List.getD_eq_getElem?_getD, List.getElem?_replicate]
    split <;> simp
  · rw [times_snoc, List.length_append, List.length_singleton]
    split
    · rw [getD_set]
      have := ih b
      have := ih i.toNat
      split <;> omega
    · have := ih b
      omega
/-- What stands at the first k places: none, once or twice. -/
def atTo {α : Type} (dd : α) (l : List α) (c : List Nat) : Nat → List α
  | 0 => []
  | k + 1 => if c.getD k 0 = 0 then atTo dd l c k else if c.getD k 0 % 2 = 0 then atTo dd l c k ++ [l.getD k dd] ++ [l.getD k dd] else atTo dd l c k ++ [l.getD k dd]
theorem atTo_no {α : Type} {dd : α} {l : List α} {c : List Nat} {k : Nat} (h : c.getD k 0 = 0) : atTo dd l c (k + 1) = atTo dd l c k := if_pos h
theorem atTo_even {α : Type} {dd : α} {l : List α} {c : List Nat} {k : Nat} (h : c.getD k 0 ≠ 0) (h2 : c.getD k 0 % 2 = 0) : atTo dd l c (k + 1) = atTo dd l c k ++ [l.getD k dd] ++ [l.getD k dd] := (if_neg h).trans (if_pos h2)
theorem atTo_odd {α : Type} {dd : α} {l : List α} {c : List Nat} {k : Nat} (h : c.getD k 0 ≠ 0) (h2 : ¬ c.getD k 0 % 2 = 0) : atTo dd l c (k + 1) = atTo dd l c k ++ [l.getD k dd] := (if_neg h).trans (if_neg h2)
theorem atTo_low {α : Type} {dd : α} {l : List α} {c : List Nat} {b x : Nat} : ∀ n, n ≤ b → atTo dd l (c.set b x) n = atTo dd l c n
  | 0, _ => rfl
  | n + 1, h => by
    have e : (c.set b x).getD n 0 = c.getD n 0 := by rw [getD_set, if_neg (by omega)]
    show (if _ then _ else _) = (if _ then _ else _)
    rw [e, atTo_low n (by omega)]
/-- The xor over a list. -/
def xFold {α : Type} (g : α → List Nat) (Q : List α) : List Nat := Q.foldl (fun a p => xorL a (g p)) []
theorem xFold_snoc {α : Type} (g : α → List Nat) (Q : List α) (p : α) : xFold g (Q ++ [p]) = xorL (xFold g Q) (g p) := by
  unfold xFold
  rw [List.foldl_append]
  rfl
theorem xorL_three (a b : List Nat) : xorL (xorL (xorL a b) b) b = xorL a b := by
  apply ext_getD
  · simp only [xorL_length]; omega
  · intro i _
    simp only [xorL_getD]
    rw [Nat.xor_assoc, Nat.xor_self, Nat.xor_zero]
theorem xorL_swap3 (a b c : List Nat) : xorL (xorL a b) c = xorL (xorL a c) b := by
  apply ext_getD
  · simp only [xorL_length]; omega
  · intro i _
    simp only [xorL_getD]
    rw [Nat.xor_assoc, Nat.xor_comm (b.getD i 0), ← Nat.xor_assoc]
theorem at_set {c : List Nat} {b x : Nat} (h : b < c.length) : (c.set b x).getD b 0 = x := by rw [getD_set, if_pos ⟨rfl, h⟩]
theorem at_ne {c : List Nat} {b x i : Nat} (h : i ≠ b) : (c.set b x).getD i 0 = c.getD i 0 := by rw [getD_set, if_neg (fun e => h e.1)]
/-- Once more at one place. -/
theorem xFold_more {α : Type} {dd : α} (g : α → List Nat) {l : List α} {c : List Nat} {b : Nat} (hb : b < c.length) : ∀ n, b < n → xFold g (atTo dd l (c.set b (c.getD b 0 + 1)) n) = xorL (xFold g (atTo dd l c n)) (g (l.getD b dd))
  | 0, h => by omega
  | n + 1, h => by
    by_cases e : n = b
    · subst e
      have e1 : (c.set n (c.getD n 0 + 1)).getD n 0 = c.getD n 0 + 1 := at_set hb
      have e2 : atTo dd l (c.set n (c.getD n 0 + 1)) n = atTo dd l c n := atTo_low n (Nat.le_refl _)
      by_cases z : c.getD n 0 = 0
      · rw [atTo_odd (by omega) (by omega), atTo_no z, e2, xFold_snoc]
      · by_cases z2 : c.getD n 0 % 2 = 0
        · rw [atTo_odd (by omega) (by omega), atTo_even z z2, e2, xFold_snoc, xFold_snoc, xFold_snoc, xorL_three]
        · rw [atTo_even (by omega) (by omega), atTo_odd z z2, e2, xFold_snoc, xFold_snoc]
    · have ih := xFold_more (dd := dd) g (l := l) hb n (by omega)
      have e1 : (c.set b (c.getD b 0 + 1)).getD n 0 = c.getD n 0 := at_ne e
      by_cases z : c.getD n 0 = 0
      · rw [atTo_no (by omega), atTo_no z, ih]
      · by_cases z2 : c.getD n 0 % 2 = 0
        · rw [atTo_even (by omega) (by omega), atTo_even z z2, xFold_snoc, xFold_snoc, xFold_snoc, xFold_snoc, ih, xorL_swap3 _ (g (l.getD b dd)), xorL_swap3 _ (g (l.getD b dd))]
        · rw [atTo_odd (by omega) (by omega), atTo_odd z z2, xFold_snoc, xFold_snoc, ih, xorL_swap3]
theorem len_more {α : Type} {dd : α} {l : List α} {c : List Nat} {b : Nat} (hb : b < c.length) : ∀ n, (atTo dd l (c.set b (c.getD b 0 + 1)) n).length ≤ (atTo dd l c n).length + (if b < n then 1 else 0)
  | 0 => Nat.zero_le _
  | n + 1 => by
    have ih := len_more (dd := dd) (l := l) hb n
    by_cases e : n = b
    · subst e
      have e1 : (c.set n (c.getD n 0 + 1)).getD n 0 = c.getD n 0 + 1 := at_set hb
      have e2 : atTo dd l (c.set n (c.getD n 0 + 1)) n = atTo dd l c n := atTo_low n (Nat.le_refl _)
      rw [if_pos (by omega)]
      by_cases z : c.getD n 0 = 0
      · rw [atTo_odd (by omega) (by omega), atTo_no z, e2, List.length_append, List.length_singleton]
        exact Nat.le_refl _
      · by_cases z2 : c.getD n 0 % 2 = 0
        · rw [atTo_odd (by omega) (by omega), atTo_even z z2, e2]
          simp only [List.length_append, List.length_singleton]
          omega
        · rw [atTo_even (by omega) (by omega), atTo_odd z z2, e2]
          simp only [List.length_append, List.length_singleton]
          omega
    · have e1 : (c.set b (c.getD b 0 + 1)).getD n 0 = c.getD n 0 := at_ne e
      rw [show (if b < n + 1 then 1 else 0) = (if b < n then 1 else 0) by split <;> split <;> omega]
      by_cases z : c.getD n 0 = 0
      · rw [atTo_no (by omega), atTo_no z]; exact ih
      · by_cases z2 : c.getD n 0 % 2 = 0
        · rw [atTo_even (by omega) (by omega), atTo_even z z2]
          simp only [List.length_append, List.length_singleton]
          omega
        · rw [atTo_odd (by omega) (by omega), atTo_odd z z2]
          simp only [List.length_append, List.length_singleton]
          omega
theorem at_mem {α : Type} {dd : α} {l : List α} {c : List Nat} {p : α} : ∀ n, p ∈ atTo dd l c n ↔ ∃ i, i < n ∧ c.getD i 0 ≠ 0 ∧ p = l.getD i dd
  | 0 => by
    constructor
    · intro h; cases h
    · rintro ⟨i, h, _⟩; omega
  | n + 1 => by
    have ih := at_mem (dd := dd) (l := l) (c := c) (p := p) n
    have key : (∃ i, i < n + 1 ∧ c.getD i 0 ≠ 0 ∧ p = l.getD i dd) ↔ (∃ i, i < n ∧ c.getD i 0 ≠ 0 ∧ p = l.getD i dd) ∨ (c.getD n 0 ≠ 0 ∧ p = l.getD n dd) := by
      constructor
      · rintro ⟨i, h1, h2, h3⟩
        rcases Nat.lt_or_ge i n with e | e
        · exact .inl ⟨i, e, h2, h3⟩
        · obtain rfl : i = n := by omega
          exact .inr ⟨h2, h3⟩
      · rintro (⟨i, h1, h2, h3⟩ | ⟨h2, h3⟩)
        · exact ⟨i, by omega, h2, h3⟩
        · exact ⟨n, by omega, h2, h3⟩
    rw [key, ← ih]
    by_cases z : c.getD n 0 = 0
    · rw [atTo_no z]
      exact ⟨.inl, fun h => h.elim id fun h => absurd z h.1⟩
    · by_cases z2 : c.getD n 0 % 2 = 0
      · rw [atTo_even z z2, List.mem_append, List.mem_append, List.mem_singleton]
        constructor
        · rintro ((h | h) | h)
          · exact .inl h
          · exact .inr ⟨z, h⟩
          · exact .inr ⟨z, h⟩
        · rintro (h | h)
          · exact .inl (.inl h)
          · exact .inr h.2
      · rw [atTo_odd z z2, List.mem_append, List.mem_singleton]
        constructor
        · rintro (h | h)
          · exact .inl h
          · exact .inr ⟨z, h⟩
        · rintro (h | h)
          · exact .inl h
          · exact .inr h.2
theorem at_take {α : Type} {dd : α} {l : List α} {c : List Nat} {n : Nat} (hn : n ≤ l.length) {p : α} (h : p ∈ atTo dd l c n) : p ∈ l := by
  obtain ⟨i, h1, _, rfl⟩ := (at_mem n).1 h
  rw [List.getD_eq_getElem?_getD, List.getElem?_eq_getElem (show i < l.length by omega)]
  exact List.getElem_mem _
/-- Those at the places that are there. -/
def selL {α : Type} (dd : α) (l : List α) (ws : List Int) : List α := ws.filterMap fun (i : Int) => if 0 ≤ i ∧ i < (l.length : Int) then some (l.getD i.toNat dd) else none
theorem selL_snoc {α : Type} {dd : α} (l : List α) (ws : List Int) (i : Int) : selL dd l (ws ++ [i]) = if 0 ≤ i ∧ i < (l.length : Int) then selL dd l ws ++ [l.getD i.toNat dd] else selL dd l ws := by
  unfold selL
  rw [List.filterMap_append]
  by_cases h : 0 ≤ i ∧ i < (l.length : Int)
  · rw [if_pos h, List.filterMap_cons, List.filterMap_nil, if_pos h]
  · rw [if_neg h, List.filterMap_cons, List.filterMap_nil, if_neg h]
    exact List.append_nil _
theorem selL_len {α : Type} {dd : α} (l : List α) (ws : List Int) : (selL dd l ws).length ≤ ws.length := List.length_filterMap_le _ _
theorem selL_mem {α : Type} {dd : α} {l : List α} {ws : List Int} {p : α} (h : p ∈ selL dd l ws) : p ∈ l := by
  obtain ⟨i, _, hi⟩ := List.mem_filterMap.1 h
  split at hi
  · rename_i hc
    rw [← Option.some.inj hi, List.getD_eq_getElem?_getD, List.getElem?_eq_getElem (show i.toNat < l.length by omega)]
    exact List.getElem_mem _
  · cases hi
theorem selL_map {α β : Type} {dd : α} (f : α → β) (l : List α) (ws : List Int) : (selL dd l ws).map f = selL (f dd) (l.map f) ws := by
  refine snoc_ind (P := fun ws => (selL dd l ws).map f = selL (f dd) (l.map f) ws) rfl (fun ws i ih => ?_) ws
  rw [selL_snoc, selL_snoc, List.length_map]
  by_cases h : 0 ≤ i ∧ i < (l.length : Int)
  · rw [if_pos h, if_pos h, List.map_append, ih]
    have e : i.toNat < l.length := by omega
    rw [List.map_singleton, List.getD_eq_getElem?_getD, List.getElem?_eq_getElem e, List.getD_eq_getElem?_getD, List.getElem?_map, List.getElem?_eq_getElem e]
    rfl
  · rw [if_neg h, if_neg h, ih]
/-- Once or twice is as often as they are named. -/
def atL {α : Type} (dd : α) (l : List α) (ws : List Int) : List α := atTo dd l (timesL l.length ws) l.length
theorem atL_none {α : Type} {dd : α} (l : List α) : ∀ n, atTo dd l (List.replicate l.length 0) n = []
  | 0 => rfl
  | n + 1 => by
    rw [atTo_no, atL_none l n]
    rw [List.getD_eq_getElem?_getD, List.getElem?_replicate]
    split <;> rfl
theorem atL_xor {α : Type} {dd : α} (g : α → List Nat) (l : List α) (ws : List Int) : xFold g (atL dd l ws) = xFold g (selL dd l ws) := by
  refine snoc_ind (P := fun ws => xFold g (atL dd l ws) = xFold g (selL dd l ws)) ?_ (fun ws i ih => ?_) ws
  · unfold atL; rw [times_nil, atL_none]; rfl
  · unfold atL
    rw [times_snoc, selL_snoc]
    by_cases h : 0 ≤ i ∧ i < (l.length : Int)
    · rw [if_pos h, if_pos h, xFold_more g (by rw [times_len]; omega) _ (by omega), xFold_snoc, ← ih]
      rfl
    · rw [if_neg h, if_neg h, ← ih]
      rfl
theorem atL_len {α : Type} {dd : α} (l : List α) (ws : List Int) : (atL dd l ws).length ≤ ws.length := by
  refine snoc_ind (P := fun ws => (atL dd l ws).length ≤ ws.length) ?_ (fun ws i ih => ?_) ws
  · unfold atL; rw [times_nil, atL_none]; exact Nat.le_refl _
  · unfold atL
    rw [times_snoc, List.length_append, List.length_singleton]
    by_cases h : 0 ≤ i ∧ i < (l.length : Int)
    · rw [if_pos h]
      have h1 := len_more (dd := dd) (l := l) (c := timesL l.length ws) (b := i.toNat) (by rw [times_len]; omega) l.length
      rw [if_pos (by omega)] at h1
      unfold atL at ih
      omega
    · rw [if_neg h]
      unfold atL at ih
      omega
theorem atL_mem {α : Type} {dd : α} {l : List α} {ws : List Int} {p : α} : p ∈ atL dd l ws ↔ p ∈ selL dd l ws := by
  refine snoc_ind (P := fun ws => p ∈ atL dd l ws ↔ p ∈ selL dd l ws) ?_ (fun ws i ih => ?_) ws
  · unfold atL; rw [times_nil, atL_none]; exact Iff.rfl
  · unfold atL at ih ⊢
    rw [times_snoc, selL_snoc]
    by_cases h : 0 ≤ i ∧ i < (l.length : Int)
    · rw [if_pos h, if_pos h, List.mem_append, List.mem_singleton, ← ih, at_mem, at_mem]
      have hb : i.toNat < (timesL l.length ws).length := by rw [times_len]; omega
      constructor
      · rintro ⟨j, h1, h2, h3⟩
        by_cases e : j = i.toNat
        · subst e; exact .inr h3
        · rw [at_ne e] at h2
          exact .inl ⟨j, h1, h2, h3⟩
      · rintro (⟨j, h1, h2, h3⟩ | h3)
        · by_cases e : j = i.toNat
          · subst e
            exact ⟨i.toNat, h1, by rw [at_set hb]; omega, h3⟩
          · exact ⟨j, h1, by rw [at_ne e]; exact h2, h3⟩
        · exact ⟨i.toNat, by omega, by rw [at_set hb]; omega, h3⟩
    · rw [if_neg h, if_neg h, ih]
theorem atTo_map {α β : Type} {dd : α} (f : α → β) (l : List α) (c : List Nat) : ∀ n, n ≤ l.length → (atTo dd l c n).map f = atTo (f dd) (l.map f) c n
  | 0, _ => rfl
  | n + 1, h => by
    have ih := atTo_map (dd := dd) f l c n (by omega)
    have e : f (l.getD n dd) = (l.map f).getD n (f dd) := by
      rw [List.getD_eq_getElem?_getD, List.getElem?_eq_getElem (show n < l.length by omega), List.getD_eq_getElem?_getD, List.getElem?_map, List.getElem?_eq_getElem (show n < l.length by omega)]
      rfl
    by_cases z : c.getD n 0 = 0
    · rw [atTo_no z, atTo_no z, ih]
    · by_cases z2 : c.getD n 0 % 2 = 0
      · rw [atTo_even z z2, atTo_even z z2, List.map_append, List.map_append, ih, List.map_singleton, e]
      · rw [atTo_odd z z2, atTo_odd z z2, List.map_append, ih, List.map_singleton, e]
theorem atL_map {α β : Type} {dd : α} (f : α → β) (l : List α) (ws : List Int) : (atL dd l ws).map f = atL (f dd) (l.map f) ws := by
  unfold atL
  rw [atTo_map f l _ _ (Nat.le_refl _), List.length_map]
/-- What is made hangs on the members, the xor and no more. -/
theorem mix_congr {P Q : List PD} (hm : ∀ p, p ∈ P ↔ p ∈ Q) (hv : vecX P = vecX Q) (ht : txtX P = txtX Q) : mixL P = mixL Q := by
  cases P with
  | nil =>
    cases Q with
    | nil => rfl
    | cons q Q => exact absurd ((hm q).2 List.mem_cons_self) (by simp)
  | cons p P =>
    cases Q with
    | nil => exact absurd ((hm p).1 List.mem_cons_self) (by simp)
    | cons q Q =>
      have hh : hopX (p :: P) = hopX (q :: Q) := by
        apply Int.le_antisymm
        · exact hop_le fun r hr => hop_ge ((hm r).1 hr)
        · exact hop_le fun r hr => hop_ge ((hm r).2 hr)
      have side : ∀ {p q : PD} {P Q : List PD}, (∀ r, r ∈ p :: P ↔ r ∈ q :: Q) → (∀ r ∈ P, alkD p r = true) → (∀ r ∈ Q, alkD q r = true) ∧ alkD p q = true := by
        intro p q P Q hm h
        have hall : ∀ r ∈ p :: P, alkD p r = true := fun r hr => by
          rcases List.mem_cons.1 hr with e | e
          · rw [e]; exact alk_refl _
          · exact h r e
        have hq : alkD p q = true := hall q ((hm q).2 List.mem_cons_self)
        exact ⟨fun r hr => alk_trans (alk_symm hq) (hall r ((hm r).2 (List.mem_cons_of_mem _ hr))), hq⟩
      rw [mixL_cons, mixL_cons, hv, ht, hh]
      by_cases h : ∀ r ∈ P, alkD p r = true
      · obtain ⟨h1, h2⟩ := side hm h
        by_cases h3 : 0 < cnt (vecX (q :: Q)) ∧ hopX (q :: Q) < 15
        · rw [if_pos ⟨h, h3⟩, if_pos ⟨h1, h3⟩]
          unfold alkD at h2
          rw [decide_eq_true_eq] at h2
          rw [h2.1, h2.2.1, h2.2.2.1, h2.2.2.2]
        · rw [if_neg (fun e => h3 e.2), if_neg (fun e => h3 e.2)]
      · rw [if_neg (fun e => h e.1), if_neg (fun e => h (side (fun r => (hm r).symm) e.1).1)]
theorem sel_is (L : List PD) (ws : List Int) : selD L ws = selL .dflt L ws := rfl
theorem mix_at (L : List PD) (ws : List Int) : mixL (atL .dflt L ws) = mixD L ws := mix_congr (fun p => atL_mem) (atL_xor (fun p : PD => p.xs) L ws) (atL_xor (fun p : PD => tx p.s) L ws)
end Go.Proofs.YtmdmipojbeppiaaGreatDoor
namespace Go.Proofs.YtmdmipojbeppiaaGreatDoor
open Go.RowKit
set_option linter.unusedVariables false
set_option maxRecDepth 4000

/-- The distance of two numbers. -/
def distZ (d : Nat) (t : Int) : Int := if (d : Int) < t then t - d else d - t
theorem distZ_abs (d : Nat) (t : Int) : distZ d t = max (t - d) (-(t - d)) := by unfold distZ; split <;> omega
theorem distZ_pos (d : Nat) (t : Int) : 0 ≤ distZ d t := by unfold distZ; split <;> omega
theorem xorL_swap (a b c : List Nat) : xorL (xorL a b) c = xorL (xorL a c) b := by rw [xorL_assoc, xorL_comm b c, ← xorL_assoc]
/-- The degree that row i brings. -/
def brD (V : List (List Nat)) (v : List Nat) (i : Nat) : Nat := cnt (xorL v (V.getD i []))
/-- May row i be chosen, and is it nearer than z? -/
def nearer (V : List (List Nat)) (ch : List Bool) (v : List Nat) (t : Int) (i : Nat) (z : Int) : Prop := ch.getD i false = false ∧ 0 < brD V v i ∧ distZ (brD V v i) t < z
def nearerD (V : List (List Nat)) (ch : List Bool) (v : List Nat) (t : Int) (i : Nat) (z : Int) : Decidable (nearer V ch v t i z) :=
  inferInstanceAs (Decidable (ch.getD i false = false ∧ 0 < brD V v i ∧ distZ (brD V v i) t < z))
/-- The best of the first i rows, and how near that is. -/
def nearTo (V : List (List Nat)) (ch : List Bool) (v : List Nat) (t : Int) : Nat → Option Nat × Int
  | 0 => (none, distZ (cnt v) t)
  | i + 1 => @ite _ (nearer V ch v t i (nearTo V ch v t i).2) (nearerD V ch v t i (nearTo V ch v t i).2) (some i, distZ (brD V v i) t) (nearTo V ch v t i)
theorem nearTo_zero (V : List (List Nat)) (ch : List Bool) (v : List Nat) (t : Int) : nearTo V ch v t 0 = (none, distZ (cnt v) t) := rfl
theorem nearTo_yes {V : List (List Nat)} {ch : List Bool} {v : List Nat} {t : Int} {i : Nat} (h : nearer V ch v t i (nearTo V ch v t i).2) : nearTo V ch v t (i + 1) = (some i, distZ (brD V v i) t) := by
  exact if_pos h
theorem nearTo_no {V : List (List Nat)} {ch : List Bool} {v : List Nat} {t : Int} {i : Nat} (h : ¬ nearer V ch v t i (nearTo V ch v t i).2) : nearTo V ch v t (i + 1) = nearTo V ch v t i := by
  exact if_neg h
/-- What the best is: nothing is nearer than it is, or the first one of the nearest. -/
theorem near_spec (V : List (List Nat)) (ch : List Bool) (v : List Nat) (t : Int) : ∀ n, (nearTo V ch v t n).2 ≤ distZ (cnt v) t ∧ (∀ j, j < n → ¬ nearer V ch v t j (nearTo V ch v t n).2) ∧
    match (nearTo V ch v t n).1 with
    | none => (nearTo V ch v t n).2 = distZ (cnt v) t
    | some b => b < n ∧ nearer V ch v t b (distZ (cnt v) t) ∧ (nearTo V ch v t n).2 = distZ (brD V v b) t ∧ ∀ j, j < b → ¬ nearer V ch v t j (distZ (brD V v b) t + 1)
  | 0 => ⟨Int.le_refl _, fun j hj => by omega, rfl⟩
  | n + 1 => by
    obtain ⟨h1, h2, h3⟩ := near_spec V ch v t n
    by_cases h : nearer V ch v t n (nearTo V ch v t n).2
    · rw [nearTo_yes h]
      refine ⟨by have := h.2.2; omega, fun j hj hn => ?_, by omega, ⟨h.1, h.2.1, by have := h.2.2; omega⟩, rfl, fun j hj hn => h2 j hj ⟨hn.1, hn.2.1, by have := hn.2.2; have := h.2.2; omega⟩⟩
      rcases Nat.lt_or_ge j n with e | e
      · exact h2 j e ⟨hn.1, hn.2.1, Int.lt_trans hn.2.2 h.2.2⟩
      · obtain rfl : j = n := by omega
        have := hn.2.2
        dsimp only at this
        omega
    · rw [nearTo_no h]
      refine ⟨h1, fun j hj => ?_, ?_⟩
      · rcases Nat.lt_or_ge j n with e | e
        · exact h2 j e
        · obtain rfl : j = n := by omega
          exact h
      · cases hb : (nearTo V ch v t n).1 with
        | none => rw [hb] at h3; exact h3
        | some b => rw [hb] at h3; exact ⟨by have := h3.1; omega, h3.2⟩
/-- The one that is the first of the nearest is the best. -/
theorem near_is {V : List (List Nat)} {ch : List Bool} {v : List Nat} {t : Int} {n b : Nat} (hb : b < n) (h : nearer V ch v t b (distZ (cnt v) t)) (h1 : ∀ j, j < n → ¬ nearer V ch v t j (distZ (brD V v b) t)) (h2 : ∀ j, j < b → ¬ nearer V ch v t j (distZ (brD V v b) t + 1)) : nearTo V ch v t n = (some b, distZ (brD V v b) t) := by
  obtain ⟨g1, g2, g3⟩ := near_spec V ch v t n
  cases hx : (nearTo V ch v t n).1 with
  | none =>
    rw [hx] at g3
    exact absurd ⟨h.1, h.2.1, by rw [g3]; exact h.2.2⟩ (g2 b hb)
  | some c =>
    rw [hx] at g3
    obtain ⟨k1, k2, k3, k4⟩ := g3
    have e1 : distZ (brD V v c) t = distZ (brD V v b) t := by
      rcases Int.lt_trichotomy (distZ (brD V v c) t) (distZ (brD V v b) t) with e | e | e
      · exact absurd ⟨k2.1, k2.2.1, e⟩ (h1 c k1)
      · exact e
      · exact absurd ⟨h.1, h.2.1, by rw [k3]; exact e⟩ (g2 b hb)
    have e2 : c = b := by
      rcases Nat.lt_trichotomy c b with e | e | e
      · exact absurd ⟨k2.1, k2.2.1, by omega⟩ (h2 c e)
      · exact e
      · exact absurd ⟨h.1, h.2.1, by omega⟩ (k4 b e)
    subst e2
    exact Prod.ext hx k3
theorem near_none {V : List (List Nat)} {ch : List Bool} {v : List Nat} {t : Int} {n : Nat} (h : ∀ j, j < n → ¬ nearer V ch v t j (distZ (cnt v) t)) : nearTo V ch v t n = (none, distZ (cnt v) t) := by
  obtain ⟨g1, g2, g3⟩ := near_spec V ch v t n
  cases hx : (nearTo V ch v t n).1 with
  | none => rw [hx] at g3; exact Prod.ext hx g3
  | some c => rw [hx] at g3; exact absurd g3.2.1 (h c g3.1)

/-- The xor of those of the first n rows that are chosen. -/
def sumCh (V : List (List Nat)) (ch : List Bool) : Nat → List Nat
  | 0 => []
  | i + 1 => if ch.getD i false = true then xorL (sumCh V ch i) (V.getD i []) else sumCh V ch i
theorem set_at {ch : List Bool} {b : Nat} {x : Bool} (hl : b < ch.length) : (ch.set b x).getD b false = x := by
  rw [List.getD_eq_getElem?_getD, List.getElem?_set_self hl]
  rfl
theorem set_else {ch : List Bool} {b i : Nat} {x : Bool} (h : i ≠ b) : (ch.set b x).getD i false = ch.getD i false := by
  rw [List.getD_eq_getElem?_getD, List.getD_eq_getElem?_getD, List.getElem?_set_ne (fun e => h e.symm)]
theorem sumCh_succ (V : List (List Nat)) (ch : List Bool) (i : Nat) : sumCh V ch (i + 1) = if ch.getD i false = true then xorL (sumCh V ch i) (V.getD i []) else sumCh V ch i := rfl
theorem sumCh_low {V : List (List Nat)} {ch : List Bool} {b : Nat} {x : Bool} : ∀ n, n ≤ b → sumCh V (ch.set b x) n = sumCh V ch n
  | 0, _ => rfl
  | n + 1, h => by rw [sumCh_succ, sumCh_succ, sumCh_low n (by omega), set_else (by omega)]
theorem sumCh_set {V : List (List Nat)} {ch : List Bool} {b : Nat} (hl : b < ch.length) (hb : ch.getD b false = false) : ∀ n, b < n → sumCh V (ch.set b true) n = xorL (sumCh V ch n) (V.getD b [])
  | 0, h => by omega
  | n + 1, h => by
    rw [sumCh_succ, sumCh_succ]
    by_cases e : n = b
    · subst e
      rw [set_at hl, if_pos rfl, hb, if_neg (by decide), sumCh_low n (Nat.le_refl _)]
    · rw [set_else e, sumCh_set hl hb n (by omega)]
      split
      · exact xorL_swap _ _ _
      · rfl
theorem sumCh_none (V : List (List Nat)) (m : Nat) : ∀ n, sumCh V (List.replicate m false) n = []
  | 0 => rfl
  | n + 1 => by
    rw [sumCh_succ, sumCh_none V m n, if_neg]
    rw [List.getD_eq_getElem?_getD, List.getElem?_replicate]
    split <;> simp
/-- The places that are chosen, rising. -/
def placesCh (ch : List Bool) (n : Nat) : List Nat := (List.range n).filter fun i => ch.getD i false
theorem places_succ (ch : List Bool) (n : Nat) : placesCh ch (n + 1) = if ch.getD n false = true then placesCh ch n ++ [n] else placesCh ch n := by
  unfold placesCh
  rw [List.range_succ, List.filter_append, List.filter_cons, List.filter_nil]
  cases ch.getD n false
  · rw [if_neg (by decide), if_neg (by decide), List.append_nil]
  · rw [if_pos rfl, if_pos rfl]
theorem places_rise (ch : List Bool) (n : Nat) : (placesCh ch n).Pairwise (· < ·) := List.Pairwise.filter _ List.pairwise_lt_range
theorem places_mem {ch : List Bool} {n i : Nat} : i ∈ placesCh ch n ↔ i < n ∧ ch.getD i false = true := by
  unfold placesCh
  rw [List.mem_filter, List.mem_range]
/-- The xor over the places is the xor of what is chosen. -/
theorem places_sum (V : List (List Nat)) (ch : List Bool) : ∀ n, sumV V (placesCh ch n) = sumCh V ch n
  | 0 => rfl
  | n + 1 => by
    rw [places_succ, sumCh_succ]
    split
    · unfold sumV
      rw [List.foldl_append]
      have := places_sum V ch n
      unfold sumV at this
      rw [this]
      rfl
    · exact places_sum V ch n
/-- How many are chosen. -/
theorem places_low {ch : List Bool} {b : Nat} {x : Bool} : ∀ n, n ≤ b → placesCh (ch.set b x) n = placesCh ch n
  | 0, _ => rfl
  | n + 1, h => by rw [places_succ, places_succ, places_low n (by omega), set_else (by omega)]
theorem places_set {ch : List Bool} {b : Nat} (hl : b < ch.length) (hb : ch.getD b false = false) : ∀ n, b < n → (placesCh (ch.set b true) n).length = (placesCh ch n).length + 1
  | 0, h => by omega
  | n + 1, h => by
    rw [places_succ, places_succ]
    by_cases e : n = b
    · subst e
      rw [set_at hl, if_pos rfl, hb, if_neg (by decide), places_low n (Nat.le_refl _), List.length_append]
      rfl
    · have ih := places_set hl hb n (by omega)
      rw [set_else e]
      split
      · rw [List.length_append, List.length_append, ih, Nat.add_right_comm]
      · exact ih

/-- What is chosen, and its xor. -/
structure CS where
  ch : List Bool
  v : List Nat
def chStep (V : List (List Nat)) (t : Int) (s : CS) : CS := match (nearTo V s.ch s.v t V.length).1 with
  | none => s
  | some b => ⟨s.ch.set b true, xorL s.v (V.getD b [])⟩
/-- What is chosen behind k steps, from place p on. -/
def chTo (V : List (List Nat)) (t : Int) (p : Nat) : Nat → CS
  | 0 => ⟨(List.replicate V.length false).set p true, V.getD p []⟩
  | k + 1 => chStep V t (chTo V t p k)
theorem step_none {V : List (List Nat)} {t : Int} {s : CS} (h : (nearTo V s.ch s.v t V.length).1 = none) : chStep V t s = s := by unfold chStep; rw [h]
theorem step_some {V : List (List Nat)} {t : Int} {s : CS} {b : Nat} (h : (nearTo V s.ch s.v t V.length).1 = some b) : chStep V t s = ⟨s.ch.set b true, xorL s.v (V.getD b [])⟩ := by unfold chStep; rw [h]
/-- Where no more is chosen, that is the end. -/
theorem chTo_end {V : List (List Nat)} {t : Int} {p k : Nat} (h : (nearTo V (chTo V t p k).ch (chTo V t p k).v t V.length).1 = none) : ∀ j, chTo V t p (k + j) = chTo V t p k
  | 0 => rfl
  | j + 1 => by
    show chStep V t (chTo V t p (k + j)) = _
    rw [chTo_end h j, step_none h]
/-- What always holds of what is chosen. -/
structure CInv (V : List (List Nat)) (t : Int) (p k : Nat) (s : CS) : Prop where
  len : s.ch.length = V.length
  first : s.ch.getD p false = true
  many : (placesCh s.ch V.length).length ≤ k + 1
  sum : s.v = sumCh V s.ch V.length
  near : distZ (cnt s.v) t ≤ distZ (cnt (V.getD p [])) t
theorem chTo_inv {V : List (List Nat)} {t : Int} {p : Nat} (hp : p < V.length) : ∀ k, CInv V t p k (chTo V t p k)
  | 0 => by
    have hl : p < (List.replicate V.length false).length := by rw [List.length_replicate]; exact hp
    have h0 : (List.replicate V.length false).getD p false = false := by
      rw [List.getD_eq_getElem?_getD, List.getElem?_replicate]
      split <;> rfl
    have hn : placesCh (List.replicate V.length false) V.length = [] := by
      unfold placesCh
      rw [List.filter_eq_nil_iff]
      intro i _
      rw [List.getD_eq_getElem?_getD, List.getElem?_replicate]
      split <;> simp
    refine ⟨by show (List.set _ _ _).length = _; rw [List.length_set, List.length_replicate], ?_, ?_, ?_, Int.le_refl _⟩
    · show (List.set _ _ _).getD p false = true
      exact set_at hl
    · show (placesCh (List.set _ _ _) _).length ≤ _
      rw [places_set hl h0 _ hp, hn]
      exact Nat.le_refl _
    · show V.getD p [] = sumCh V (List.set _ _ _) V.length
      rw [sumCh_set hl h0 _ hp, sumCh_none, xorL_comm, xorL_nil]
  | k + 1 => by
    have ih := chTo_inv (t := t) hp k
    show CInv V t p (k + 1) (chStep V t (chTo V t p k))
    cases hb : (nearTo V (chTo V t p k).ch (chTo V t p k).v t V.length).1 with
    | none =>
      rw [step_none hb]
      exact ⟨ih.len, ih.first, by have := ih.many; omega, ih.sum, ih.near⟩
    | some b =>
      rw [step_some hb]
      obtain ⟨_, _, h3⟩ := near_spec V (chTo V t p k).ch (chTo V t p k).v t V.length
      rw [hb] at h3
      obtain ⟨k1, k2, _, _⟩ := h3
      have hl : b < (chTo V t p k).ch.length := by rw [ih.len]; exact k1
      refine ⟨by show (List.set _ _ _).length = _; rw [List.length_set, ih.len], ?_, ?_, ?_, ?_⟩
      · show (List.set _ _ _).getD p false = true
        by_cases e : p = b
        · exact (congrArg (fun i => List.getD _ i false) e).trans (set_at hl)
        · rw [set_else e]; exact ih.first
      · show (placesCh (List.set _ _ _) _).length ≤ _
        rw [places_set hl k2.1 _ k1]
        have := ih.many
        omega
      · show xorL _ _ = sumCh V (List.set _ _ _) V.length
        rw [sumCh_set hl k2.1 _ k1, ← ih.sum]
      · show distZ (cnt (xorL _ _)) t ≤ _
        have h4 := k2.2.2
        have h5 := ih.near
        unfold brD at h4
        omega
end Go.Proofs.YtmdmipojbeppiaaGreatDoor
namespace Go.Proofs.YtmdmipojbeppiaaGreatDoor
set_option linter.unusedVariables false
set_option maxRecDepth 4000

/-- The n-th draw, from 1 on. -/
def drawN (L : List Nat) (n : Nat) : Nat := if n ≤ L.length then L.getD (n - 1) 0 else n * 11400714819323198485 % 18446744073709551616
theorem drawN_in {L : List Nat} {n : Nat} (h : n < L.length) : drawN L (n + 1) = L.getD n 0 := by
  unfold drawN
  rw [if_pos (by omega), Nat.add_sub_cancel]
theorem drawN_out {L : List Nat} {n : Nat} (h : L.length < n) : drawN L n = n * 11400714819323198485 % 18446744073709551616 := by
  unfold drawN
  rw [if_neg (by omega)]
theorem drawN_lt {L : List Nat} (h : smalls L) (n : Nat) : drawN L n < 18446744073709551616 := by
  unfold drawN
  split
  · exact h.get _
  · omega

/-- What is left of zs when k were taken, N draws having been used ahead. -/
def leftL (L : List Nat) (N : Nat) (zs : List Nat) : Nat → List Nat
  | 0 => zs
  | k + 1 => (leftL L N zs k).eraseIdx (drawN L (N + k + 1) % (leftL L N zs k).length)
/-- What was taken, one behind the other. -/
def picksL (L : List Nat) (N : Nat) (zs : List Nat) : Nat → List Nat
  | 0 => []
  | k + 1 => picksL L N zs k ++ [(leftL L N zs k).getD (drawN L (N + k + 1) % (leftL L N zs k).length) 0]
theorem leftL_length (L : List Nat) (N : Nat) (zs : List Nat) : ∀ k, k ≤ zs.length → (leftL L N zs k).length = zs.length - k
  | 0, _ => rfl
  | k + 1, h => by
    have ih := leftL_length L N zs k (by omega)
    have hlt : drawN L (N + k + 1) % (leftL L N zs k).length < (leftL L N zs k).length := Nat.mod_lt _ (by omega)
    show ((leftL L N zs k).eraseIdx _).length = _
    rw [List.length_eraseIdx, if_pos hlt, ih]
    omega
theorem picksL_length (L : List Nat) (N : Nat) (zs : List Nat) : ∀ k, (picksL L N zs k).length = k
  | 0 => rfl
  | k + 1 => by
    show (picksL L N zs k ++ [_]).length = _
    rw [List.length_append, picksL_length L N zs k]; rfl
theorem erase_perm (l : List Nat) (j : Nat) (h : j < l.length) : (l.getD j 0 :: l.eraseIdx j).Perm l := by
  rw [List.eraseIdx_eq_take_drop_succ]
  have e : l = l.take j ++ l.getD j 0 :: l.drop (j + 1) := by
    rw [List.getD_eq_getElem?_getD, List.getElem?_eq_getElem h]
    simp
  exact (List.perm_middle.symm).trans (List.Perm.of_eq e.symm)
theorem picks_perm (L : List Nat) (N : Nat) (zs : List Nat) : ∀ k, k ≤ zs.length → (picksL L N zs k ++ leftL L N zs k).Perm zs
  | 0, _ => List.Perm.refl _
  | k + 1, h => by
    have ih := picks_perm L N zs k (by omega)
    have hl := leftL_length L N zs k (by omega)
    have hlt : drawN L (N + k + 1) % (leftL L N zs k).length < (leftL L N zs k).length := Nat.mod_lt _ (by omega)
    show ((picksL L N zs k ++ [_]) ++ (leftL L N zs k).eraseIdx _).Perm zs
    rw [List.append_assoc]
    exact (List.Perm.append_left _ (erase_perm _ _ hlt)).trans ih
/-- What was taken of the numbers below n, rising. -/
def distL (L : List Nat) (N n k : Nat) : List Nat := (List.range n).filter fun i => decide (i ∉ leftL L N (List.range n) k)
theorem dist_perm (L : List Nat) (N n k : Nat) (h : k ≤ n) : (picksL L N (List.range n) k).Perm (distL L N n k) := by
  have hp := picks_perm L N (List.range n) k (by simpa using h)
  have hn := hp.symm.nodup List.nodup_range
  obtain ⟨_, _, hd⟩ := List.nodup_append.1 hn
  have hf := hp.filter fun i => decide (i ∉ leftL L N (List.range n) k)
  have h1 : (picksL L N (List.range n) k).filter (fun i => decide (i ∉ leftL L N (List.range n) k)) = picksL L N (List.range n) k := List.filter_eq_self.2 fun a ha => by simpa using fun hb => hd a ha a hb rfl
  have h2 : (leftL L N (List.range n) k).filter (fun i => decide (i ∉ leftL L N (List.range n) k)) = [] := List.filter_eq_nil_iff.2 fun a ha => by simp [ha]
  rw [List.filter_append, h1, h2, List.append_nil] at hf
  exact hf
theorem distL_length (L : List Nat) (N n k : Nat) (h : k ≤ n) : (distL L N n k).length = k := by
  rw [← (dist_perm L N n k h).length_eq, picksL_length]
def castZ (l : List Nat) : List Int := l.map fun (x : Nat) => (x : Int)
theorem castZ_length (l : List Nat) : (castZ l).length = l.length := by simp [castZ]
theorem castZ_getD (l : List Nat) (i : Nat) : (castZ l).getD i 0 = ((l.getD i 0 : Nat) : Int) := by
  simp only [castZ, List.getD_eq_getElem?_getD, List.getElem?_map]
  cases l[i]? <;> rfl
theorem castZ_append (l m : List Nat) : castZ (l ++ m) = castZ l ++ castZ m := by simp [castZ]
theorem castZ_erase (l : List Nat) (j : Nat) : castZ (l.eraseIdx j) = (castZ l).eraseIdx j := by
  simp [castZ, List.eraseIdx_eq_take_drop_succ, List.map_take, List.map_drop]
theorem dist_sort (L : List Nat) (N n k : Nat) (h : k ≤ n) : (castZ (picksL L N (List.range n) k)).mergeSort (fun x y => decide (x ≤ y)) = castZ (distL L N n k) := by
  have hp : ((castZ (picksL L N (List.range n) k)).mergeSort fun x y => decide (x ≤ y)).Perm (castZ (distL L N n k)) := (List.mergeSort_perm _ _).trans ((dist_perm L N n k h).map _)
  refine List.Perm.eq_of_pairwise (le := fun x y : Int => x ≤ y) (fun a b _ _ h1 h2 => Int.le_antisymm h1 h2) ?_ ?_ hp
  · have := List.pairwise_mergeSort (le := fun x y : Int => decide (x ≤ y)) (fun a b c h1 h2 => by simp at *; omega) (fun a b => by simp; omega) (castZ (picksL L N (List.range n) k))
    exact this.imp fun h => by simpa using h
  · have : (distL L N n k).Pairwise (· < ·) := List.Pairwise.filter _ List.pairwise_lt_range
    exact List.Pairwise.map _ (fun a b hab => by omega) this
theorem distL_rise (L : List Nat) (N n k i : Nat) (h : i + 1 < (distL L N n k).length) : (distL L N n k).getD i 0 < (distL L N n k).getD (i + 1) 0 := by
  have hr : (distL L N n k).Pairwise (· < ·) := List.Pairwise.filter _ List.pairwise_lt_range
  have := List.pairwise_iff_getElem.1 hr i (i + 1) (by omega) h (by omega)
  simpa [List.getD_eq_getElem?_getD, List.getElem?_eq_getElem h, List.getElem?_eq_getElem (show i < (distL L N n k).length by omega)] using this
theorem distL_lt (L : List Nat) (N n k i : Nat) (h : i < (distL L N n k).length) : (distL L N n k).getD i 0 < n := by
  have hm : (distL L N n k)[i] ∈ distL L N n k := List.getElem_mem h
  have := (List.mem_filter.1 hm).1
  simpa [List.getD_eq_getElem?_getD, List.getElem?_eq_getElem h] using this

/-- The numbers below n that bear no mark. -/
def untaken (bs : List Bool) (n : Nat) : List Nat := (List.range n).filter fun i => !bs.getD i false
/-- .. and those that do. -/
def marked (bs : List Bool) (n : Nat) : List Nat := (List.range n).filter fun i => bs.getD i false
theorem untaken_no {bs : List Bool} {n : Nat} (h : bs.getD n false = true) : untaken bs (n + 1) = untaken bs n := by
  unfold untaken
  rw [List.range_succ, List.filter_append, List.filter_cons, if_neg (by rw [h]; simp)]
  simp
theorem untaken_yes {bs : List Bool} {n : Nat} (h : bs.getD n false = false) : untaken bs (n + 1) = untaken bs n ++ [n] := by
  unfold untaken
  rw [List.range_succ, List.filter_append, List.filter_cons, if_pos (by rw [h]; rfl)]
  simp
theorem marked_yes {bs : List Bool} {n : Nat} (h : bs.getD n false = true) : marked bs (n + 1) = marked bs n ++ [n] := by
  unfold marked
  rw [List.range_succ, List.filter_append, List.filter_cons, if_pos h]
  simp
theorem marked_no {bs : List Bool} {n : Nat} (h : bs.getD n false = false) : marked bs (n + 1) = marked bs n := by
  unfold marked
  rw [List.range_succ, List.filter_append, List.filter_cons, if_neg (by rw [h]; simp)]
  simp
theorem marked_le (bs : List Bool) (n : Nat) : (marked bs n).length ≤ n := by
  have := List.length_filter_le (fun i => bs.getD i false) (List.range n)
  rwa [List.length_range] at this
theorem range_cut {n t : Nat} (h : t < n) : List.range n = List.range t ++ t :: List.range' (t + 1) (n - t - 1) := by
  rw [List.range_eq_range', List.range_eq_range']
  have h1 : List.range' 0 n = List.range' 0 (t + (n - t)) := by rw [show t + (n - t) = n by omega]
  rw [h1, ← List.range'_append, Nat.one_mul, Nat.zero_add]
  congr 1
  rw [show n - t = (n - t - 1) + 1 by omega, List.range'_succ]
  rfl
theorem set_other (bs : List Bool) (t i : Nat) (h : i ≠ t) : (bs.set t true).getD i false = bs.getD i false := by
  simp only [List.getD_eq_getElem?_getD]
  rw [List.getElem?_set_ne (by omega)]
theorem set_same (bs : List Bool) (t : Nat) (h : t < bs.length) : (bs.set t true).getD t false = true := by
  simp [List.getD_eq_getElem?_getD, h]
/-- The number that is marked is the one that so many untaken ones stand ahead of. -/
theorem untaken_set (bs : List Bool) (n t : Nat) (hl : bs.length = n) (h : t < n) (hf : bs.getD t false = false) :
    untaken (bs.set t true) n = (untaken bs n).eraseIdx (untaken bs t).length := by
  unfold untaken
  rw [range_cut h, List.filter_append, List.filter_append, List.filter_cons, List.filter_cons, if_neg (by rw [set_same bs t (by omega)]; simp), if_pos (by rw [hf]; rfl),
    List.eraseIdx_append_of_length_le (Nat.le_refl _), Nat.sub_self, List.eraseIdx_cons_zero]
  congr 1
  · refine List.filter_congr fun i hi => ?_
    rw [set_other bs t i (by have := List.mem_range.1 hi; omega)]
  · refine List.filter_congr fun i hi => ?_
    obtain ⟨j, _, rfl⟩ := List.mem_range'.1 hi
    rw [set_other bs t _ (by omega)]
theorem marked_dist {L : List Nat} {N n k : Nat} {bs : List Bool} (h : untaken bs n = leftL L N (List.range n) k) : marked bs n = distL L N n k := by
  unfold marked distL
  refine List.filter_congr fun i hi => ?_
  rw [← h]
  unfold untaken
  cases hb : bs.getD i false
  · simp only [List.mem_filter, hi, hb, true_and]
    simp
  · simp only [List.mem_filter, hi, hb, true_and]
    simp
theorem untaken_new (n : Nat) : untaken (List.replicate n false) n = List.range n := by
  unfold untaken
  refine List.filter_eq_self.2 fun a ha => ?_
  simp [List.getD_eq_getElem?_getD, List.mem_range.1 ha]
end Go.Proofs.YtmdmipojbeppiaaGreatDoor
namespace Go.Proofs.YtmdmipojbeppiaaGreatDoor
open Go.RowKit
set_option linter.unusedVariables false
set_option maxRecDepth 4000

/-- The places as they were chosen, and the marks: the same. -/
structure Chn (n : Nat) (ch : List Bool) (ps : List Nat) : Prop where
  len : ch.length = n
  nodup : ps.Nodup
  lt : ∀ i ∈ ps, i < n
  mem : ∀ i, i < n → ch.getD i false = decide (i ∈ ps)
theorem chn_one {n p : Nat} (hp : p < n) : Chn n ((List.replicate n false).set p true) [p] := by
  refine ⟨by rw [List.length_set, List.length_replicate], by simp, fun i hi => by rw [List.mem_singleton.1 hi]; exact hp, fun i hi => ?_⟩
  by_cases e : i = p
  · subst e
    rw [set_at (by rw [List.length_replicate]; exact hi)]
    simp
  · rw [set_else e, List.getD_eq_getElem?_getD, List.getElem?_replicate, if_pos hi]
    simp [e]
theorem Chn.snoc {n : Nat} {ch : List Bool} {ps : List Nat} (h : Chn n ch ps) {b : Nat} (hb : b < n) (hf : ch.getD b false = false) : Chn n (ch.set b true) (ps ++ [b]) := by
  have hn : b ∉ ps := by
    have := h.mem b hb
    rw [hf] at this
    exact fun e => by rw [decide_eq_true e] at this; cases this
  refine ⟨by rw [List.length_set, h.len], ?_, fun i hi => ?_, fun i hi => ?_⟩
  · rw [List.nodup_append]
    refine ⟨h.nodup, by simp, fun a ha c hc e => hn ?_⟩
    rw [← List.mem_singleton.1 hc, ← e]
    exact ha
  · rcases List.mem_append.1 hi with e | e
    · exact h.lt i e
    · rw [List.mem_singleton.1 e]; exact hb
  · by_cases e : i = b
    · subst e
      rw [set_at (by rw [h.len]; exact hi)]
      simp
    · rw [set_else e, h.mem i hi]
      simp [e]
theorem Chn.many {n : Nat} {ch : List Bool} {ps : List Nat} (h : Chn n ch ps) : ps.Perm (placesCh ch n) := by
  have h2 : (placesCh ch n).Nodup := (places_rise ch n).imp fun h => Nat.ne_of_lt h
  refine (List.perm_ext_iff_of_nodup h.nodup h2).2 fun i => ?_
  rw [places_mem]
  constructor
  · intro hi
    exact ⟨h.lt i hi, by rw [h.mem i (h.lt i hi)]; exact decide_eq_true hi⟩
  · rintro ⟨h3, h4⟩
    rw [h.mem i h3] at h4
    exact of_decide_eq_true h4
theorem Chn.sort {n : Nat} {ch : List Bool} {ps : List Nat} (h : Chn n ch ps) : (castZ ps).mergeSort (fun x y => decide (x ≤ y)) = castZ (placesCh ch n) := by
  have hp : ((castZ ps).mergeSort fun x y => decide (x ≤ y)).Perm (castZ (placesCh ch n)) := (List.mergeSort_perm _ _).trans (h.many.map _)
  refine List.Perm.eq_of_pairwise (le := fun x y : Int => x ≤ y) (fun a b _ _ h1 h2 => Int.le_antisymm h1 h2) ?_ ?_ hp
  · have := List.pairwise_mergeSort (le := fun x y : Int => decide (x ≤ y)) (fun a b c h1 h2 => by simp at *; omega) (fun a b => by simp; omega) (castZ ps)
    exact this.imp fun h => by simpa using h
  · exact List.Pairwise.map _ (fun a b hab => by omega) (places_rise ch n)
theorem has_cast (ps : List Nat) (i : Nat) : decide ((i : Int) ∈ castZ ps) = decide (i ∈ ps) := by
  have : ((i : Int) ∈ castZ ps) ↔ i ∈ ps := by
    unfold castZ
    rw [List.mem_map]
    constructor
    · rintro ⟨j, h1, h2⟩
      have : j = i := by omega
      rw [← this]; exact h1
    · exact fun h => ⟨i, h, rfl⟩
  simp only [this]
/-- The degree, told from the words that meet. -/
theorem deg_with (a v : List Nat) : cnt (a.take (min a.length v.length)) ≤ cnt a ∧ cnt a - cnt (a.take (min a.length v.length)) + cnt (xorL (a.take (min a.length v.length)) v) = cnt (xorL a v) := by
  have h1 : cnt (a.take (min a.length v.length)) + cnt (a.drop (min a.length v.length)) = cnt a := by rw [← cnt_append, List.take_append_drop]
  refine ⟨by omega, ?_⟩
  rcases Nat.lt_or_ge a.length v.length with h | h
  · rw [Nat.min_eq_left (Nat.le_of_lt h), List.take_length]
    omega
  · have h2 : xorL a v = xorL (a.take (min a.length v.length)) v ++ a.drop (min a.length v.length) := by
      rw [Nat.min_eq_right h]
      apply ext_getD
      · rw [xorL_length, List.length_append, xorL_length, List.length_take, List.length_drop]
        omega
      · intro i hi
        rw [xorL_getD, List.getD_eq_getElem?_getD (l := _ ++ _), List.getElem?_append]
        have hl : (xorL (a.take v.length) v).length = v.length := by rw [xorL_length, List.length_take]; omega
        rw [hl]
        by_cases e : i < v.length
        · rw [if_pos e, ← List.getD_eq_getElem?_getD, xorL_getD]
          congr 1
          rw [List.getD_eq_getElem?_getD, List.getD_eq_getElem?_getD, List.getElem?_take, if_pos e]
        · rw [if_neg e, getD_of_le (a := v) (by omega), Nat.xor_zero, List.getElem?_drop, List.getD_eq_getElem?_getD]
          congr 2
          omega
    have h3 : cnt (xorL a v) = cnt (xorL (a.take (min a.length v.length)) v) + cnt (a.drop (min a.length v.length)) := by rw [h2, cnt_append]
    omega
/-- The distance as a number without sign. -/
def distN (d : Nat) (t : Int) : Nat := (distZ d t).toNat
theorem distN_cast (d : Nat) (t : Int) : ((distN d t : Nat) : Int) = distZ d t := Int.toNat_of_nonneg (distZ_pos d t)
theorem distN_lt {d e : Nat} {t : Int} : distN d t < distN e t ↔ distZ d t < distZ e t := by
  have := distN_cast d t
  have := distN_cast e t
  omega
/-- What is chosen at last: behind 31 steps, or earlier, where no more is. -/
theorem chTo_last {V : List (List Nat)} {t : Int} {p k : Nat} (hk : k ≤ 31) (h : (nearTo V (chTo V t p k).ch (chTo V t p k).v t V.length).1 = none) : chTo V t p k = chTo V t p 31 := by
  have := chTo_end h (31 - k)
  rw [show k + (31 - k) = 31 by omega] at this
  exact this.symm
theorem chTo_len {V : List (List Nat)} {t : Int} {p : Nat} {m : Nat} (hV : ∀ i, (V.getD i []).length ≤ m) : ∀ k, (chTo V t p k).v.length ≤ m
  | 0 => hV p
  | k + 1 => by
    have ih := chTo_len (t := t) (p := p) hV k
    show (chStep V t (chTo V t p k)).v.length ≤ m
    unfold chStep
    split
    · exact ih
    · rename_i b _
      show (xorL _ _).length ≤ m
      rw [xorL_length]
      have := hV b
      omega
/-- The place where it begins. -/
def placeN (b : Int) (n : Nat) : Nat := ((b.tmod n + n).tmod n).toNat
theorem place_is (b : Int) {n : Nat} (hn : 0 < n) : ((placeN b n : Nat) : Int) = (b.tmod n + n).tmod n ∧ placeN b n < n := by
  have h1 : -(n : Int) < b.tmod n := by
    have := Int.lt_tmod_of_pos b (show (0 : Int) < n by omega)
    omega
  have h2 : 0 ≤ (b.tmod n + n).tmod n := Int.tmod_nonneg _ (by omega)
  have h3 : (b.tmod n + n).tmod n < n := Int.tmod_lt_of_pos _ (by omega)
  unfold placeN
  omega
end Go.Proofs.YtmdmipojbeppiaaGreatDoor
