/-
  Slices of rows of words in memory: what can be read ('VecsAt'), and what is the call's own, each row in a block of its own ('OwnV'). Contracts of echelon.add, own, by and its closure, Reduce: for rows of at most 2^20 words, in every world that holds the table of math/bits.
-/
import Derived.Test.YtckhchgcpmcpnaaDoorEV
import Derived.Test.YtckhchgcpmcpnaaDoorRB
namespace Go.Proofs.YtckhchgcpmcpnaaDoor
open Go.RowKit
set_option linter.unusedVariables false

theorem gb_refl (w : World) (r : Option Nat) : w.grownBy w r := ⟨rfl, rfl, rfl, Nat.le_refl _, fun _ _ _ => rfl⟩
theorem gb_of_below {w w' : World} (h : Below w.heap.size w w') (r : Option Nat) : w.grownBy w' r := ⟨h.os, h.tape, h.output, h.size, fun k hk _ => h.block k hk⟩
theorem gb_trans {w w1 w2 : World} {r r' : Option Nat} (h : w.grownBy w1 r) (k : w1.grownBy w2 r') (hr : r' = r ∨ ∀ j, r' = some j → w.heap.size ≤ j) : w.grownBy w2 r := by
  refine ⟨k.os.trans h.os, k.tape.trans h.tape, k.output.trans h.output, Nat.le_trans h.size k.size, fun j hj hne => ?_⟩
  refine (k.block j (Nat.lt_of_lt_of_le hj h.size) fun e => ?_).trans (h.block j hj hne)
  rcases hr with hr | hr
  · exact hne (e.trans hr)
  · have := hr j e.symm; omega
theorem gb_below {w w' : World} {r : Option Nat} (h : w.grownBy w' r) {B : Nat} (hB : B ≤ w.heap.size) (hr : ∀ k, r = some k → B ≤ k) : Below B w w' := (Below.refl B w).grown h hB hr
theorem gb_setCell (w : World) (g i : Nat) (u : Value) : w.grownBy (w.setCell ⟨g, i, none⟩ u) (some g) :=
  ⟨rfl, rfl, rfl, by simp [World.setCell], fun k _ hk => Below.heap_setCell _ _ _ _ (fun e => hk (by rw [e]))⟩
theorem gb_drew {w w' : World} {r : Option Nat} (h : w.grownBy w' r) : w.grownBy w'.drew r := ⟨h.os, h.tape, h.output, h.size, h.block⟩
/-- A value came of another one: nothing old has turned but that one's block, and it lies there or in new memory. -/
def Turned (w w' : World) (u v : Value) : Prop := w.grownBy w' u.ownBlock ∧ (v.ownBlock = u.ownBlock ∨ ∀ k, v.ownBlock = some k → w.heap.size ≤ k)
/-- They lie in different blocks. -/
def Dis (u v : Value) : Prop := u.ownBlock = none ∨ u.ownBlock ≠ v.ownBlock
theorem Dis.symm {u v : Value} (h : Dis u v) : Dis v u := by
  rcases h with h | h
  · by_cases e : v.ownBlock = none
    · exact .inl e
    · exact .inr (by rw [h]; exact e)
  · exact .inr fun e => h e.symm
theorem Own.kept {w w' : World} {B : Nat} {v : Value} {xs : List Nat} {row : Option Nat} (h : Own w B v xs) (hg : w.grownBy w' row) (hd : v.ownBlock = none ∨ v.ownBlock ≠ row) : Own w' B v xs := ⟨h.1, h.2.kept hg hd⟩
theorem Own.lt {w : World} {B : Nat} {v : Value} {xs : List Nat} (h : Own w B v xs) {k : Nat} (hk : v.ownBlock = some k) : B ≤ k ∧ k < w.heap.size := h.2.lt k hk
theorem RowAt.kept {w w' : World} {a : Option Addr} {n : Nat} {xs : List Nat} {row : Option Nat} (h : RowAt w a n xs) (hg : w.grownBy w' row) (hd : n = 0 ∨ ∀ ad, a = some ad → some ad.block ≠ row) : RowAt w' a n xs := by
  refine ⟨h.1, h.2.1, ?_⟩
  rcases h.2.2 with h0 | ⟨b, off, rfl, hc⟩
  · exact .inl h0
  · rcases hd with h0 | hd
    · exact .inl h0
    · exact .inr ⟨b, off, rfl, fun i hi => hg.cell (hc i hi) (hd ⟨b, off, none⟩ rfl)⟩
theorem RowAt.lt {w : World} {a : Option Addr} {n : Nat} {xs : List Nat} (h : RowAt w a n xs) : n = 0 ∨ ∀ ad, a = some ad → ad.block < w.heap.size := by
  rcases h.2.2 with h0 | ⟨b, off, rfl, hc⟩
  · exact .inl h0
  · by_cases h0 : n = 0
    · exact .inl h0
    · right
      intro ad e
      simp only [Option.some.injEq] at e
      subst e
      exact World.block_lt_of_cell? w _ (hc 0 (by omega))

set_option maxHeartbeats 1000000 in
theorem eadd_any (B : Nat) (a : Option Addr) (c : Nat) (xs : List Nat) (a' : Option Addr) (m c' : Nat) (ys : List Nat) (w : World) (ho : Own w B (.slice a xs.length c) xs) (hB : B ≤ w.heap.size) (h' : RowAt w a' m ys)
    (hap : m = 0 ∨ ∀ ad, a' = some ad → some ad.block ≠ (Value.slice a xs.length c).ownBlock) (hn : xs.length ≤ 1048576) (hm : m ≤ 1048576) :
    Calls Tryd.prog 34 #[.slice a xs.length c, .slice a' m c'] w fun e w' => ∃ v, e = .returned v ∧ Own w' B v (xorL xs ys) ∧ Turned w w' (.slice a xs.length c) v := by
  obtain rfl : m = ys.length := h'.1.symm
  have hr : RowAt w a xs.length xs := by
    obtain ⟨a1, c1, e, hr⟩ := ho.row
    simp only [Value.slice.injEq] at e
    rw [e.1]; exact hr
  by_cases hsw : xs.length < ys.length
  · have hge : ((xs.length : Int) < (ys.length : Int)) := by omega
    have HX := hide (xor_any a xs.length c xs a' ys.length c' ys w hr h' hn hm)
    clear hr h' hap
    go_enter Tryd.func34, Tryd.ntmps34
    go_wp2_with (go_at_call 37; refine (unhide HX).mono ?_; rintro e w1 ⟨v, rfl, ho1, hb⟩)
    go_ret
    exact ⟨_, rfl, ho1.mono hB, gb_of_below hb _, .inr fun k hk => (ho1.lt hk).1⟩
  · have hge : ¬ ((xs.length : Int) < (ys.length : Int)) := by omega
    go_enter Tryd.func34, Tryd.ntmps34
    go_wp2
    go_loopw [17] (fun i wr => ∃ k : Nat, k ≤ ys.length ∧ i = .int .i64 k ∧ Hid (Own wr B (.slice a xs.length c) (xorTo xs ys k)) ∧ Hid (w.grownBy wr (Value.slice a xs.length c).ownBlock)) (fun i _ => ys.length - (intOf i).toNat)
    case atStart => exact ⟨0, Nat.zero_le _, rfl, hide (by rw [xorTo_zero]; exact ho), hide (gb_refl _ _)⟩
    case round =>
      obtain ⟨k, hk, rfl, HO, HB⟩ := hrel
      by_cases hlt : k < ys.length
      · obtain ⟨b', off', rfl, hc'⟩ := (h'.kept (unhide HB) hap).at hlt
        have hkn : k < xs.length := by omega
        obtain ⟨g, cap, he, hBg, hgs, hcg, hfg⟩ := (unhide HO).at (by rw [xorTo_length]; omega)
        rw [xorTo_length] at he
        simp only [Value.slice.injEq, true_and] at he
        obtain ⟨rfl, rfl⟩ := he
        have hcell' := hc' k hlt
        have hcell := hcg k (by rw [xorTo_length]; omega)
        have hfz := hfg k
        rw [xorTo_getD xs ys k k (by omega), if_neg (by omega)] at hcell
        have hxo := u64_xor_nat (xs.getD k 0) (ys.getD k 0) (ho.1.get k) (h'.2.1.get k)
        have R := hide (xor_round ho.1 h'.2.1 hkn hBg (unhide HO) (Below.refl B _)).1
        have RG := hide (fun u => gb_trans (unhide HB) (gb_setCell _ g k u) (.inl rfl))
        generalize xs.getD k 0 = x at *
        generalize ys.getD k 0 = y at *
        clear hc' hcg hfg h' HO hr ho hap
        go_wp2
        go_roundw
        case rel => exact ⟨k + 1, by omega, by go_num, R, hide (unhide RG _)⟩
        case measure => simp [intOf]; omega
      · have hke : k = ys.length := by omega
        subst hke
        rw [xorTo_all xs ys (by omega)] at HO
        clear hr h' hap ho
        go_wp2
        go_ret
        exact ⟨_, rfl, unhide HO, unhide HB, .inl rfl⟩

theorem row_nil (w : World) : RowAt w none 0 [] := ⟨rfl, (fun _ h => by cases h), .inl rfl⟩
theorem xorL_none (a : List Nat) : xorL a [] = a := by
  apply ext_getD
  · rw [xorL_length]; simp
  · intro i _; rw [xorL_getD]; simp
set_option maxHeartbeats 400000 in
theorem own_any (a : Option Addr) (n c : Nat) (xs : List Nat) (w : World) (h : RowAt w a n xs) (hn : n ≤ 1048576) :
    Calls Tryd.prog 30 #[.slice a n c] w fun e w' => ∃ v, e = .returned v ∧ Own w' w.heap.size v xs ∧ Below w.heap.size w w' := by
  have hx := xor_any a n c xs none 0 0 [] w h (row_nil w) hn (by omega)
  rw [xorL_none] at hx
  have HX := hide hx
  clear hx h
  go_enter Tryd.func30, Tryd.ntmps30
  go_wp2_with (go_at_call 37; refine (unhide HX).mono ?_; rintro e w1 ⟨v, rfl, ho1, hb⟩)
  go_ret
  exact ⟨_, rfl, ho1, hb⟩

/-- The step that 'by' gives: where it keeps the row and its first bit. -/
def ByAt (w : World) (lo p q : Nat) (a : Option Addr) (n c : Nat) (f : Int) : Prop := lo ≤ p ∧ lo ≤ q ∧ w.cell? ⟨q, 0, none⟩ = some (.int .i64 f) ∧ w.cell? ⟨p, 0, none⟩ = some (.slice a n c)
theorem ByAt.below {w w' : World} {lo p q : Nat} {a : Option Addr} {n c : Nat} {f : Int} (h : ByAt w lo p q a n c f) (hb : Below w.heap.size w w') : ByAt w' lo p q a n c f :=
  ⟨h.1, h.2.1, (hb.cell (World.block_lt_of_cell? w _ h.2.2.1)).trans h.2.2.1, (hb.cell (World.block_lt_of_cell? w _ h.2.2.2)).trans h.2.2.2⟩
theorem ByAt.kept {w w' : World} {lo p q : Nat} {a : Option Addr} {n c : Nat} {f : Int} {row : Option Nat} (h : ByAt w lo p q a n c f) (hg : w.grownBy w' row) (hp : some p ≠ row) (hq : some q ≠ row) : ByAt w' lo p q a n c f :=
  ⟨h.1, h.2.1, hg.cell h.2.2.1 hq, hg.cell h.2.2.2 hp⟩
set_option maxHeartbeats 400000 in
theorem by_any (a : Option Addr) (n c : Nat) (xs : List Nat) (w : World) (ht : Tab w) (h : RowAt w a n xs) (hn : n ≤ 1048576) :
    Calls Tryd.prog 25 #[.slice a n c] w fun e w' => e = .returned (.func (.func 32) #[] #[.pointer (some ⟨w.heap.size + 1, 0, none⟩), .pointer (some ⟨w.heap.size, 0, none⟩)]) ∧
      ByAt w' w.heap.size w.heap.size (w.heap.size + 1) a n c (firstI xs) ∧ Below w.heap.size w w' := by
  have hb : Below w.heap.size w (w.alloc (.cells #[.slice a n c] 31)) := (Below.refl _ _).alloc (Nat.le_refl _) _
  have HF := hide (first_any a n c xs (w.alloc (.cells #[.slice a n c] 31)) (ht.below hb) (h.below hb) hn)
  have hmf : ∀ (fn : Fn) (first cap : Array Value) (w : World), (Instr.makeFunc fn first cap).run Tryd.prog w = .ok (.func fn first cap) w := fun _ _ _ _ => rfl
  clear h ht hb
  generalize firstI xs = f at *
  go_enter Tryd.func25, Tryd.ntmps25
  go_wp2_with (go_at_call 23; refine (unhide HF).mono ?_; rintro e w1 ⟨rfl, rfl⟩)
  go_ret
  refine ⟨rfl, ⟨Nat.le_refl _, by omega, ?_, ?_⟩, ((Below.refl _ _).alloc (Nat.le_refl _) _).alloc (by simp) _⟩
  · rw [World.cell?_alloc_at _ _ _ _ (by simp)]; rfl
  · rw [World.cell?_alloc_past _ _ _ (by simp), World.cell?_alloc_at _ _ _ _ rfl]; rfl

theorem Turned.after {w w1 w2 : World} {u v : Value} (hb : Below w.heap.size w w1) (h : Turned w1 w2 u v) : Turned w w2 u v :=
  ⟨gb_trans (gb_of_below hb _) h.1 (.inl rfl), h.2.imp id fun k j hj => Nat.le_trans hb.size (k j hj)⟩
theorem Turned.same (w : World) (u : Value) : Turned w w u u := ⟨gb_refl _ _, .inl rfl⟩
/-- .. and below the first block of one's own nothing has turned. -/
theorem Turned.below {w w' : World} {B : Nat} {u v : Value} {xs : List Nat} (h : Turned w w' u v) (ho : Own w B u xs) (hB : B ≤ w.heap.size) : Below B w w' := gb_below h.1 hB fun k hk => (ho.lt hk).1

set_option maxHeartbeats 1000000 in
theorem estep_any (B lo p q : Nat) (a : Option Addr) (c : Nat) (xs : List Nat) (a' : Option Addr) (m c' : Nat) (ys : List Nat) (w : World) (ho : Own w B (.slice a xs.length c) xs) (hB : B ≤ w.heap.size) (h' : RowAt w a' m ys)
    (hby : ByAt w lo p q a' m c' (firstI ys)) (hap : m = 0 ∨ ∀ ad, a' = some ad → some ad.block ≠ (Value.slice a xs.length c).ownBlock) (hn : xs.length ≤ 1048576) (hm : m ≤ 1048576) :
    Calls Tryd.prog 32 #[.slice a xs.length c, .pointer (some ⟨q, 0, none⟩), .pointer (some ⟨p, 0, none⟩)] w fun e w' => ∃ v, e = .returned v ∧ Own w' B v (stepL xs ys) ∧ Turned w w' (.slice a xs.length c) v := by
  have hr : RowAt w a xs.length xs := by
    obtain ⟨a1, c1, e, hr⟩ := ho.row
    simp only [Value.slice.injEq] at e
    rw [e.1]; exact hr
  have hfl := firstI_le h'.2.1
  have hml := h'.1
  have HG := hide (get_any a xs.length c xs (firstI ys) w hr hn (by omega))
  have hq := hby.2.2.1
  have hE : stepL xs ys = if getI xs (firstI ys) = true then xorL xs ys else xs := rfl
  cases hget : getI xs (firstI ys) with
  | false =>
    rw [hget] at HG hE
    rw [if_neg (by decide)] at hE
    rw [hE]
    have HO := hide ho
    clear ho h' hr hby hE hget
    generalize firstI ys = f at *
    go_enter Tryd.func32, Tryd.ntmps32
    go_wp2_with (go_at_call 33; refine (unhide HG).mono ?_; rintro e w1 ⟨rfl, d, rfl⟩)
    go_ret
    have hb : Below w.heap.size w (w.drewN d) := below_drewN (Below.refl _ _) d
    exact ⟨_, rfl, (unhide HO).below hb, (Turned.same _ _).after hb⟩
  | true =>
    rw [hget] at HG hE
    rw [if_pos rfl] at hE
    rw [hE]
    clear hE hget hr
    have HX := hide (fun w1 (hb : Below w.heap.size w w1) => eadd_any B a c xs a' m c' ys w1 (ho.below hb) (Nat.le_trans hB hb.size) (h'.below hb) hap hn hm)
    have HP := hide (fun w1 (hb : Below w.heap.size w w1) => (hby.below hb).2.2.2)
    clear ho h' hby hap
    generalize firstI ys = f at *
    go_enter Tryd.func32, Tryd.ntmps32
    go_wp2_with fail
    refine (unhide HG).mono ?_
    rintro e w1 ⟨rfl, d, hw⟩
    have hb : Below w.heap.size w w1 := by rw [hw]; exact below_drewN (Below.refl _ _) d
    have hp := unhide HP w1 hb
    have HX1 := hide (unhide HX w1 hb)
    have HB := hide hb
    clear hw hb HX HP HG
    go_wp2_with (go_at_call 34; refine (unhide HX1).mono ?_; rintro e w2 ⟨v, rfl, ho2, ht2⟩)
    go_ret
    exact ⟨_, rfl, ho2, ht2.after (unhide HB)⟩

/-- A slice of rows of words that can be read: they are rs. -/
def VecsAt (w : World) (a : Option Addr) (n : Nat) (rs : List (List Nat)) : Prop :=
  rs.length = n ∧ (n = 0 ∨ ∃ b off, a = some ⟨b, off, none⟩ ∧ ∀ i, i < n → ∃ ai ci, w.cell? ⟨b, off + i, none⟩ = some (.slice ai (rs.getD i []).length ci) ∧ RowAt w ai (rs.getD i []).length (rs.getD i []))
theorem VecsAt.at {w : World} {a : Option Addr} {n : Nat} {rs : List (List Nat)} (h : VecsAt w a n rs) {i : Nat} (hi : i < n) :
    ∃ b off, a = some ⟨b, off, none⟩ ∧ ∀ i, i < n → ∃ ai ci, w.cell? ⟨b, off + i, none⟩ = some (.slice ai (rs.getD i []).length ci) ∧ RowAt w ai (rs.getD i []).length (rs.getD i []) := by
  rcases h.2 with h0 | h0
  · omega
  · exact h0
theorem VecsAt.below {w w' : World} {a : Option Addr} {n : Nat} {rs : List (List Nat)} (h : VecsAt w a n rs) (hb : Below w.heap.size w w') : VecsAt w' a n rs := by
  refine ⟨h.1, ?_⟩
  rcases h.2 with h0 | ⟨b, off, rfl, hc⟩
  · exact .inl h0
  · refine .inr ⟨b, off, rfl, fun i hi => ?_⟩
    obtain ⟨ai, ci, h1, h2⟩ := hc i hi
    exact ⟨ai, ci, (hb.cell (World.block_lt_of_cell? w _ h1)).trans h1, h2.below hb⟩
theorem VecsAt.small {w : World} {a : Option Addr} {n : Nat} {rs : List (List Nat)} (h : VecsAt w a n rs) (i : Nat) : smalls (rs.getD i []) := by
  by_cases hi : i < n
  · obtain ⟨b, off, _, hc⟩ := h.at hi
    obtain ⟨ai, ci, _, h2⟩ := hc i hi
    exact h2.2.1
  · rw [List.getD_eq_getElem?_getD, List.getElem?_eq_none (by rw [h.1]; omega)]
    exact smalls.nil
theorem VecsAt.fit {w : World} {a : Option Addr} {n : Nat} {rs : List (List Nat)} (h : VecsAt w a n rs) {M : Nat} (hM : ∀ i, i < n → (rs.getD i []).length ≤ M) : Fit M rs := by
  intro b hb
  obtain ⟨i, hi, rfl⟩ := List.getElem_of_mem hb
  have h1 := h.small i
  have h2 := hM i (by rw [← h.1]; exact hi)
  simp only [List.getD_eq_getElem?_getD, List.getElem?_eq_getElem hi, Option.getD_some] at h1 h2
  exact ⟨h1, h2⟩

set_option maxHeartbeats 1000000 in
theorem reduce_any (a : Option Addr) (n c : Nat) (rs : List (List Nat)) (a' : Option Addr) (m c' : Nat) (xs : List Nat) (w : World) (ht : Tab w) (h : VecsAt w a n rs) (hf : Fit 1048576 rs) (h' : RowAt w a' m xs) (hn : n ≤ 1048576) (hm : m ≤ 1048576) :
    Calls Tryd.prog 22 #[.slice a n c, .slice a' m c'] w fun e w' => ∃ v, e = .returned v ∧ Own w' w.heap.size v (reduceL rs xs) ∧ Below w.heap.size w w' := by
  have hmf : ∀ (fn : Fn) (first cap : Array Value) (w : World), (Instr.makeFunc fn first cap).run Tryd.prog w = .ok (.func fn first cap) w := fun _ _ _ _ => rfl
  obtain rfl : m = xs.length := h'.1.symm
  have HOW := hide (own_any a' _ c' xs w h' hm)
  have hxs := h'.2.1
  clear h'
  go_enter Tryd.func22, Tryd.ntmps22
  go_wp2_with fail
  refine (unhide HOW).mono ?_
  rintro e w1 ⟨v, rfl, ho, hb⟩
  obtain ⟨a1, c1, rfl, _⟩ := ho.row
  go_wp2
  go_loopw [5, 12] (fun r i wr => ∃ k : Nat, k ≤ n ∧ i = .int .i64 k ∧ ∃ a1 c1, r = .slice a1 (reduceL (rs.take k) xs).length c1 ∧ Hid (Own wr w.heap.size (.slice a1 (reduceL (rs.take k) xs).length c1) (reduceL (rs.take k) xs)) ∧ Hid (Below w.heap.size w wr)) (fun _ i _ => n - (intOf i).toNat)
  case atStart => exact ⟨0, Nat.zero_le _, rfl, a1, c1, rfl, hide ho, hide hb⟩
  case round =>
    obtain ⟨k, hk, rfl, a2, c2, rfl, HO, HB⟩ := hrel
    clear ho hb HOW
    by_cases hlt : k < n
    · have hB := unhide HB
      obtain ⟨b, off, rfl, hc⟩ := (h.below hB).at hlt
      obtain ⟨ai, ci, hcell, hrow⟩ := hc k hlt
      have hrow0 : RowAt w ai (rs.getD k []).length (rs.getD k []) := by
        obtain ⟨b2, off2, e2, hc2⟩ := h.at hlt
        simp only [Option.some.injEq, Addr.mk.injEq, and_true] at e2
        obtain ⟨rfl, rfl⟩ := e2
        obtain ⟨ai2, ci2, g1, g2⟩ := hc2 k hlt
        have := (hB.cell (World.block_lt_of_cell? w _ g1)).trans g1
        rw [hcell] at this
        simp only [Option.some.injEq, Value.slice.injEq, true_and] at this
        rw [this.1]; exact g2
      have hlk := (hf.getD k).2
      have hrs := reduce_small (hf.take k) hxs hm
      have HE := hide (reduce_take (v := xs) (show k < rs.length by rw [h.1]; exact hlt))
      have HBY := hide (by_any ai (rs.getD k []).length ci (rs.getD k []) _ (ht.below hB) hrow hlk)
      have hlo := hrow0.lt
      have HR := hide hrow
      clear hc hrow hrow0 h
      generalize rs.getD k [] = y at *
      generalize reduceL (rs.take k) xs = r at *
      go_wp2_with fail
      refine (unhide HBY).mono ?_
      rintro e w2 ⟨rfl, hby, hb2⟩
      have ho2 := (unhide HO).below hb2
      have hB2 := below0 hB hb2
      have HS := hide (estep_any w.heap.size _ _ _ a2 c2 r ai y.length ci y w2 ho2 hB2.size ((unhide HR).below hb2) hby (hlo.imp id fun hlo ad e e2 => by have := hlo ad e; have := (ho2.lt e2.symm).1; omega) hrs.2 hlk)
      have HO2 := hide ho2
      have HB2 := hide hB2
      clear hby hb2 ho2 hB2 HO HB HBY HR hB
      go_wp2_with fail
      refine (unhide HS).mono ?_
      rintro e w3 ⟨v, rfl, ho3, ht3⟩
      have hB3 := (unhide HB2).trans (ht3.below (unhide HO2) (unhide HB2).size)
      obtain ⟨a3, c3, rfl, _⟩ := ho3.row
      rw [← unhide HE]
      rw [← unhide HE] at ho3
      have HO3 := hide ho3
      have HB3 := hide hB3
      clear ho3 hB3 ht3 HS HO2 HB2
      go_wp2
      go_roundw
      case rel => exact ⟨k + 1, by omega, by go_num, a3, c3, rfl, HO3, HB3⟩
      case measure => simp [intOf]; omega
    · have hke : reduceL (rs.take k) xs = reduceL rs xs := reduce_all (by rw [h.1]; omega)
      rw [hke] at HO
      rw [hke]
      clear h hke
      go_wp2
      go_ret
      exact ⟨_, rfl, unhide HO, unhide HB⟩
end Go.Proofs.YtckhchgcpmcpnaaDoor
