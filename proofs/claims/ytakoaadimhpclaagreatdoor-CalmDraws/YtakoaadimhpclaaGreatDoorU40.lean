/-
  Contracts of calm.ofKind, slices.Values at []int, calm.senders, drawsOf. Condition: what is asked of can be read.
-/
import Derived.Test.YtakoaadimhpclaaGreatDoorU39
namespace Go.Proofs.YtakoaadimhpclaaGreatDoor
open Go.RowKit Go.Sort Go.Shelf
set_option linter.unusedVariables false
set_option linter.unusedSimpArgs false
set_option maxRecDepth 4000
attribute [local go_sem] Oper.semAt_some

/-- The i-th node's kind. -/
def kdN (ds : List NDV) (i : Nat) : Int := (ds.getD i .dflt).kd
/-- A node of a kind. -/
abbrev KindT (ds : List NDV) (n : Nat) (kd : Int) := { i : Nat // i < n ∧ kdN ds i = kd }
/-- All ahead of k have come. -/
def CameK (ds : List NDV) (n : Nat) (kd : Int) (k : Nat) (pre : List (KindT ds n kd)) : Prop := pre.length ≤ k ∧ ∀ j, j < k → kdN ds j = kd → ∃ y ∈ pre, y.1 = j
set_option maxRecDepth 100000 in
set_option maxHeartbeats 4000000 in
theorem ofkind1_stops (n : Nat) (hn : 1 ≤ n) (Bl Bk : Nat) (a : Option Addr) (N c : Nat) (ds : List NDV) (kd : Int) (w0 w : World) (hb : Below w0.heap.size w0 w) (hd : NdsAt w0 a N ds) (hN : N ≤ 8) (hBl : w.cell? ⟨Bl, 0, none⟩ = some (.slice a N c)) (hBk : w.cell? ⟨Bk, 0, none⟩ = some (.int .i64 kd)) (hk0 : Bk < w0.heap.size ∨ w0.heap.size ≤ Bk) (n₀ : Nat) (hn₀ : w0.heap.size ≤ n₀) (hBkn : Bk < n₀) (hn₁ : n₀ ≤ w.heap.size) :
    SeqStopsK Fence.wide n Tryz.prog 70 #[.pointer (some ⟨Bl, 0, none⟩), .pointer (some ⟨Bk, 0, none⟩)] (fun x : KindT ds N kd => #[Value.int .i64 (x.1 : Int)]) (Below n₀) (fun ys => ∀ j, j < N → kdN ds j = kd → ∃ y ∈ ys, y.1 = j) (fun pre => ∀ pre' x, pre = pre' ++ [x] → ∀ j, j < x.1 → kdN ds j = kd → ∃ y ∈ pre', y.1 = j) 9 w := by
  intro l J Jx W hW hJ hJx hY h0
  have hc0 := (hW.cell (p := ⟨Bl, 0, none⟩) (World.block_lt_of_cell? w _ hBl)).trans hBl
  have hck := (hW.cell (p := ⟨Bk, 0, none⟩) (World.block_lt_of_cell? w _ hBk)).trans hBk
  have HB0 := hide (hb.trans (hW.mono hb.size))
  have HD := hide hd
  have HJ := hide hJ
  have HY := hide hY
  have HK := hide hck
  have hWs := hW.size
  clear hd hJ hY hb hW hBl hBk hk0 hck
  refine callsIn_of_wp Tryz.func70 rfl trivial ?_ rfl
  simp only [Tryz.ntmps70, List.size_toArray, List.length_cons, List.length_nil, Nat.reduceAdd, Nat.reduceSub, Array.replicate_succ, Array.replicate_zero, List.push_toArray, List.append_toArray, List.nil_append, List.cons_append]
  gi_wp2
  gi_loopw [8] (fun i wr => ∃ (k : Nat) (pre : List (KindT ds N kd)), k ≤ N ∧ i = .int .i64 k ∧ Hid (J pre wr) ∧ Hid (CameK ds N kd k pre) ∧ Hid (Below w0.heap.size w0 wr) ∧ Hid (Below n₀ W wr)) (fun i _ => N - (intOf i).toNat)
  case atStart => exact ⟨0, [], Nat.zero_le _, rfl, hide h0, hide ⟨Nat.le_refl _, fun j h => by omega⟩, HB0, hide (Below.refl _ _)⟩
  case round =>
    obtain ⟨k, pre, hk, rfl, HJs, HC, HB, HS⟩ := hrel
    rename World => wr
    by_cases hlt : k < N
    · have hlt' : (k : Int) < (N : Int) := by omega
      have hd := (unhide HD).below (unhide HB)
      obtain ⟨b, off, rfl, hcl⟩ := hd.at hlt
      obtain ⟨hc1, hc2⟩ := hcl k hlt
      have hck := ((unhide HS).cell (p := ⟨Bk, 0, none⟩) hBkn).trans (unhide HK)
      have hkk : kdN ds k = (ds.getD k .dflt).kd := rfl
      have HC1 := hide (show ∀ hx, CameK ds N kd (k + 1) (pre ++ [⟨k, hx⟩]) from fun hx => by
        obtain ⟨g1, g2⟩ := unhide HC
        refine ⟨by simp; omega, fun j hj hkj => ?_⟩
        by_cases e : j = k
        · exact ⟨_, List.mem_append_right _ (List.mem_singleton.2 rfl), e.symm⟩
        · obtain ⟨y, h1, h2⟩ := g2 j (by omega) hkj
          exact ⟨y, List.mem_append_left _ h1, h2⟩)
      have HC2 := hide (show kdN ds k ≠ kd → CameK ds N kd (k + 1) pre from fun hne => by
        obtain ⟨g1, g2⟩ := unhide HC
        refine ⟨by omega, fun j hj hkj => ?_⟩
        by_cases e : j = k
        · rw [e] at hkj; exact absurd hkj hne
        · exact g2 j (by omega) hkj)
      rw [hkk] at HC2
      have HKK := hide hkk
      clear hcl hd hkk
      generalize ds.getD k .dflt = d at *
      obtain ⟨Wa, hWa⟩ : ∃ Wa, Wa = wr.alloc (.cells #[.int .i64 d.kd, .slice d.a d.n d.c] 83) := ⟨_, rfl⟩
      have HBa := hide (show Below wr.heap.size wr Wa from by rw [hWa]; exact alloc_low wr _)
      have HJa := hide (show J pre Wa from (unhide HJ) pre wr Wa none (unhide HJs) (by rw [hWa]; exact World.grownBy_alloc wr _ none) (fun r e => by cases e))
      have hcka := ((unhide HBa).cell (p := ⟨Bk, 0, none⟩) (World.block_lt_of_cell? wr _ hck)).trans hck
      have hBn := hide (show Below n₀ W Wa from (unhide HS).trans ((unhide HBa).mono (Nat.le_trans hn₁ (Nat.le_trans hWs (unhide HS).size))))
      have hw0a := hide (below0 (unhide HB) (unhide HBa))
      by_cases hkd : d.kd = kd
      · have hbq : (d.kd == kd) = true := by rw [hkd]; exact beq_self_eq_true kd
        have hx : k < N ∧ kdN ds k = kd := ⟨hlt, (unhide HKK).trans hkd⟩
        obtain ⟨fn, tmps, assign, body, hy, hR⟩ := (unhide HY) pre ⟨k, hx⟩ Wa (unhide HJa) (by have := (unhide HC).1; omega)
        dsimp only at hy
        have HC3 := hide ((unhide HC1) hx)
        have HPS := hide (show ∀ pre' x, pre ++ [(⟨k, hx⟩ : KindT ds N kd)] = pre' ++ [x] → ∀ j, j < x.1 → kdN ds j = kd → ∃ y ∈ pre', y.1 = j from fun pre' x e j hj hkj => by
          obtain ⟨e1, e2⟩ := List.append_inj' e rfl
          simp only [List.cons.injEq, and_true] at e2
          subst e1 e2
          exact (unhide HC).2 j hj hkj)
        rw [hWa] at hcka hy hR hBn hw0a
        clear hkd HC1 HC2
        gi_wp2
        refine hR.mono ?_
        rintro e W3 (⟨rfl, hJ3, hk3⟩ | ⟨rfl, hJx3⟩)
        · have HJ3 := hide hJ3
          have HB3 := hide ((unhide hw0a).trans (hk3.mono hn₀))
          have HS3 := hide ((unhide hBn).trans hk3)
          clear hJ3 hk3
          gi_wp2
          go_roundw
          case rel => exact ⟨k + 1, _, hlt, by go_num, HJ3, HC3, HB3, HS3⟩
          case measure => simp [intOf]; omega
        · gi_wp2
          refine bodyPost_ret (results_none rfl _ _ _) rfl ?_
          exact ⟨⟨_, rfl⟩, .inr ⟨_, unhide HPS, hJx3⟩⟩
      · have hbq : (d.kd == kd) = false := beq_eq_false_iff_ne.2 hkd
        have HC3 := hide ((unhide HC2) hkd)
        rw [hWa] at hcka HJa hBn hw0a
        clear hkd HC1 HC2
        gi_wp2
        refine ⟨fun _ h => (by cases h), ?_⟩
        gi_wp2
        go_roundw
        case rel => exact ⟨k + 1, _, hlt, by go_num, HJa, HC3, hw0a, hBn⟩
        case measure => simp [intOf]; omega
    · obtain rfl : k = N := by omega
      gi_wp2
      go_end0
      exact ⟨⟨_, rfl⟩, .inl ⟨pre, fun j hj hkj => (unhide HC).2 j hj hkj, unhide HJs⟩⟩
theorem ofkind_any (a : Option Addr) (N c : Nat) (kd : Int) (w : World) :
    Calls Tryz.prog 54 #[.slice a N c, .int .i64 kd] w fun e w' => e = .returned (.func (.func 70) #[] #[.pointer (some ⟨w.heap.size, 0, none⟩), .pointer (some ⟨w.heap.size + 1, 0, none⟩)]) ∧ w' = (w.alloc (.cells #[.slice a N c] 48)).alloc (.cells #[.int .i64 kd] 3) := by
  go_enter Tryz.func54, Tryz.ntmps54
  go_wp2
  go_ret
  exact ⟨rfl, rfl⟩
/-- The first k numbers of a list have come. -/
abbrev BelowT (M : List Int) := { q : Nat // q < M.length }
set_option maxRecDepth 100000 in
set_option maxHeartbeats 2000000 in
theorem values1_stops (n : Nat) (hn : 1 ≤ n) (Bs : Nat) (a : Option Addr) (c : Nat) (M : List Int) (w0 w : World) (hb : Below w0.heap.size w0 w) (hM : IntzAt w0 a M.length M) (hl : M.length ≤ 1048576) (hBs : w.cell? ⟨Bs, 0, none⟩ = some (.slice a M.length c)) :
    SeqStopsK Fence.wide n Tryz.prog 71 #[.pointer (some ⟨Bs, 0, none⟩)] (fun x : BelowT M => #[Value.int .i64 (M.getD x.1 0)]) (Below w0.heap.size) (fun ys => ys.map (·.1) = List.range M.length) (fun _ => True) M.length w := by
  intro l J Jx W hW hJ hJx hY h0
  have hc0 := (hW.cell (p := ⟨Bs, 0, none⟩) (World.block_lt_of_cell? w _ hBs)).trans hBs
  have HB0 := hide (hb.trans (hW.mono hb.size))
  have HM := hide hM
  have HY := hide hY
  clear hM hY hb hW hBs hJ
  refine callsIn_of_wp Tryz.func71 rfl trivial ?_ rfl
  simp only [Tryz.ntmps71, List.size_toArray, List.length_cons, List.length_nil, Nat.reduceAdd, Nat.reduceSub, Array.replicate_succ, Array.replicate_zero, List.push_toArray, List.append_toArray, List.nil_append, List.cons_append]
  gi_wp2
  gi_loopw [7] (fun i wr => ∃ (k : Nat) (pre : List (BelowT M)), k ≤ M.length ∧ i = .int .i64 k ∧ Hid (J pre wr) ∧ Hid (pre.map (·.1) = List.range k) ∧ Hid (Below w0.heap.size w0 wr)) (fun i _ => M.length - (intOf i).toNat)
  case atStart => exact ⟨0, [], Nat.zero_le _, rfl, hide h0, hide rfl, HB0⟩
  case round =>
    obtain ⟨k, pre, hk, rfl, HJs, HC, HB⟩ := hrel
    rename World => wr
    by_cases hlt : k < M.length
    · have hlt' : (k : Int) < (M.length : Int) := by omega
      obtain ⟨b, off, rfl, hcl⟩ := ((unhide HM).below (unhide HB)).at hlt
      have hck := hcl k hlt
      have hpl : pre.length < M.length := by have := congrArg List.length (unhide HC); simp at this; omega
      obtain ⟨fn, tmps, assign, body, hy, hR⟩ := (unhide HY) pre ⟨k, hlt⟩ wr (unhide HJs) hpl
      dsimp only at hy
      have HC2 := hide (show (pre ++ [(⟨k, hlt⟩ : BelowT M)]).map (·.1) = List.range (k + 1) from by rw [List.map_append, unhide HC, List.range_succ]; rfl)
      clear hcl hpl
      generalize M.getD k 0 = y at *
      gi_wp2
      refine hR.mono ?_
      rintro e W3 (⟨rfl, hJ3, hk3⟩ | ⟨rfl, hJx3⟩)
      · have HJ3 := hide hJ3
        have HB3 := hide ((unhide HB).trans hk3)
        clear hJ3 hk3
        gi_wp2
        go_roundw
        case rel => exact ⟨k + 1, _, hlt, by go_num, HJ3, HC2, HB3⟩
        case measure => simp [intOf]; omega
      · gi_wp2
        refine bodyPost_ret (results_none rfl _ _ _) rfl ?_
        exact ⟨⟨_, rfl⟩, .inr ⟨_, trivial, hJx3⟩⟩
    · obtain rfl : k = M.length := by omega
      gi_wp2
      go_end0
      exact ⟨⟨_, rfl⟩, .inl ⟨pre, unhide HC, unhide HJs⟩⟩
theorem senders_any (a : Option Addr) (n c : Nat) (w : World) (hn : n ≤ c) (hb : n ≤ 1048576) :
    Calls Tryz.prog 31 #[.slice a n c] w fun e w' => e = .returned (.func (.func 71) #[] #[.pointer (some ⟨w.heap.size, 0, none⟩)]) ∧ w' = w.alloc (.cells #[.slice a (n - 1) c] 58) := by
  have hm : ((n : Int) - 1).toNat = n - 1 := by omega
  have hmx := max0_run' ((n : Int) - 1)
  rw [hm] at hmx
  have hsl := islice_hi a n c (n - 1) (by omega)
  have hw : IntKind.i64.wrap ((n : Int) - 1) = (n : Int) - 1 := by rw [IntKind.wrap_i64]; omega
  have HV := hide (show ∀ wx : World, Calls Tryz.prog 55 #[.slice a (n - 1) c] wx fun e w' => e = .returned (.func (.func 71) #[] #[.pointer (some ⟨wx.heap.size, 0, none⟩)]) ∧ w' = wx.alloc (.cells #[.slice a (n - 1) c] 58) from fun wx => by
    go_enter Tryz.func55, Tryz.ntmps55
    go_wp2
    go_ret
    exact ⟨rfl, rfl⟩)
  go_enter Tryz.func31, Tryz.ntmps31
  go_wp2_with (first
    | (go_at_call 55; refine (unhide HV _).mono ?_; rintro e w2 ⟨rfl, rfl⟩)
    | fail)
  go_ret
  exact ⟨rfl, rfl⟩
/-- What a node acts by. -/
def drawsF (kd k i : Int) : List Nat := if kd = 1 then drawsD k i else [(i.toNat)]
theorem drawsof_any (kd k : Int) (i : Nat) (hi : i < 1048576) (w : World) : Calls Tryz.prog 33 #[.int .i64 kd, .int .i64 k, .int .i64 (i : Int)] w fun e w' => ∃ v, e = .returned v ∧ Own w' w.heap.size v (drawsF kd k (i : Int)) ∧ Below w.heap.size w w' := by
  by_cases h : kd = 1
  · have e : drawsF kd k (i : Int) = drawsD k (i : Int) := if_pos h
    have HD := hide (cadraws_any k (i : Int) w)
    rw [e]
    subst h
    go_enter Tryz.func33, Tryz.ntmps33
    go_wp2_with (first
      | (go_at_call 9; refine (unhide HD).mono ?_; rintro e w2 ⟨v, rfl, hr, hb⟩; have HR := hide hr; have HB := hide hb; clear hr hb)
      | fail)
    go_ret
    exact ⟨_, rfl, unhide HR, unhide HB⟩
  · have e : drawsF kd k (i : Int) = [i] := by unfold drawsF; rw [if_neg h, Int.toNat_natCast]
    have hq : (kd == 1) = false := beq_eq_false_iff_ne.2 h
    have hw : IntKind.u64.wrap (i : Int) = (i : Int) := by rw [IntKind.wrap_u64]; omega
    have HR := hide (own_lit1 w i (by omega))
    rw [e]
    clear h e
    go_enter Tryz.func33, Tryz.ntmps33
    go_wp2
    go_ret
    exact ⟨_, rfl, unhide HR, alloc_low _ _⟩
end Go.Proofs.YtakoaadimhpclaaGreatDoor
