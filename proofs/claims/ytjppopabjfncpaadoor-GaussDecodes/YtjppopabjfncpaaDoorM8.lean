/-
  Contract of bucketlineref13.less.
  Contract of bucketlineref13.with.
  Contract of bucketlineref13.Peel.
  Contract of bucketlineref13.Peel: the walk.
  Slices of rows of one's own, as they are read; rows that are not too long.
  The walks of PeelPeels and PeelRipples: for every input each tells true and writes nothing that was there.
-/
import Derived.Test.YtjppopabjfncpaaDoorYK
import Derived.Test.YtjppopabjfncpaaDoorM7
namespace Go.Proofs.YtjppopabjfncpaaDoor
open Go.RowKit Go.Sort
set_option linter.unusedVariables false
set_option maxRecDepth 4000

theorem rows_two {w : World} {r q : RV} (hr : RowAt w r.a r.n r.xs) (hq : RowAt w q.a q.n q.xs) : RowsAt (w.alloc (.cells #[.slice r.a r.n r.c, .string r.s, .slice q.a q.n q.c, .string q.s] 37)) (some ⟨w.heap.size, 0, none⟩) 2 [r, q] := by
  have hb : Below w.heap.size w (w.alloc (.cells #[.slice r.a r.n r.c, .string r.s, .slice q.a q.n q.c, .string q.s] 37)) := (Below.refl _ _).alloc (Nat.le_refl _) _
  refine ⟨rfl, fun i hi => ?_, .inr ⟨w.heap.size, 0, rfl, fun i hi => ?_⟩⟩
  · match i, hi with
    | 0, _ => exact hr.below hb
    | 1, _ => exact hq.below hb
  · match i, hi with
    | 0, _ => constructor <;> simp
    | 1, _ => constructor <;> simp
theorem row2_any (r q : RV) (w : World) (hr : RowAt w r.a r.n r.xs) (hq : RowAt w q.a q.n q.xs) (h1 : r.n ≤ 10 ∧ r.s.size ≤ 1000) (h2 : q.n ≤ 10 ∧ q.s.size ≤ 1000) :
    Calls Tryd.prog 74 #[.slice (some ⟨w.heap.size, 0, none⟩) 2 2] (w.alloc (.cells #[.slice r.a r.n r.c, .string r.s, .slice q.a q.n q.c, .string q.s] 37)) fun e w' => ∃ v, e = .returned (.agg #[v, .string (xorS r.s q.s)]) ∧ Own w' w.heap.size v (xorL r.xs q.xs) ∧ Below w.heap.size w w' := by
  have hb : Below w.heap.size w (w.alloc (.cells #[.slice r.a r.n r.c, .string r.s, .slice q.a q.n q.c, .string q.s] 37)) := (Below.refl _ _).alloc (Nat.le_refl _) _
  refine (rrow_any _ 2 2 [r, q] _ (rows_two hr hq) (fun i => ?_) (by omega)).mono ?_
  · match i with
    | 0 => exact h1
    | 1 => exact h2
    | i + 2 => exact ⟨Nat.zero_le _, Nat.zero_le _⟩
  · rintro e w' ⟨v, rfl, ho, hb2⟩
    refine ⟨v, ?_, ?_, below0 hb hb2⟩
    · show Ending.returned (.agg #[v, .string (st (xorL (xorL [] (tx r.s)) (tx q.s)))]) = _
      rw [nil_xorL]; rfl
    · have e : vecL [r, q] = xorL r.xs q.xs := by
        show xorL (xorL [] r.xs) q.xs = _
        rw [nil_xorL]
      rw [e] at ho
      exact ho.mono hb.size

set_option maxHeartbeats 4000000 in
theorem less_any (a : Option Addr) (n c : Nat) (ks : List RV) (r : RV) (w : World) (h : RowsAt w a n ks) (hs : shortR ks) (hn : n ≤ 1048576) (hr : RowAt w r.a r.n r.xs) (hrs : r.n ≤ 10 ∧ r.s.size ≤ 1000) :
    Calls Tryd.prog 50 #[.slice a n c, .agg #[.slice r.a r.n r.c, .string r.s]] w fun e w' => ∃ r' : RV, e = .returned (.agg #[.slice r'.a r'.n r'.c, .string r'.s]) ∧ LeR w w' w.heap.size r r' ∧ core r' = lessL (ks.map core) (core r) ∧ r'.n ≤ 10 ∧ r'.s.size ≤ 1000 ∧ Below w.heap.size w w' := by
  obtain rfl := h.1
  have hb0 := below2 (o := .cells #[.slice r.a r.n r.c, .string r.s] 37) (o' := .cells #[.slice none 0 0, .string ⟨#[]⟩] 37) (Below.refl _ w) (Below.refl _ _)
  have hX0 := (boxW_new w (.slice r.a r.n r.c) (.string r.s)).alloc (.cells #[.slice none 0 0, .string ⟨#[]⟩] 37)
  have hX1 := boxW_new (w.alloc (.cells #[.slice r.a r.n r.c, .string r.s] 37)) (.slice none 0 0) (.string ⟨#[]⟩)
  rw [alloc_size] at hX1
  have HK : Hid (LeS w ((w.alloc (.cells #[.slice r.a r.n r.c, .string r.s] 37)).alloc (.cells #[.slice none 0 0, .string ⟨#[]⟩] 37)) ks r 0 r) := hide ⟨hX0, hX1, .inl ⟨rfl, rfl, rfl, rfl⟩, rfl, hrs.1, hrs.2, hb0, by simp⟩
  have Hh := hide h
  have Hs := hide hs
  have HR := hide hr
  clear hb0 hX0 hX1 h hs hr
  go_enter Tryd.func50, Tryd.ntmps50
  go_wp2
  go_loopw [5] (fun i wr => ∃ k : Nat, ∃ r' : RV, k ≤ ks.length ∧ i = .int .i64 k ∧ Hid (LeS w wr ks r k r')) (fun i _ => ks.length - (intOf i).toNat)
  case atStart => exact ⟨0, r, Nat.zero_le _, rfl, HK⟩
  case round =>
    obtain ⟨k, r', hk, rfl, HL⟩ := hrel
    clear HK
    by_cases hlt : k < ks.length
    · have hL := unhide HL
      have hR := (unhide Hh).below hL.2.2.2.2.2.2.1
      obtain ⟨b, off, rfl, hcl⟩ := hR.at hlt
      obtain ⟨hc0, hc1⟩ := hcl k hlt
      obtain ⟨hx0, hx1⟩ := hL.1.1
      have hrow := hL.2.2.1.row (unhide HR) hL.2.2.2.2.2.2.1
      have hq := hR.2.1 k hlt
      have hqs := unhide Hs k
      have hlt' : (k : Int) < (ks.length : Int) := by omega
      have HSK := hide (fun (w1 : World) hno hb => hL.skip (w1 := w1) hlt hno hb)
      have HMO := hide (fun (w1 : World) (a2 : Option Addr) (c2 : Nat) hyes hl hs hrl hb ho => hL.more (w1 := w1) (a2 := a2) (c2 := c2) hlt hyes hl hs hrl hb ho)
      generalize ks.getD k .dflt = q at *
      have hfl := (firstI_le hq.2.1).1
      have k0 := cell_regrown hx0
      have k1 := cell_regrown hc0
      have cF := quietB (W := wr) (fun w' hb => same_below (rfirst_any q.a q.n q.c q.xs w' (hq.below hb) (by omega)))
      have cG := quietB (W := wr) (fun w' hb => same_below (rget_any r'.a r'.n r'.c r'.xs (firstI q.xs) w' (hrow.below hb) (by have := hL.2.2.2.2.1; omega) (by have := hq.1; omega)))
      have hBX := hide (fun (w1 : World) (hb : Below wr.heap.size wr w1) => hL.1.below hb)
      have hRW := hide (fun (w1 : World) (hb : Below wr.heap.size wr w1) => hrow.below hb)
      have hQW := hide (fun (w1 : World) (hb : Below wr.heap.size wr w1) => hq.below hb)
      have hrl := hide hrow.1
      have hql := hide hq.1
      have hn1 := hL.2.2.2.2.1
      have hs1 := hL.2.2.2.2.2.1
      have hbl : Hid (b < w.heap.size) := hide (by
        obtain ⟨b', off', he, hcl'⟩ := (unhide Hh).at hlt
        simp only [Option.some.injEq, Addr.mk.injEq, and_true] at he
        have := World.block_lt_of_cell? w _ (hcl' k hlt).1
        have e := he.1
        simp at this
        omega)
      generalize firstI q.xs = fi at *
      clear hcl hR hL hrow hq hfl
      cases hg : getI r'.xs fi
      · rw [hg] at cG
        have HS2 := hide (fun (w1 : World) hb => unhide HSK w1 hg hb)
        clear HSK HMO
        go_wp2_with fail
        refine wp_region_quiet_below (by kernel_rfl) (by kernel_rfl) ?_
        repeat (with_reducible refine wpQuiet_step (fun K hK => ?_); go_simp; first | (with_reducible refine hK _ ?_; clear hK K) | (apply Exists.intro; apply And.intro; (intro _; first | (go_at_call 44; exact cF _ _) | (go_at_call 45; exact cG _ _)); with_reducible refine hK _ ?_; clear hK K))
        refine wpQuiet_nil ?_
        intro _ hw'
        obtain ⟨⟨dq, osq⟩, hw''⟩ := hw'
        subst hw''
        have hbr := below_regrown wr dq osq
        have HS3 := hide (unhide HS2 _ hbr)
        clear hbr HS2 cF cG k0 k1 hx0 hx1 hc0 hc1 HL hBX hRW hQW
        generalize grow (redrawn wr dq) osq = w3 at *
        go_wp2
        go_roundw
        case rel => exact ⟨k + 1, r', by omega, by go_num, HS3⟩
        case measure => simp [intOf]; omega
      · rw [hg] at cG
        have HM2 := hide (fun (w1 : World) (a2 : Option Addr) (c2 : Nat) hb ho => unhide HMO w1 a2 c2 hg (by have := unhide hql; omega) hqs.2 (unhide hrl).symm hb ho)
        clear HSK HMO
        go_wp2_with fail
        refine wp_region_quiet_below (by kernel_rfl) (by kernel_rfl) ?_
        repeat (with_reducible refine wpQuiet_step (fun K hK => ?_); go_simp; first | (with_reducible refine hK _ ?_; clear hK K) | (apply Exists.intro; apply And.intro; (intro _; first | (go_at_call 44; exact cF _ _) | (go_at_call 45; exact cG _ _)); with_reducible refine hK _ ?_; clear hK K))
        refine wpQuiet_nil ?_
        intro _ hw'
        obtain ⟨⟨dq, osq⟩, hw''⟩ := hw'
        subst hw''
        have hbr := below_regrown wr dq osq
        have y0 := (hbr.cell (World.block_lt_of_cell? wr _ hc0)).trans hc0
        have y1 := (hbr.cell (World.block_lt_of_cell? wr _ hc1)).trans hc1
        obtain ⟨⟨z0, z1⟩, f0, f1⟩ := unhide hBX _ hbr
        have HRO := hide (row2_any r' q (World.drew (grow (redrawn wr dq) osq)) ((unhide hRW _ hbr).below (Below.refl _ _).drew) ((unhide hQW _ hbr).below (Below.refl _ _).drew) ⟨hn1, hs1⟩ hqs)
        have HBR := hide hbr
        clear hbr cF cG k0 k1 hx0 hx1 hc0 hc1 HL hRW hQW f0 f1
        generalize grow (redrawn wr dq) osq = w3 at *
        go_wp2_with fail
        refine wp_region_any (by kernel_rfl) ?_
        change wpAny _ _ _ _ _ _ _ (World.drew _)
        refine wpAny_take (i := 1) (v := ?_) rfl (by kernel_rfl) (by kernel_rfl) (by kernel_rfl) (fun _ _ _ h => h) (Or.inl ⟨by rfl, ?f1⟩) ?_
        case f1 => (intro w; go_simp; try with_reducible rfl)
        refine wpAny_take (i := 2) (v := ?_) rfl (by kernel_rfl) (by kernel_rfl) (by kernel_rfl) (fun _ _ _ h => h) (Or.inl ⟨by rfl, ?f2⟩) ?_
        case f2 => (intro w; go_simp; try with_reducible rfl)
        refine wpAny_take (i := 3) (v := ?_) rfl (by kernel_rfl) (by kernel_rfl) (by kernel_rfl) (fun _ _ _ h => h) (Or.inl ⟨by rfl, ?f3⟩) ?_
        case f3 => (intro w; go_simp; try with_reducible rfl)
        refine wpAny_ready (rs := [0, 4]) (by kernel_rfl) (by simp) ?_
        refine AllReady.cons rfl (fun K hK => ?_) (AllReady.cons rfl (fun K hK => ?_) AllReady.nil)
        go_simp
        refine hK _ _ ?_
        clear hK K
        refine wpAny_ready (rs := [4]) (by kernel_rfl) (by simp) ?_
        refine AllReady.cons rfl (fun K hK => ?_) AllReady.nil
        go_simp
        refine hK _ _ ?_
        clear hK K
        rotate_left
        go_simp
        refine hK _ _ ?_
        clear hK K
        refine wpAny_ready (rs := [0]) (by kernel_rfl) (by simp) ?_
        refine AllReady.cons rfl (fun K hK => ?_) AllReady.nil
        go_simp
        refine hK _ _ ?_
        clear hK K
        rotate_left
        all_goals
          refine wpAny_ready (rs := [5]) (by kernel_rfl) (by simp) ?_
          refine AllReady.cons rfl (fun K hK => ?_) AllReady.nil
          go_simp
          refine hK _ _ ?_
          clear hK K
          refine wpAny_ready (rs := [6]) (by kernel_rfl) (by simp) ?_
          refine AllReady.cons rfl (fun K hK => ?_) AllReady.nil
          go_simp
          refine (unhide HRO).mono ?_
          rintro e w4 ⟨v4, rfl, ho4, hb4⟩
          obtain ⟨a4, c4, rfl, hr4⟩ := ho4.row
          have hb4w : Below wr.heap.size wr w4 := below0 (unhide HBR) (below0 ((Below.refl w3.heap.size w3).drew) hb4)
          obtain ⟨⟨q0, q1⟩, g0, g1⟩ := unhide hBX _ hb4w
          have HM4 := hide (unhide HM2 w4 a4 c4 hb4w (ho4.mono (unhide HBR).size))
          clear ho4 hb4 hr4 hb4w HM2 HRO
          refine hK _ _ ?_
          clear hK K
          refine wpAny_ready (rs := [7]) (by kernel_rfl) (by simp) ?_
          refine AllReady.cons rfl (fun K hK => ?_) AllReady.nil
          go_simp
          refine hK _ _ ?_
          clear hK K
          refine wpAny_done (by kernel_rfl) ?_ _
          go_wp2
          go_roundw
          case rel => exact ⟨k + 1, _, by omega, by go_num, HM4⟩
          case measure => simp [intOf]; omega
    · have hke : ks.take k = ks := List.take_of_length_le (by omega)
      have hL := unhide HL
      rw [LeS, hke] at hL
      obtain ⟨⟨⟨x0, x1⟩, _, _⟩, ⟨⟨x2, x3⟩, f2, f3⟩, hLe, hco, hn1, hs1, hB, hS⟩ := hL
      have HE := hide (⟨hLe, hco, hn1, hs1, hB⟩ : LeR w wr (w.heap.size + 2) r r' ∧ core r' = lessL (ks.map core) (core r) ∧ r'.n ≤ 10 ∧ r'.s.size ≤ 1000 ∧ Below w.heap.size w wr)
      clear hLe hco hn1 hs1 hB HL Hh Hs
      go_wp2
      have y1 := World.cell?_setCell_same (wr.setCell ⟨w.heap.size + 1, 0, none⟩ (.slice r'.a r'.n r'.c)) ⟨w.heap.size + 1, 1, none⟩ (.string r'.s) ((World.cell?_setCell_other (h := by simp) ..).trans x3)
      have y0 : ((wr.setCell ⟨w.heap.size + 1, 0, none⟩ (.slice r'.a r'.n r'.c)).setCell ⟨w.heap.size + 1, 1, none⟩ (.string r'.s)).cell? ⟨w.heap.size + 1, 0, none⟩ = some (.slice r'.a r'.n r'.c) :=
        (World.cell?_setCell_other (h := by simp) ..).trans (World.cell?_setCell_same _ _ _ x2)
      obtain ⟨hLe, hco, hn1, hs1, hB⟩ := unhide HE
      refine bodyPost_ret (v := .agg #[.slice r'.a r'.n r'.c, .string r'.s]) (by simp [results, Tryd.results50, go_sem, y0, y1]) rfl ⟨r', rfl, ?_, hco, hn1, hs1, (hB.setCell (p := ⟨w.heap.size + 1, 0, none⟩) (Nat.le_succ _) _).setCell (p := ⟨w.heap.size + 1, 1, none⟩) (Nat.le_succ _) _⟩
      exact hLe.imp id fun h => ((h.other _ _ (by omega)).other _ _ (by omega)).mono (by omega)
end Go.Proofs.YtjppopabjfncpaaDoor
namespace Go.Proofs.YtjppopabjfncpaaDoor
open Go.RowKit Go.Sort
set_option linter.unusedVariables false
set_option maxRecDepth 4000

/-- What is gathered of the first k known ones, with r at its place. -/
def WtP (ks : List RV) (r : RV) (k : Nat) (pl : Bool) (ts : List RV) : Prop :=
  (pl = false ∧ ts = ks.take k ∧ ∀ j, j < k → ¬ firstI r.xs < firstI (ks.getD j .dflt).xs) ∨
  (pl = true ∧ ∃ p, p < k ∧ ts = ks.take p ++ r :: (ks.take k).drop p ∧ firstI r.xs < firstI (ks.getD p .dflt).xs ∧ ∀ j, j < p → ¬ firstI r.xs < firstI (ks.getD j .dflt).xs)
/-- .. and of all. -/
def WtE (ks : List RV) (r : RV) (ts : List RV) : Prop := ∃ p, p ≤ ks.length ∧ ts = ks.take p ++ r :: ks.drop p ∧ (p < ks.length → firstI r.xs < firstI (ks.getD p .dflt).xs) ∧ ∀ j, j < p → ¬ firstI r.xs < firstI (ks.getD j .dflt).xs
theorem WtP.no {ks : List RV} {r : RV} {k : Nat} {ts : List RV} (h : WtP ks r k false ts) (hk : k < ks.length) (hn : ¬ firstI r.xs < firstI (ks.getD k .dflt).xs) : WtP ks r (k + 1) false (ts ++ [ks.getD k .dflt]) := by
  rcases h with ⟨_, rfl, h⟩ | ⟨h, _⟩
  · refine .inl ⟨rfl, take_snocR ks k hk, fun j hj => ?_⟩
    by_cases e : j = k
    · rw [e]; exact hn
    · exact h j (by omega)
  · cases h
theorem WtP.at {ks : List RV} {r : RV} {k : Nat} {ts : List RV} (h : WtP ks r k false ts) (hk : k < ks.length) (hn : firstI r.xs < firstI (ks.getD k .dflt).xs) : WtP ks r (k + 1) true ((ts ++ [r]) ++ [ks.getD k .dflt]) := by
  rcases h with ⟨_, rfl, h⟩ | ⟨h, _⟩
  · refine .inr ⟨rfl, k, by omega, ?_, hn, h⟩
    rw [← take_snocR ks k hk, List.drop_append_of_le_length (by simp; omega), List.drop_of_length_le (by simp; omega)]
    simp
  · cases h
theorem WtP.behind {ks : List RV} {r : RV} {k : Nat} {ts : List RV} (h : WtP ks r k true ts) (hk : k < ks.length) : WtP ks r (k + 1) true (ts ++ [ks.getD k .dflt]) := by
  rcases h with ⟨h, _⟩ | ⟨_, p, hp, rfl, h1, h2⟩
  · cases h
  · refine .inr ⟨rfl, p, by omega, ?_, h1, h2⟩
    rw [← take_snocR ks k hk, List.drop_append_of_le_length (by simp; omega)]
    simp
theorem WtP.last {ks : List RV} {r : RV} {ts : List RV} (h : WtP ks r ks.length false ts) : WtE ks r (ts ++ [r]) := by
  rcases h with ⟨_, rfl, h⟩ | ⟨h, _⟩
  · exact ⟨ks.length, Nat.le_refl _, by simp, fun h => by omega, h⟩
  · cases h
theorem WtP.done {ks : List RV} {r : RV} {ts : List RV} (h : WtP ks r ks.length true ts) : WtE ks r ts := by
  rcases h with ⟨h, _⟩ | ⟨_, p, hp, rfl, h1, h2⟩
  · cases h
  · exact ⟨p, by omega, by simp, fun _ => h1, h2⟩
theorem WtP.len {ks : List RV} {r : RV} {k : Nat} {pl : Bool} {ts : List RV} (h : WtP ks r k pl ts) : ts.length ≤ k + 1 := by
  rcases h with ⟨_, rfl, _⟩ | ⟨_, p, hp, rfl, _⟩
  · have := List.length_take_le k ks; omega
  · simp; omega
/-- What a round of with leaves. -/
def WtS (w wr : World) (r : RV) (a1 : Option Addr) (m1 c1 : Nat) (ts : List RV) : Prop :=
  OwnS wr (w.heap.size + 1) (.slice a1 m1 c1) ts ∧ BoxAt wr w.heap.size (.slice r.a r.n r.c) (.string r.s) ∧ Below w.heap.size w wr ∧ w.heap.size + 1 ≤ wr.heap.size
theorem WtS.below {w wr w1 : World} {r : RV} {a1 : Option Addr} {m1 c1 : Nat} {ts : List RV} (h : WtS w wr r a1 m1 c1 ts) (hb : Below wr.heap.size wr w1) : WtS w w1 r a1 m1 c1 ts := ⟨h.1.below hb, h.2.1.below hb, below0 h.2.2.1 hb, Nat.le_trans h.2.2.2 hb.size⟩
theorem WtS.push {w wr w1 : World} {r : RV} {a1 : Option Addr} {m1 c1 : Nat} {ts : List RV} {q : RV} {v : Value} (h : WtS w wr r a1 m1 c1 ts) (ho : OwnS w1 (w.heap.size + 1) v (ts ++ [q])) (hb : Below (w.heap.size + 1) wr w1) : ∃ a2 m2 c2, v = .slice a2 m2 c2 ∧ WtS w w1 r a2 m2 c2 (ts ++ [q]) := by
  obtain ⟨a2, c2, e⟩ := ho.shape
  refine ⟨a2, _, c2, e, by rw [← e]; exact ho, ?_, h.2.2.1.trans (hb.mono (Nat.le_succ _)), Nat.le_trans h.2.2.2 hb.size⟩
  exact ⟨(hb.cell (p := ⟨w.heap.size, 0, none⟩) (Nat.lt_succ_self _)).trans h.2.1.1, (hb.cell (p := ⟨w.heap.size, 1, none⟩) (Nat.lt_succ_self _)).trans h.2.1.2⟩

set_option maxHeartbeats 4000000 in
theorem with_any (a : Option Addr) (n c : Nat) (ks : List RV) (r : RV) (w : World) (h : RowsAt w a n ks) (hs : shortR ks) (hn : n ≤ 100000) (hr : RowAt w r.a r.n r.xs) (hrs : r.n ≤ 10) :
    Calls Tryd.prog 52 #[.slice a n c, .agg #[.slice r.a r.n r.c, .string r.s]] w fun e w' => ∃ a1 m1 c1 ts, e = .returned (.slice a1 m1 c1) ∧ OwnS w' w.heap.size (.slice a1 m1 c1) ts ∧ WtE ks r ts ∧ Below w.heap.size w w' := by
  obtain rfl := h.1
  have HK : Hid (WtS w (w.alloc (.cells #[.slice r.a r.n r.c, .string r.s] 37)) r none 0 0 []) := hide ⟨OwnS.nil _ _, box_new _ _ _, alloc_b _ _, by simp⟩
  have Hh := hide h
  have Hs := hide hs
  have HR := hide hr
  clear h hs hr
  go_enter Tryd.func52, Tryd.ntmps52
  go_wp2
  go_loopw [5, 6, 7] (fun o pv i wr => ∃ k : Nat, ∃ pl : Bool, ∃ a1 : Option Addr, ∃ m1 c1 : Nat, ∃ ts : List RV, k ≤ ks.length ∧ i = .int .i64 k ∧ pv = .bool pl ∧ o = .slice a1 m1 c1 ∧ Hid (WtS w wr r a1 m1 c1 ts) ∧ Hid (WtP ks r k pl ts)) (fun _ _ i _ => ks.length - (intOf i).toNat)
  case atStart => exact ⟨0, false, none, 0, 0, [], Nat.zero_le _, rfl, rfl, rfl, HK, hide (.inl ⟨rfl, rfl, fun j hj => by omega⟩)⟩
  case round =>
    obtain ⟨k, pl, a1, m1, c1, ts, hk, rfl, rfl, rfl, HW, HP⟩ := hrel
    clear HK
    have htl : ts.length ≤ 200000 := by have := (unhide HP).len; omega
    by_cases hlt : k < ks.length
    · have hW := unhide HW
      have hR := (unhide Hh).below hW.2.2.1
      obtain ⟨b, off, rfl, hcl⟩ := hR.at hlt
      obtain ⟨hc0, hc1⟩ := hcl k hlt
      obtain ⟨hx0, hx1⟩ := hW.2.1
      have hlt' : (k : Int) < (ks.length : Int) := by omega
      have HCL := hide (fun (w1 : World) (hb : Below w.heap.size w w1) => (((unhide Hh).below hb).at hlt))
      cases pl with
      | true =>
        have HP2 := hide ((unhide HP).behind hlt)
        generalize ks.getD k .dflt = q at *
        clear hcl hR hW hx0 hx1 HP
        go_wp2_with fail
        refine wp_region_quiet_below (by kernel_rfl) (by kernel_rfl) ?_
        repeat (with_reducible refine wpQuiet_step (fun K hK => ?_); go_simp; (with_reducible refine hK _ ?_; clear hK K))
        refine wpQuiet_nil ?_
        intro _ hw'
        obtain ⟨⟨dq, osq⟩, hw''⟩ := hw'
        subst hw''
        have hbr := below_regrown wr dq osq
        have y0 := (hbr.cell (World.block_lt_of_cell? wr _ hc0)).trans hc0
        have y1 := (hbr.cell (World.block_lt_of_cell? wr _ hc1)).trans hc1
        have HW3 := hide ((unhide HW).below hbr)
        clear hbr hc0 hc1 HW
        generalize grow (redrawn wr dq) osq = w3 at *
        go_wp2_with (first | (at_builtin; refine wpList_pushS rfl (.tmp 32) (.tmp 37) rfl (w.heap.size + 1) (.slice a1 m1 c1) ts q rfl rfl (unhide HW3).1 (unhide HW3).2.2.2 (by omega) ?_; intro v4 w4 ho4 hg4 hb4; obtain ⟨a4, m4, c4, rfl, hW4⟩ := (unhide HW3).push ho4 hb4; have HW4 := hide hW4; clear ho4 hg4 hb4 hW4))
        go_roundw
        case rel => exact ⟨k + 1, true, a4, m4, c4, _, by omega, by go_num, rfl, rfl, HW4, HP2⟩
        case measure => simp [intOf]; omega
      | false =>
        have hrow := (unhide HR).below hW.2.2.1
        have hq := hR.2.1 k hlt
        have hqs := unhide Hs k
        have HPN := hide (fun h => (unhide HP).no hlt h)
        have HPY := hide (fun h => (unhide HP).at hlt h)
        generalize ks.getD k .dflt = q at *
        have k0 := cell_regrown hx0
        have k1 := cell_regrown hc0
        have cQ := quietB (W := wr) (fun w' hb => same_below (rfirst_any q.a q.n q.c q.xs w' (hq.below hb) (by omega)))
        have cR := quietB (W := wr) (fun w' hb => same_below (rfirst_any r.a r.n r.c r.xs w' (hrow.below hb) (by omega)))
        clear hcl hR hW hrow hq
        generalize firstI q.xs = fq at *
        generalize firstI r.xs = fr at *
        by_cases hgt : fr < fq
        · have hd : decide (fr < fq) = true := decide_eq_true hgt
          have HP2 := hide (unhide HPY hgt)
          clear HPN HPY HP
          go_wp2_with fail
          refine wp_region_quiet_below (by kernel_rfl) (by kernel_rfl) ?_
          repeat (with_reducible refine wpQuiet_step (fun K hK => ?_); go_simp; first | (with_reducible refine hK _ ?_; clear hK K) | (apply Exists.intro; apply And.intro; (intro _; first | (go_at_call 44; exact cQ _ _) | (go_at_call 44; exact cR _ _)); with_reducible refine hK _ ?_; clear hK K))
          refine wpQuiet_nil ?_
          intro _ hw'
          obtain ⟨⟨dq, osq⟩, hw''⟩ := hw'
          subst hw''
          have hbr := below_regrown wr dq osq
          have hW3 := (unhide HW).below hbr
          obtain ⟨z0, z1⟩ := hW3.2.1
          have HW3 := hide hW3
          have HBC := hide (fun (w4 : World) (hb : Below w.heap.size w w4) => unhide HCL w4 hb)
          have y0 := (hbr.cell (World.block_lt_of_cell? wr _ hc0)).trans hc0
          have y1 := (hbr.cell (World.block_lt_of_cell? wr _ hc1)).trans hc1
          have hbo : Hid (b < w.heap.size) := hide (by
            obtain ⟨b', off', he, hcl'⟩ := (unhide Hh).at hlt
            simp only [Option.some.injEq, Addr.mk.injEq, and_true] at he
            have := World.block_lt_of_cell? w _ (hcl' k hlt).1
            have e := he.1
            simp at this
            omega)
          clear hbr hc0 hc1 HW hW3 hx0 hx1 k0 k1 cQ cR HBC HCL
          generalize grow (redrawn wr dq) osq = w3 at *
          have HF1 : Hid True := hide trivial
          go_wp2_with (first | (at_builtin; clear HF1; refine wpList_pushS rfl (.tmp 28) (.tmp 30) rfl (w.heap.size + 1) (.slice a1 m1 c1) ts r rfl rfl (unhide HW3).1 (unhide HW3).2.2.2 (by omega) ?_; intro v4 w4 ho4 hg4 hb4; obtain ⟨a4, m4, c4, rfl, hW4⟩ := (unhide HW3).push ho4 hb4; have x0 := (hb4.cell (p := ⟨b, off + k * 2, none⟩) (Nat.lt_succ_of_lt (unhide hbo))).trans y0; have x1 := (hb4.cell (p := ⟨b, off + k * 2 + 1, none⟩) (Nat.lt_succ_of_lt (unhide hbo))).trans y1; have HW4 := hide hW4; clear ho4 hg4 hb4 hW4) | (at_builtin; refine wpList_pushS rfl (.tmp 32) (.tmp 37) rfl (w.heap.size + 1) (.slice a4 m4 c4) (ts ++ [r]) q rfl rfl (unhide HW4).1 (unhide HW4).2.2.2 (by simp; omega) ?_; intro v5 w5 ho5 hg5 hb5; obtain ⟨a5, m5, c5, rfl, hW5⟩ := (unhide HW4).push ho5 hb5; have HW5 := hide hW5; clear ho5 hg5 hb5 hW5))
          go_roundw
          case rel => exact ⟨k + 1, true, a5, m5, c5, _, by omega, by go_num, rfl, rfl, HW5, HP2⟩
          case measure => simp [intOf]; omega
        · have hd : decide (fr < fq) = false := decide_eq_false hgt
          have HP2 := hide (unhide HPN hgt)
          clear HPN HPY HP HCL
          go_wp2_with fail
          refine wp_region_quiet_below (by kernel_rfl) (by kernel_rfl) ?_
          repeat (with_reducible refine wpQuiet_step (fun K hK => ?_); go_simp; first | (with_reducible refine hK _ ?_; clear hK K) | (apply Exists.intro; apply And.intro; (intro _; first | (go_at_call 44; exact cQ _ _) | (go_at_call 44; exact cR _ _)); with_reducible refine hK _ ?_; clear hK K))
          refine wpQuiet_nil ?_
          intro _ hw'
          obtain ⟨⟨dq, osq⟩, hw''⟩ := hw'
          subst hw''
          have hbr := below_regrown wr dq osq
          have y0 := (hbr.cell (World.block_lt_of_cell? wr _ hc0)).trans hc0
          have y1 := (hbr.cell (World.block_lt_of_cell? wr _ hc1)).trans hc1
          have HW3 := hide ((unhide HW).below hbr)
          clear hbr hc0 hc1 HW hx0 hx1 k0 k1 cQ cR
          generalize grow (redrawn wr dq) osq = w3 at *
          go_wp2_with (first | (at_builtin; refine wpList_pushS rfl (.tmp 32) (.tmp 37) rfl (w.heap.size + 1) (.slice a1 m1 c1) ts q rfl rfl (unhide HW3).1 (unhide HW3).2.2.2 (by omega) ?_; intro v4 w4 ho4 hg4 hb4; obtain ⟨a4, m4, c4, rfl, hW4⟩ := (unhide HW3).push ho4 hb4; have HW4 := hide hW4; clear ho4 hg4 hb4 hW4))
          go_roundw
          case rel => exact ⟨k + 1, false, a4, m4, c4, _, by omega, by go_num, rfl, rfl, HW4, HP2⟩
          case measure => simp [intOf]; omega
    · have hke : k = ks.length := by omega
      subst hke
      have hW := unhide HW
      obtain ⟨hx0, hx1⟩ := hW.2.1
      cases pl with
      | true =>
        have HE := hide (unhide HP).done
        clear HP Hh Hs HR hW
        go_wp2
        go_ret
        exact ⟨a1, m1, c1, ts, rfl, (unhide HW).1.mono (Nat.le_succ _), unhide HE, (unhide HW).2.2.1⟩
      | false =>
        have HE := hide (unhide HP).last
        clear HP Hh Hs HR hW
        go_wp2_with (first | (at_builtin; refine wpList_pushS rfl (.tmp 41) (.tmp 43) rfl (w.heap.size + 1) (.slice a1 m1 c1) ts r rfl rfl (unhide HW).1 (unhide HW).2.2.2 (by omega) ?_; intro v4 w4 ho4 hg4 hb4; obtain ⟨a4, m4, c4, rfl, hW4⟩ := (unhide HW).push ho4 hb4; have HW4 := hide hW4; clear ho4 hg4 hb4 hW4))
        go_ret
        exact ⟨a4, m4, c4, _, rfl, (unhide HW4).1.mono (Nat.le_succ _), unhide HE, (unhide HW4).2.2.1⟩
end Go.Proofs.YtjppopabjfncpaaDoor
namespace Go.Proofs.YtjppopabjfncpaaDoor
open Go.RowKit Go.Sort
set_option linter.unusedVariables false
set_option maxRecDepth 4000

theorem Run.le {k : Int} {rs : List RV} (hg : Good rs) {j : Nat} {kn : List Nat} {bs : List ByteArray} (h : Run k rs j kn bs) : j ≤ k.toNat := by
  cases j with
  | zero => exact Nat.zero_le _
  | succ j =>
    have h' := h
    obtain ⟨a, b, r, h1, h2, _⟩ := h
    have ht := List.find?_some h2
    unfold tellsB at ht
    rw [Bool.and_eq_true] at ht
    exact (Run.known (valid_size ht.1).1 hg h').le
/-- The known ones, as the reference keeps them. -/
def KnS (w1 wr : World) (k : Int) (kn : List Nat) (bs : List ByteArray) (a1 : Option Addr) (m1 c1 : Nat) (ts : List RV) : Prop :=
  OwnS wr w1.heap.size (.slice a1 m1 c1) ts ∧ RowsIn wr ts ∧ ts.map core = toldTo k kn bs k.toNat ∧ Below w1.heap.size w1 wr
theorem KnS.below {w1 wr w2 : World} {k : Int} {kn : List Nat} {bs : List ByteArray} {a1 : Option Addr} {m1 c1 : Nat} {ts : List RV} (h : KnS w1 wr k kn bs a1 m1 c1 ts) (hb : Below wr.heap.size wr w2) : KnS w1 w2 k kn bs a1 m1 c1 ts := ⟨h.1.below hb, h.2.1.below hb, h.2.2.1, below0 h.2.2.2 hb⟩
theorem KnS.rows {w1 wr : World} {k : Int} {kn : List Nat} {bs : List ByteArray} {a1 : Option Addr} {m1 c1 : Nat} {ts : List RV} (h : KnS w1 wr k kn bs a1 m1 c1 ts) : RowsAt wr a1 m1 ts ∧ m1 = ts.length := by
  obtain ⟨a, c, e, hr, _⟩ := h.1.rows h.2.1
  simp only [Value.slice.injEq] at e
  obtain ⟨rfl, rfl, rfl⟩ := e
  exact ⟨hr, rfl⟩
theorem told_len {k : Int} {kn : List Nat} {bs : List ByteArray} {ts : List RV} (h : ts.map core = toldTo k kn bs k.toNat) : ts.length ≤ k.toNat := by
  have := congrArg List.length h
  rw [List.length_map] at this
  have := toldTo_len k kn bs k.toNat
  omega
theorem told_mem {k : Int} {j : Nat} {kn : List Nat} {bs : List ByteArray} (hK : Kn k j kn bs) {x : List Nat × ByteArray} (hx : x ∈ toldTo k kn bs k.toNat) : ∃ b : Nat, b < k.toNat ∧ getB kn b = true ∧ x = (unitL k (b : Int), bs.getD b ByteArray.empty) := by
  unfold toldTo at hx
  rw [List.mem_map] at hx
  obtain ⟨b, hb, rfl⟩ := hx
  rw [List.mem_filter, List.mem_range] at hb
  exact ⟨b, hb.1, hb.2, rfl⟩
theorem told_short {w : World} {k : Int} {j : Nat} {kn : List Nat} {bs : List ByteArray} {ts : List RV} (hK : Kn k j kn bs) (hr : RowsIn w ts) (h : ts.map core = toldTo k kn bs k.toNat) : shortR ts := fun i => by
  by_cases hi : i < ts.length
  · have hm : core (ts.getD i .dflt) ∈ toldTo k kn bs k.toNat := by
      rw [← h, List.getD_eq_getElem?_getD, List.getElem?_eq_getElem hi]
      exact List.mem_map.2 ⟨_, List.getElem_mem hi, rfl⟩
    obtain ⟨b, hb, _, e⟩ := told_mem hK hm
    have hroom := size_room hK.size
    have hl := (hr.get hi).1.1
    have e1 : (ts.getD i .dflt).xs = unitL k (b : Int) := congrArg Prod.fst e
    have e2 : (ts.getD i .dflt).s = bs.getD b ByteArray.empty := congrArg Prod.snd e
    have := unit_len (k := k) (b := b) (by omega)
    have := sizeOfK_le k
    refine ⟨by rw [← hl, e1]; omega, by rw [e2]; exact hK.short b⟩
  · rw [List.getD_eq_getElem?_getD, List.getElem?_eq_none (by omega)]
    exact ⟨Nat.zero_le _, Nat.zero_le _⟩
/-- One more is known. -/
theorem KnS.with {w1 wr w2 : World} {k : Int} {j : Nat} {kn : List Nat} {bs : List ByteArray} {a1 : Option Addr} {m1 c1 : Nat} {ts ts2 : List RV} {a2 : Option Addr} {m2 c2 : Nat} {r r' : RV} (h : KnS w1 wr k kn bs a1 m1 c1 ts) (hK : Kn k j kn bs) (hrs : smalls r.xs) (ht : tellsB k kn r = true) (hc : core r' = (dropL r.xs kn, txtL bs r.xs r.s)) (hr' : RowAt wr r'.a r'.n r'.xs) (hcap : r'.n ≤ r'.c)
    (ho : OwnS w2 wr.heap.size (.slice a2 m2 c2) ts2) (hW : WtE ts r' ts2) (hb : Below wr.heap.size wr w2) : KnS w1 w2 k (setB kn (blkOf kn r) true) (bs.set (blkOf kn r) (txtL bs r.xs r.s)) a2 m2 c2 ts2 := by
  obtain ⟨p, hp, rfl, h1, h2⟩ := hW
  obtain ⟨hv, hbits, hk0, hx0, hbk, hfi⟩ := tells_bit hrs ht
  have hroom := size_room hK.size
  have hxs : r'.xs = unitL k (blkOf kn r : Int) := by
    rw [show r'.xs = dropL r.xs kn from congrArg Prod.fst hc]
    exact ext_bits (by rw [dropL_length, unit_len (by omega), (valid_size hv).2.1]) (dropL_small hrs _) (unit_small (by omega)) fun i => by rw [hbits, unit_bit hK.size (by omega)]
  have hs : r'.s = txtL bs r.xs r.s := congrArg Prod.snd hc
  have hf : firstI r'.xs = (blkOf kn r : Int) := by rw [show r'.xs = dropL r.xs kn from congrArg Prod.fst hc]; exact hfi
  have hl : ts.length = (toldTo k kn bs k.toNat).length := by rw [← h.2.2.1, List.length_map]
  refine ⟨ho.mono h.2.2.2.size, fun x hx => ?_, ?_, below0 h.2.2.2 hb⟩
  · rcases List.mem_append.1 hx with hx | hx
    · have := h.2.1 x (List.mem_of_mem_take hx)
      exact ⟨this.1.below hb, this.2⟩
    · rcases List.mem_cons.1 hx with rfl | hx
      · exact ⟨hr'.below hb, hcap⟩
      · have := h.2.1 x (List.mem_of_mem_drop hx)
        exact ⟨this.1.below hb, this.2⟩
  · rw [List.map_append, List.map_cons, List.map_take, List.map_drop, h.2.2.1, show core r' = (unitL k (blkOf kn r : Int), txtL bs r.xs r.s) from Prod.ext hxs hs]
    refine told_with hK hbk hk0 _ (by omega) (fun i hi => ?_) (fun hlt => ?_)
    · have := h2 i hi
      rw [hf] at this
      rw [core_at h.2.2.1 (by omega)]
      exact this
    · have := h1 (by omega)
      rw [hf] at this
      rw [core_at h.2.2.1 (by omega)]
      exact this
/-- What a round of the inner loop leaves. -/
def InS (w1 wr : World) (k : Int) (vs : List RV) (j i : Nat) (ag : Bool) (a1 : Option Addr) (m1 c1 : Nat) (ts : List RV) (kn : List Nat) (bs : List ByteArray) : Prop :=
  KnS w1 wr k kn bs a1 m1 c1 ts ∧ ((ag = false ∧ Run k vs j kn bs ∧ ∀ q, q < i → tellsB k kn (vs.getD q .dflt) = false) ∨ (ag = true ∧ Run k vs (j + 1) kn bs))
theorem filter_rest {k : Int} {rs : List RV} {kn : List Nat} : (rs.filter fun r => validB k r.xs).filter (restB k kn) = rs.filter (restB k kn) := by
  rw [List.filter_filter]
  congr 1
  funext r
  unfold restB
  cases validB k r.xs <;> simp
end Go.Proofs.YtjppopabjfncpaaDoor
namespace Go.Proofs.YtjppopabjfncpaaDoor
open Go.RowKit Go.Sort
set_option linter.unusedVariables false
set_option maxRecDepth 4000

theorem told_zero (k : Int) (bs : List ByteArray) (m : Nat) : toldTo k (List.replicate (sizeOfK k) 0) bs m = [] := by
  unfold toldTo
  rw [List.filter_eq_nil_iff.2 (fun b _ => by rw [bit_zeros]; simp)]
  rfl
/-- The valid rows, where they lie. -/
structure VsAt (w1 : World) (k : Int) (av : Option Addr) (mv : Nat) (vs : List RV) : Prop where
  rows : RowsAt w1 av mv vs
  inn : RowsIn w1 vs
  good : Good vs
  short : shortR vs
  all : ∀ q, q < mv → validB k (vs.getD q .dflt).xs = true
theorem good_filter {rs : List RV} (h : Good rs) (q : RV → Bool) : Good (rs.filter q) := fun r hr => h r (List.mem_filter.1 hr).1
theorem short_filter {rs : List RV} (h : shortR rs) (q : RV → Bool) : shortR (rs.filter q) := fun i => by
  by_cases hi : i < (rs.filter q).length
  · have hm := (List.mem_filter.1 (List.getElem_mem hi)).1
    obtain ⟨j, hj, e⟩ := List.mem_iff_getElem.1 hm
    have := h j
    rw [List.getD_eq_getElem?_getD, List.getElem?_eq_getElem hj, Option.getD_some, e] at this
    rw [List.getD_eq_getElem?_getD, List.getElem?_eq_getElem hi]
    exact this
  · rw [List.getD_eq_getElem?_getD, List.getElem?_eq_none (by omega)]
    exact ⟨Nat.zero_le _, Nat.zero_le _⟩
theorem VsAt.of {w w1 : World} {k : Int} {a av : Option Addr} {n mv cv : Nat} {rs : List RV} (h : RowsAt w a n rs) (hs : shortR rs) (hG : GaS w w1 av mv cv ((rs.filter fun r => validB k r.xs).map core) (rs.filter fun r => validB k r.xs)) : VsAt w1 k av mv (rs.filter fun r => validB k r.xs) := by
  obtain ⟨a', c', e, hr, _⟩ := hG.1.rows hG.2.1
  simp only [Value.slice.injEq] at e
  obtain ⟨rfl, rfl, rfl⟩ := e
  refine ⟨hr, hG.2.1, good_filter (good_of h hs) _, short_filter hs _, fun q hq => ?_⟩
  have := List.getElem_mem hq
  rw [List.mem_filter] at this
  rw [List.getD_eq_getElem?_getD, List.getElem?_eq_getElem hq]
  exact this.2
/-- A row less the known ones. -/
theorem less_known {w1 wr : World} {k : Int} {av : Option Addr} {mv : Nat} {vs : List RV} {j : Nat} {kn : List Nat} {bs : List ByteArray} {a1 : Option Addr} {m1 : Nat} (c1 : Nat) {ts : List RV} {q : Nat} (hV : VsAt w1 k av mv vs) (hq : q < mv) (hK : KnS w1 wr k kn bs a1 m1 c1 ts) (hR : Run k vs j kn bs) :
    Kn k j kn bs ∧ Calls Tryd.prog 50 #[.slice a1 m1 c1, .agg #[.slice (vs.getD q .dflt).a (vs.getD q .dflt).n (vs.getD q .dflt).c, .string (vs.getD q .dflt).s]] wr fun e w' => ∃ r' : RV, e = .returned (.agg #[.slice r'.a r'.n r'.c, .string r'.s]) ∧ core r' = (dropL (vs.getD q .dflt).xs kn, txtL bs (vs.getD q .dflt).xs (vs.getD q .dflt).s) ∧ RowAt w' r'.a r'.n r'.xs ∧ r'.n ≤ r'.c ∧ r'.n ≤ 10 ∧ Tys w' w1.heap.size [r'] ∧ Below wr.heap.size wr w' := by
  have hv := hV.all q hq
  have hKn := Run.known (valid_size hv).1 hV.good hR
  have hrow1 := (hV.inn.get (i := q) (by rw [hV.rows.1]; exact hq))
  have hrow := hrow1.1.below hK.2.2.2
  have hroom := size_room hKn.size
  have hm : m1 ≤ 128 := by rw [hK.rows.2]; have := told_len hK.2.2.1; omega
  refine ⟨hKn, (less_any a1 m1 c1 ts (vs.getD q .dflt) wr hK.rows.1 (told_short hKn hK.2.1 hK.2.2.1) (by omega) hrow (hV.short q)).mono ?_⟩
  rintro e w' ⟨r', rfl, hL, hc, h1, h2, hb⟩
  refine ⟨r', rfl, ?_, hL.row hrow hb, hL.cap hrow1.2, h1, ?_, hb⟩
  · rw [hc, hK.2.2.1]
    exact less_told hKn hrow1.1.2.1 (valid_size hv).2.1
  · exact hL.tys (tys_old hrow1.1)

theorem InS.yes {w1 wr : World} {k : Int} {vs : List RV} {j i : Nat} {a1 : Option Addr} {m1 c1 : Nat} {ts : List RV} {kn : List Nat} {bs : List ByteArray} (h : InS w1 wr k vs j i true a1 m1 c1 ts kn bs) : KnS w1 wr k kn bs a1 m1 c1 ts ∧ Run k vs (j + 1) kn bs := by
  rcases h.2 with ⟨h2, _⟩ | ⟨_, h2⟩
  · cases h2
  · exact ⟨h.1, h2⟩
theorem InS.no {w1 wr : World} {k : Int} {vs : List RV} {j i : Nat} {a1 : Option Addr} {m1 c1 : Nat} {ts : List RV} {kn : List Nat} {bs : List ByteArray} (h : InS w1 wr k vs j i false a1 m1 c1 ts kn bs) : KnS w1 wr k kn bs a1 m1 c1 ts ∧ Run k vs j kn bs ∧ ∀ q, q < i → tellsB k kn (vs.getD q .dflt) = false := by
  rcases h.2 with ⟨_, h2, h3⟩ | ⟨h2, _⟩
  · exact ⟨h.1, h2, h3⟩
  · cases h2
theorem tag_yes {p q : Prop} (h : (true = true ∧ p) ∨ (true = false ∧ q)) : p := by
  rcases h with ⟨_, h⟩ | ⟨h, _⟩
  · exact h
  · cases h
theorem tag_no {p q : Prop} (h : (false = true ∧ p) ∨ (false = false ∧ q)) : q := by
  rcases h with ⟨h, _⟩ | ⟨_, h⟩
  · cases h
  · exact h

set_option maxHeartbeats 4000000 in
theorem rpeel_any (k : Int) (a : Option Addr) (n c : Nat) (rs : List RV) (w : World) (h : RowsAt w a n rs) (hs : shortR rs) (hcap : CapR rs) (hn : n ≤ 1048576) :
    Calls Tryd.prog 32 #[.int .i64 k, .slice a n c] w fun e w' => ∃ a1 m1 c1 ts1 a2 m2 c2 ts2, e = .returned (.tuple #[.slice a1 m1 c1, .slice a2 m2 c2]) ∧ PeelR w w' k rs a1 m1 c1 ts1 a2 m2 c2 ts2 := by
  have HVL := hide (rvalids_any k a n c rs w h hcap hn)
  have HVS := hide (fun (w1 : World) (av : Option Addr) (mv cv : Nat) hG => VsAt.of (w1 := w1) (av := av) (mv := mv) (cv := cv) (k := k) h hs hG)
  have hvl : (rs.filter fun r => validB k r.xs).length ≤ 1048576 := by
    have h1 := List.length_filter_le (fun r : RV => validB k r.xs) rs
    have := h.1
    omega
  have HEND := hide (fun (kn : List Nat) (bs : List ByteArray) (hp : PeelP k (rs.filter fun r => validB k r.xs) kn bs) => PeelP.valid.1 hp)
  have HRST := hide (fun (kn : List Nat) (bs : List ByteArray) => show (((rs.filter fun r => validB k r.xs).filter (restB k kn)).map fun r => (dropL r.xs kn, txtL bs r.xs r.s)) = restL k rs kn bs by unfold restL; rw [filter_rest])
  clear h hs hcap
  generalize (rs.filter fun r => validB k r.xs) = vs at *
  go_enter Tryd.func32, Tryd.ntmps32
  go_wp2_with (go_at_call 18; refine (unhide HVL).mono ?_; rintro e w1 ⟨av, mv, cv, rfl, hGv⟩; have hV := unhide HVS w1 av mv cv hGv; have hmv : mv = vs.length := hV.rows.1.symm; have HV := hide hV; have HB1 := hide hGv.2.2.2.2; clear hGv hV HVL HVS)
  go_loopg [6, 7] (k.toNat + 1) (fun gk o g wr => ∃ (ag : Bool) (a1 : Option Addr) (m1 c1 : Nat) (ts : List RV) (kn : List Nat) (bs : List ByteArray) (j : Nat), o = .slice a1 m1 c1 ∧ g = .bool ag ∧ Hid (KnS w1 wr k kn bs a1 m1 c1 ts) ∧ Hid (Run k vs j kn bs) ∧ Hid ((ag = true ∧ k.toNat + 1 = gk + j) ∨ (ag = false ∧ vs.find? (tellsB k kn) = none)))
  case atStart => exact ⟨true, none, 0, 0, [], _, _, 0, rfl, rfl, hide ⟨OwnS.nil _ _, RowsIn.nil _, (told_zero k _ _).symm, Below.refl _ _⟩, hide ⟨rfl, rfl⟩, hide (.inl ⟨rfl, by omega⟩)⟩
  case round =>
    obtain ⟨ag, a1, m1, c1, ts, kn, bs, j, rfl, rfl, HK, HR, HG⟩ := hrel
    have hmv' : mv ≤ 1048576 := by omega
    cases ag with
    | true =>
      have HGK : Hid (k.toNat + 1 = gk + j) := hide (tag_yes (unhide HG))
      have HI : Hid (InS w1 wr k vs j 0 false a1 m1 c1 ts kn bs) := hide ⟨unhide HK, .inl ⟨rfl, unhide HR, fun q hq => by omega⟩⟩
      clear HG HK HR
      obtain ⟨wo, hwo⟩ : ∃ wo, wo = wr := ⟨wr, rfl⟩
      rw [← hwo] at HI ⊢
      clear hwo wr
      go_wp2
      go_loopw [6, 7, 8] (fun o g i wr => ∃ (ii : Nat) (ag : Bool) (a1 : Option Addr) (m1 c1 : Nat) (ts : List RV) (kn : List Nat) (bs : List ByteArray), ii ≤ mv ∧ i = .int .i64 ii ∧ g = .bool ag ∧ o = .slice a1 m1 c1 ∧ Hid (InS w1 wr k vs j ii ag a1 m1 c1 ts kn bs)) (fun _ _ i _ => mv - (intOf i).toNat)
      case atStart => exact ⟨0, false, a1, m1, c1, ts, kn, bs, Nat.zero_le _, rfl, rfl, rfl, HI⟩
      case round =>
        clear HI
        obtain ⟨ii, ag, a2, m2, c2, ts2, kn2, bs2, hii, rfl, rfl, rfl, HI⟩ := hrel
        cases ag with
        | true =>
          have HK2 := hide (unhide HI).yes.1
          have HR2 := hide (unhide HI).yes.2
          have HLE := hide (Run.le (unhide HV).good (unhide HR2))
          clear HI
          by_cases hlt : ii < mv
          · have hlt' : (ii : Int) < (mv : Int) := by omega
            go_wp2
            go_roundg (gk - 1)
            case measure => have := unhide HLE; have := unhide HGK; omega
            case rel => exact ⟨true, a2, m2, c2, ts2, kn2, bs2, j + 1, rfl, rfl, HK2, HR2, hide (.inl ⟨rfl, by have := unhide HLE; have := unhide HGK; omega⟩)⟩
          · have hlt' : ¬ (ii : Int) < (mv : Int) := by omega
            go_wp2
            go_roundg (gk - 1)
            case measure => have := unhide HLE; have := unhide HGK; omega
            case rel => exact ⟨true, a2, m2, c2, ts2, kn2, bs2, j + 1, rfl, rfl, HK2, HR2, hide (.inl ⟨rfl, by have := unhide HLE; have := unhide HGK; omega⟩)⟩
        | false =>
          obtain ⟨hK, hRun, hNo⟩ := (unhide HI).no
          by_cases hlt : ii < mv
          · have hlt' : (ii : Int) < (mv : Int) := by omega
            obtain ⟨hKn, hLess⟩ := less_known c2 (unhide HV) hlt hK hRun
            obtain ⟨b, off, rfl, hcl⟩ := ((unhide HV).rows.below hK.2.2.2).at hlt
            obtain ⟨hc0, hc1⟩ := hcl ii hlt
            have hv := (unhide HV).all ii hlt
            have hsm := ((unhide HV).inn.get (i := ii) (by omega)).1.2.1
            have hYes := fun ht => find_at (rs := vs) (f := tellsB k kn2) (p := ii) (by omega) ht hNo
            have hNext := fun (hf : tellsB k kn2 (vs.getD ii .dflt) = false) => show ∀ q, q < ii + 1 → tellsB k kn2 (vs.getD q .dflt) = false from fun q hq => by
              by_cases e : q = ii
              · rw [e]; exact hf
              · exact hNo q (by omega)
            generalize vs.getD ii .dflt = r at *
            have HLE := hide hLess
            have HCT := hide (fun (w2 : World) (r' : RV) (hxs : r'.xs = dropL r.xs kn2) (hrw : RowAt w2 r'.a r'.n r'.xs) (hn10 : r'.n ≤ 10) => show Calls Tryd.prog 51 #[.slice r'.a r'.n r'.c] (w2.alloc (.cells #[.slice r'.a r'.n r'.c, .string r'.s] 37)) fun e w' => e = .returned (.int .i64 ((cnt (dropL r.xs kn2) : Nat) : Int)) ∧ w' = w2.alloc (.cells #[.slice r'.a r'.n r'.c, .string r'.s] 37) by
              have := rcount_any r'.a r'.n r'.c r'.xs _ (hrw.below (alloc_b w2 (.cells #[.slice r'.a r'.n r'.c, .string r'.s] 37))) (by omega)
              rw [hxs] at this
              exact this)
            have HK2 := hide hK
            have HR2 := hide hRun
            by_cases h1 : cnt (dropL r.xs kn2) = 1
            · have ht : tellsB k kn2 r = true := by unfold tellsB; rw [hv, h1]; rfl
              have HR3 := hide (show Run k vs (j + 1) (setB kn2 (blkOf kn2 r) true) (bs2.set (blkOf kn2 r) (txtL bs2 r.xs r.s)) from ⟨kn2, bs2, r, hRun, hYes ht, rfl, rfl⟩)
              have hm2 : m2 ≤ 100000 := by rw [hK.rows.2]; have := told_len hK.2.2.1; have := size_room hKn.size; omega
              have HWT := hide (fun (w2 : World) (r' : RV) (hb : Below wr.heap.size wr w2) (hrw : RowAt w2 r'.a r'.n r'.xs) (hn10 : r'.n ≤ 10) => with_any a2 m2 c2 ts2 r' w2 ((hK.below hb).rows.1) (told_short hKn hK.2.1 hK.2.2.1) hm2 hrw hn10)
              have HKW := hide (fun (w2 w3 : World) (r' : RV) (a3 : Option Addr) (m3 c3 : Nat) (ts3 : List RV) (hb : Below wr.heap.size wr w2) hc hr' hcap ho hW hb3 => (hK.below hb).with (w2 := w3) (r := r) (r' := r') (a2 := a3) (m2 := m3) (c2 := c3) (ts2 := ts3) hKn hsm ht hc hr' hcap ho hW hb3)
              rw [h1] at HCT
              clear hcl hv hsm hYes hNext hNo HI hK hRun hKn hLess ht h1 hm2
              go_wp2_with (first | (go_at_call 50; refine (unhide HLE).mono ?_; rintro e w2 ⟨r', rfl, hco, hrw, hcp, hn10, hty, hb2⟩; have HC := hide (unhide HCT w2 r' (congrArg Prod.fst hco) hrw hn10); have hb2a := below0 hb2 (alloc_b w2 (.cells #[.slice r'.a r'.n r'.c, .string r'.s] 37)); have HW := hide (unhide HWT _ r' hb2a (hrw.below (alloc_b _ _)) hn10); have HKX := hide (fun (w3 : World) (a3 : Option Addr) (m3 c3 : Nat) (ts3 : List RV) ho hW hb3 => unhide HKW _ w3 r' a3 m3 c3 ts3 hb2a hco (hrw.below (alloc_b _ _)) hcp ho hW hb3); clear hco hrw hcp hn10 hty hb2 hb2a HKW HWT) | (go_at_call 51; refine (unhide HC).mono ?_; rintro e w9 ⟨rfl, hw9⟩; obtain rfl := hw9.symm; clear hw9) | (go_at_call 52; refine (unhide HW).mono ?_; rintro e w3 ⟨a3, m3, c3, ts3, rfl, ho3, hW3, hb3⟩; have HK3 := hide (unhide HKX w3 a3 m3 c3 ts3 ho3 hW3 hb3); clear ho3 hW3 hb3))
              go_roundw
              case rel => exact ⟨ii + 1, true, a3, m3, c3, ts3, _, _, by omega, by go_num, rfl, rfl, hide ⟨unhide HK3, .inr ⟨rfl, unhide HR3⟩⟩⟩
              case measure => simp [intOf]; omega
            · have ht : tellsB k kn2 r = false := by unfold tellsB; rw [hv, Bool.true_and, decide_eq_false h1]
              have HNX := hide (hNext ht)
              have hne : ((cnt (dropL r.xs kn2) : Int) == 1) = false := by rw [beq_eq_false_iff_ne]; omega
              clear hcl hv hsm hYes hNext hNo HI hK hRun hKn hLess ht h1
              generalize cnt (dropL r.xs kn2) = cr at *
              go_wp2_with (first | (go_at_call 50; refine (unhide HLE).mono ?_; rintro e w2 ⟨r', rfl, hco, hrw, hcp, hn10, hty, hb2⟩; have HC := hide (unhide HCT w2 r' (congrArg Prod.fst hco) hrw hn10); have HK3 := hide ((unhide HK2).below (below0 hb2 (alloc_b w2 (.cells #[.slice r'.a r'.n r'.c, .string r'.s] 37)))); clear hco hrw hcp hn10 hty hb2) | (go_at_call 51; refine (unhide HC).mono ?_; rintro e w9 ⟨rfl, hw9⟩; obtain rfl := hw9.symm; clear hw9))
              go_roundw
              case rel => exact ⟨ii + 1, false, a2, m2, c2, ts2, kn2, bs2, by omega, by go_num, rfl, rfl, hide ⟨unhide HK3, .inl ⟨rfl, unhide HR2, unhide HNX⟩⟩⟩
              case measure => simp [intOf]; omega
          · have hlt' : ¬ (ii : Int) < (mv : Int) := by omega
            have HFN := hide (find_no (rs := vs) (f := tellsB k kn2) (fun q hq => hNo q (by omega)))
            have HLE := hide (Run.le (unhide HV).good hRun)
            have HK2 := hide hK
            have HR2 := hide hRun
            clear hK hRun hNo HI
            go_wp2
            go_roundg 0
            case measure => have := unhide HLE; have := unhide HGK; omega
            case rel => exact ⟨false, a2, m2, c2, ts2, kn2, bs2, j, rfl, rfl, HK2, HR2, hide (.inr ⟨rfl, unhide HFN⟩)⟩
    | false =>
      have HN : Hid (vs.find? (tellsB k kn) = none) := hide (tag_no (unhide HG))
      clear HG
      have HPP := hide (unhide HEND kn bs ⟨⟨j, unhide HR⟩, unhide HN⟩)
      have HRS := hide (unhide HRST kn bs)
      clear HEND HRST HN
      obtain ⟨wo, hwo⟩ : ∃ wo, wo = wr := ⟨wr, rfl⟩
      rw [← hwo] at HK ⊢
      clear hwo wr
      go_wp2
      go_loopw [10, 11] (fun o i wr => ∃ (ii : Nat) (a3 : Option Addr) (m3 c3 : Nat) (ls : List RV), ii ≤ mv ∧ i = .int .i64 ii ∧ o = .slice a3 m3 c3 ∧ Hid (GaS wo wr a3 m3 c3 (((vs.take ii).filter (restB k kn)).map fun r => (dropL r.xs kn, txtL bs r.xs r.s)) ls)) (fun _ i _ => mv - (intOf i).toNat)
      case atStart => exact ⟨0, none, 0, 0, [], Nat.zero_le _, rfl, rfl, hide (GaS.nil wo)⟩
      case round =>
        obtain ⟨ii, a3, m3, c3, ls, hii, rfl, rfl, HG⟩ := hrel
        by_cases hlt : ii < mv
        · have hlt' : (ii : Int) < (mv : Int) := by omega
          have hK := (unhide HK).below (unhide HG).2.2.2.2
          obtain ⟨hKn, hLess⟩ := less_known c1 (unhide HV) hlt hK (unhide HR)
          obtain ⟨b, off, rfl, hcl⟩ := ((unhide HV).rows.below hK.2.2.2).at hlt
          obtain ⟨hc0, hc1⟩ := hcl ii hlt
          have hv := (unhide HV).all ii hlt
          have HYS := hide (fun h => take_filter_yes (rs := vs) (q := restB k kn) (k := ii) (by omega) h)
          have HNO := hide (fun h => take_filter_no (rs := vs) (q := restB k kn) (k := ii) (by omega) h)
          have hll : ls.length ≤ 1048576 := by
            have h1 := congrArg List.length (unhide HG).2.2.2.1
            rw [List.length_map, List.length_map] at h1
            have h2 := List.length_filter_le (restB k kn) (vs.take ii)
            have h3 := List.length_take_le ii vs
            omega
          generalize vs.getD ii .dflt = r at *
          have HLE := hide hLess
          have HCT := hide (fun (w2 : World) (r' : RV) (hxs : r'.xs = dropL r.xs kn) (hrw : RowAt w2 r'.a r'.n r'.xs) (hn10 : r'.n ≤ 10) => show Calls Tryd.prog 51 #[.slice r'.a r'.n r'.c] (w2.alloc (.cells #[.slice r'.a r'.n r'.c, .string r'.s] 37)) fun e w' => e = .returned (.int .i64 ((cnt (dropL r.xs kn) : Nat) : Int)) ∧ w' = w2.alloc (.cells #[.slice r'.a r'.n r'.c, .string r'.s] 37) by
            have := rcount_any r'.a r'.n r'.c r'.xs _ (hrw.below (alloc_b w2 (.cells #[.slice r'.a r'.n r'.c, .string r'.s] 37))) (by omega)
            rw [hxs] at this
            exact this)
          have HWO := hide (unhide HK).2.2.2.size
          by_cases h1 : 1 < cnt (dropL r.xs kn)
          · have hrb : restB k kn r = true := by unfold restB; rw [hv, decide_eq_false (by omega), decide_eq_false (by omega)]; rfl
            have HE := hide (unhide HYS hrb)
            have hd : decide ((1 : Int) < ((cnt (dropL r.xs kn) : Nat) : Int)) = true := by rw [decide_eq_true_iff]; omega
            clear hcl hv HYS HNO hK hKn hLess hrb h1
            generalize cnt (dropL r.xs kn) = cr at *
            go_wp2_with (first | (go_at_call 50; refine (unhide HLE).mono ?_; rintro e w2 ⟨r', rfl, hco, hrw, hcp, hn10, hty, hb2⟩; have HC := hide (unhide HCT w2 r' (congrArg Prod.fst hco) hrw hn10); have hba := alloc_b w2 (.cells #[.slice r'.a r'.n r'.c, .string r'.s] 37); have HG2 := hide ((unhide HG).below (below0 hb2 hba)); have HRI := hide (RowsIn.one (r := r') (hrw.below hba) hcp); have HTY := hide ((hty.below hba).mono (unhide HWO)); have HCO := hide hco; clear hco hrw hcp hn10 hty hb2 hba) | (go_at_call 51; refine (unhide HC).mono ?_; rintro e w9 ⟨rfl, hw9⟩; obtain rfl := hw9.symm; clear hw9 HC; obtain ⟨z0, z1⟩ := box_new w2 (.slice r'.a r'.n r'.c) (.string r'.s); generalize (w2.alloc (.cells #[.slice r'.a r'.n r'.c, .string r'.s] 37)) = wb at *) | (at_builtin; refine wpList_pushS rfl (.tmp 56) (.tmp 58) rfl wo.heap.size (.slice a3 m3 c3) ls r' rfl rfl (unhide HG2).1 (unhide HG2).2.2.2.2.size hll ?_; intro v4 w4 ho4 hg4 hb4; obtain ⟨a4, m4, c4, rfl, hG4⟩ := (unhide HG2).push (unhide HRI) (unhide HTY) ho4 hg4 hb4; have HG4 := hide hG4; clear ho4 hg4 hb4 hG4))
            go_roundw
            case rel => exact ⟨ii + 1, a4, m4, c4, _, by omega, by go_num, rfl, hide (by rw [unhide HE, List.map_append]; have := unhide HG4; rw [unhide HCO] at this; exact this)⟩
            case measure => simp [intOf]; omega
          · have hrb : restB k kn r = false := by
              unfold restB
              rw [hv]
              by_cases h0 : cnt (dropL r.xs kn) = 0
              · rw [h0]; rfl
              · rw [show cnt (dropL r.xs kn) = 1 by omega]; rfl
            have HE := hide (unhide HNO hrb)
            have hd : decide ((1 : Int) < ((cnt (dropL r.xs kn) : Nat) : Int)) = false := by rw [decide_eq_false_iff_not]; omega
            clear hcl hv HYS HNO hK hKn hLess hrb h1
            generalize cnt (dropL r.xs kn) = cr at *
            go_wp2_with (first | (go_at_call 50; refine (unhide HLE).mono ?_; rintro e w2 ⟨r', rfl, hco, hrw, hcp, hn10, hty, hb2⟩; have HC := hide (unhide HCT w2 r' (congrArg Prod.fst hco) hrw hn10); have HG2 := hide ((unhide HG).below (below0 hb2 (alloc_b w2 (.cells #[.slice r'.a r'.n r'.c, .string r'.s] 37)))); clear hco hrw hcp hn10 hty hb2) | (go_at_call 51; refine (unhide HC).mono ?_; rintro e w9 ⟨rfl, hw9⟩; obtain rfl := hw9.symm; clear hw9))
            go_roundw
            case rel => exact ⟨ii + 1, a3, m3, c3, ls, by omega, by go_num, rfl, hide (by rw [unhide HE]; exact unhide HG2)⟩
            case measure => simp [intOf]; omega
        · have hke : vs.take ii = vs := List.take_of_length_le (by omega)
          rw [hke, unhide HRS] at HG
          have hlt' : ¬ (ii : Int) < (mv : Int) := by omega
          go_wp2
          go_ret2
          have g2 := unhide HG
          have hK := unhide HK
          have hB1 := unhide HB1
          have hb3 := g2.2.2.2.2
          have hE : PeelR w wr k rs a1 m1 c1 ts a3 m3 c3 ls := ⟨kn, bs, unhide HPP, (hK.1.below hb3).mono hB1.size, hK.2.1.below hb3, hK.2.2.1, g2.1.mono (Nat.le_trans hB1.size hK.2.2.2.size), g2.2.1, g2.2.2.2.1, below0 (below0 hB1 hK.2.2.2) hb3⟩
          first | exact ⟨a1, m1, c1, ts, a3, m3, c3, ls, rfl, hE⟩ | exact ⟨a1, m1, c1, ts, a3, m3, c3, rfl, ls, hE⟩ | exact ⟨a1, m1, c1, a3, m3, c3, rfl, ts, ls, hE⟩ | exact ⟨a1, m1, c1, ts, a3, m3, c3, rfl, hE⟩
end Go.Proofs.YtjppopabjfncpaaDoor
namespace Go.Proofs.YtjppopabjfncpaaDoor
open Go.RowKit Go.Sort
set_option linter.unusedVariables false
set_option maxRecDepth 4000

end Go.Proofs.YtjppopabjfncpaaDoor
namespace Go.Proofs.YtjppopabjfncpaaDoor
open Go.RowKit Go.Sort
set_option linter.unusedVariables false
set_option maxRecDepth 4000

theorem PeelP.kn {k : Int} {rs : List RV} {kn : List Nat} {bs : List ByteArray} (h : PeelP k rs kn bs) (hg : Good rs) (hz : 0 < sizeOfK k) : ∃ j, Kn k j kn bs := by
  obtain ⟨⟨j, hj⟩, _⟩ := h
  exact ⟨j, Run.known hz hg hj⟩
/-- Few rows, short ones: so are the answers. -/
theorem PeelR.short {w w' : World} {k : Int} {rs : List RV} {a1 : Option Addr} {m1 c1 : Nat} {ts1 : List RV} {a2 : Option Addr} {m2 c2 : Nat} {ts2 : List RV} (h : PeelR w w' k rs a1 m1 c1 ts1 a2 m2 c2 ts2) (hg : Good rs) (hs : shortR rs) (hl : ∀ r ∈ rs, r.xs.length ≤ 10) : shortR ts1 ∧ shortR ts2 ∧ ts1.length ≤ 128 ∧ ts2.length ≤ rs.length := by
  obtain ⟨kn, bs, hP, o1, i1, e1, o2, i2, e2, hb⟩ := h
  have hrl : ts2.length ≤ rs.length := by
    have := congrArg List.length e2
    unfold restL at this
    rw [List.length_map, List.length_map] at this
    have := List.length_filter_le (restB k kn) rs
    omega
  by_cases hz : sizeOfK k = 0
  · obtain ⟨p1, p2, p3⟩ := peelP_none (rs := rs) hz
    obtain ⟨rfl, rfl⟩ := hP.uniq p1
    rw [p2] at e1
    rw [p3] at e2
    rw [List.map_eq_nil_iff] at e1 e2
    subst e1 e2
    exact ⟨short_nil, short_nil, by simp, hrl⟩
  · obtain ⟨j, hK⟩ := hP.kn hg (by omega)
    have hroom := size_room hK.size
    refine ⟨told_short hK i1 e1, short_core i2 e2 fun x hx => ?_, by have := told_len e1; omega, hrl⟩
    unfold restL at hx
    rw [List.mem_map] at hx
    obtain ⟨r, hr, rfl⟩ := hx
    have hm := (List.mem_filter.1 hr).1
    exact ⟨by rw [dropL_length]; exact hl r hm, txtL_size hK.short (hg r hm).2⟩
theorem len_of {w : World} {a : Option Addr} {n : Nat} {rs : List RV} (h : RowsAt w a n rs) (hs : shortR rs) : ∀ r ∈ rs, r.xs.length ≤ 10 := fun r hr => by
  obtain ⟨i, hi, rfl⟩ := List.mem_iff_getElem.1 hr
  have h1 := h.2.1 i (by rw [← h.1]; exact hi)
  have h2 := hs i
  rw [List.getD_eq_getElem?_getD, List.getElem?_eq_getElem hi] at h1 h2
  simp only [Option.getD_some] at h1 h2
  rw [h1.1]; exact h2.1


end Go.Proofs.YtjppopabjfncpaaDoor
