/-
  Contract of bucketlineref13.with.
  Contract of bucketlineref13.Peel.
-/
import Derived.Test.YtnjdldbdkafnaaaGreatDoorU16
namespace Go.Proofs.YtnjdldbdkafnaaaGreatDoor
open Go.RowKit Go.Sort
set_option linter.unusedVariables false
set_option linter.unusedSimpArgs false
set_option maxRecDepth 4000

/-- What is gathered of the first k known ones, with r at its place. -/
def WtP (ks : List RV) (r : RV) (k : Nat) (pl : Bool) (ts : List RV) : Prop :=
  (pl = false ∧ ts = ks.take k ∧ ∀ j, j < k → ¬ firstI r.xs < firstI (ks.getD j .dflt).xs) ∨
  (pl = true ∧ ∃ p, p < k ∧ ts = ks.take p ++ r :: (ks.take k).drop p ∧ firstI r.xs < firstI (ks.getD p .dflt).xs ∧ ∀ j, j < p → ¬ firstI r.xs < firstI (ks.getD j .dflt).xs)
/-- .. and of all. -/
def WtE (ks : List RV) (r : RV) (ts : List RV) : Prop := ∃ p, p ≤ ks.length ∧ ts = ks.take p ++ r :: ks.drop p ∧ (p < ks.length → firstI r.xs < firstI (ks.getD p .dflt).xs) ∧ ∀ j, j < p → ¬ firstI r.xs < firstI (ks.getD j .dflt).xs
theorem WtP.no {ks : List RV} {r : RV} {k : Nat} {ts : List RV} (h : WtP ks r k false ts) (hk : k < ks.length) (hn : ¬ firstI r.xs < firstI (ks.getD k .dflt).xs) : WtP ks r (k + 1) false (ts ++ [ks.getD k .dflt]) := by
  rcases h with ⟨_, rfl, h⟩ | ⟨h, _⟩
  · refine .inl ⟨rfl, take_snocR ks k hk, fun j hj => ?_⟩
    by_cases e : j = k
    · rw [e]; exact hn
    · exact h j (by omega)
  · cases h
theorem WtP.at {ks : List RV} {r : RV} {k : Nat} {ts : List RV} (h : WtP ks r k false ts) (hk : k < ks.length) (hn : firstI r.xs < firstI (ks.getD k .dflt).xs) : WtP ks r (k + 1) true ((ts ++ [r]) ++ [ks.getD k .dflt]) := by
  rcases h with ⟨_, rfl, h⟩ | ⟨h, _⟩
  · refine .inr ⟨rfl, k, by omega, ?_, hn, h⟩
    rw [← take_snocR ks k hk, List.drop_append_of_le_length (by simp; omega), List.drop_of_length_le (by simp; omega)]
    simp
  · cases h
theorem WtP.behind {ks : List RV} {r : RV} {k : Nat} {ts : List RV} (h : WtP ks r k true ts) (hk : k < ks.length) : WtP ks r (k + 1) true (ts ++ [ks.getD k .dflt]) := by
  rcases h with ⟨h, _⟩ | ⟨_, p, hp, rfl, h1, h2⟩
  · cases h
  · refine .inr ⟨rfl, p, by omega, ?_, h1, h2⟩
    rw [← take_snocR ks k hk, List.drop_append_of_le_length (by simp; omega)]
    simp
theorem WtP.last {ks : List RV} {r : RV} {ts : List RV} (h : WtP ks r ks.length false ts) : WtE ks r (ts ++ [r]) := by
  rcases h with ⟨_, rfl, h⟩ | ⟨h, _⟩
  · exact ⟨ks.length, Nat.le_refl _, by simp, fun h => by omega, h⟩
  · cases h
theorem WtP.done {ks : List RV} {r : RV} {ts : List RV} (h : WtP ks r ks.length true ts) : WtE ks r ts := by
  rcases h with ⟨h, _⟩ | ⟨_, p, hp, rfl, h1, h2⟩
  · cases h
  · exact ⟨p, by omega, by simp, fun _ => h1, h2⟩
theorem WtP.len {ks : List RV} {r : RV} {k : Nat} {pl : Bool} {ts : List RV} (h : WtP ks r k pl ts) : ts.length ≤ k + 1 := by
  rcases h with ⟨_, rfl, _⟩ | ⟨_, p, hp, rfl, _⟩
  · have := List.length_take_le k ks; omega
  · simp; omega
/-- What a round of with leaves. -/
def WtS (w wr : World) (r : RV) (a1 : Option Addr) (m1 c1 : Nat) (ts : List RV) : Prop :=
  OwnS wr (w.heap.size + 1) (.slice a1 m1 c1) ts ∧ BoxAt wr w.heap.size (.slice r.a r.n r.c) (.string r.s) ∧ Below w.heap.size w wr ∧ w.heap.size + 1 ≤ wr.heap.size
theorem WtS.below {w wr w1 : World} {r : RV} {a1 : Option Addr} {m1 c1 : Nat} {ts : List RV} (h : WtS w wr r a1 m1 c1 ts) (hb : Below wr.heap.size wr w1) : WtS w w1 r a1 m1 c1 ts := ⟨h.1.below hb, h.2.1.below hb, below0 h.2.2.1 hb, Nat.le_trans h.2.2.2 hb.size⟩
theorem WtS.push {w wr w1 : World} {r : RV} {a1 : Option Addr} {m1 c1 : Nat} {ts : List RV} {q : RV} {v : Value} (h : WtS w wr r a1 m1 c1 ts) (ho : OwnS w1 (w.heap.size + 1) v (ts ++ [q])) (hb : Below (w.heap.size + 1) wr w1) : ∃ a2 m2 c2, v = .slice a2 m2 c2 ∧ WtS w w1 r a2 m2 c2 (ts ++ [q]) := by
  obtain ⟨a2, c2, e⟩ := ho.shape
  refine ⟨a2, _, c2, e, by rw [← e]; exact ho, ?_, h.2.2.1.trans (hb.mono (Nat.le_succ _)), Nat.le_trans h.2.2.2 hb.size⟩
  exact ⟨(hb.cell (p := ⟨w.heap.size, 0, none⟩) (Nat.lt_succ_self _)).trans h.2.1.1, (hb.cell (p := ⟨w.heap.size, 1, none⟩) (Nat.lt_succ_self _)).trans h.2.1.2⟩

set_option maxHeartbeats 4000000 in
theorem with_any (a : Option Addr) (n c : Nat) (ks : List RV) (r : RV) (w : World) (h : RowsAt w a n ks) (hs : shortR ks) (hn : n ≤ 100000) (hr : RowAt w r.a r.n r.xs) (hrs : r.n ≤ 10) :
    Calls Tryz.prog 57 #[.slice a n c, .agg #[.slice r.a r.n r.c, .string r.s]] w fun e w' => ∃ a1 m1 c1 ts, e = .returned (.slice a1 m1 c1) ∧ OwnS w' w.heap.size (.slice a1 m1 c1) ts ∧ WtE ks r ts ∧ Below w.heap.size w w' := by
  obtain rfl := h.1
  have HK : Hid (WtS w (w.alloc (.cells #[.slice r.a r.n r.c, .string r.s] 29)) r none 0 0 []) := hide ⟨OwnS.nil _ _, box_new _ _ _, alloc_b _ _, by simp⟩
  have Hh := hide h
  have Hs := hide hs
  have HR := hide hr
  clear h hs hr
  go_enter Tryz.func57, Tryz.ntmps57
  go_wp2
  go_loopw [5, 6, 7] (fun o pv i wr => ∃ k : Nat, ∃ pl : Bool, ∃ a1 : Option Addr, ∃ m1 c1 : Nat, ∃ ts : List RV, k ≤ ks.length ∧ i = .int .i64 k ∧ pv = .bool pl ∧ o = .slice a1 m1 c1 ∧ Hid (WtS w wr r a1 m1 c1 ts) ∧ Hid (WtP ks r k pl ts)) (fun _ _ i _ => ks.length - (intOf i).toNat)
  case atStart => exact ⟨0, false, none, 0, 0, [], Nat.zero_le _, rfl, rfl, rfl, HK, hide (.inl ⟨rfl, rfl, fun j hj => by omega⟩)⟩
  case round =>
    obtain ⟨k, pl, a1, m1, c1, ts, hk, rfl, rfl, rfl, HW, HP⟩ := hrel
    clear HK
    have htl : ts.length ≤ 200000 := by have := (unhide HP).len; omega
    by_cases hlt : k < ks.length
    · have hW := unhide HW
      have hR := (unhide Hh).below hW.2.2.1
      obtain ⟨b, off, rfl, hcl⟩ := hR.at hlt
      obtain ⟨hc0, hc1⟩ := hcl k hlt
      obtain ⟨hx0, hx1⟩ := hW.2.1
      have hlt' : (k : Int) < (ks.length : Int) := by omega
      have HCL := hide (fun (w1 : World) (hb : Below w.heap.size w w1) => (((unhide Hh).below hb).at hlt))
      cases pl with
      | true =>
        have HP2 := hide ((unhide HP).behind hlt)
        generalize ks.getD k .dflt = q at *
        clear hcl hR hW hx0 hx1 HP
        go_wp2_with fail
        refine wp_region_quiet_below (by kernel_rfl) (by kernel_rfl) ?_
        repeat (with_reducible refine wpQuiet_step (fun K hK => ?_); go_simp; (with_reducible refine hK _ ?_; clear hK K))
        refine wpQuiet_nil ?_
        intro _ hw'
        obtain ⟨⟨dq, osq⟩, hw''⟩ := hw'
        subst hw''
        have hbr := below_regrown wr dq osq
        have y0 := (hbr.cell (World.block_lt_of_cell? wr _ hc0)).trans hc0
        have y1 := (hbr.cell (World.block_lt_of_cell? wr _ hc1)).trans hc1
        have HW3 := hide ((unhide HW).below hbr)
        clear hbr hc0 hc1 HW
        generalize grow (redrawn wr dq) osq = w3 at *
        go_wp2_with (first | (at_builtin; refine wpList_pushS rfl (.tmp 32) (.tmp 37) rfl (w.heap.size + 1) (.slice a1 m1 c1) ts q rfl rfl (unhide HW3).1 (unhide HW3).2.2.2 (by omega) ?_; intro v4 w4 ho4 hg4 hb4; obtain ⟨a4, m4, c4, rfl, hW4⟩ := (unhide HW3).push ho4 hb4; have HW4 := hide hW4; clear ho4 hg4 hb4 hW4))
        go_roundw
        case rel => exact ⟨k + 1, true, a4, m4, c4, _, by omega, by go_num, rfl, rfl, HW4, HP2⟩
        case measure => simp [intOf]; omega
      | false =>
        have hrow := (unhide HR).below hW.2.2.1
        have hq := hR.2.1 k hlt
        have hqs := unhide Hs k
        have HPN := hide (fun h => (unhide HP).no hlt h)
        have HPY := hide (fun h => (unhide HP).at hlt h)
        generalize ks.getD k .dflt = q at *
        have k0 := cell_regrown hx0
        have k1 := cell_regrown hc0
        have cQ := quietB (W := wr) (fun w' hb => same_below (rfirst_any q.a q.n q.c q.xs w' (hq.below hb) (by omega)))
        have cR := quietB (W := wr) (fun w' hb => same_below (rfirst_any r.a r.n r.c r.xs w' (hrow.below hb) (by omega)))
        clear hcl hR hW hrow hq
        generalize firstI q.xs = fq at *
        generalize firstI r.xs = fr at *
        by_cases hgt : fr < fq
        · have hd : decide (fr < fq) = true := decide_eq_true hgt
          have HP2 := hide (unhide HPY hgt)
          clear HPN HPY HP
          go_wp2_with fail
          refine wp_region_quiet_below (by kernel_rfl) (by kernel_rfl) ?_
          repeat (with_reducible refine wpQuiet_step (fun K hK => ?_); go_simp; first | (with_reducible refine hK _ ?_; clear hK K) | (apply Exists.intro; apply And.intro; (intro _; first | (go_at_call 71; exact cQ _ _) | (go_at_call 71; exact cR _ _)); with_reducible refine hK _ ?_; clear hK K))
          refine wpQuiet_nil ?_
          intro _ hw'
          obtain ⟨⟨dq, osq⟩, hw''⟩ := hw'
          subst hw''
          have hbr := below_regrown wr dq osq
          have hW3 := (unhide HW).below hbr
          obtain ⟨z0, z1⟩ := hW3.2.1
          have HW3 := hide hW3
          have HBC := hide (fun (w4 : World) (hb : Below w.heap.size w w4) => unhide HCL w4 hb)
          have y0 := (hbr.cell (World.block_lt_of_cell? wr _ hc0)).trans hc0
          have y1 := (hbr.cell (World.block_lt_of_cell? wr _ hc1)).trans hc1
          have hbo : Hid (b < w.heap.size) := hide (by
            obtain ⟨b', off', he, hcl'⟩ := (unhide Hh).at hlt
            simp only [Option.some.injEq, Addr.mk.injEq, and_true] at he
            have := World.block_lt_of_cell? w _ (hcl' k hlt).1
            have e := he.1
            simp at this
            omega)
          clear hbr hc0 hc1 HW hW3 hx0 hx1 k0 k1 cQ cR HBC HCL
          generalize grow (redrawn wr dq) osq = w3 at *
          have HF1 : Hid True := hide trivial
          go_wp2_with (first | (at_builtin; clear HF1; refine wpList_pushS rfl (.tmp 28) (.tmp 30) rfl (w.heap.size + 1) (.slice a1 m1 c1) ts r rfl rfl (unhide HW3).1 (unhide HW3).2.2.2 (by omega) ?_; intro v4 w4 ho4 hg4 hb4; obtain ⟨a4, m4, c4, rfl, hW4⟩ := (unhide HW3).push ho4 hb4; have x0 := (hb4.cell (p := ⟨b, off + k * 2, none⟩) (Nat.lt_succ_of_lt (unhide hbo))).trans y0; have x1 := (hb4.cell (p := ⟨b, off + k * 2 + 1, none⟩) (Nat.lt_succ_of_lt (unhide hbo))).trans y1; have HW4 := hide hW4; clear ho4 hg4 hb4 hW4) | (at_builtin; refine wpList_pushS rfl (.tmp 32) (.tmp 37) rfl (w.heap.size + 1) (.slice a4 m4 c4) (ts ++ [r]) q rfl rfl (unhide HW4).1 (unhide HW4).2.2.2 (by simp; omega) ?_; intro v5 w5 ho5 hg5 hb5; obtain ⟨a5, m5, c5, rfl, hW5⟩ := (unhide HW4).push ho5 hb5; have HW5 := hide hW5; clear ho5 hg5 hb5 hW5))
          go_roundw
          case rel => exact ⟨k + 1, true, a5, m5, c5, _, by omega, by go_num, rfl, rfl, HW5, HP2⟩
          case measure => simp [intOf]; omega
        · have hd : decide (fr < fq) = false := decide_eq_false hgt
          have HP2 := hide (unhide HPN hgt)
          clear HPN HPY HP HCL
          go_wp2_with fail
          refine wp_region_quiet_below (by kernel_rfl) (by kernel_rfl) ?_
          repeat (with_reducible refine wpQuiet_step (fun K hK => ?_); go_simp; first | (with_reducible refine hK _ ?_; clear hK K) | (apply Exists.intro; apply And.intro; (intro _; first | (go_at_call 71; exact cQ _ _) | (go_at_call 71; exact cR _ _)); with_reducible refine hK _ ?_; clear hK K))
          refine wpQuiet_nil ?_
          intro _ hw'
          obtain ⟨⟨dq, osq⟩, hw''⟩ := hw'
          subst hw''
          have hbr := below_regrown wr dq osq
          have y0 := (hbr.cell (World.block_lt_of_cell? wr _ hc0)).trans hc0
          have y1 := (hbr.cell (World.block_lt_of_cell? wr _ hc1)).trans hc1
          have HW3 := hide ((unhide HW).below hbr)
          clear hbr hc0 hc1 HW hx0 hx1 k0 k1 cQ cR
          generalize grow (redrawn wr dq) osq = w3 at *
          go_wp2_with (first | (at_builtin; refine wpList_pushS rfl (.tmp 32) (.tmp 37) rfl (w.heap.size + 1) (.slice a1 m1 c1) ts q rfl rfl (unhide HW3).1 (unhide HW3).2.2.2 (by omega) ?_; intro v4 w4 ho4 hg4 hb4; obtain ⟨a4, m4, c4, rfl, hW4⟩ := (unhide HW3).push ho4 hb4; have HW4 := hide hW4; clear ho4 hg4 hb4 hW4))
          go_roundw
          case rel => exact ⟨k + 1, false, a4, m4, c4, _, by omega, by go_num, rfl, rfl, HW4, HP2⟩
          case measure => simp [intOf]; omega
    · have hke : k = ks.length := by omega
      subst hke
      have hW := unhide HW
      obtain ⟨hx0, hx1⟩ := hW.2.1
      cases pl with
      | true =>
        have HE := hide (unhide HP).done
        clear HP Hh Hs HR hW
        go_wp2
        go_ret
        exact ⟨a1, m1, c1, ts, rfl, (unhide HW).1.mono (Nat.le_succ _), unhide HE, (unhide HW).2.2.1⟩
      | false =>
        have HE := hide (unhide HP).last
        clear HP Hh Hs HR hW
        go_wp2_with (first | (at_builtin; refine wpList_pushS rfl (.tmp 41) (.tmp 43) rfl (w.heap.size + 1) (.slice a1 m1 c1) ts r rfl rfl (unhide HW).1 (unhide HW).2.2.2 (by omega) ?_; intro v4 w4 ho4 hg4 hb4; obtain ⟨a4, m4, c4, rfl, hW4⟩ := (unhide HW).push ho4 hb4; have HW4 := hide hW4; clear ho4 hg4 hb4 hW4))
        go_ret
        exact ⟨a4, m4, c4, _, rfl, (unhide HW4).1.mono (Nat.le_succ _), unhide HE, (unhide HW4).2.2.1⟩
end Go.Proofs.YtnjdldbdkafnaaaGreatDoor
namespace Go.Proofs.YtnjdldbdkafnaaaGreatDoor
open Go.RowKit Go.Sort
set_option linter.unusedVariables false
set_option linter.unusedSimpArgs false
set_option maxRecDepth 4000

theorem Run.le {k : Int} {rs : List RV} (hg : Good rs) {j : Nat} {kn : List Nat} {bs : List ByteArray} (h : Run k rs j kn bs) : j ≤ k.toNat := by
  cases j with
  | zero => exact Nat.zero_le _
  | succ j =>
    have h' := h
    obtain ⟨a, b, r, h1, h2, _⟩ := h
    have ht := List.find?_some h2
    unfold tellsB at ht
    rw [Bool.and_eq_true] at ht
    exact (Run.known (valid_size ht.1).1 hg h').le
/-- The known ones, as the reference keeps them. -/
def KnS (w1 wr : World) (k : Int) (kn : List Nat) (bs : List ByteArray) (a1 : Option Addr) (m1 c1 : Nat) (ts : List RV) : Prop :=
  OwnS wr w1.heap.size (.slice a1 m1 c1) ts ∧ RowsIn wr ts ∧ ts.map core = toldTo k kn bs k.toNat ∧ Below w1.heap.size w1 wr
theorem KnS.below {w1 wr w2 : World} {k : Int} {kn : List Nat} {bs : List ByteArray} {a1 : Option Addr} {m1 c1 : Nat} {ts : List RV} (h : KnS w1 wr k kn bs a1 m1 c1 ts) (hb : Below wr.heap.size wr w2) : KnS w1 w2 k kn bs a1 m1 c1 ts := ⟨h.1.below hb, h.2.1.below hb, h.2.2.1, below0 h.2.2.2 hb⟩
theorem KnS.rows {w1 wr : World} {k : Int} {kn : List Nat} {bs : List ByteArray} {a1 : Option Addr} {m1 c1 : Nat} {ts : List RV} (h : KnS w1 wr k kn bs a1 m1 c1 ts) : RowsAt wr a1 m1 ts ∧ m1 = ts.length := by
  obtain ⟨a, c, e, hr, _⟩ := h.1.rows h.2.1
  simp only [Value.slice.injEq] at e
  obtain ⟨rfl, rfl, rfl⟩ := e
  exact ⟨hr, rfl⟩
theorem told_len {k : Int} {kn : List Nat} {bs : List ByteArray} {ts : List RV} (h : ts.map core = toldTo k kn bs k.toNat) : ts.length ≤ k.toNat := by
  have := congrArg List.length h
  rw [List.length_map] at this
  have := toldTo_len k kn bs k.toNat
  omega
theorem told_mem {k : Int} {j : Nat} {kn : List Nat} {bs : List ByteArray} (hK : Kn k j kn bs) {x : List Nat × ByteArray} (hx : x ∈ toldTo k kn bs k.toNat) : ∃ b : Nat, b < k.toNat ∧ getB kn b = true ∧ x = (unitL k (b : Int), bs.getD b ByteArray.empty) := by
  unfold toldTo at hx
  rw [List.mem_map] at hx
  obtain ⟨b, hb, rfl⟩ := hx
  rw [List.mem_filter, List.mem_range] at hb
  exact ⟨b, hb.1, hb.2, rfl⟩
theorem told_short {w : World} {k : Int} {j : Nat} {kn : List Nat} {bs : List ByteArray} {ts : List RV} (hK : Kn k j kn bs) (hr : RowsIn w ts) (h : ts.map core = toldTo k kn bs k.toNat) : shortR ts := fun i => by
  by_cases hi : i < ts.length
  · have hm : core (ts.getD i .dflt) ∈ toldTo k kn bs k.toNat := by
      rw [← h, List.getD_eq_getElem?_getD, List.getElem?_eq_getElem hi]
      exact List.mem_map.2 ⟨_, List.getElem_mem hi, rfl⟩
    obtain ⟨b, hb, _, e⟩ := told_mem hK hm
    have hroom := size_room hK.size
    have hl := (hr.get hi).1.1
    have e1 : (ts.getD i .dflt).xs = unitL k (b : Int) := congrArg Prod.fst e
    have e2 : (ts.getD i .dflt).s = bs.getD b ByteArray.empty := congrArg Prod.snd e
    have := unit_len (k := k) (b := b) (by omega)
    have := sizeOfK_le k
    refine ⟨by rw [← hl, e1]; omega, by rw [e2]; exact hK.short b⟩
  · rw [List.getD_eq_getElem?_getD, List.getElem?_eq_none (by omega)]
    exact ⟨Nat.zero_le _, Nat.zero_le _⟩
/-- One more is known. -/
theorem KnS.with {w1 wr w2 : World} {k : Int} {j : Nat} {kn : List Nat} {bs : List ByteArray} {a1 : Option Addr} {m1 c1 : Nat} {ts ts2 : List RV} {a2 : Option Addr} {m2 c2 : Nat} {r r' : RV} (h : KnS w1 wr k kn bs a1 m1 c1 ts) (hK : Kn k j kn bs) (hrs : smalls r.xs) (ht : tellsB k kn r = true) (hc : core r' = (dropL r.xs kn, txtL bs r.xs r.s)) (hr' : RowAt wr r'.a r'.n r'.xs) (hcap : r'.n ≤ r'.c)
    (ho : OwnS w2 wr.heap.size (.slice a2 m2 c2) ts2) (hW : WtE ts r' ts2) (hb : Below wr.heap.size wr w2) : KnS w1 w2 k (setB kn (blkOf kn r) true) (bs.set (blkOf kn r) (txtL bs r.xs r.s)) a2 m2 c2 ts2 := by
  obtain ⟨p, hp, rfl, h1, h2⟩ := hW
  obtain ⟨hv, hbits, hk0, hx0, hbk, hfi⟩ := tells_bit hrs ht
  have hroom := size_room hK.size
  have hxs : r'.xs = unitL k (blkOf kn r : Int) := by
    rw [show r'.xs = dropL r.xs kn from congrArg Prod.fst hc]
    exact ext_bits (by rw [dropL_length, unit_len (by omega), (valid_size hv).2.1]) (dropL_small hrs _) (unit_small (by omega)) fun i => by rw [hbits, unit_bit hK.size (by omega)]
  have hs : r'.s = txtL bs r.xs r.s := congrArg Prod.snd hc
  have hf : firstI r'.xs = (blkOf kn r : Int) := by rw [show r'.xs = dropL r.xs kn from congrArg Prod.fst hc]; exact hfi
  have hl : ts.length = (toldTo k kn bs k.toNat).length := by rw [← h.2.2.1, List.length_map]
  refine ⟨ho.mono h.2.2.2.size, fun x hx => ?_, ?_, below0 h.2.2.2 hb⟩
  · rcases List.mem_append.1 hx with hx | hx
    · have := h.2.1 x (List.mem_of_mem_take hx)
      exact ⟨this.1.below hb, this.2⟩
    · rcases List.mem_cons.1 hx with rfl | hx
      · exact ⟨hr'.below hb, hcap⟩
      · have := h.2.1 x (List.mem_of_mem_drop hx)
        exact ⟨this.1.below hb, this.2⟩
  · rw [List.map_append, List.map_cons, List.map_take, List.map_drop, h.2.2.1, show core r' = (unitL k (blkOf kn r : Int), txtL bs r.xs r.s) from Prod.ext hxs hs]
    refine told_with hK hbk hk0 _ (by omega) (fun i hi => ?_) (fun hlt => ?_)
    · have := h2 i hi
      rw [hf] at this
      rw [core_at h.2.2.1 (by omega)]
      exact this
    · have := h1 (by omega)
      rw [hf] at this
      rw [core_at h.2.2.1 (by omega)]
      exact this
/-- What a round of the inner loop leaves. -/
def InS (w1 wr : World) (k : Int) (vs : List RV) (j i : Nat) (ag : Bool) (a1 : Option Addr) (m1 c1 : Nat) (ts : List RV) (kn : List Nat) (bs : List ByteArray) : Prop :=
  KnS w1 wr k kn bs a1 m1 c1 ts ∧ ((ag = false ∧ Run k vs j kn bs ∧ ∀ q, q < i → tellsB k kn (vs.getD q .dflt) = false) ∨ (ag = true ∧ Run k vs (j + 1) kn bs))
theorem filter_rest {k : Int} {rs : List RV} {kn : List Nat} : (rs.filter fun r => validB k r.xs).filter (restB k kn) = rs.filter (restB k kn) := by
  rw [List.filter_filter]
  congr 1
  funext r
  unfold restB
  cases validB k r.xs <;> simp
end Go.Proofs.YtnjdldbdkafnaaaGreatDoor
