/-
  Contracts of (*peeling).text, tell, told, rest.
  Contracts of (*peeling).rest, tell.
-/
import Derived.Test.YtnjdldbdkafnaaaGreatDoorU10
import Derived.Test.YtnjdldbdkafnaaaGreatDoorU8
namespace Go.Proofs.YtnjdldbdkafnaaaGreatDoor
open Go.RowKit Go.Sort
set_option linter.unusedVariables false
set_option linter.unusedSimpArgs false
set_option maxRecDepth 4000

theorem OwnT.at' {w : World} {B : Nat} {a : Option Addr} {n c : Nat} {ss : List ByteArray} (h : OwnT w B (.slice a n c) ss) : n = ss.length ∧ TextsAt w a ss.length ss := by
  obtain ⟨a1, c1, e, hr⟩ := h.texts
  simp only [Value.slice.injEq] at e
  obtain ⟨rfl, rfl, rfl⟩ := e
  exact ⟨rfl, hr⟩

set_option maxHeartbeats 1000000 in
theorem text_any (B : Nat) (v : PV) (kn : List Nat) (bs : List ByteArray) (rs : List RV) (p : Nat) (w : World) (h : PlAt w B v kn bs) (hR : RowsAt w v.a v.n rs) (hs : shortR rs) (hp : p < v.n) (hn : v.n ≤ 1048576) (hb : shorts bs) (hbl : bs.length ≤ 1048576) :
    Calls Tryz.prog 129 #[.pointer (some ⟨v.g, 0, none⟩), .int .i64 (p : Int)] w fun e w' => e = .returned (.string (txtL bs (rs.getD p .dflt).xs (rs.getD p .dflt).s)) ∧ Below w.heap.size w w' := by
  obtain ⟨g, a, n, c, kg, kc, bg, bc, bm⟩ := v
  simp only at *
  obtain ⟨b, off, rfl, hcl⟩ := hR.at hp
  obtain ⟨hc0, hc1⟩ := hcl p hp
  have hrow := hR.2.1 p hp
  have hsh := hs p
  obtain ⟨x0, x1, x2, x3⟩ := h.cells
  have hbk := h.blocks.at'.2
  have hgl := h.lt
  have hpn : (p : Int) < (n : Int) := by omega
  generalize rs.getD p .dflt = r at *
  have hb1 : Below w.heap.size w (w.alloc (.cells #[.slice r.a r.n r.c, .string r.s] 29)) := (Below.refl _ _).alloc (Nat.le_refl _) _
  have hx := box_new w (.slice r.a r.n r.c) (.string r.s)
  have hsz : (st (ofL bs r.xs bs.length)).size ≤ 1048576 := by rw [st_size (ofL_bytes _ _ _)]; exact ofL_len bs r.xs hb _
  have k0 := cell_regrown hx.1
  have k1 := cell_regrown hx.2
  have k2 := cell_regrown ((hb1.cell (p := ⟨g, 2, none⟩) hgl).trans x2)
  have cOf := quietB (W := w.alloc (.cells #[.slice r.a r.n r.c, .string r.s] 29)) (fun w' hbx => of_any (some ⟨bg, 0, none⟩) bs.length bc bs r.a r.n r.c r.xs w' ((hbk.below hb1).below hbx) hb hbl ((hrow.below hb1).below hbx) (by omega))
  have cXor := quietB (W := w.alloc (.cells #[.slice r.a r.n r.c, .string r.s] 29)) (fun w' hbx => xx_any r.s (st (ofL bs r.xs bs.length)) w' (by omega) hsz)
  have B1 := hide hb1
  clear hcl hR hs hrow hbk hx hsz hb1 h hgl
  go_enter Tryz.func129, Tryz.ntmps129
  go_wp2_with fail
  refine wp_region_quiet_below (by kernel_rfl) (by kernel_rfl) ?_
  repeat (with_reducible refine wpQuiet_step (fun K hK => ?_); go_simp; first | (with_reducible refine hK _ ?_; clear hK K) | (apply Exists.intro; apply And.intro; (intro _; first | (go_at_call 138; exact cOf _ _) | (go_at_call 137; exact cXor _ _)); with_reducible refine hK _ ?_; clear hK K))
  refine wpQuiet_nil ?_
  intro _ hw'
  obtain ⟨⟨dq, osq⟩, hw''⟩ := hw'
  subst hw''
  go_wp2
  go_ret
  exact ⟨rfl, below0 (unhide B1) (below_regrown _ dq osq)⟩

/-- The known ones of the first m blocks. -/
def toldTo (k : Int) (kn : List Nat) (bs : List ByteArray) (m : Nat) : List (List Nat × ByteArray) := ((List.range m).filter fun b => getB kn b).map fun (b : Nat) => (unitL k (b : Int), bs.getD b ByteArray.empty)
theorem toldTo_yes {k : Int} {kn : List Nat} {bs : List ByteArray} {m : Nat} (h : getB kn m = true) : toldTo k kn bs (m + 1) = toldTo k kn bs m ++ [(unitL k (m : Int), bs.getD m ByteArray.empty)] := by
  unfold toldTo
  rw [List.range_succ, List.filter_append, List.map_append]
  simp only [List.filter_cons, List.filter_nil, h, if_true, List.map_cons, List.map_nil]
theorem toldTo_no {k : Int} {kn : List Nat} {bs : List ByteArray} {m : Nat} (h : getB kn m = false) : toldTo k kn bs (m + 1) = toldTo k kn bs m := by
  unfold toldTo
  rw [List.range_succ, List.filter_append, List.map_append]
  simp only [List.filter_cons, List.filter_nil, h, Bool.false_eq_true, if_false, List.map_nil, List.append_nil]
theorem toldTo_len (k : Int) (kn : List Nat) (bs : List ByteArray) (m : Nat) : (toldTo k kn bs m).length ≤ m := by
  unfold toldTo
  rw [List.length_map]
  have := List.length_filter_le (fun b => getB kn b) (List.range m)
  simpa using this

set_option maxHeartbeats 2000000 in
theorem told_any (B : Nat) (v : PV) (kn : List Nat) (bs : List ByteArray) (w : World) (h : PlAt w B v kn bs) (hbl : bs.length ≤ 1048576) (hkl : kn.length ≤ 1048576) :
    Calls Tryz.prog 109 #[.pointer (some ⟨v.g, 0, none⟩)] w fun e w' => ∃ a1 m1 c1 ts, e = .returned (.slice a1 m1 c1) ∧ GaS w w' a1 m1 c1 (toldTo (bs.length : Int) kn bs bs.length) ts := by
  obtain ⟨g, a, n, c, kg, kc, bg, bc, bm⟩ := v
  simp only at *
  obtain ⟨x0, x1, x2, x3⟩ := h.cells
  simp only at x0 x1 x2 x3
  have H := hide h
  clear h
  go_enter Tryz.func109, Tryz.ntmps109
  go_wp2
  go_loopw [3, 11] (fun o i wr => ∃ k : Nat, ∃ a1 : Option Addr, ∃ m1 c1 : Nat, ∃ ts : List RV, k ≤ bs.length ∧ i = .int .i64 k ∧ o = .slice a1 m1 c1 ∧ Hid (GaS w wr a1 m1 c1 (toldTo (bs.length : Int) kn bs k) ts)) (fun _ i _ => bs.length - (intOf i).toNat)
  case atStart => exact ⟨0, none, 0, 0, [], Nat.zero_le _, rfl, rfl, hide (GaS.nil w)⟩
  case round =>
    obtain ⟨k, a1, m1, c1, ts, hk, rfl, rfl, HG⟩ := hrel
    clear x0 x1 x2 x3
    by_cases hlt : k < bs.length
    · have hP := (unhide H).below (unhide HG).2.2.2.2
      obtain ⟨x0, x1, x2, x3⟩ := hP.cells
      simp only at x0 x1 x2 x3
      obtain ⟨b9, off9, e9, hbc⟩ := (hP.blocks.at'.2).at hlt
      simp only [Option.some.injEq, Addr.mk.injEq, and_true] at e9
      obtain ⟨rfl, rfl⟩ := e9
      have hbt := hbc k hlt
      rw [Nat.zero_add] at hbt
      have hlt' : (k : Int) < (bs.length : Int) := by omega
      have HGT := hide (getN_any (some ⟨kg, 0, none⟩) kn.length kc kn k wr hP.known.at'.2 hkl (by omega))
      have HYS := hide (fun h => toldTo_yes (k := (bs.length : Int)) (kn := kn) (bs := bs) (m := k) h)
      have HNO := hide (fun h => toldTo_no (k := (bs.length : Int)) (kn := kn) (bs := bs) (m := k) h)
      have hgl := hP.lt
      simp only at hgl
      have htl : ts.length ≤ 1048576 := by
        have := congrArg List.length (unhide HG).2.2.2.1
        rw [List.length_map] at this
        have := toldTo_len (bs.length : Int) kn bs k
        omega
      clear hP hbc
      generalize bs.getD k ByteArray.empty = t at *
      cases hgk : getB kn k
      · rw [hgk] at HGT
        have HE := hide (unhide HNO hgk)
        clear HYS HNO
        go_wp2_with (go_at_call 128; refine (unhide HGT).mono ?_; rintro e w1 ⟨rfl, hb1⟩; have HB1 := hide hb1; clear hb1)
        go_roundw
        case rel => exact ⟨k + 1, a1, m1, c1, ts, by omega, by go_num, rfl, hide (by rw [unhide HE]; exact (unhide HG).below (unhide HB1))⟩
        case measure => simp [intOf]; omega
      · rw [hgk] at HGT
        have HE := hide (unhide HYS hgk)
        have HUN := hide (fun w1 => unit_any (bs.length : Int) (k : Int) w1 (by omega))
        clear HYS HNO
        obtain ⟨ul, hul⟩ : ∃ ul, ul = unitL (bs.length : Int) (k : Int) := ⟨_, rfl⟩
        rw [← hul] at HE HUN
        clear hul
        go_wp2_with (first | (go_at_call 128; refine (unhide HGT).mono ?_; rintro e w1 ⟨rfl, hb1⟩; have z2 := (hb1.cell (p := ⟨g, 2, none⟩) hgl).trans x2; have HB1 := hide hb1; clear hb1) | (go_at_call 100; refine (unhide HUN _).mono ?_; rintro e w2 ⟨v2, rfl, ho2, hb2⟩; obtain ⟨a2, c2, rfl, hr2⟩ := ho2.row; have HO2 := hide ho2; have HR2 := hide hr2; have HG2 := hide ((unhide HG).below (below0 (unhide HB1) hb2)); clear ho2 hb2 hr2) | (at_builtin; refine wpList_pushS rfl (.tmp 22) (.tmp 32) rfl w.heap.size (.slice a1 m1 c1) ts ⟨a2, ul.length, c2, ul, t⟩ rfl rfl (unhide HG2).1 (unhide HG2).2.2.2.2.size htl ?_; intro v3 w3 ho3 hg3 hb3; obtain ⟨a3, m3, c3, rfl, hG3⟩ := (unhide HG2).push (RowsIn.one (unhide HR2) (unhide HO2).cap) (Tys.own (unhide HO2)) ho3 hg3 hb3; have HG3 := hide hG3; clear ho3 hg3 hb3 hG3))
        go_roundw
        case rel => exact ⟨k + 1, a3, m3, c3, _, by omega, by go_num, rfl, hide (by rw [unhide HE]; exact unhide HG3)⟩
        case measure => simp [intOf]; omega
    · have hke : k = bs.length := by omega
      subst hke
      go_wp2
      go_ret
      exact ⟨a1, m1, c1, ts, rfl, unhide HG⟩
end Go.Proofs.YtnjdldbdkafnaaaGreatDoor
namespace Go.Proofs.YtnjdldbdkafnaaaGreatDoor
open Go.RowKit Go.Sort
set_option linter.unusedVariables false
set_option linter.unusedSimpArgs false
set_option maxRecDepth 4000

/-- What is left of the first m rows. -/
def restTo (S : Nat → Bool) (cs : Nat → List Nat) (bs : List ByteArray) (rs : List RV) (m : Nat) : List (List Nat × ByteArray) := ((List.range m).filter fun p => S p).map fun (p : Nat) => (cs p, txtL bs (rs.getD p .dflt).xs (rs.getD p .dflt).s)
theorem restTo_yes {S : Nat → Bool} {cs : Nat → List Nat} {bs : List ByteArray} {rs : List RV} {m : Nat} (h : S m = true) : restTo S cs bs rs (m + 1) = restTo S cs bs rs m ++ [(cs m, txtL bs (rs.getD m .dflt).xs (rs.getD m .dflt).s)] := by
  unfold restTo
  rw [List.range_succ, List.filter_append, List.map_append]
  simp only [List.filter_cons, List.filter_nil, h, if_true, List.map_cons, List.map_nil]
theorem restTo_no {S : Nat → Bool} {cs : Nat → List Nat} {bs : List ByteArray} {rs : List RV} {m : Nat} (h : S m = false) : restTo S cs bs rs (m + 1) = restTo S cs bs rs m := by
  unfold restTo
  rw [List.range_succ, List.filter_append, List.map_append]
  simp only [List.filter_cons, List.filter_nil, h, Bool.false_eq_true, if_false, List.map_nil, List.append_nil]
theorem restTo_len (S : Nat → Bool) (cs : Nat → List Nat) (bs : List ByteArray) (rs : List RV) (m : Nat) : (restTo S cs bs rs m).length ≤ m := by
  unfold restTo
  rw [List.length_map]
  have := List.length_filter_le (fun b => S b) (List.range m)
  simpa using this

set_option maxHeartbeats 2000000 in
theorem rest_any (B : Nat) (v : PV) (sz : Nat) (S : Nat → Bool) (f : Nat → Nat × Nat) (cs : Nat → List Nat) (kn : List Nat) (bs : List ByteArray) (rs : List RV) (w : World) (h : PS w B v sz S f cs kn bs) (hR : RowsAt w v.a v.n rs) (hs : shortR rs) (hn : v.n ≤ 1048576) (hb : shorts bs) (hbl : bs.length ≤ 1048576) :
    Calls Tryz.prog 110 #[.pointer (some ⟨v.g, 0, none⟩)] w fun e w' => ∃ a1 m1 c1 ts, e = .returned (.slice a1 m1 c1) ∧ GaS w w' a1 m1 c1 (restTo S cs bs rs v.n) ts := by
  obtain ⟨x0, x1, x2, x3⟩ := h.1.cells
  have H := hide h
  have HR := hide hR
  have HS := hide hs
  clear h hR hs
  go_enter Tryz.func110, Tryz.ntmps110
  go_wp2
  go_loopw [3, 12] (fun o i wr => ∃ k : Nat, ∃ a1 : Option Addr, ∃ m1 c1 : Nat, ∃ ts : List RV, k ≤ v.n ∧ i = .int .i64 k ∧ o = .slice a1 m1 c1 ∧ Hid (GaS w wr a1 m1 c1 (restTo S cs bs rs k) ts)) (fun _ i _ => v.n - (intOf i).toNat)
  case atStart => exact ⟨0, none, 0, 0, [], Nat.zero_le _, rfl, rfl, hide (GaS.nil w)⟩
  case round =>
    obtain ⟨k, a1, m1, c1, ts, hk, rfl, rfl, HG⟩ := hrel
    clear x0 x1 x2 x3
    by_cases hlt : k < v.n
    · have hP := (unhide H).below (unhide HG).2.2.2.2
      obtain ⟨x0, x1, x2, x3⟩ := hP.1.cells
      have hlt' : (k : Int) < (v.n : Int) := by omega
      have HYS := hide (fun h => restTo_yes (S := S) (cs := cs) (bs := bs) (rs := rs) (m := k) h)
      have HNO := hide (fun h => restTo_no (S := S) (cs := cs) (bs := bs) (rs := rs) (m := k) h)
      have htl : ts.length ≤ 1048576 := by
        have := congrArg List.length (unhide HG).2.2.2.1
        rw [List.length_map] at this
        have := restTo_len S cs bs rs k
        omega
      obtain ⟨D, hD, hRd⟩ := hP.2.1
      have HTX := hide (text_any B v kn bs rs k wr hP.1 ((unhide HR).below (unhide HG).2.2.2.2) (unhide HS) hlt hn hb hbl)
      cases hSk : S k
      · obtain ⟨az, nz, cz, hlk⟩ := look_sl_no hD hRd hSk (by omega)
        have HE := hide (unhide HNO hSk)
        clear HYS HNO hP hD hRd HTX
        go_wp2
        go_roundw
        case rel => exact ⟨k + 1, a1, m1, c1, ts, by omega, by go_num, rfl, hide (by rw [unhide HE]; exact unhide HG)⟩
        case measure => simp [intOf]; omega
      · have hlk := look_sl_ok hD hRd hSk (by omega)
        have HE := hide (unhide HYS hSk)
        have HO := hide (hP.2.2.1.own k hSk).1
        clear HYS HNO hP hD hRd
        generalize txtL bs (rs.getD k .dflt).xs (rs.getD k .dflt).s = t at *
        generalize (f k).1 = gk at *
        generalize (f k).2 = ck at *
        obtain ⟨vl, hvl⟩ : ∃ vl, vl = cs k := ⟨_, rfl⟩
        rw [← hvl] at HE HO
        clear hvl
        go_wp2_with (first | (go_at_call 129; refine (unhide HTX).mono ?_; rintro e w2 ⟨rfl, hb2⟩; have HO2 := hide ((unhide HO).below hb2); have HG2 := hide ((unhide HG).below hb2); clear hb2) | (at_builtin; refine wpList_pushS rfl (.tmp 25) (.tmp 31) rfl w.heap.size (.slice a1 m1 c1) ts ⟨some ⟨gk, 0, none⟩, sz, ck, vl, t⟩ rfl rfl (unhide HG2).1 (unhide HG2).2.2.2.2.size htl ?_; intro v3 w3 ho3 hg3 hb3; obtain ⟨a3, m3, c3, rfl, hG3⟩ := (unhide HG2).push (RowsIn.one (by have := (unhide HO2).at'; exact this.1 ▸ this.2) (unhide HO2).cap) (Tys.own (unhide HO2)) ho3 hg3 hb3; have HG3 := hide hG3; clear ho3 hg3 hb3 hG3))
        go_roundw
        case rel => exact ⟨k + 1, a3, m3, c3, _, by omega, by go_num, rfl, hide (by rw [unhide HE]; exact unhide HG3)⟩
        case measure => simp [intOf]; omega
    · have hke : k = v.n := by omega
      subst hke
      go_wp2
      go_ret
      exact ⟨a1, m1, c1, ts, rfl, unhide HG⟩

theorem PlAt.gb {w : World} {B : Nat} {v : PV} {kn : List Nat} {bs : List ByteArray} (h : PlAt w B v kn bs) : v.g ≠ v.bg := fun e => by
  obtain ⟨cb, hcb⟩ := h.blocks.blk
  have := h.box
  rw [e, hcb] at this
  simp only [Option.some.injEq, Obj.cells.injEq] at this
  exact absurd this.2.1 (by decide)
/-- Behind tell. -/
theorem PS.told {w w1 w2 w3 : World} {B : Nat} {v : PV} {sz : Nat} {S : Nat → Bool} {f : Nat → Nat × Nat} {cs : Nat → List Nat} {kn : List Nat} {bs : List ByteArray} {b : Nat} {t : ByteArray} (h : PS w B v sz S f cs kn bs) (hB : B ≤ w.heap.size) (hb1 : Below w.heap.size w w1) (hw2 : w1.grownBy w2 (some v.bg))
    (ho2 : OwnT w2 B (.slice (some ⟨v.bg, 0, none⟩) bs.length v.bc) (bs.set b t)) (hg3 : w2.grownBy w3 (some v.kg)) (ho3 : Own w3 B (.slice (some ⟨v.kg, 0, none⟩) kn.length v.kc) (setB kn b true)) : PS w3 B v sz S f cs (setB kn b true) (bs.set b t) ∧ Below B w w3 := by
  obtain ⟨p1, ⟨D, d1, d2⟩, l1, s1, m1⟩ := h.below hb1
  obtain ⟨cb, hcb⟩ := p1.blocks.blk
  obtain ⟨ck, hck⟩ := p1.known.blk
  have hgb : v.g ≠ v.bg := fun e => by
    have := p1.box
    rw [e, hcb] at this
    simp only [Option.some.injEq, Obj.cells.injEq] at this
    exact absurd this.2.1 (by decide)
  have hgk : v.g ≠ v.kg := fun e => by
    have := p1.box
    rw [e, hck] at this
    simp only [Option.some.injEq, Obj.cells.injEq] at this
    exact absurd this.2.1 (by decide)
  have hbk : v.bg ≠ v.kg := fun e => by
    rw [e, hck] at hcb
    simp only [Option.some.injEq, Obj.cells.injEq] at hcb
    exact absurd hcb.2.1 (by decide)
  have hmb : v.bm ≠ v.bg := fun e => by
    obtain ⟨es, clock, hb, _⟩ := d1
    rw [e, hcb] at hb
    cases hb
  have hmk : v.kg ≠ v.bm := own_nomap p1.known d1
  have hlb : ∀ p, S p = true → (f p).1 ≠ v.bg := fun p hp e => by
    obtain ⟨c2, hc2⟩ := (l1.own p hp).1.blk
    rw [e, hcb] at hc2
    simp only [Option.some.injEq, Obj.cells.injEq] at hc2
    exact absurd hc2.2.1 (by decide)
  have l2 := l1.kept hw2 hlb
  have l3 := l2.kept hg3 (fun p hp => (s1 p hp).2)
  have d3 := (d1.kept hw2 (fun e => hmb (by simpa using e))).kept hg3 (fun e => hmk (by simpa using e.symm))
  have hx := p1.box
  refine ⟨⟨⟨?_, by rw [setB_length]; exact ho3, ?_⟩, ⟨D, d3, d2⟩, l3, s1, m1⟩, ?_⟩
  · rw [setB_length, List.length_set]
    exact (hg3.block v.g (Nat.lt_of_lt_of_le p1.lt hw2.size) (by simpa using hgk)).trans ((hw2.block v.g p1.lt (by simpa using hgb)).trans hx)
  · rw [List.length_set]
    exact World.ownsRow.kept ho2 hg3 (.inr fun e => hbk (by simpa [Value.ownBlock] using e))
  · have B1 := hb1.mono hB
    refine (B1.trans (gb_below hw2 (Nat.le_trans hB hb1.size) fun j hj => by cases hj; exact (World.ownsRow.lt p1.blocks v.bg rfl).1)).trans (gb_below hg3 (Nat.le_trans hB (Nat.le_trans hb1.size hw2.size)) fun j hj => by cases hj; exact (ho3.lt (k := v.kg) rfl).1)

set_option maxHeartbeats 2000000 in
theorem tell_any (B : Nat) (v : PV) (sz : Nat) (S : Nat → Bool) (f : Nat → Nat × Nat) (cs : Nat → List Nat) (kn : List Nat) (bs : List ByteArray) (rs : List RV) (p b : Nat) (w : World) (ht : Tab w) (h : PS w B v sz S f cs kn bs) (hB : B ≤ w.heap.size) (hR : RowsAt w v.a v.n rs) (hs : shortR rs) (hn : v.n ≤ 1048576) (hb : shorts bs) (hbl : bs.length ≤ 1048576) (hz : sz ≤ 1048576) (hkl : kn.length ≤ 1048576)
    (hp : S p = true) (hf : firstI (cs p) = (b : Int)) (hbb : b < bs.length) (hbk : b / 64 < kn.length) :
    Calls Tryz.prog 111 #[.pointer (some ⟨v.g, 0, none⟩), .int .i64 (p : Int)] w fun e w' => e = .returned (.tuple #[]) ∧ PS w' B v sz S f cs (setB kn b true) (bs.set b (txtL bs (rs.getD p .dflt).xs (rs.getD p .dflt).s)) ∧ Below B w w' := by
  obtain ⟨x0, x1, x2, x3⟩ := h.1.cells
  have hpn := (h.2.2.2.1 p hp).1
  obtain ⟨D, hD, hRd⟩ := h.2.1
  have hlk := look_sl hD hRd hp (by omega)
  have hrw := (h.2.2.1.own p hp).1
  have HF := hide (first_any (some ⟨(f p).1, 0, none⟩) sz (f p).2 (cs p) w ht (by have := hrw.at'; exact this.1 ▸ this.2) hz)
  rw [hf] at HF
  have HTX := hide (fun wx (hbx : Below w.heap.size w wx) => text_any B v kn bs rs p wx (h.1.below hbx) (hR.below hbx) hs hpn hn hb hbl)
  have hgl := h.1.lt
  have hgb := h.1.gb
  have hgb' : ¬ v.bg = v.g := fun e => hgb e.symm
  have H := hide h
  generalize txtL bs (rs.getD p .dflt).xs (rs.getD p .dflt).s = t at *
  have HEND := hide (fun (w1 w2 w3 : World) hb1 hw2 ho2 hg3 ho3 => PS.told (w1 := w1) (w2 := w2) (w3 := w3) (b := b) (t := t) h hB hb1 hw2 ho2 hg3 ho3)
  have hbb' : (b : Int) < (bs.length : Int) := by omega
  clear hD hRd hrw hR hs ht h hf
  generalize (f p).1 = gp at *
  generalize (f p).2 = cp at *
  go_enter Tryz.func111, Tryz.ntmps111
  go_wp2_with (go_at_call 106; refine (unhide HF).mono ?_; rintro e w9 ⟨rfl, hw9⟩; obtain rfl := hw9.symm; clear hw9)
  go_region_held (fun w' => w'.cell? ⟨v.g, 2, none⟩ = some (.slice (some ⟨v.bg, 0, none⟩) bs.length v.bc)) (go_keep) (first | (go_at_call 129; refine (unhide HTX _ ((Below.refl _ _).drew)).mono ?_; rintro e w1 ⟨rfl, hb1⟩; have hb1w : Below w.heap.size w w1 := below0 ((Below.refl w.heap.size w).drew) hb1; have z2 := (hb1w.cell (p := ⟨v.g, 2, none⟩) hgl).trans x2; have z1 := (hb1w.cell (p := ⟨v.g, 1, none⟩) hgl).trans x1; have hP1 := (unhide H).below hb1w; obtain ⟨g9, c9, e9, hB9, hl9, hc9, hf9⟩ := hP1.1.blocks.at (by omega); simp only [Value.slice.injEq, Option.some.injEq, Addr.mk.injEq, and_true, true_and] at e9; obtain ⟨e9a, e9b⟩ := e9; subst e9a e9b; have y0 := hc9 b hbb; have y1 := hf9 b; have HP1 := hide hP1; have HB1 := hide hb1w; clear hP1 hb1w hc9 hf9 hb1))
  have q1 : (w1.setCell ⟨v.bg, b, none⟩ (.string t)).cell? ⟨v.g, 1, none⟩ = some (.slice (some ⟨v.kg, 0, none⟩) kn.length v.kc) := (World.cell?_setCell_other (h := fun h => hgb' (by injection h)) ..).trans z1
  have HO2 := hide ((unhide HP1).1.blocks.stored b t)
  have HG2 := hide (gb_setCell w1 v.bg b (.string t))
  generalize (w1.setCell ⟨v.bg, b, none⟩ (.string t)) = w2 at *
  have HK2 := hide (show Own w2 B (.slice (some ⟨v.kg, 0, none⟩) kn.length v.kc) kn from (unhide HP1).1.known.kept (unhide HG2) (.inr fun e => by
    obtain ⟨cb, hcb⟩ := (unhide HP1).1.blocks.blk
    obtain ⟨ck, hck⟩ := (unhide HP1).1.known.blk
    simp only [Value.ownBlock, Option.some.injEq] at e
    rw [e, hcb] at hck
    simp only [Option.some.injEq, Obj.cells.injEq] at hck
    exact absurd hck.2.1 (by decide)))
  have HST := hide (pset_any B v.kg v.kc kn b w2 (unhide HK2) hbk hkl)
  clear z1 z2 y0 y1 x0 x1 x2 x3 hlk
  go_wp2_with (go_at_call 130; refine (unhide HST).mono ?_; rintro e w3 ⟨rfl, ho3, hg3⟩; have HO3 := hide ho3; have HG3 := hide hg3; clear ho3 hg3)
  go_end0
  exact ⟨rfl, unhide HEND w1 w2 w3 (unhide HB1) (unhide HG2) (unhide HO2) (unhide HG3) (unhide HO3)⟩
end Go.Proofs.YtnjdldbdkafnaaaGreatDoor
