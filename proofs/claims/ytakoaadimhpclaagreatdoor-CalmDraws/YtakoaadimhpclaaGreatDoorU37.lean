/-
  Contracts of calm.way and of slices.Collect over what it gives: the way. Condition: the slices can be read; there is a way.
  A struct of many cells as a whole: its load and its store as steps of a walk. No condition.
-/
import Derived.Test.YtakoaadimhpclaaGreatDoorU36
import Derived.Maps.AppendAt
import Derived.Test.YtakoaadimhpclaaGreatDoorU18
import Derived.Deep.MidRow
namespace Go.Proofs.YtakoaadimhpclaaGreatDoor
open Go.RowKit Go.Sort Go.Shelf
set_option linter.unusedVariables false
set_option linter.unusedSimpArgs false
set_option maxRecDepth 4000
attribute [local go_sem] Oper.semAt_some

theorem way_any (a : Option Addr) (N c : Nat) (al : Option Addr) (n cl : Nat) (i : Int) (w : World) :
    Calls Tryz.prog 39 #[.slice a N c, .slice al n cl, .int .i64 i] w fun e w' => e = .returned (.func (.func 62) #[] #[.pointer (some ⟨w.heap.size + 2, 0, none⟩), .pointer (some ⟨w.heap.size + 1, 0, none⟩), .pointer (some ⟨w.heap.size, 0, none⟩)]) ∧ w' = ((w.alloc (.cells #[.slice a N c] 48)).alloc (.cells #[.slice al n cl] 58)).alloc (.cells #[.int .i64 i] 3) := by
  go_enter Tryz.func39, Tryz.ntmps39
  go_wp2
  go_ret
  exact ⟨rfl, rfl⟩
/-- A list of nodes as numbers. -/
def natZ (l : List Nat) : List Int := l.map fun i : Nat => (i : Int)
/-- What slices.AppendSeq holds between two rounds. -/
def ApI (w : World) (Bi : Nat) (pre : List Nat) (W : World) : Prop :=
  (∃ v, Boxed W w.heap.size 58 v ∧ W.ownsRow w.heap.size 3 1 v pre.length (cellsZ (natZ pre)) ∧ (v = .slice none 0 0 ↔ pre = [])) ∧ w.grownBy W (some Bi) ∧ w.heap.size ≤ W.heap.size
theorem ApI.own {w : World} {Bi B : Nat} (hB : w.heap.size ≤ B) : OwnFrom B (ApI w Bi) := by
  refine OwnFrom.and (Own.from (holdsRow_own w.heap.size w.heap.size 58 3 1 (fun pre : List Nat => pre.length) (fun pre => cellsZ (natZ pre)) (fun pre v => (v = .slice none 0 0 ↔ pre = []))) _) (fun s W W' r hs hg hr => ?_)
  exact ⟨gb_trans hs.1 hg (.inr fun j e => Nat.le_trans hB (hr j e).1), Nat.le_trans hs.2 hg.size⟩
theorem ApI.set {w : World} {Bi : Nat} {pre : List Nat} {W : World} (h : ApI w Bi pre W) (hb : Bi < w.heap.size) (v : Value) : ApI w Bi pre (W.setCell ⟨Bi, 0, none⟩ v) := by
  obtain ⟨⟨u, h1, h2, h3⟩, h4, h5⟩ := h
  refine ⟨⟨u, h1.other (by omega) _, h2.kept (gb_setCell W Bi 0 v) ?_, h3⟩, gb_trans h4 (gb_setCell W Bi 0 v) (.inl rfl), Nat.le_trans h5 (gb_setCell W Bi 0 v).size⟩
  rcases h2.2 with ⟨rfl, _⟩ | ⟨g, cap, cur, rfl, hg, _⟩
  · exact .inl rfl
  · refine .inr fun e => ?_
    have : g = Bi := by simpa [Value.ownBlock] using e
    omega
set_option maxRecDepth 100000 in
set_option maxHeartbeats 4000000 in
theorem appendseq_way (Bi Bf Bl : Nat) (a : Option Addr) (N c : Nat) (ds : List NDV) (al : Option Addr) (cl tn from_ : Nat) (w1 w : World) (hd : NdsAt w1 a N ds) (hp : StepP ds N) (hL : IntzAt w1 al N (farL ds N tn)) (hfr : from_ < N) (h8 : farN ds N tn from_ < 8)
    (hB : WayB w1 a N c al cl Bi Bf Bl from_ w) (h5 : w1.heap.size ≤ Bi) :
    Calls Tryz.prog 61 #[.slice none 0 0, .func (.func 62) #[] #[.pointer (some ⟨Bi, 0, none⟩), .pointer (some ⟨Bf, 0, none⟩), .pointer (some ⟨Bl, 0, none⟩)]] w fun e w' => ∃ v, e = .returned v ∧ OwnZ w' w.heap.size v (natZ (wayL ds N tn from_)) ∧ w.grownBy w' (some Bi) := by
  refine (callsIn_wide (n := 9)).1 ?_
  have hlen : (wayL ds N tn from_).length ≤ 8 := by unfold wayL; rw [wayK_len]; omega
  have hb0 := alloc_low w (.cells #[.slice none 0 0] 58)
  have HB := hide (hB.below hb0 hB.id.lt hB.left.lt hB.nds.lt hB.low.size)
  have hBi := hB.id.lt
  have hBf := hB.left.lt
  have hBl := hB.nds.lt
  have hw1 := hB.low.size
  have hAp : ApI w Bi [] (w.alloc (.cells #[.slice none 0 0] 58)) := ⟨⟨_, Boxed.new w _ _, World.ownsRow_nil _ _ _ _, by simp⟩, gb_of_below hb0 _, hb0.size⟩
  have HA := hide hAp
  have HD := hide hd
  have HP := hide hp
  have HL := hide hL
  have hsz := alloc_size w (.cells #[.slice none 0 0] 58)
  clear hB hAp hd hp hL hb0
  refine callsIn_of_wp_marks Tryz.func61 rfl trivial ?_ rfl
  simp only [Tryz.ntmps61, List.size_toArray, List.length_cons, List.length_nil, Nat.reduceAdd, Nat.reduceSub, Array.replicate_succ, Array.replicate_zero, List.push_toArray, List.append_toArray, List.nil_append, List.cons_append]
  gi_wp2
  obtain ⟨Wl, hWl⟩ : ∃ Wl, Wl = w.alloc (.cells #[.slice none 0 0] 58) := ⟨_, rfl⟩
  rw [← hWl] at HB HA hsz ⊢
  clear hWl
  refine rangeFunc_box (α := Nat) (n₀ := w.heap.size) (Bx := Bi) (N := 9) (ys := wayL ds N tn from_) (encs := fun x => #[Value.int .i64 (x : Int)]) (by omega) (gf := 62) rfl (enters_of Tryz.func62 (by kernel_rfl) rfl) (by omega)
    (fun l J W hW hJ hJs hY h0 => way1_in (9 - 1) (by omega) l Bi Bf Bl w.heap.size a N c ds al cl tn from_ w1 (unhide HD) (unhide HP) (unhide HL) hfr h8 J W hJ hJs hY h0 ((unhide HB).below hW (by omega) (by omega) (by omega) (by omega)) hBi hBf hBl hw1 h5)
    (fun _ => rfl) (ApI w Bi) (ApI.own (by omega)) (fun pre W v h => h.set hBi v) (unhide HA)
    (fun x => { tmps := #[.slice none 0 0, .func (.func 62) #[] #[.pointer (some ⟨Bi, 0, none⟩), .pointer (some ⟨Bf, 0, none⟩), .pointer (some ⟨Bl, 0, none⟩)], .pointer (some ⟨w.heap.size, 0, none⟩), undef, .slice none 0 0, .int .i64 (x : Int), .func (.func 62) #[] #[.pointer (some ⟨Bi, 0, none⟩), .pointer (some ⟨Bf, 0, none⟩), .pointer (some ⟨Bl, 0, none⟩)], .int .i64 (x : Int), undef, undef, undef, undef, undef], defers := [] }) ?assign ?body ?done
  case assign =>
    intro l x W K hK
    gi_wp2
    exact hK
  case body =>
    rintro l pre x W ⟨⟨v, hv, hrow, hnil⟩, hgb, hle⟩ hlt
    obtain ⟨i0, hi, hz0, hz1, hz2⟩ := info_parts info_intZ
    have hcv := hv.cell
    gi_wp2_with (gi_at_builtin; refine wpListIn_append_own _ rfl _ _ 58 rfl w.heap.size 3 i0 _ 1 8 Tryz.underlying58 hi hz0 hz1 hz2 rfl (by decide) _ _ _ rfl (hrow.alloc _) ⟨W.heap.size, 0, none⟩ 1 1 [.int .i64 (x : Int)] rfl rfl (cell_one_new _ _ _) (by simp [Value.oneCell']) (by unfold maxLen; omega) (by omega) (by simp; omega) ?_; intro v' w2 hown' hgrow _; obtain ⟨g', cap', rfl⟩ := ownsRow_succ hown'; obtain ⟨hv1, hv2, hr2, hk2, hb2⟩ := hv.appended (by decide) hrow hle (Nat.le_refl _) hown' hgrow; have hc1 := hv1.cell; have hf1 := hv1.frozen)
    refine ⟨hk2.from _, ⟨_, hv2, ?_, by simp⟩, ⟨hb2.os.trans hgb.os, hb2.tape.trans hgb.tape, hb2.output.trans hgb.output, Nat.le_trans hgb.size hk2.size, fun k hk hne => (hb2.block k hk).trans (hgb.block k hk hne)⟩, Nat.le_trans hle hk2.size⟩
    have e : cellsZ (natZ (pre ++ [x])) = cellsZ (natZ pre) ++ [.int .i64 (x : Int)] := by simp [natZ, cellsZ]
    rw [e, List.length_append]
    exact hr2
  case done =>
    rintro D W hD ⟨⟨v, hv, hrow, hnil⟩, hgb, hle⟩ hK
    have hcv := hv.cell
    gi_wp2
    refine ⟨by simp, .inl ⟨_, _, rfl, run_takeDeferred hK, ?_⟩⟩
    refine ⟨_, results_tmp rfl _ _ _, v, rfl, ?_, gb_trans hgb (grownBy_putObj' W D _) (.inr fun j e => by rw [← Option.some.inj e]; omega)⟩
    have := ownsRow_putObj hrow (.deferred none) hK rfl
    show World.ownsRow _ _ _ _ _ (natZ (wayL ds N tn from_)).length _
    rw [show (natZ (wayL ds N tn from_)).length = (wayL ds N tn from_).length by simp [natZ]]
    exact this
theorem collect_way (Bi Bf Bl : Nat) (a : Option Addr) (N c : Nat) (ds : List NDV) (al : Option Addr) (cl tn from_ : Nat) (w1 w : World) (hd : NdsAt w1 a N ds) (hp : StepP ds N) (hL : IntzAt w1 al N (farL ds N tn)) (hfr : from_ < N) (h8 : farN ds N tn from_ < 8)
    (hB : WayB w1 a N c al cl Bi Bf Bl from_ w) (h5 : w1.heap.size ≤ Bi) :
    Calls Tryz.prog 38 #[.func (.func 62) #[] #[.pointer (some ⟨Bi, 0, none⟩), .pointer (some ⟨Bf, 0, none⟩), .pointer (some ⟨Bl, 0, none⟩)]] w fun e w' => ∃ v, e = .returned v ∧ OwnZ w' w.heap.size v (natZ (wayL ds N tn from_)) ∧ w.grownBy w' (some Bi) := by
  have HC := hide (appendseq_way Bi Bf Bl a N c ds al cl tn from_ w1 w hd hp hL hfr h8 hB h5)
  clear hd hp hL hB
  go_enter Tryz.func38, Tryz.ntmps38
  go_wp2_with (first
    | (go_at_call 61; refine (unhide HC).mono ?_; rintro e w2 ⟨v, rfl, ho, hg⟩; have HO := hide ho; have HG := hide hg; clear ho hg)
    | fail)
  go_ret
  exact ⟨_, rfl, unhide HO, unhide HG⟩
end Go.Proofs.YtakoaadimhpclaaGreatDoor
namespace Go.Proofs.YtakoaadimhpclaaGreatDoor
open Go.RowKit
set_option linter.unusedVariables false
set_option linter.unusedSimpArgs false
set_option maxRecDepth 4000

/-- The load of a variable. -/
theorem BkA.load {T : TypeId} {w : World} {g n : Nat} {cs : List Value} {d : TypeDesc} (h : BkA T w g cs) (hu : Tryz.prog.underlying T = some d) (hd : d.isRow = true) (hi : (Tryz.prog.info? T).map (·.size) = some n) (hl : cs.length = n) : (loadVar T ⟨g, 0, none⟩).run Tryz.prog w = .ok (.agg cs.toArray) w :=
  run_loadVar_mid (P := Tryz.prog) w g 0 T cs _ (fun j v hv => by rw [Nat.zero_add]; exact h.at j hv) hu hd (by rw [hl]; exact hi)
theorem Tu.cell {F : Nat → Prop} {w w' : World} (h : Tu F w w') {p : Addr} {v : Value} (hp : w.cell? p = some v) (hF : ¬ F p.block) : w'.cell? p = some v :=
  (World.cell?_of_block (w := w) (h.block p.block (World.block_lt_of_cell? w p hp) hF)).trans hp
/-- Some cells of a block are written. -/
theorem BkA.setMid {T : TypeId} {w : World} {g o : Nat} {cs us : List Value} (h : BkA T w g cs) (hl : o + us.length ≤ cs.length) : BkA T (w.setCells g o us) g (cs.take o ++ us ++ cs.drop (o + us.length)) := by
  obtain ⟨cur, h1, h2, h3⟩ := setCells_block g T us o w cs.toArray h
  unfold BkA
  rw [h1]
  have : cur = (cs.take o ++ us ++ cs.drop (o + us.length)).toArray := by
    apply Array.ext_getElem?
    intro j
    by_cases hj : j < cs.length
    · rw [h3 j (by simpa using hj)]
      simp only [List.getElem?_toArray, List.append_assoc]
      by_cases h4 : j < o
      · rw [if_neg (by omega), List.getElem?_append_left (by rw [List.length_take]; omega), List.getElem?_take, if_pos h4]
      · rw [List.getElem?_append_right (by rw [List.length_take]; omega), List.length_take, Nat.min_eq_left (by omega)]
        by_cases h5 : j < o + us.length
        · rw [if_pos (by omega), List.getElem?_append_left (by omega)]
        · rw [if_neg (by omega), List.getElem?_append_right (by omega), List.getElem?_drop, show o + us.length + (j - o - us.length) = j by omega]
    · rw [Array.getElem?_eq_none (by rw [h2]; simpa using hj), Array.getElem?_eq_none (by simp; omega)]
  rw [this]
theorem BkA.there {T : TypeId} {w : World} {g o n : Nat} {cs : List Value} (h : BkA T w g cs) (hl : o + n ≤ cs.length) : w.there g o n := fun j hj => by
  obtain ⟨u, hu⟩ : ∃ u, cs[o + j]? = some u := ⟨cs[o + j]'(by omega), List.getElem?_eq_getElem (by omega)⟩
  exact ⟨by rw [h.at (o + j) hu]; rfl, h.frz (o + j)⟩
/-- .. a step of a walk. -/
theorem bw_mid {ops : Array Oper} {rest : List Oper} {dst : Option Tmp} {typ : TypeId} {pos : String} {aft : Array Edge} {a : Act} {w : World} {Q : Exit → Act → World → Prop} (T T' : TypeId) {n : Nat} (hi : (Tryz.prog.info? T).map (·.size) = some n) (x y : Tmp) (R o : Nat) (cs us : List Value) (hx : a.eval (.tmp x) = .pointer (some ⟨R, o, none⟩)) (hy : a.eval (.tmp y) = .agg us.toArray) (hb : BkA T' w R cs) (hl : us.length = n) (hc : o + us.length ≤ cs.length) (h1 : ∀ u ∈ us, u.oneCell' = true)
    (h : ∀ w', BkA T' w' R (cs.take o ++ us ++ cs.drop (o + us.length)) → Tu (fun j => j = R) w w' → wpList Tryz.prog ops Q rest (a.put dst undef) w') : wpList Tryz.prog ops Q ({ dst := dst, op := .store T (.tmp x) (.tmp y), type := typ, pos := pos, after := aft, guard := none } :: rest) a w :=
  wpList_store_mid rfl T (.tmp x) (.tmp y) rfl R o us.toArray hx hy (by rw [List.size_toArray]; exact hb.there hc) (by rw [List.size_toArray, hl]; exact hi) (all_oneCell_toArray h1) (h _ (hb.setMid hc) (Tu.of_gb (setCells_gb R us o w) fun j _ e => (Option.some.inj e).symm))
end Go.Proofs.YtakoaadimhpclaaGreatDoor
