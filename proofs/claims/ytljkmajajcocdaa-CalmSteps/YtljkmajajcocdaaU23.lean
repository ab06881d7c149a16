/-
  Contracts of calm.way and of slices.Collect over what it gives: the way. Condition: the slices can be read; there is a way.
-/
import Derived.Test.YtljkmajajcocdaaU22
import Derived.Maps.AppendAt
namespace Go.Proofs.Ytljkmajajcocdaa
open Go.RowKit Go.Sort Go.Shelf
set_option linter.unusedVariables false
set_option linter.unusedSimpArgs false
set_option maxRecDepth 4000
attribute [local go_sem] Oper.semAt_some

theorem way_any (a : Option Addr) (N c : Nat) (al : Option Addr) (n cl : Nat) (i : Int) (w : World) :
    Calls Try.prog 36 #[.slice a N c, .slice al n cl, .int .i64 i] w fun e w' => e = .returned (.func (.func 48) #[] #[.pointer (some ⟨w.heap.size + 2, 0, none⟩), .pointer (some ⟨w.heap.size + 1, 0, none⟩), .pointer (some ⟨w.heap.size, 0, none⟩)]) ∧ w' = ((w.alloc (.cells #[.slice a N c] 22)).alloc (.cells #[.slice al n cl] 37)).alloc (.cells #[.int .i64 i] 3) := by
  go_enter Try.func36, Try.ntmps36
  go_wp2
  go_ret
  exact ⟨rfl, rfl⟩
/-- A list of nodes as numbers. -/
def natZ (l : List Nat) : List Int := l.map fun i : Nat => (i : Int)
/-- What slices.AppendSeq holds between two rounds. -/
def ApI (w : World) (Bi : Nat) (pre : List Nat) (W : World) : Prop :=
  (∃ v, Boxed W w.heap.size 37 v ∧ W.ownsRow w.heap.size 3 1 v pre.length (cellsZ (natZ pre)) ∧ (v = .slice none 0 0 ↔ pre = [])) ∧ w.grownBy W (some Bi) ∧ w.heap.size ≤ W.heap.size
theorem ApI.own {w : World} {Bi B : Nat} (hB : w.heap.size ≤ B) : OwnFrom B (ApI w Bi) := by
  refine OwnFrom.and (Own.from (holdsRow_own w.heap.size w.heap.size 37 3 1 (fun pre : List Nat => pre.length) (fun pre => cellsZ (natZ pre)) (fun pre v => (v = .slice none 0 0 ↔ pre = []))) _) (fun s W W' r hs hg hr => ?_)
  exact ⟨gb_trans hs.1 hg (.inr fun j e => Nat.le_trans hB (hr j e).1), Nat.le_trans hs.2 hg.size⟩
theorem ApI.set {w : World} {Bi : Nat} {pre : List Nat} {W : World} (h : ApI w Bi pre W) (hb : Bi < w.heap.size) (v : Value) : ApI w Bi pre (W.setCell ⟨Bi, 0, none⟩ v) := by
  obtain ⟨⟨u, h1, h2, h3⟩, h4, h5⟩ := h
  refine ⟨⟨u, h1.other (by omega) _, h2.kept (gb_setCell W Bi 0 v) ?_, h3⟩, gb_trans h4 (gb_setCell W Bi 0 v) (.inl rfl), Nat.le_trans h5 (gb_setCell W Bi 0 v).size⟩
  rcases h2.2 with ⟨rfl, _⟩ | ⟨g, cap, cur, rfl, hg, _⟩
  · exact .inl rfl
  · refine .inr fun e => ?_
    have : g = Bi := by simpa [Value.ownBlock] using e
    omega
set_option maxRecDepth 100000 in
set_option maxHeartbeats 4000000 in
theorem appendseq_way (Bi Bf Bl : Nat) (a : Option Addr) (N c : Nat) (ds : List NDV) (al : Option Addr) (cl to from_ : Nat) (w1 w : World) (hd : NdsAt w1 a N ds) (hp : StepP ds N) (hL : IntzAt w1 al N (farL ds N to)) (hfr : from_ < N) (h8 : farN ds N to from_ < 8)
    (hB : WayB w1 a N c al cl Bi Bf Bl from_ w) (h5 : w1.heap.size ≤ Bi) :
    Calls Try.prog 47 #[.slice none 0 0, .func (.func 48) #[] #[.pointer (some ⟨Bi, 0, none⟩), .pointer (some ⟨Bf, 0, none⟩), .pointer (some ⟨Bl, 0, none⟩)]] w fun e w' => ∃ v, e = .returned v ∧ OwnZ w' w.heap.size v (natZ (wayL ds N to from_)) ∧ w.grownBy w' (some Bi) := by
  refine (callsIn_wide (n := 9)).1 ?_
  have hlen : (wayL ds N to from_).length ≤ 8 := by unfold wayL; rw [wayK_len]; omega
  have hb0 := alloc_low w (.cells #[.slice none 0 0] 37)
  have HB := hide (hB.below hb0 hB.id.lt hB.left.lt hB.nds.lt hB.low.size)
  have hBi := hB.id.lt
  have hBf := hB.left.lt
  have hBl := hB.nds.lt
  have hw1 := hB.low.size
  have hAp : ApI w Bi [] (w.alloc (.cells #[.slice none 0 0] 37)) := ⟨⟨_, Boxed.new w _ _, World.ownsRow_nil _ _ _ _, by simp⟩, gb_of_below hb0 _, hb0.size⟩
  have HA := hide hAp
  have HD := hide hd
  have HP := hide hp
  have HL := hide hL
  have hsz := alloc_size w (.cells #[.slice none 0 0] 37)
  clear hB hAp hd hp hL hb0
  refine callsIn_of_wp_marks Try.func47 rfl trivial ?_ rfl
  simp only [Try.ntmps47, List.size_toArray, List.length_cons, List.length_nil, Nat.reduceAdd, Nat.reduceSub, Array.replicate_succ, Array.replicate_zero, List.push_toArray, List.append_toArray, List.nil_append, List.cons_append]
  gi_wp2
  obtain ⟨Wl, hWl⟩ : ∃ Wl, Wl = w.alloc (.cells #[.slice none 0 0] 37) := ⟨_, rfl⟩
  rw [← hWl] at HB HA hsz ⊢
  clear hWl
  refine rangeFunc_box (α := Nat) (n₀ := w.heap.size) (Bx := Bi) (N := 9) (ys := wayL ds N to from_) (encs := fun x => #[Value.int .i64 (x : Int)]) (by omega) (gf := 48) rfl (enters_of Try.func48 (by kernel_rfl) rfl) (by omega)
    (fun l J W hW hJ hJs hY h0 => way1_in (9 - 1) (by omega) l Bi Bf Bl w.heap.size a N c ds al cl to from_ w1 (unhide HD) (unhide HP) (unhide HL) hfr h8 J W hJ hJs hY h0 ((unhide HB).below hW (by omega) (by omega) (by omega) (by omega)) hBi hBf hBl hw1 h5)
    (fun _ => rfl) (ApI w Bi) (ApI.own (by omega)) (fun pre W v h => h.set hBi v) (unhide HA)
    (fun x => { tmps := #[.slice none 0 0, .func (.func 48) #[] #[.pointer (some ⟨Bi, 0, none⟩), .pointer (some ⟨Bf, 0, none⟩), .pointer (some ⟨Bl, 0, none⟩)], .pointer (some ⟨w.heap.size, 0, none⟩), undef, .slice none 0 0, .int .i64 (x : Int), .func (.func 48) #[] #[.pointer (some ⟨Bi, 0, none⟩), .pointer (some ⟨Bf, 0, none⟩), .pointer (some ⟨Bl, 0, none⟩)], .int .i64 (x : Int), undef, undef, undef, undef, undef], defers := [] }) ?assign ?body ?done
  case assign =>
    intro l x W K hK
    gi_wp2
    exact hK
  case body =>
    rintro l pre x W ⟨⟨v, hv, hrow, hnil⟩, hgb, hle⟩ hlt
    obtain ⟨i0, hi, hz0, hz1, hz2⟩ := info_parts info_intZ
    have hcv := hv.cell
    gi_wp2_with (gi_at_builtin; refine wpListIn_append_own _ rfl _ _ 37 rfl w.heap.size 3 i0 _ 1 8 Try.underlying37 hi hz0 hz1 hz2 rfl (by decide) _ _ _ rfl (hrow.alloc _) ⟨W.heap.size, 0, none⟩ 1 1 [.int .i64 (x : Int)] rfl rfl (cell_one_new _ _ _) (by simp [Value.oneCell']) (by unfold maxLen; omega) (by omega) (by simp; omega) ?_; intro v' w2 hown' hgrow _; obtain ⟨g', cap', rfl⟩ := ownsRow_succ hown'; obtain ⟨hv1, hv2, hr2, hk2, hb2⟩ := hv.appended (by decide) hrow hle (Nat.le_refl _) hown' hgrow; have hc1 := hv1.cell; have hf1 := hv1.frozen)
    refine ⟨hk2.from _, ⟨_, hv2, ?_, by simp⟩, ⟨hb2.os.trans hgb.os, hb2.tape.trans hgb.tape, hb2.output.trans hgb.output, Nat.le_trans hgb.size hk2.size, fun k hk hne => (hb2.block k hk).trans (hgb.block k hk hne)⟩, Nat.le_trans hle hk2.size⟩
    have e : cellsZ (natZ (pre ++ [x])) = cellsZ (natZ pre) ++ [.int .i64 (x : Int)] := by simp [natZ, cellsZ]
    rw [e, List.length_append]
    exact hr2
  case done =>
    rintro D W hD ⟨⟨v, hv, hrow, hnil⟩, hgb, hle⟩ hK
    have hcv := hv.cell
    gi_wp2
    refine ⟨by simp, .inl ⟨_, _, rfl, run_takeDeferred hK, ?_⟩⟩
    refine ⟨_, results_tmp rfl _ _ _, v, rfl, ?_, gb_trans hgb (grownBy_putObj' W D _) (.inr fun j e => by rw [← Option.some.inj e]; omega)⟩
    have := ownsRow_putObj hrow (.deferred none) hK rfl
    show World.ownsRow _ _ _ _ _ (natZ (wayL ds N to from_)).length _
    rw [show (natZ (wayL ds N to from_)).length = (wayL ds N to from_).length by simp [natZ]]
    exact this
theorem collect_way (Bi Bf Bl : Nat) (a : Option Addr) (N c : Nat) (ds : List NDV) (al : Option Addr) (cl to from_ : Nat) (w1 w : World) (hd : NdsAt w1 a N ds) (hp : StepP ds N) (hL : IntzAt w1 al N (farL ds N to)) (hfr : from_ < N) (h8 : farN ds N to from_ < 8)
    (hB : WayB w1 a N c al cl Bi Bf Bl from_ w) (h5 : w1.heap.size ≤ Bi) :
    Calls Try.prog 35 #[.func (.func 48) #[] #[.pointer (some ⟨Bi, 0, none⟩), .pointer (some ⟨Bf, 0, none⟩), .pointer (some ⟨Bl, 0, none⟩)]] w fun e w' => ∃ v, e = .returned v ∧ OwnZ w' w.heap.size v (natZ (wayL ds N to from_)) ∧ w.grownBy w' (some Bi) := by
  have HC := hide (appendseq_way Bi Bf Bl a N c ds al cl to from_ w1 w hd hp hL hfr h8 hB h5)
  clear hd hp hL hB
  go_enter Try.func35, Try.ntmps35
  go_wp2_with (first
    | (go_at_call 47; refine (unhide HC).mono ?_; rintro e w2 ⟨v, rfl, ho, hg⟩; have HO := hide ho; have HG := hide hg; clear ho hg)
    | fail)
  go_ret
  exact ⟨_, rfl, unhide HO, unhide HG⟩
end Go.Proofs.Ytljkmajajcocdaa
