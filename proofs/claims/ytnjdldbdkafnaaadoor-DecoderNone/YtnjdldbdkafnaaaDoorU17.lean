/-
  peel.Peel for any k; plain mathematics of the reference's way: a row less the known ones, known ones with one more.
  What the rows' frames share: the table of math/bits as the rows list it; what slices of texts and of rows that came in hold. No condition.
  What the rows' frames of the store share: its numbers, and a row alone, that came in by value. No condition.
  Slices of packets ('PksAt'); contract of bucketlinelaw16.Few.
  What the rows' frames of the decoder share: slices of packets, and a packet by value, that came in. No condition.
-/
import Derived.Test.YtnjdldbdkafnaaaDoorYI
import Derived.Test.YtnjdldbdkafnaaaDoorU11
import Derived.Test.YtnjdldbdkafnaaaDoorU4
import Derived.Test.YtnjdldbdkafnaaaDoorU6
import Derived.Test.YtnjdldbdkafnaaaDoorU10
import Derived.ProofKit
import Derived.OpenShut
import Derived.ShutString
import Derived.ChangeOld
import Derived.ChangeMaps5
import Derived.SliceStrings
import Derived.Deep.SlicePairs
import Derived.Deep.DeepHandedRow
import Derived.Lib.LaidTab
import Derived.Below
import Derived.Deep.Slices
import Derived.ChangeSame
namespace Go.Proofs.YtnjdldbdkafnaaaDoor
open Go.RowKit Go.Sort
set_option linter.unusedVariables false
set_option linter.unusedSimpArgs false
set_option maxRecDepth 4000

theorem peelP_none {k : Int} {rs : List RV} (h : sizeOfK k = 0) : PeelP k rs [] (List.replicate k.toNat ByteArray.empty) ∧ toldTo k [] (List.replicate k.toNat ByteArray.empty) k.toNat = [] ∧ restL k rs [] (List.replicate k.toNat ByteArray.empty) = [] := by
  have hv : ∀ xs, validB k xs = false := fun xs => by
    rw [← Bool.not_eq_true]
    intro hx
    have := (valid_size hx).1
    omega
  refine ⟨⟨⟨0, by rw [h]; rfl, rfl⟩, ?_⟩, ?_, ?_⟩
  · rw [List.find?_eq_none]
    intro r _
    unfold tellsB
    rw [hv]; simp
  · unfold toldTo
    rw [List.filter_eq_nil_iff.2 (fun b _ => by rw [getB_nil]; simp)]
    rfl
  · unfold restL
    rw [List.filter_eq_nil_iff.2 (fun r _ => by unfold restB; rw [hv]; simp)]
    rfl
set_option maxHeartbeats 1000000 in
theorem peel_any (k : Int) (a : Option Addr) (n c : Nat) (rs : List RV) (w : World) (ht : Tab w) (h : RowsAt w a n rs) (hs : shortR rs) (hn : n ≤ 1048576) :
    Calls Tryd.prog 58 #[.int .i64 k, .slice a n c] w fun e w' => ∃ a1 m1 c1 ts1 a2 m2 c2 ts2, e = .returned (.tuple #[.slice a1 m1 c1, .slice a2 m2 c2]) ∧ PeelR w w' k rs a1 m1 c1 ts1 a2 m2 c2 ts2 := by
  by_cases hz : sizeOfK k = 0
  · have HZ := size_any k w
    rw [hz] at HZ
    have HZ := hide HZ
    obtain ⟨h1, h2, h3⟩ := peelP_none (rs := rs) hz
    have HR : Hid (PeelR w w k rs none 0 0 [] none 0 0 []) := hide ⟨_, _, h1, OwnS.nil _ _, RowsIn.nil _, h2.symm, OwnS.nil _ _, RowsIn.nil _, h3.symm, Below.refl _ _⟩
    clear h hs ht h1 h2 h3 hz
    go_enter Tryd.func58, Tryd.ntmps58
    go_wp2_with (first | (go_at_call 55; refine (unhide HZ).mono ?_; rintro e w9 ⟨rfl, hw9⟩; obtain rfl := hw9.symm; clear hw9))
    go_ret2
    exact ⟨none, 0, 0, [], none, 0, 0, [], rfl, unhide HR⟩
  · have hpos : 0 < sizeOfK k := by omega
    have hroom := size_room hpos
    obtain ⟨K, rfl⟩ := Int.eq_ofNat_of_zero_le (show 0 ≤ k by omega)
    exact peel_yes K a n c rs w ht hpos h hs hn

end Go.Proofs.YtnjdldbdkafnaaaDoor
namespace Go.Proofs.YtnjdldbdkafnaaaDoor
open Go.ChangeShapes Go.WideShapes Go.ChangeAt Go.RowKit
set_option linter.unusedVariables false
set_option linter.unusedSimpArgs false
set_option maxRecDepth 4000

theorem own : ownKnob Tryd.prog.godebug = none := by kernel_rfl
theorem laidOut : laidOutB Tryd.prog = true := by kernel_rfl
theorem gTab : Tryd.prog.globalNamed "math/bits.deBruijn64tab" = some 1 := by kernel_rfl
theorem gTabType : (Tryd.prog.globals[1]?).map (·.type) = some 129 := by kernel_rfl
theorem cellsTab : Tryd.prog.cellsOf 129 = 64 := by kernel_rfl
theorem cells5 : Tryd.prog.cellsOf 5 = 1 := by kernel_rfl

theorem table {W : World} (h : laidMetH Tryd.prog Rows.decoderOnceRow.laid W) : Lib.TabIs Tryd.prog W "math/bits.deBruijn64tab" .u8 (Lib.deBruijn64tab.map fun (x : Nat) => (x : Int)) :=
  Lib.tabIs_of_head (rest := []) gTab gTabType Tryd.underlying129 Tryd.underlying5 cells5 cellsTab h
theorem tab_of {W : World} (h : laidMetH Tryd.prog Rows.decoderOnceRow.laid W) : Tab W := by
  intro i hi
  have hl : (Lib.deBruijn64tab.map fun (x : Nat) => (x : Int)).length = 64 := by decide
  have := (table h).cell gTab i (by omega)
  rw [this]
  have hd : Lib.deBruijn64tab.length = 64 := by decide
  have e : i < Lib.deBruijn64tab.length := by omega
  simp [List.getD_eq_getElem?_getD, List.getElem?_eq_getElem e]
theorem add_none (b off i : Nat) : (⟨b, off, none⟩ : Addr).add i = ⟨b, off + i, none⟩ := by
  unfold Addr.add
  split
  · rename_i h; simp_all
  · rfl
theorem max_len {n : Nat} (h : n ≤ maxLen) : n ≤ 9223372036854775807 := by simpa [maxLen] using h

/-- A slice of uint64 that came in can be read. -/
theorem row_cells {W : World} {H : Type} {enc : TypeId × Value → H} {fuel : Nat} {v : Value} {x : DataW H × List MemPlace}
    (h : DataW.trod enc Tryd.prog W 0 (fun _ => true) true fuel 29 [v] = some x) : ∃ a len cap xs, v = .slice a len cap ∧ RowAt W a len xs ∧ len ≤ 9223372036854775807 ∧ len ≤ cap := by
  rcases open_ints Tryd.underlying29 Tryd.underlying38 (by kernel_rfl) h with ⟨hcs, _⟩ | ⟨x, l, c, zs, hcs, _, hl, hm, hz, _, hcell, hwz⟩
  · simp only [List.cons.injEq, and_true] at hcs
    exact ⟨_, _, _, [], hcs, ⟨rfl, (fun _ h => by cases h), .inl rfl⟩, by decide, Nat.le_refl _⟩
  · simp only [List.cons.injEq, and_true] at hcs
    have hzl : zs.length = c := by simpa using hz
    have hb : ∀ z ∈ zs, 0 ≤ z ∧ z < 18446744073709551616 := by
      intro z hzm
      have := bounds_u64 (hwz z hzm)
      omega
    refine ⟨_, _, _, (zs.take l).map Int.toNat, hcs, ⟨by simp; omega, ?_, ?_⟩, by have := max_len hm; omega, hl⟩
    · intro y hy
      obtain ⟨z, hzm, rfl⟩ := List.mem_map.1 hy
      have := hb z (List.mem_of_mem_take hzm)
      show z.toNat < 18446744073709551616
      omega
    · by_cases h0 : l = 0
      · exact .inl h0
      · obtain ⟨b, off, spot⟩ := x
        have hc := hcell 0 (by omega)
        have hspot : spot = none := by simpa [Addr.add] using World.cell?_spot hc
        subst hspot
        refine .inr ⟨b, off, rfl, fun i hi => ?_⟩
        have hci := hcell i (by omega)
        rw [add_none] at hci
        rw [hci]
        have hil : i < zs.length := by omega
        have hzi := hb zs[i] (List.getElem_mem hil)
        have e1 : zs.getD i 0 = zs[i] := by simp [List.getD_eq_getElem?_getD, List.getElem?_eq_getElem hil]
        have e2 : ((zs.take l).map Int.toNat).getD i 0 = zs[i].toNat := by
          simp [List.getD_eq_getElem?_getD, hi, List.getElem?_eq_getElem hil]
        rw [e1, e2]
        rw [show ((zs[i].toNat : Nat) : Int) = zs[i] by omega]
theorem str_cell {W : World} {H : Type} {enc : TypeId × Value → H} {fuel : Nat} {v : Value} {x : DataW H × List MemPlace}
    (h : DataW.trod enc Tryd.prog W 0 (fun _ => true) true fuel 9 [v] = some x) : ∃ s, v = .string s ∧ s.size ≤ 9223372036854775807 := by
  cases fuel with
  | zero => simp [DataW.trod] at h
  | succ fuel =>
    cases v <;> simp [DataW.trod, Tryd.underlying9] at h
    exact ⟨_, rfl, max_len h.1⟩
end Go.Proofs.YtnjdldbdkafnaaaDoor
namespace Go.Proofs.YtnjdldbdkafnaaaDoor
open Go.ChangeShapes Go.WideShapes Go.ChangeAt Go.RowKit
set_option linter.unusedVariables false
set_option linter.unusedSimpArgs false
set_option maxRecDepth 4000

theorem int_cell {W : World} {H : Type} {enc : TypeId × Value → H} {fuel : Nat} {v : Value} {x : DataW H × List MemPlace}
    (h : DataW.trod enc Tryd.prog W 0 (fun _ => true) true fuel 3 [v] = some x) : ∃ a, v = .int .i64 a := by
  cases fuel with
  | zero => simp [DataW.trod] at h
  | succ fuel =>
    cases v <;> simp [DataW.trod, Tryd.underlying3] at h
    obtain ⟨⟨rfl, _⟩, _⟩ := h
    exact ⟨_, rfl⟩
theorem some_of {α : Type} {l : List α} {i : Nat} (h : i < l.length) : ∃ y, l[i]? = some y := ⟨_, List.getElem?_eq_getElem h⟩
end Go.Proofs.YtnjdldbdkafnaaaDoor
namespace Go.Proofs.YtnjdldbdkafnaaaDoor
open Go.RowKit Go.Sort
set_option linter.unusedVariables false
set_option linter.unusedSimpArgs false
set_option maxRecDepth 4000

/-- A packet as it lies in memory: its five numbers, its row. -/
structure PKV where
  o : Int
  l : Int
  k : Int
  z : Int
  h : Int
  r : RV
/-- What stands behind the end of a list of packets. -/
def PKV.dflt : PKV := ⟨0, 0, 0, 0, 0, .dflt⟩
/-- The packet by value. -/
def PKV.val (p : PKV) : Value := .agg #[.int .i64 p.o, .int .i64 p.l, .int .i64 p.k, .int .i64 p.z, .int .i64 p.h, .slice p.r.a p.r.n p.r.c, .string p.r.s]

end Go.Proofs.YtnjdldbdkafnaaaDoor
namespace Go.Proofs.YtnjdldbdkafnaaaDoor
open Go.ChangeShapes Go.WideShapes Go.ChangeAt Go.RowKit
set_option linter.unusedVariables false
set_option linter.unusedSimpArgs false
set_option maxRecDepth 4000

theorem cellsPkt : Tryd.prog.cellsOf 33 = 7 := by kernel_rfl
theorem cellsU64s : Tryd.prog.cellsOf 29 = 1 := by kernel_rfl
theorem cellsStr : Tryd.prog.cellsOf 9 = 1 := by kernel_rfl
/-- Seven cells that are a packet. -/
theorem pkt_cells {W : World} {H : Type} {enc : TypeId × Value → H} {fuel : Nat} {cs : List Value} {x : DataW H × List MemPlace} (hl7 : cs.length = 7)
    (h : DataW.trod enc Tryd.prog W 0 (fun _ => true) true fuel 33 cs = some x) :
    ∃ p : PKV, cs = [.int .i64 p.o, .int .i64 p.l, .int .i64 p.k, .int .i64 p.z, .int .i64 p.h, .slice p.r.a p.r.n p.r.c, .string p.r.s] ∧ RowAt W p.r.a p.r.n p.r.xs ∧ p.r.n ≤ 9223372036854775807 ∧ p.r.n ≤ p.r.c ∧ p.r.s.size ≤ 9223372036854775807 := by
  match cs, hl7 with
  | [c0, c1, c2, c3, c4, c5, c6], _ =>
    obtain ⟨ys, n, _, _, _, hlen, hf⟩ := DataW.trod_struct Tryd.underlying33 h
    have hl : ys.length = 6 := hlen
    obtain ⟨y0, e0⟩ := some_of (l := ys) (i := 0) (by omega)
    obtain ⟨y1, e1⟩ := some_of (l := ys) (i := 1) (by omega)
    obtain ⟨y2, e2⟩ := some_of (l := ys) (i := 2) (by omega)
    obtain ⟨y3, e3⟩ := some_of (l := ys) (i := 3) (by omega)
    obtain ⟨y4, e4⟩ := some_of (l := ys) (i := 4) (by omega)
    obtain ⟨y5, e5⟩ := some_of (l := ys) (i := 5) (by omega)
    have f0 := (hf 0 _ rfl).trans e0
    have f1 := (hf 1 _ rfl).trans e1
    have f2 := (hf 2 _ rfl).trans e2
    have f3 := (hf 3 _ rfl).trans e3
    have f4 := (hf 4 _ rfl).trans e4
    have f5 := (hf 5 _ rfl).trans e5
    obtain ⟨o, rfl⟩ := int_cell f0
    obtain ⟨l, rfl⟩ := int_cell f1
    obtain ⟨k, rfl⟩ := int_cell f2
    obtain ⟨z, rfl⟩ := int_cell f3
    obtain ⟨hp, rfl⟩ := int_cell f4
    obtain ⟨z0, z1, m, _, _, g0, g1⟩ := trod_struct2 Tryd.underlying31 f5
    simp only [cellsU64s, cellsStr, List.drop_zero] at g0 g1
    obtain ⟨a, n', c, xs, rfl, hr, hm, hc⟩ := row_cells g0
    obtain ⟨s, rfl, hs⟩ := str_cell g1
    exact ⟨⟨o, l, k, z, hp, ⟨a, n', c, xs, s⟩⟩, rfl, hr, hm, hc, hs⟩
/-- A packet that came in by value. -/
theorem pktv_of {W : World} {H : Type} {enc : TypeId × Value → H} {base : Nat} {v : Value} {d : DataW H} {ps : List MemPlace} (hv : Value.okWide Tryd.prog W .any base 33 v)
    (h : DataW.Trod enc Tryd.prog W 0 (fun _ => true) true 33 v d ps) : ∃ p : PKV, v = p.val ∧ RowAt W p.r.a p.r.n p.r.xs := by
  obtain ⟨cs, rfl, hsz⟩ := okWide_struct Tryd.underlying33 hv
  obtain ⟨fuel, hf⟩ := h
  obtain ⟨p, hp, hr, _⟩ := pkt_cells (cs := cs.toList) (by rw [Array.length_toList]; exact hsz.trans cellsPkt) hf
  refine ⟨p, ?_, hr⟩
  unfold PKV.val
  congr 1
  cases cs
  simpa using hp
end Go.Proofs.YtnjdldbdkafnaaaDoor
