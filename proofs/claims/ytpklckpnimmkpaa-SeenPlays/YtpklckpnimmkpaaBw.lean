/-
  A struct of many cells as a whole: its load and its store as steps of a walk. No condition.
-/
import Derived.Test.YtpklckpnimmkpaaG1
import Derived.Deep.MidRow
namespace Go.Proofs.Ytpklckpnimmkpaa
open Go.RowKit
set_option linter.unusedVariables false
set_option maxRecDepth 4000

/-- The whole of it is read. -/
theorem bw_load {ops : Array Oper} {rest : List Oper} {dst : Option Tmp} {typ : TypeId} {pos : String} {aft : Array Edge} {a : Act} {w : World} {Q : Exit → Act → World → Prop} (T : TypeId) {n : Nat} {d : TypeDesc} (hu : Try.prog.underlying T = some d) (hd : d.isRow = true) (hi : (Try.prog.info? T).map (·.size) = some n) (x : Tmp) (D : Nat) (cs : List Value) (hx : a.eval (.tmp x) = .pointer (some ⟨D, 0, none⟩)) (hb : BkA T w D cs) (hl : cs.length = n)
    (h : wpList Try.prog ops Q rest (a.put dst (.agg cs.toArray)) w) : wpList Try.prog ops Q ({ dst := dst, op := .load T (.tmp x), type := typ, pos := pos, after := aft, guard := none } :: rest) a w :=
  wpList_load_mid rfl T (.tmp x) rfl D 0 hx cs _ (fun j v hv => by rw [Nat.zero_add]; exact hb.at j hv) hu hd (by rw [hl]; exact hi) h
/-- The whole of it is written. -/
theorem bw_store {ops : Array Oper} {rest : List Oper} {dst : Option Tmp} {typ : TypeId} {pos : String} {aft : Array Edge} {a : Act} {w : World} {Q : Exit → Act → World → Prop} (T : TypeId) {n : Nat} (hi : (Try.prog.info? T).map (·.size) = some n) (x y : Tmp) (R : Nat) (cs us : List Value) (hx : a.eval (.tmp x) = .pointer (some ⟨R, 0, none⟩)) (hy : a.eval (.tmp y) = .agg us.toArray) (hb : BkA T w R cs) (hc : cs.length = n) (hl : us.length = n) (h1 : ∀ u ∈ us, u.oneCell' = true)
    (h : ∀ w', BkA T w' R us → Tu (fun j => j = R) w w' → wpList Try.prog ops Q rest (a.put dst undef) w') : wpList Try.prog ops Q ({ dst := dst, op := .store T (.tmp x) (.tmp y), type := typ, pos := pos, after := aft, guard := none } :: rest) a w := by
  refine wpList_store_mid rfl T (.tmp x) (.tmp y) rfl R 0 us.toArray hx hy (fun j hj => ?_) (by rw [List.size_toArray, hl]; exact hi) (all_oneCell_toArray h1) (h _ (hb.setAll (by show us.length = cs.length; omega)) (Tu.of_gb (setCells_gb R us 0 w) fun j _ e => (Option.some.inj e).symm))
  rw [List.size_toArray] at hj
  obtain ⟨u, hu⟩ : ∃ u, cs[j]? = some u := ⟨cs[j]'(by omega), List.getElem?_eq_getElem (by omega)⟩
  rw [Nat.zero_add]
  exact ⟨by rw [hb.at j hu]; rfl, hb.frz j⟩
/-- The load of a variable. -/
theorem BkA.load {T : TypeId} {w : World} {g n : Nat} {cs : List Value} {d : TypeDesc} (h : BkA T w g cs) (hu : Try.prog.underlying T = some d) (hd : d.isRow = true) (hi : (Try.prog.info? T).map (·.size) = some n) (hl : cs.length = n) : (loadVar T ⟨g, 0, none⟩).run Try.prog w = .ok (.agg cs.toArray) w :=
  run_loadVar_mid (P := Try.prog) w g 0 T cs _ (fun j v hv => by rw [Nat.zero_add]; exact h.at j hv) hu hd (by rw [hl]; exact hi)
end Go.Proofs.Ytpklckpnimmkpaa
