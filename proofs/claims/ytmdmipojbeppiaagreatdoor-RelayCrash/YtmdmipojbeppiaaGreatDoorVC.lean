/-
  Contract of recode.at at rows: what stands at the places. Conditions: at most 300 rows, at most 300 places.
-/
import Derived.Test.YtmdmipojbeppiaaGreatDoorM14
import Derived.Test.YtmdmipojbeppiaaGreatDoorM4
import Derived.Test.YtmdmipojbeppiaaGreatDoorM3
namespace Go.Proofs.YtmdmipojbeppiaaGreatDoor
open Go.RowKit
set_option linter.unusedVariables false
set_option maxRecDepth 4000

/-- How often each place is named, in memory: the first block that is made. -/
def TimS (w wr : World) (n : Nat) (c : List Nat) : Prop := OwnZ wr w.heap.size (.slice (some ⟨w.heap.size, 0, none⟩) n n) (castZ c) ∧ Below w.heap.size w wr ∧ w.heap.size < wr.heap.size
theorem TimS.new (w : World) (n : Nat) (hn : n ≤ 1048576) : TimS w (w.alloc (.cells (madeCells #[.int .i64 0] n) 3)) n (List.replicate n 0) :=
  ⟨made_intz w n hn _ (by simp [castZ]), (Below.refl _ _).alloc (Nat.le_refl _) _, by simp⟩
theorem TimS.cell {w wr : World} {n : Nat} {c : List Nat} (h : TimS w wr n c) (hl : c.length = n) {i : Nat} (hi : i < n) : wr.cell? ⟨w.heap.size, i, none⟩ = some (.int .i64 ((c.getD i 0 : Nat) : Int)) ∧ wr.frozen? ⟨w.heap.size, i, none⟩ = false := by
  obtain ⟨g, cap, e, _, _, h1, h2⟩ := h.1.at (by rw [castZ_length]; omega)
  simp only [Value.slice.injEq, Option.some.injEq, Addr.mk.injEq] at e
  obtain ⟨⟨rfl, _⟩, _⟩ := e
  exact ⟨by rw [h1 i (by rw [castZ_length]; omega), castZ_getD], h2 i⟩
theorem castZ_set (c : List Nat) (i x : Nat) : (castZ c).set i ((x : Nat) : Int) = castZ (c.set i x) := by unfold castZ; rw [List.map_set]
theorem TimS.more {w wr : World} {n : Nat} {c : List Nat} (h : TimS w wr n c) (i x : Nat) : TimS w (wr.setCell ⟨w.heap.size, i, none⟩ (.int .i64 ((x : Nat) : Int))) n (c.set i x) := by
  refine ⟨?_, h.2.1.setCell (p := ⟨w.heap.size, i, none⟩) (Nat.le_refl _) _, by rw [World.size_setCell]; exact h.2.2⟩
  have := h.1.stored i ((x : Nat) : Int)
  rwa [castZ_set] at this
theorem times_take (n : Nat) (ws : List Int) (k : Nat) (hk : k < ws.length) : timesL n (ws.take (k + 1)) = if 0 ≤ ws.getD k 0 ∧ ws.getD k 0 < (n : Int) then (timesL n (ws.take k)).set (ws.getD k 0).toNat ((timesL n (ws.take k)).getD (ws.getD k 0).toNat 0 + 1) else timesL n (ws.take k) := by
  have e : ws.take (k + 1) = ws.take k ++ [ws.getD k 0] := by
    rw [List.take_succ_eq_append_getElem hk]
    simp [List.getD_eq_getElem?_getD, List.getElem?_eq_getElem hk]
  rw [e, times_snoc]
theorem rem_two (x : Nat) : (((x : Nat) : Int).tmod 2 == 0) = decide (x % 2 = 0) := by
  have : ((x : Nat) : Int).tmod 2 = ((x % 2 : Nat) : Int) := (Int.ofNat_tmod x 2).symm
  rw [this]
  by_cases h : x % 2 = 0
  · rw [h]; rfl
  · have h1 : x % 2 = 1 := by omega
    rw [h1]; rfl

end Go.Proofs.YtmdmipojbeppiaaGreatDoor
