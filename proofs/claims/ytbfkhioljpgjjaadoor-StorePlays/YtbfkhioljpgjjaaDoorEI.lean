/-
  Contract of slices.Insert at [][]uint64, one row put into a slice of the call's own: at its end, in place, in new memory. For at most 2^20 rows.
-/
import Derived.Test.YtbfkhioljpgjjaaDoorEA
import Derived.Lib.Overlaps
import Derived.Lib.AppendZerosOnto
import Derived.Lib.AppendZeros
import Derived.Laws.Externs
import Derived.Laws.IdiomCopy
import Derived.Laws.NewBlocks
import Derived.Deep.RegionLaw
namespace Go.Proofs.YtbfkhioljpgjjaaDoor
open Go.RowKit
set_option linter.unusedVariables false
set_option maxRecDepth 4000

theorem info_u64s : (Tryd.prog.info? 34).map (fun i => (i.zero, i.size, i.bytes)) = some (some (.slice none 0 0), 1, 24) := by kernel_rfl
theorem info_u64s_one : (Tryd.prog.info? 34).map (·.size) = some 1 := by kernel_rfl
theorem size_u64s (w : World) : (sizeOf 34).run Tryd.prog w = .ok 1 w := by
  obtain ⟨i0, hi, _, hz, _⟩ := info_parts info_u64s
  simp [sizeOf, typeInfo, hi, hz]


/-- What the two copies leave, be it in place or in new memory. -/
theorem insert_cells {cur0 cur1 cur2 : Array Value} {cs : List Value} {rv : Value} {n i : Nat} (hl : cs.length = n) (hi : i < n) (hs : n + 1 ≤ cur0.size)
    (h0 : ∀ j, j < i → cur0[j]? = cs[j]?) (h2 : ∀ j, j < cur0.size → cur2[j]? = if i ≤ j ∧ j < i + 1 then some rv else if i + 1 ≤ j ∧ j < n + 1 then cs[j - 1]? else cur0[j]?) (hz : cur2.size = cur0.size) :
    cur2.toList.take (n + 1) = cs.take i ++ rv :: cs.drop i := by
  apply List.ext_getElem?
  intro j
  by_cases hj : j < n + 1
  · rw [List.getElem?_take_of_lt hj, Array.getElem?_toList, h2 j (by omega)]
    by_cases h1 : j < i
    · rw [if_neg (by omega), if_neg (by omega), h0 j h1, List.getElem?_append_left (by rw [List.length_take]; omega), List.getElem?_take_of_lt h1]
    · rw [List.getElem?_append_right (by rw [List.length_take]; omega), List.length_take, Nat.min_eq_left (by omega)]
      by_cases h3 : j = i
      · subst h3
        rw [if_pos (by omega), Nat.sub_self]; rfl
      · rw [if_neg (by omega), if_pos (by omega), show j - i = (j - i - 1) + 1 by omega, List.getElem?_cons_succ, List.getElem?_drop]
        congr 1; omega
  · rw [List.getElem?_eq_none (by simp; omega), List.getElem?_eq_none (by simp; omega)]

end Go.Proofs.YtbfkhioljpgjjaaDoor
