/-
  Contracts of internal/stringslite.Clone and strings.Clone: for every text of at most 2^20 bytes.
-/
import Derived.Test.YtpklckpnimmkpaaTx
import Derived.Lib.UnsafeStr
import Derived.Laws.Concat
namespace Go.Proofs.Ytpklckpnimmkpaa
open Go.RowKit
set_option linter.unusedVariables false
set_option maxRecDepth 4000

theorem size_eq0 {s : ByteArray} (h : s.size = 0) : s = ⟨#[]⟩ := by
  apply tx_inj
  have h1 : (tx s).length = 0 := by rw [tx_length]; exact h
  rw [List.eq_nil_of_length_eq_zero h1]
  rfl


end Go.Proofs.Ytpklckpnimmkpaa
