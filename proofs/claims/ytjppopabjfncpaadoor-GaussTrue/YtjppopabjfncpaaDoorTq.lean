/-
  Contract of bucketlineref02.Texts: for every two slices of texts.
-/
import Derived.Test.YtjppopabjfncpaaDoorM2
import Derived.Deep.QuietTactic
import Derived.BigQuiet
namespace Go.Proofs.YtjppopabjfncpaaDoor
open Go.RowKit
set_option linter.unusedVariables false
set_option maxRecDepth 4000

set_option maxHeartbeats 400000 in
theorem texts_any (a : Option Addr) (n c : Nat) (ss : List ByteArray) (a' : Option Addr) (n' c' : Nat) (ts : List ByteArray) (w : World) (h : TextsAt w a n ss) (h' : TextsAt w a' n' ts) (hn : n ≤ 1048576) (hn' : n' ≤ 1048576) :
    Calls Tryd.prog 12 #[.slice a n c, .slice a' n' c'] w fun e w' => e = .returned (.bool (decide (ss = ts))) ∧ ∃ d, w' = w.drewN d := by
  obtain rfl := h.1
  obtain rfl := h'.1
  by_cases hl : ss.length = ts.length
  · have HL := hide hl
    obtain ⟨v, hv⟩ : ∃ v, decide (ss = ts) = v := ⟨_, rfl⟩
    have HV := hide hv
    rw [hv]
    have hli : ((ss.length : Int) = (ts.length : Int)) := by omega
    rw [← hl] at h' ⊢
    clear hv hl hli
    go_enter Tryd.func12, Tryd.ntmps12
    go_wp2
    go_loopw [5] (fun i wr => ∃ k : Nat, k ≤ ss.length ∧ i = .int .i64 k ∧ Hid (∀ j, j < k → ss.getD j ByteArray.empty = ts.getD j ByteArray.empty) ∧ ∃ d, wr = w.drewN d) (fun i _ => ss.length - (intOf i).toNat)
    case atStart => exact ⟨0, Nat.zero_le _, rfl, hide (fun j hj => by omega), 0, rfl⟩
    case round =>
      obtain ⟨k, hk, rfl, HE, d, rfl⟩ := hrel
      by_cases hlt : k < ss.length
      · obtain ⟨b, off, rfl, hc⟩ := h.at hlt
        obtain ⟨b', off', rfl, hc'⟩ := h'.at hlt
        have c1 := hc k hlt
        have c2 := hc' k hlt
        have hlt' : (k : Int) < (ss.length : Int) := by omega
        have HX := hide (show ss.getD k ByteArray.empty = ts.getD k ByteArray.empty → ∀ j, j < k + 1 → ss.getD j ByteArray.empty = ts.getD j ByteArray.empty from fun h0 j hj => by
          by_cases e : j = k
          · subst e; exact h0
          · exact unhide HE j (by omega))
        have HY := hide (show ss.getD k ByteArray.empty ≠ ts.getD k ByteArray.empty → v = false from fun h0 => by
          rw [← unhide HV]
          exact decide_eq_false fun e => h0 (by rw [e]))
        have he := eq_texts (ss.getD k ByteArray.empty) (ts.getD k ByteArray.empty)
        generalize ss.getD k ByteArray.empty = x at *
        generalize ts.getD k ByteArray.empty = y at *
        clear hc hc' h h' HE
        by_cases hxy : x = y
        · have HX2 := hide (unhide HX hxy)
          rw [decide_eq_true hxy] at he
          clear HX HY hxy
          go_wp2
          go_quiet (fail)
          go_wp2
          go_roundw
          case rel => exact ⟨k + 1, by omega, by go_num, HX2, _, rfl⟩
          case measure => simp [intOf]; omega
        · have HY2 := hide (unhide HY hxy)
          rw [decide_eq_false hxy] at he
          clear HX HY hxy
          go_wp2
          go_quiet (fail)
          go_wp2
          go_ret
          exact ⟨ret_bool (unhide HY2).symm, _, World.drewN_drewN ..⟩
      · have hke : k = ss.length := by omega
        subst hke
        have HT := hide (show v = true from by
          rw [← unhide HV]
          apply decide_eq_true
          apply List.ext_getElem (unhide HL)
          intro i h1 h2
          have := unhide HE i h1
          simpa [List.getD_eq_getElem?_getD, List.getElem?_eq_getElem h1, List.getElem?_eq_getElem h2] using this)
        clear h h' HE
        go_wp2
        go_ret
        exact ⟨ret_bool (unhide HT).symm, d, rfl⟩
  · have hv : decide (ss = ts) = false := decide_eq_false fun e => hl (by rw [e])
    rw [hv]
    have hli : ¬ ((ss.length : Int) = (ts.length : Int)) := by omega
    clear h h'
    go_enter Tryd.func12, Tryd.ntmps12
    go_wp2
    go_ret
    exact ⟨rfl, 0, rfl⟩
end Go.Proofs.YtjppopabjfncpaaDoor
