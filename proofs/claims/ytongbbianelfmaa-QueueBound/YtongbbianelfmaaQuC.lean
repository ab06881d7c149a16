/-
  Contracts of queue.Clear and bucketlinelaw22.few; the chapter's example (awake); the walk of QueueNone. No condition.
-/
import Derived.Test.YtongbbianelfmaaQuB
namespace Go.Proofs.Ytongbbianelfmaa
open Go.RowKit Go.Conc
set_option linter.unusedVariables false
set_option maxRecDepth 4000

theorem quF_trans {g c : Nat} {w w1 w2 : World} (h : Tu (quF g c) w w1) (k : Tu (quF g c) w1 w2) : Tu (quF g c) w w2 := h.trans k fun _ _ e => e
/-- What was below a queue's blocks is as it was. -/
theorem tu_lowQ {w w1 w2 : World} {g c : Nat} (h : Below w.heap.size w w1) (ht : Tu (quF g c) w1 w2) (hg : w.heap.size ≤ g) (hc : w.heap.size ≤ c) : Below w.heap.size w w2 :=
  h.trans (ht.below h.size fun j hj e => by rcases e with e | e <;> omega)
theorem quclear_nil (w : World) : Calls Try.prog 18 #[.pointer none] w fun e w' => e = .returned (.tuple #[]) ∧ w' = w := by
  go_enter Try.func18, Try.ntmps18
  go_wp2
  exact bodyPost_ret (v := .tuple #[]) (by simp [results, Try.results18, go_sem]) rfl ⟨rfl, rfl⟩
/-- How many wait in a channel. -/
def lenOfQ (w : World) (c : Nat) : Nat := match w.heap[c]? with
  | some (.chan _ b _ _ _ _) => b.size
  | _ => 0
theorem QuAt.lenOf {w : World} {g c m lo : Nat} {L : List ByteArray} (h : QuAt w g c m L lo) : lenOfQ w c = L.length := by
  obtain ⟨s, r, hc⟩ := h.chn
  unfold lenOfQ
  rw [hc]
  exact cellsT_size L
set_option maxHeartbeats 1000000 in
theorem quclear_any (g c m lo : Nat) (L : List ByteArray) (w : World) (h : QuAt w g c m L lo) :
    Calls Try.prog 18 #[.pointer (some ⟨g, 0, none⟩)] w fun e w' => e = .returned (.tuple #[]) ∧ QuAt w' g c m [] 0 ∧ Tu (quF g c) w w' := by
  have HJ0 := hide (show QuAt w g c m L lo ∧ Tu (quF g c) w w from ⟨h, Tu.refl _ _⟩)
  clear h
  go_enter Try.func18, Try.ntmps18
  go_wp2_with fail
  go_loopw [] (fun wr => ∃ L' : List ByteArray, Hid (QuAt wr g c m L' lo ∧ Tu (quF g c) w wr)) (fun wr => lenOfQ wr c)
  case atStart => exact ⟨L, HJ0⟩
  case round =>
    obtain ⟨L', HJ⟩ := hrel
    clear HJ0
    cases L' with
    | nil =>
      have q1 := (unhide HJ).1.blk.at 1 rfl
      have f1 := (unhide HJ).1.blk.frz 1
      go_wp2_with (first
        | (go_at_call 16; refine (qulen_any _ _ _ _ _ _ (unhide HJ).1).mono ?_; rintro e w1 ⟨rfl, hw1⟩; obtain rfl := hw1.symm; clear hw1)
        | fail)
      have h3 := (unhide HJ).1.lost 0
      go_end0
      exact ⟨rfl, h3, quF_trans (unhide HJ).2 ((tu_set wr g 1 _).wide (G := quF g c) fun j e => .inl e)⟩
    | cons s L' =>
      have hl : (L'.length : Int) + 1 > 0 := by omega
      go_wp2_with (first
        | (go_at_call 16; refine (qulen_any _ _ _ _ _ _ (unhide HJ).1).mono ?_; rintro e w1 ⟨rfl, hw1⟩; obtain rfl := hw1.symm; clear hw1; rw [List.length_cons])
        | (go_at_call 13; refine (qutake_yes _ _ _ _ _ _ _ (unhide HJ).1).mono ?_; rintro e w2 ⟨rfl, hm2, ht2⟩; have HJ2 := hide (And.intro hm2 (quF_trans (unhide HJ).2 ht2)); have HL := hide (show lenOfQ w2 c < lenOfQ wr c by rw [hm2.lenOf, (unhide HJ).1.lenOf, List.length_cons]; omega); clear hm2 ht2)
        | fail)
      go_roundw
      case rel => exact ⟨L', HJ2⟩
      case measure => exact unhide HL
end Go.Proofs.Ytongbbianelfmaa
