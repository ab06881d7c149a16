/-
  A queue in memory ('QuAt': its block, and its channel's); contracts of queue.New, Len, Lost, of a queue that is there and of none. No condition.
-/
import Derived.Test.YtongbbianelfmaaLn
import Derived.Test.YtongbbianelfmaaBa
import Derived.Test.YtongbbianelfmaaTs
import Derived.Test.YtongbbianelfmaaCp
import Derived.Conc.LoneSelectN
namespace Go.Proofs.Ytongbbianelfmaa
open Go.RowKit Go.Conc
set_option linter.unusedVariables false
set_option maxRecDepth 4000

/-- What a queue of at most m texts holds once s was put. -/
def putQ (m : Nat) (L : List ByteArray) (s : ByteArray) : List ByteArray := if L.length < m then L ++ [s] else L
/-- Is there room? -/
def roomQ (m : Nat) (L : List ByteArray) : Bool := decide (L.length < m)
/-- How many were lost. -/
def lostQ (m : Nat) (L : List ByteArray) (lo : Nat) : Nat := if L.length < m then lo else lo + 1
theorem putQ_yes {m : Nat} {L : List ByteArray} (h : L.length < m) (s : ByteArray) : putQ m L s = L ++ [s] := if_pos h
theorem putQ_no {m : Nat} {L : List ByteArray} (h : m ≤ L.length) (s : ByteArray) : putQ m L s = L := if_neg (by omega)
theorem lostQ_yes {m : Nat} {L : List ByteArray} (h : L.length < m) (lo : Nat) : lostQ m L lo = lo := if_pos h
theorem lostQ_no {m : Nat} {L : List ByteArray} (h : m ≤ L.length) (lo : Nat) : lostQ m L lo = lo + 1 := if_neg (by omega)
theorem roomQ_yes {m : Nat} {L : List ByteArray} (h : L.length < m) : roomQ m L = true := by simp [roomQ, h]
theorem roomQ_no {m : Nat} {L : List ByteArray} (h : m ≤ L.length) : roomQ m L = false := by simp [roomQ, h]
theorem putQ_len {m : Nat} {L : List ByteArray} (h : L.length ≤ m) (s : ByteArray) : (putQ m L s).length ≤ m := by
  unfold putQ; split
  · rw [List.length_append, List.length_singleton]; omega
  · exact h
theorem lostQ_le (m : Nat) (L : List ByteArray) (lo : Nat) : lostQ m L lo ≤ lo + 1 := by unfold lostQ; split <;> omega
/-- The first one. -/
def headQ (L : List ByteArray) : ByteArray := L.headD ⟨#[]⟩
/-- Is there one? -/
def someQ (L : List ByteArray) : Bool := !L.isEmpty

/-- A queue at block g, its channel at block c: of at most m texts; L wait, lo were lost. -/
structure QuAt (w : World) (g c m : Nat) (L : List ByteArray) (lo : Nat) : Prop where
  blk : BkA 42 w g [.chan (some c), .int .i64 (lo : Int)]
  chn : ∃ s r, w.heap[c]? = some (.chan m (cellsT L).toArray false s r false)
  len : L.length ≤ m
  most : m ≤ 256
/-- What is the queue's. -/
def quF (g c : Nat) (j : Nat) : Prop := j = g ∨ j = c
theorem QuAt.lt {w : World} {g c m lo : Nat} {L : List ByteArray} (h : QuAt w g c m L lo) : g < w.heap.size ∧ c < w.heap.size := by
  obtain ⟨s, r, hc⟩ := h.chn
  exact ⟨h.blk.lt, (Array.getElem?_eq_some_iff.1 hc).1⟩
theorem QuAt.tu {F : Nat → Prop} {w w' : World} {g c m lo : Nat} {L : List ByteArray} (h : QuAt w g c m L lo) (ht : Tu F w w') (hg : ¬ F g) (hc : ¬ F c) : QuAt w' g c m L lo := by
  obtain ⟨s, r, hk⟩ := h.chn
  exact ⟨h.blk.tu ht hg, ⟨s, r, (ht.block c h.lt.2 hc).trans hk⟩, h.len, h.most⟩
theorem QuAt.below {w w' : World} {g c m lo : Nat} {L : List ByteArray} (h : QuAt w g c m L lo) (hb : Below w.heap.size w w') : QuAt w' g c m L lo :=
  h.tu (F := fun _ => False) (Tu.of_below hb) id id
theorem QuAt.belowB {B : Nat} {w w' : World} {g c m lo : Nat} {L : List ByteArray} (h : QuAt w g c m L lo) (hb : Below B w w') (hg : g < B) (hc : c < B) : QuAt w' g c m L lo := by
  obtain ⟨s, r, hk⟩ := h.chn
  exact ⟨h.blk.belowB hb hg, ⟨s, r, (hb.block c hc).trans hk⟩, h.len, h.most⟩
/-- The block and its channel are two. -/
theorem QuAt.ne {w : World} {g c m lo : Nat} {L : List ByteArray} (h : QuAt w g c m L lo) : g ≠ c := fun e => by
  obtain ⟨s, r, hk⟩ := h.chn
  have := h.blk
  unfold BkA at this
  rw [e, hk] at this
  cases this
/-- Of two queues with different blocks. -/
theorem QuAt.apart {w : World} {g c m lo g' c' m' lo' : Nat} {L L' : List ByteArray} (h : QuAt w g c m L lo) (h' : QuAt w g' c' m' L' lo') : g ≠ c' := fun e => by
  obtain ⟨s, r, hk⟩ := h'.chn
  have := h.blk
  unfold BkA at this
  rw [e, hk] at this
  cases this
theorem tu_chan (w : World) (c cap : Nat) (buf : Array Value) (cl : Bool) (s r : Nat) (tm : Bool) : Tu (fun j => j = c) w (w.setChan c cap buf cl s r tm) :=
  ⟨rfl, rfl, rfl, by rw [size_setChan]; exact Nat.le_refl _, fun k _ hk => by simp only [World.setChan]; rw [Array.getElem?_setIfInBounds_ne (fun e => hk e.symm)]⟩
theorem Tu.wide {F G : Nat → Prop} {w w' : World} (h : Tu F w w') (hs : ∀ j, F j → G j) : Tu G w w' := ⟨h.os, h.tape, h.output, h.size, fun k hk hn => h.block k hk fun hf => hn (hs k hf)⟩
/-- Another channel's buffer. -/
theorem QuAt.chan {w : World} {g c m lo : Nat} {L L' : List ByteArray} (h : QuAt w g c m L lo) (hl : L'.length ≤ m) (s r : Nat) : QuAt (w.setChan c m (cellsT L').toArray false s r false) g c m L' lo :=
  ⟨h.blk.tu (tu_chan _ _ _ _ _ _ _ _) h.ne, ⟨s, r, heap_setChan _ _ _ _ _ _ _ _ h.lt.2⟩, hl, h.most⟩
/-- Another number of lost ones. -/
theorem QuAt.lost {w : World} {g c m lo : Nat} {L : List ByteArray} (h : QuAt w g c m L lo) (lo' : Nat) : QuAt (w.setCell ⟨g, 1, none⟩ (.int .i64 (lo' : Int))) g c m L lo' := by
  obtain ⟨s, r, hk⟩ := h.chn
  exact ⟨h.blk.set 1 _, ⟨s, r, ((tu_set w g 1 _).block c h.lt.2 (fun e => h.ne e.symm)).trans hk⟩, h.len, h.most⟩
theorem cellsT_size (L : List ByteArray) : (cellsT L).toArray.size = L.length := by rw [List.size_toArray, cellsT_length]

theorem make_chan (n : Int) (w : World) : (Instr.makeChan 40 (.int .i64 (capN n : Int))).run Try.prog w = .ok (.chan (some w.heap.size)) (w.alloc (.chan (capN n) #[] false 0 0 false)) := by
  obtain ⟨i0, hi, hz0, hz1, hz2⟩ := info_parts info_strT
  have := capN_le n
  exact run_makeChan (P := Try.prog) (w := w) Try.underlying40 hi .i64 (capN n) (by omega) (by rw [hz2]; omega)
theorem qunew_any (n : Int) (w : World) :
    Calls Try.prog 10 #[.int .i64 n] w fun e w' => ∃ g c, e = .returned (.pointer (some ⟨g, 0, none⟩)) ∧ w.heap.size ≤ g ∧ w.heap.size ≤ c ∧ QuAt w' g c (capN n) [] 0 ∧ Below w.heap.size w w' := by
  have h1 := max_run n
  have h2 := cap_run n
  have h3 := make_chan n
  have hm := capN_le n
  generalize capN n = m at *
  go_enter Try.func10, Try.ntmps10
  go_wp2
  go_ret
  have hb : Below w.heap.size w ((w.alloc (.chan m #[] false 0 0 false)).alloc (.cells #[.chan (some w.heap.size), .int .i64 0] 42)) :=
    ((Below.refl _ _).alloc (Nat.le_refl _) _).trans (((Below.refl _ _).alloc (Nat.le_refl _) _).mono (by simp))
  refine ⟨_, w.heap.size, rfl, by simp, Nat.le_refl _, ⟨?_, ⟨0, 0, ?_⟩, Nat.zero_le _, hm⟩, hb⟩
  · have := bkA_new 42 (w.alloc (.chan m #[] false 0 0 false)) [.chan (some w.heap.size), .int .i64 0]
    simpa using this
  · rw [Below.heap_alloc _ _ _ (by simp)]
    exact heap_alloc_new w _
theorem qulen_any (g c m lo : Nat) (L : List ByteArray) (w : World) (h : QuAt w g c m L lo) : Calls Try.prog 16 #[.pointer (some ⟨g, 0, none⟩)] w fun e w' => e = .returned (.int .i64 (L.length : Int)) ∧ w' = w := by
  have h0 := h.blk.at 0 rfl
  obtain ⟨s, r, hc⟩ := h.chn
  have hl := run_len_chan (P := Try.prog) (w := w) 40 3 Try.underlying40 hc
  rw [cellsT_size] at hl
  generalize L.length = n at *
  clear hc h
  go_enter Try.func16, Try.ntmps16
  go_wp2
  go_ret
  exact ⟨rfl, rfl⟩
theorem qulen_nil (w : World) : Calls Try.prog 16 #[.pointer none] w fun e w' => e = .returned (.int .i64 0) ∧ w' = w := by
  go_enter Try.func16, Try.ntmps16
  go_wp2
  go_ret
  exact ⟨rfl, rfl⟩
theorem qulost_any (g c m lo : Nat) (L : List ByteArray) (w : World) (h : QuAt w g c m L lo) : Calls Try.prog 17 #[.pointer (some ⟨g, 0, none⟩)] w fun e w' => e = .returned (.int .i64 (lo : Int)) ∧ w' = w := by
  have h1 := h.blk.at 1 rfl
  clear h
  go_enter Try.func17, Try.ntmps17
  go_wp2
  go_ret
  exact ⟨rfl, rfl⟩
theorem qulost_nil (w : World) : Calls Try.prog 17 #[.pointer none] w fun e w' => e = .returned (.int .i64 0) ∧ w' = w := by
  go_enter Try.func17, Try.ntmps17
  go_wp2
  go_ret
  exact ⟨rfl, rfl⟩
end Go.Proofs.Ytongbbianelfmaa
