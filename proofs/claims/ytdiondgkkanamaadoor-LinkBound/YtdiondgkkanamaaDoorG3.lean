/-
  A queue in memory ('QuAt': its block, and its channel's); contracts of queue.New, Len, Lost, of a queue that is there and of none. No condition.
  Contracts of internal/stringslite.Clone and strings.Clone: for every text of at most 2^20 bytes.
  Contracts of queue.Put (texts of at most 2^20 bytes) and queue.Take, of a queue that is there and of none.
  Contracts of queue.Clear and bucketlinelaw22.few; the chapter's example (awake); the walk of QueueNone. No condition.
-/
import Derived.Test.YtdiondgkkanamaaDoorLn
import Derived.Test.YtdiondgkkanamaaDoorG2
import Derived.Test.YtdiondgkkanamaaDoorTs
import Derived.Test.YtdiondgkkanamaaDoorCp
import Derived.Conc.LoneSelectN
import Derived.Test.YtdiondgkkanamaaDoorTx
import Derived.Lib.UnsafeStr
import Derived.Laws.Concat
namespace Go.Proofs.YtdiondgkkanamaaDoor
open Go.RowKit Go.Conc
set_option linter.unusedVariables false
set_option maxRecDepth 4000

/-- What a queue of at most m texts holds once s was put. -/
def putQ (m : Nat) (L : List ByteArray) (s : ByteArray) : List ByteArray := if L.length < m then L ++ [s] else L
/-- Is there room? -/
def roomQ (m : Nat) (L : List ByteArray) : Bool := decide (L.length < m)
/-- How many were lost. -/
def lostQ (m : Nat) (L : List ByteArray) (lo : Nat) : Nat := if L.length < m then lo else lo + 1
theorem putQ_yes {m : Nat} {L : List ByteArray} (h : L.length < m) (s : ByteArray) : putQ m L s = L ++ [s] := if_pos h
theorem putQ_no {m : Nat} {L : List ByteArray} (h : m ≤ L.length) (s : ByteArray) : putQ m L s = L := if_neg (by omega)
theorem lostQ_yes {m : Nat} {L : List ByteArray} (h : L.length < m) (lo : Nat) : lostQ m L lo = lo := if_pos h
theorem lostQ_no {m : Nat} {L : List ByteArray} (h : m ≤ L.length) (lo : Nat) : lostQ m L lo = lo + 1 := if_neg (by omega)
theorem roomQ_yes {m : Nat} {L : List ByteArray} (h : L.length < m) : roomQ m L = true := by simp [roomQ, h]
theorem roomQ_no {m : Nat} {L : List ByteArray} (h : m ≤ L.length) : roomQ m L = false := by simp [roomQ, h]
theorem putQ_len {m : Nat} {L : List ByteArray} (h : L.length ≤ m) (s : ByteArray) : (putQ m L s).length ≤ m := by
  unfold putQ; split
  · rw [List.length_append, List.length_singleton]; omega
  · exact h
theorem lostQ_le (m : Nat) (L : List ByteArray) (lo : Nat) : lostQ m L lo ≤ lo + 1 := by unfold lostQ; split <;> omega
/-- The first one. -/
def headQ (L : List ByteArray) : ByteArray := L.headD ⟨#[]⟩
/-- Is there one? -/
def someQ (L : List ByteArray) : Bool := !L.isEmpty

/-- A queue at block g, its channel at block c: of at most m texts; L wait, lo were lost. -/
structure QuAt (w : World) (g c m : Nat) (L : List ByteArray) (lo : Nat) : Prop where
  blk : BkA 60 w g [.chan (some c), .int .i64 (lo : Int)]
  chn : ∃ s r, w.heap[c]? = some (.chan m (cellsT L).toArray false s r false)
  len : L.length ≤ m
  most : m ≤ 256
/-- What is the queue's. -/
def quF (g c : Nat) (j : Nat) : Prop := j = g ∨ j = c
theorem QuAt.lt {w : World} {g c m lo : Nat} {L : List ByteArray} (h : QuAt w g c m L lo) : g < w.heap.size ∧ c < w.heap.size := by
  obtain ⟨s, r, hc⟩ := h.chn
  exact ⟨h.blk.lt, (Array.getElem?_eq_some_iff.1 hc).1⟩
theorem QuAt.tu {F : Nat → Prop} {w w' : World} {g c m lo : Nat} {L : List ByteArray} (h : QuAt w g c m L lo) (ht : Tu F w w') (hg : ¬ F g) (hc : ¬ F c) : QuAt w' g c m L lo := by
  obtain ⟨s, r, hk⟩ := h.chn
  exact ⟨h.blk.tu ht hg, ⟨s, r, (ht.block c h.lt.2 hc).trans hk⟩, h.len, h.most⟩
theorem QuAt.below {w w' : World} {g c m lo : Nat} {L : List ByteArray} (h : QuAt w g c m L lo) (hb : Below w.heap.size w w') : QuAt w' g c m L lo :=
  h.tu (F := fun _ => False) (Tu.of_below hb) id id
theorem QuAt.belowB {B : Nat} {w w' : World} {g c m lo : Nat} {L : List ByteArray} (h : QuAt w g c m L lo) (hb : Below B w w') (hg : g < B) (hc : c < B) : QuAt w' g c m L lo := by
  obtain ⟨s, r, hk⟩ := h.chn
  exact ⟨h.blk.belowB hb hg, ⟨s, r, (hb.block c hc).trans hk⟩, h.len, h.most⟩
/-- The block and its channel are two. -/
theorem QuAt.ne {w : World} {g c m lo : Nat} {L : List ByteArray} (h : QuAt w g c m L lo) : g ≠ c := fun e => by
  obtain ⟨s, r, hk⟩ := h.chn
  have := h.blk
  unfold BkA at this
  rw [e, hk] at this
  cases this
/-- Of two queues with different blocks. -/
theorem QuAt.apart {w : World} {g c m lo g' c' m' lo' : Nat} {L L' : List ByteArray} (h : QuAt w g c m L lo) (h' : QuAt w g' c' m' L' lo') : g ≠ c' := fun e => by
  obtain ⟨s, r, hk⟩ := h'.chn
  have := h.blk
  unfold BkA at this
  rw [e, hk] at this
  cases this
theorem tu_chan (w : World) (c cap : Nat) (buf : Array Value) (cl : Bool) (s r : Nat) (tm : Bool) : Tu (fun j => j = c) w (w.setChan c cap buf cl s r tm) :=
  ⟨rfl, rfl, rfl, by rw [size_setChan]; exact Nat.le_refl _, fun k _ hk => by simp only [World.setChan]; rw [Array.getElem?_setIfInBounds_ne (fun e => hk e.symm)]⟩
theorem Tu.wide {F G : Nat → Prop} {w w' : World} (h : Tu F w w') (hs : ∀ j, F j → G j) : Tu G w w' := ⟨h.os, h.tape, h.output, h.size, fun k hk hn => h.block k hk fun hf => hn (hs k hf)⟩
/-- Another channel's buffer. -/
theorem QuAt.chan {w : World} {g c m lo : Nat} {L L' : List ByteArray} (h : QuAt w g c m L lo) (hl : L'.length ≤ m) (s r : Nat) : QuAt (w.setChan c m (cellsT L').toArray false s r false) g c m L' lo :=
  ⟨h.blk.tu (tu_chan _ _ _ _ _ _ _ _) h.ne, ⟨s, r, heap_setChan _ _ _ _ _ _ _ _ h.lt.2⟩, hl, h.most⟩
/-- Another number of lost ones. -/
theorem QuAt.lost {w : World} {g c m lo : Nat} {L : List ByteArray} (h : QuAt w g c m L lo) (lo' : Nat) : QuAt (w.setCell ⟨g, 1, none⟩ (.int .i64 (lo' : Int))) g c m L lo' := by
  obtain ⟨s, r, hk⟩ := h.chn
  exact ⟨h.blk.set 1 _, ⟨s, r, ((tu_set w g 1 _).block c h.lt.2 (fun e => h.ne e.symm)).trans hk⟩, h.len, h.most⟩
theorem cellsT_size (L : List ByteArray) : (cellsT L).toArray.size = L.length := by rw [List.size_toArray, cellsT_length]

theorem make_chan (n : Int) (w : World) : (Instr.makeChan 58 (.int .i64 (capN n : Int))).run Tryd.prog w = .ok (.chan (some w.heap.size)) (w.alloc (.chan (capN n) #[] false 0 0 false)) := by
  obtain ⟨i0, hi, hz0, hz1, hz2⟩ := info_parts info_strT
  have := capN_le n
  exact run_makeChan (P := Tryd.prog) (w := w) Tryd.underlying58 hi .i64 (capN n) (by omega) (by rw [hz2]; omega)
theorem qunew_any (n : Int) (w : World) :
    Calls Tryd.prog 16 #[.int .i64 n] w fun e w' => ∃ g c, e = .returned (.pointer (some ⟨g, 0, none⟩)) ∧ w.heap.size ≤ g ∧ w.heap.size ≤ c ∧ QuAt w' g c (capN n) [] 0 ∧ Below w.heap.size w w' := by
  have h1 := max_run n
  have h2 := cap_run n
  have h3 := make_chan n
  have hm := capN_le n
  generalize capN n = m at *
  go_enter Tryd.func16, Tryd.ntmps16
  go_wp2
  go_ret
  have hb : Below w.heap.size w ((w.alloc (.chan m #[] false 0 0 false)).alloc (.cells #[.chan (some w.heap.size), .int .i64 0] 60)) :=
    ((Below.refl _ _).alloc (Nat.le_refl _) _).trans (((Below.refl _ _).alloc (Nat.le_refl _) _).mono (by simp))
  refine ⟨_, w.heap.size, rfl, by simp, Nat.le_refl _, ⟨?_, ⟨0, 0, ?_⟩, Nat.zero_le _, hm⟩, hb⟩
  · have := bkA_new 60 (w.alloc (.chan m #[] false 0 0 false)) [.chan (some w.heap.size), .int .i64 0]
    simpa using this
  · rw [Below.heap_alloc _ _ _ (by simp)]
    exact heap_alloc_new w _
theorem qulen_any (g c m lo : Nat) (L : List ByteArray) (w : World) (h : QuAt w g c m L lo) : Calls Tryd.prog 24 #[.pointer (some ⟨g, 0, none⟩)] w fun e w' => e = .returned (.int .i64 (L.length : Int)) ∧ w' = w := by
  have h0 := h.blk.at 0 rfl
  obtain ⟨s, r, hc⟩ := h.chn
  have hl := run_len_chan (P := Tryd.prog) (w := w) 58 3 Tryd.underlying58 hc
  rw [cellsT_size] at hl
  generalize L.length = n at *
  clear hc h
  go_enter Tryd.func24, Tryd.ntmps24
  go_wp2
  go_ret
  exact ⟨rfl, rfl⟩
theorem qulen_nil (w : World) : Calls Tryd.prog 24 #[.pointer none] w fun e w' => e = .returned (.int .i64 0) ∧ w' = w := by
  go_enter Tryd.func24, Tryd.ntmps24
  go_wp2
  go_ret
  exact ⟨rfl, rfl⟩
end Go.Proofs.YtdiondgkkanamaaDoor
namespace Go.Proofs.YtdiondgkkanamaaDoor
open Go.RowKit
set_option linter.unusedVariables false
set_option maxRecDepth 4000

theorem size_eq0 {s : ByteArray} (h : s.size = 0) : s = ⟨#[]⟩ := by
  apply tx_inj
  have h1 : (tx s).length = 0 := by rw [tx_length]; exact h
  rw [List.eq_nil_of_length_eq_zero h1]
  rfl

set_option maxHeartbeats 1000000 in
theorem lclone_any (s : ByteArray) (w : World) (hn : s.size ≤ 1048576) :
    Calls Tryd.prog 43 #[.string s] w fun e w' => e = .returned (.string s) ∧ Below w.heap.size w w' := by
  by_cases h0 : s.size = 0
  · obtain rfl := size_eq0 h0
    go_enter Tryd.func43, Tryd.ntmps43
    go_wp2
    go_ret
    exact ⟨rfl, Below.refl _ _⟩
  · have h0' : ¬ ((s.size : Int) = 0) := by omega
    obtain ⟨i0, hi0, hz0, hz1, hz2⟩ := info_parts info_u8
    have hco : Tryd.prog.cellsOf 5 = 1 := by simp [Program.cellsOf, hi0, hz1]
    have hrun := fun W => run_make (P := Tryd.prog) W 83 5 i0 (.int .u8 0) Tryd.underlying83 hi0 hz0 .i64 .i64 (s.size : Int) (s.size : Int) (by omega) (by omega) (by rw [hz2]; omega) (by omega)
    simp only [Int.toNat_natCast] at hrun
    have hcs : (madeCells (Value.int .u8 0).cells (s.size * i0.size)).size = s.size := by rw [size_madeCells, hz1, Nat.mul_one]
    generalize madeCells (Value.int .u8 0).cells (s.size * i0.size) = cur at *
    have hgw : (w.alloc (.cells cur 5)).heap[w.heap.size]? = some (.cells cur 5 (0, 0)) := by
      show (w.heap.push _)[w.heap.size]? = _
      simp
    have hbw : Below w.heap.size w (w.alloc (.cells cur 5)) := (Below.refl _ _).alloc (Nat.le_refl _) _
    have hcp := run_copy_text_of (P := Tryd.prog) (w.alloc (.cells cur 5)) 83 9 3 5 w.heap.size s.size s.size s cur 5 Tryd.underlying83 (by rw [hi0]; simp [hz1]) hgw hcs rfl
    have hgY := setRow_heap (w.alloc (.cells cur 5)) w.heap.size cur (s.data.map fun b => Value.int .u8 (b.toNat : Int)) 5 (0, 0) hgw
    have hY : (s.data.map fun b => Value.int .u8 (b.toNat : Int)).size = s.size := by rw [Array.size_map]; rfl
    have hl : s.data.toList.length = s.size := Array.length_toList
    have hb2 : Below w.heap.size w ((w.alloc (.cells cur 5)).setRow w.heap.size (s.data.map fun b => Value.int .u8 (b.toNat : Int))) := hbw.trans ⟨rfl, rfl, rfl, by simp, fun k hk => setRow_other _ _ k _ (by omega)⟩
    have hcl : ∀ (j : Nat) (x : UInt8), s.data.toList[j]? = some x → ((w.alloc (.cells cur 5)).setRow w.heap.size (s.data.map fun b => Value.int .u8 (b.toNat : Int))).cell? ((⟨w.heap.size, 0, none⟩ : Addr).add j) = some (.int .u8 x.toNat) := by
      intro j x hx
      have e : (⟨w.heap.size, 0, none⟩ : Addr).add j = ⟨w.heap.size, j, none⟩ := by unfold Addr.add; split <;> simp_all
      rw [e, cell_setRow_same _ _ j _ _ _ _ hgw]
      rw [Array.getElem?_toList] at hx
      simp [hx]
    have hUS := Lib.run_unsafeString_row (P := Tryd.prog) ((w.alloc (.cells cur 5)).setRow w.heap.size (s.data.map fun b => Value.int .u8 (b.toNat : Int))) 94 3 9 5 Tryd.underlying94 hco w.heap.size s.size (by unfold World.shape?; rw [hgY]; exact congrArg (fun n => some (5, n)) hY) s.data.toList
      (fun e => h0 (by rw [← hl, e]; rfl)) (by rw [hl]; omega) (by rw [hl]; omega) hcl
    rw [hl] at hUS
    have e2 : (⟨s.data.toList.toArray⟩ : ByteArray) = s := by cases s; simp
    rw [e2] at hUS
    generalize (w.alloc (.cells cur 5)).setRow w.heap.size (s.data.map fun b => Value.int .u8 (b.toNat : Int)) = w1 at *
    have HB := hide (Lib.below_freeze hb2 (p := ⟨w.heap.size, 0, none⟩) (Nat.le_refl _) s.size)
    clear hcl hb2 hY hgY hbw hgw hcs hl e2 hco
    go_enter Tryd.func43, Tryd.ntmps43
    go_wp2
    go_ret
    exact ⟨rfl, unhide HB⟩

theorem sclone_any (s : ByteArray) (w : World) (hn : s.size ≤ 1048576) :
    Calls Tryd.prog 33 #[.string s] w fun e w' => e = .returned (.string s) ∧ Below w.heap.size w w' := by
  go_enter Tryd.func33, Tryd.ntmps33
  go_wp2_with fail
  refine (lclone_any s w hn).mono ?_
  rintro e w1 ⟨rfl, hb⟩
  have HB := hide hb
  clear hb
  go_wp2
  go_ret
  exact ⟨rfl, unhide HB⟩
end Go.Proofs.YtdiondgkkanamaaDoor
namespace Go.Proofs.YtdiondgkkanamaaDoor
open Go.RowKit Go.Conc
set_option linter.unusedVariables false
set_option maxRecDepth 4000

theorem cellsT_push (L : List ByteArray) (s : ByteArray) : (cellsT L).toArray.push (.string s) = (cellsT (L ++ [s])).toArray := by simp [cellsT]
theorem cellsT_cut (s : ByteArray) (L : List ByteArray) : (cellsT (s :: L)).toArray.extract 1 (cellsT (s :: L)).toArray.size = (cellsT L).toArray := by
  simp [cellsT, List.take_of_length_le]
set_option maxHeartbeats 1000000 in
theorem quput_yes (g c m lo : Nat) (L : List ByteArray) (s : ByteArray) (w : World) (h : QuAt w g c m L lo) (hs : s.size ≤ 1048576) (hr : L.length < m) :
    Calls Tryd.prog 19 #[.pointer (some ⟨g, 0, none⟩), .string s] w fun e w' => e = .returned (.bool true) ∧ QuAt w' g c m (L ++ [s]) lo ∧ Tu (quF g c) w w' := by
  have h0 := h.blk.at 0 rfl
  have H := hide h
  have HS := hide hs
  clear h hs
  refine calls_of_wpn Tryd.func19 rfl (fun _ h => by cases h.1) ?_
  simp only [Tryd.ntmps19, List.size_toArray, List.length_cons, List.length_nil, Nat.reduceAdd, Nat.reduceSub, Array.replicate_succ,
     Array.replicate_zero, List.push_toArray, List.append_toArray, List.nil_append, List.cons_append]
  refine wpn_seq_k (fun K hK => ?_)
  go_wp2
  refine wpn_seq_k (fun K hK => ?_)
  go_wp2
  refine wpn_seq_k (fun K hK => ?_)
  go_wp2_with (first
    | (go_at_call 33; refine (sclone_any _ _ (unhide HS)).mono ?_; rintro e w1 ⟨rfl, hb1⟩; have HB := hide hb1; clear hb1)
    | fail)
  have H1 := hide ((unhide H).below (unhide HB))
  obtain ⟨n, r, hc⟩ := (unhide H1).chn
  refine wpn_seq (wpn_first rfl (does_send_room (z := .string ⟨#[]⟩) (v := .string s) (c := c) (by simp [go_sem, execOp, scase, Act.eval]) hc (by rw [cellsT_size]; exact hr)) ?_)
  rw [cellsT_push]
  have H2 := hide ((unhide H1).chan (L' := L ++ [s]) (by rw [List.length_append, List.length_singleton]; omega) (n + 1) r)
  have HT := hide (Tu.after (unhide HB) ((tu_chan w1 c m (cellsT (L ++ [s])).toArray false (n + 1) r false).wide (G := quF g c) fun j e => .inr e))
  clear hc
  generalize w1.setChan c m (cellsT (L ++ [s])).toArray false (n + 1) r false = w2 at *
  go_wp2
  refine wpn_of ?_
  go_wp2
  go_ret
  exact ⟨rfl, unhide H2, unhide HT⟩
set_option maxHeartbeats 1000000 in
theorem quput_no (g c m lo : Nat) (L : List ByteArray) (s : ByteArray) (w : World) (h : QuAt w g c m L lo) (hs : s.size ≤ 1048576) (hr : m ≤ L.length) (hlo : lo ≤ 1099511627776) :
    Calls Tryd.prog 19 #[.pointer (some ⟨g, 0, none⟩), .string s] w fun e w' => e = .returned (.bool false) ∧ QuAt w' g c m L (lo + 1) ∧ Tu (quF g c) w w' := by
  have h0 := h.blk.at 0 rfl
  have H := hide h
  have HS := hide hs
  clear h hs
  refine calls_of_wpn Tryd.func19 rfl (fun _ h => by cases h.1) ?_
  simp only [Tryd.ntmps19, List.size_toArray, List.length_cons, List.length_nil, Nat.reduceAdd, Nat.reduceSub, Array.replicate_succ,
     Array.replicate_zero, List.push_toArray, List.append_toArray, List.nil_append, List.cons_append]
  refine wpn_seq_k (fun K hK => ?_)
  go_wp2
  refine wpn_seq_k (fun K hK => ?_)
  go_wp2
  refine wpn_seq_k (fun K hK => ?_)
  go_wp2_with (first
    | (go_at_call 33; refine (sclone_any _ _ (unhide HS)).mono ?_; rintro e w1 ⟨rfl, hb1⟩; have HB := hide hb1; clear hb1)
    | fail)
  have H1 := hide ((unhide H).below (unhide HB))
  obtain ⟨n, r, hc⟩ := (unhide H1).chn
  refine wpn_seq (wpn_first rfl (does_send_full (z := .string ⟨#[]⟩) (v := .string s) (c := c) (by simp [go_sem, execOp, scase, Act.eval]) hc (by rw [cellsT_size]; exact hr)) ?_)
  clear hc
  go_wp2
  refine wpn_of ?_
  have h1 := (unhide H1).blk.at 1 rfl
  have hf := (unhide H1).blk.frz 1
  have hw : IntKind.i64.wrap ((lo : Int) + 1) = (lo : Int) + 1 := by rw [IntKind.wrap_i64]; omega
  go_wp2
  go_ret
  have h3 := (unhide H1).lost (lo + 1)
  rw [Int.natCast_add] at h3
  exact ⟨rfl, h3, Tu.after (unhide HB) ((tu_set w1 g 1 _).wide (G := quF g c) fun j e => .inl e)⟩
theorem quput_any (g c m lo : Nat) (L : List ByteArray) (s : ByteArray) (w : World) (h : QuAt w g c m L lo) (hs : s.size ≤ 1048576) (hlo : lo ≤ 1099511627776) :
    Calls Tryd.prog 19 #[.pointer (some ⟨g, 0, none⟩), .string s] w fun e w' => e = .returned (.bool (roomQ m L)) ∧ QuAt w' g c m (putQ m L s) (lostQ m L lo) ∧ Tu (quF g c) w w' := by
  by_cases hr : L.length < m
  · rw [roomQ_yes hr, putQ_yes hr, lostQ_yes hr]; exact quput_yes g c m lo L s w h hs hr
  · have hr' : m ≤ L.length := by omega
    rw [roomQ_no hr', putQ_no hr', lostQ_no hr']; exact quput_no g c m lo L s w h hs hr' hlo
theorem quput_nil (s : ByteArray) (w : World) : Calls Tryd.prog 19 #[.pointer none, .string s] w fun e w' => e = .returned (.bool false) ∧ w' = w := by
  refine calls_of_wpn Tryd.func19 rfl (fun _ h => by cases h.1) ?_
  simp only [Tryd.ntmps19, List.size_toArray, List.length_cons, List.length_nil, Nat.reduceAdd, Nat.reduceSub, Array.replicate_succ,
     Array.replicate_zero, List.push_toArray, List.append_toArray, List.nil_append, List.cons_append]
  refine wpn_seq_k (fun K hK => ?_)
  go_wp2
  refine wpn_seq_k (fun K hK => ?_)
  go_wp2
  go_ret
  exact ⟨rfl, rfl⟩
set_option maxHeartbeats 1000000 in
theorem qutake_yes (g c m lo : Nat) (s : ByteArray) (L : List ByteArray) (w : World) (h : QuAt w g c m (s :: L) lo) :
    Calls Tryd.prog 23 #[.pointer (some ⟨g, 0, none⟩)] w fun e w' => e = .returned (.tuple #[.string s, .bool true]) ∧ QuAt w' g c m L lo ∧ Tu (quF g c) w w' := by
  have h0 := h.blk.at 0 rfl
  have H := hide h
  clear h
  refine calls_of_wpn Tryd.func23 rfl (fun _ h => by cases h.1) ?_
  simp only [Tryd.ntmps23, List.size_toArray, List.length_cons, List.length_nil, Nat.reduceAdd, Nat.reduceSub, Array.replicate_succ,
     Array.replicate_zero, List.push_toArray, List.append_toArray, List.nil_append, List.cons_append]
  refine wpn_seq_k (fun K hK => ?_)
  go_wp2
  refine wpn_seq_k (fun K hK => ?_)
  go_wp2
  refine wpn_seq_k (fun K hK => ?_)
  go_wp2
  obtain ⟨n, r, hc⟩ := (unhide H).chn
  refine wpn_seq (wpn_first rfl (does_recv_some (z := .string ⟨#[]⟩) (c := c) (by simp [go_sem, execOp, rcase, Act.eval]) hc (by rw [cellsT_size]; exact Nat.succ_pos _)) ?_)
  rw [cellsT_cut]
  have hd : (cellsT (s :: L)).toArray.getD 0 undef = .string s := by simp [cellsT]
  rw [hd]
  have H2 := hide ((unhide H).chan (L' := L) (by have := (unhide H).len; rw [List.length_cons] at this; omega) n (r + 1))
  have HT := hide ((tu_chan w c m (cellsT L).toArray false n (r + 1) false).wide (G := quF g c) fun j e => .inr e)
  clear hc hd
  generalize w.setChan c m (cellsT L).toArray false n (r + 1) false = w2 at *
  go_wp2
  refine wpn_of ?_
  go_wp2
  go_ret2
  exact ⟨rfl, unhide H2, unhide HT⟩
set_option maxHeartbeats 1000000 in
theorem qutake_no (g c m lo : Nat) (w : World) (h : QuAt w g c m [] lo) :
    Calls Tryd.prog 23 #[.pointer (some ⟨g, 0, none⟩)] w fun e w' => e = .returned (.tuple #[.string ⟨#[]⟩, .bool false]) ∧ w' = w := by
  have h0 := h.blk.at 0 rfl
  have H := hide h
  clear h
  refine calls_of_wpn Tryd.func23 rfl (fun _ h => by cases h.1) ?_
  simp only [Tryd.ntmps23, List.size_toArray, List.length_cons, List.length_nil, Nat.reduceAdd, Nat.reduceSub, Array.replicate_succ,
     Array.replicate_zero, List.push_toArray, List.append_toArray, List.nil_append, List.cons_append]
  refine wpn_seq_k (fun K hK => ?_)
  go_wp2
  refine wpn_seq_k (fun K hK => ?_)
  go_wp2
  refine wpn_seq_k (fun K hK => ?_)
  go_wp2
  obtain ⟨n, r, hc⟩ := (unhide H).chn
  refine wpn_seq (wpn_first rfl (does_recv_none (z := .string ⟨#[]⟩) (c := c) (by simp [go_sem, execOp, rcase, Act.eval]) hc) ?_)
  clear hc
  go_wp2
  refine wpn_of ?_
  go_wp2
  go_ret2
  exact ⟨rfl, rfl⟩
theorem qutake_any (g c m lo : Nat) (L : List ByteArray) (w : World) (h : QuAt w g c m L lo) :
    Calls Tryd.prog 23 #[.pointer (some ⟨g, 0, none⟩)] w fun e w' => e = .returned (.tuple #[.string (headQ L), .bool (someQ L)]) ∧ QuAt w' g c m L.tail lo ∧ Tu (quF g c) w w' := by
  cases L with
  | nil => exact (qutake_no g c m lo w h).mono fun e w' ⟨he, hw⟩ => ⟨he, hw ▸ h, hw ▸ Tu.refl _ _⟩
  | cons s L => exact qutake_yes g c m lo s L w h
theorem qutake_nil (w : World) : Calls Tryd.prog 23 #[.pointer none] w fun e w' => e = .returned (.tuple #[.string ⟨#[]⟩, .bool false]) ∧ w' = w := by
  refine calls_of_wpn Tryd.func23 rfl (fun _ h => by cases h.1) ?_
  simp only [Tryd.ntmps23, List.size_toArray, List.length_cons, List.length_nil, Nat.reduceAdd, Nat.reduceSub, Array.replicate_succ,
     Array.replicate_zero, List.push_toArray, List.append_toArray, List.nil_append, List.cons_append]
  refine wpn_seq_k (fun K hK => ?_)
  go_wp2
  refine wpn_seq_k (fun K hK => ?_)
  go_wp2
  go_ret2
  exact ⟨rfl, rfl⟩
end Go.Proofs.YtdiondgkkanamaaDoor
namespace Go.Proofs.YtdiondgkkanamaaDoor
open Go.RowKit Go.Conc
set_option linter.unusedVariables false
set_option maxRecDepth 4000

theorem quF_trans {g c : Nat} {w w1 w2 : World} (h : Tu (quF g c) w w1) (k : Tu (quF g c) w1 w2) : Tu (quF g c) w w2 := h.trans k fun _ _ e => e
/-- What was below a queue's blocks is as it was. -/
theorem tu_lowQ {w w1 w2 : World} {g c : Nat} (h : Below w.heap.size w w1) (ht : Tu (quF g c) w1 w2) (hg : w.heap.size ≤ g) (hc : w.heap.size ≤ c) : Below w.heap.size w w2 :=
  h.trans (ht.below h.size fun j hj e => by rcases e with e | e <;> omega)
theorem quclear_nil (w : World) : Calls Tryd.prog 25 #[.pointer none] w fun e w' => e = .returned (.tuple #[]) ∧ w' = w := by
  go_enter Tryd.func25, Tryd.ntmps25
  go_wp2
  exact bodyPost_ret (v := .tuple #[]) (by simp [results, Tryd.results25, go_sem]) rfl ⟨rfl, rfl⟩
/-- How many wait in a channel. -/
def lenOfQ (w : World) (c : Nat) : Nat := match w.heap[c]? with
  | some (.chan _ b _ _ _ _) => b.size
  | _ => 0
theorem QuAt.lenOf {w : World} {g c m lo : Nat} {L : List ByteArray} (h : QuAt w g c m L lo) : lenOfQ w c = L.length := by
  obtain ⟨s, r, hc⟩ := h.chn
  unfold lenOfQ
  rw [hc]
  exact cellsT_size L
set_option maxHeartbeats 1000000 in
theorem quclear_any (g c m lo : Nat) (L : List ByteArray) (w : World) (h : QuAt w g c m L lo) :
    Calls Tryd.prog 25 #[.pointer (some ⟨g, 0, none⟩)] w fun e w' => e = .returned (.tuple #[]) ∧ QuAt w' g c m [] 0 ∧ Tu (quF g c) w w' := by
  have HJ0 := hide (show QuAt w g c m L lo ∧ Tu (quF g c) w w from ⟨h, Tu.refl _ _⟩)
  clear h
  go_enter Tryd.func25, Tryd.ntmps25
  go_wp2_with fail
  go_loopw [] (fun wr => ∃ L' : List ByteArray, Hid (QuAt wr g c m L' lo ∧ Tu (quF g c) w wr)) (fun wr => lenOfQ wr c)
  case atStart => exact ⟨L, HJ0⟩
  case round =>
    obtain ⟨L', HJ⟩ := hrel
    clear HJ0
    cases L' with
    | nil =>
      have q1 := (unhide HJ).1.blk.at 1 rfl
      have f1 := (unhide HJ).1.blk.frz 1
      go_wp2_with (first
        | (go_at_call 24; refine (qulen_any _ _ _ _ _ _ (unhide HJ).1).mono ?_; rintro e w1 ⟨rfl, hw1⟩; obtain rfl := hw1.symm; clear hw1)
        | fail)
      have h3 := (unhide HJ).1.lost 0
      go_end0
      exact ⟨rfl, h3, quF_trans (unhide HJ).2 ((tu_set wr g 1 _).wide (G := quF g c) fun j e => .inl e)⟩
    | cons s L' =>
      have hl : (L'.length : Int) + 1 > 0 := by omega
      go_wp2_with (first
        | (go_at_call 24; refine (qulen_any _ _ _ _ _ _ (unhide HJ).1).mono ?_; rintro e w1 ⟨rfl, hw1⟩; obtain rfl := hw1.symm; clear hw1; rw [List.length_cons])
        | (go_at_call 23; refine (qutake_yes _ _ _ _ _ _ _ (unhide HJ).1).mono ?_; rintro e w2 ⟨rfl, hm2, ht2⟩; have HJ2 := hide (And.intro hm2 (quF_trans (unhide HJ).2 ht2)); have HL := hide (show lenOfQ w2 c < lenOfQ wr c by rw [hm2.lenOf, (unhide HJ).1.lenOf, List.length_cons]; omega); clear hm2 ht2)
        | fail)
      go_roundw
      case rel => exact ⟨L', HJ2⟩
      case measure => exact unhide HL
end Go.Proofs.YtdiondgkkanamaaDoor
