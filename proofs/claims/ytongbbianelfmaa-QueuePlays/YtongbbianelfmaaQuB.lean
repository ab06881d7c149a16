/-
  Contracts of queue.Put (texts of at most 2^20 bytes) and queue.Take, of a queue that is there and of none.
-/
import Derived.Test.YtongbbianelfmaaQuA
import Derived.Test.YtongbbianelfmaaSC
namespace Go.Proofs.Ytongbbianelfmaa
open Go.RowKit Go.Conc
set_option linter.unusedVariables false
set_option maxRecDepth 4000

theorem cellsT_push (L : List ByteArray) (s : ByteArray) : (cellsT L).toArray.push (.string s) = (cellsT (L ++ [s])).toArray := by simp [cellsT]
theorem cellsT_cut (s : ByteArray) (L : List ByteArray) : (cellsT (s :: L)).toArray.extract 1 (cellsT (s :: L)).toArray.size = (cellsT L).toArray := by
  simp [cellsT, List.take_of_length_le]
set_option maxHeartbeats 1000000 in
theorem quput_yes (g c m lo : Nat) (L : List ByteArray) (s : ByteArray) (w : World) (h : QuAt w g c m L lo) (hs : s.size ≤ 1048576) (hr : L.length < m) :
    Calls Try.prog 15 #[.pointer (some ⟨g, 0, none⟩), .string s] w fun e w' => e = .returned (.bool true) ∧ QuAt w' g c m (L ++ [s]) lo ∧ Tu (quF g c) w w' := by
  have h0 := h.blk.at 0 rfl
  have H := hide h
  have HS := hide hs
  clear h hs
  refine calls_of_wpn Try.func15 rfl (fun _ h => by cases h.1) ?_
  simp only [Try.ntmps15, List.size_toArray, List.length_cons, List.length_nil, Nat.reduceAdd, Nat.reduceSub, Array.replicate_succ,
     Array.replicate_zero, List.push_toArray, List.append_toArray, List.nil_append, List.cons_append]
  refine wpn_seq_k (fun K hK => ?_)
  go_wp2
  refine wpn_seq_k (fun K hK => ?_)
  go_wp2
  refine wpn_seq_k (fun K hK => ?_)
  go_wp2_with (first
    | (go_at_call 20; refine (sclone_any _ _ (unhide HS)).mono ?_; rintro e w1 ⟨rfl, hb1⟩; have HB := hide hb1; clear hb1)
    | fail)
  have H1 := hide ((unhide H).below (unhide HB))
  obtain ⟨n, r, hc⟩ := (unhide H1).chn
  refine wpn_seq (wpn_first rfl (does_send_room (z := .string ⟨#[]⟩) (v := .string s) (c := c) (by simp [go_sem, execOp, scase, Act.eval]) hc (by rw [cellsT_size]; exact hr)) ?_)
  rw [cellsT_push]
  have H2 := hide ((unhide H1).chan (L' := L ++ [s]) (by rw [List.length_append, List.length_singleton]; omega) (n + 1) r)
  have HT := hide (Tu.after (unhide HB) ((tu_chan w1 c m (cellsT (L ++ [s])).toArray false (n + 1) r false).wide (G := quF g c) fun j e => .inr e))
  clear hc
  generalize w1.setChan c m (cellsT (L ++ [s])).toArray false (n + 1) r false = w2 at *
  go_wp2
  refine wpn_of ?_
  go_wp2
  go_ret
  exact ⟨rfl, unhide H2, unhide HT⟩
set_option maxHeartbeats 1000000 in
theorem quput_no (g c m lo : Nat) (L : List ByteArray) (s : ByteArray) (w : World) (h : QuAt w g c m L lo) (hs : s.size ≤ 1048576) (hr : m ≤ L.length) (hlo : lo ≤ 1099511627776) :
    Calls Try.prog 15 #[.pointer (some ⟨g, 0, none⟩), .string s] w fun e w' => e = .returned (.bool false) ∧ QuAt w' g c m L (lo + 1) ∧ Tu (quF g c) w w' := by
  have h0 := h.blk.at 0 rfl
  have H := hide h
  have HS := hide hs
  clear h hs
  refine calls_of_wpn Try.func15 rfl (fun _ h => by cases h.1) ?_
  simp only [Try.ntmps15, List.size_toArray, List.length_cons, List.length_nil, Nat.reduceAdd, Nat.reduceSub, Array.replicate_succ,
     Array.replicate_zero, List.push_toArray, List.append_toArray, List.nil_append, List.cons_append]
  refine wpn_seq_k (fun K hK => ?_)
  go_wp2
  refine wpn_seq_k (fun K hK => ?_)
  go_wp2
  refine wpn_seq_k (fun K hK => ?_)
  go_wp2_with (first
    | (go_at_call 20; refine (sclone_any _ _ (unhide HS)).mono ?_; rintro e w1 ⟨rfl, hb1⟩; have HB := hide hb1; clear hb1)
    | fail)
  have H1 := hide ((unhide H).below (unhide HB))
  obtain ⟨n, r, hc⟩ := (unhide H1).chn
  refine wpn_seq (wpn_first rfl (does_send_full (z := .string ⟨#[]⟩) (v := .string s) (c := c) (by simp [go_sem, execOp, scase, Act.eval]) hc (by rw [cellsT_size]; exact hr)) ?_)
  clear hc
  go_wp2
  refine wpn_of ?_
  have h1 := (unhide H1).blk.at 1 rfl
  have hf := (unhide H1).blk.frz 1
  have hw : IntKind.i64.wrap ((lo : Int) + 1) = (lo : Int) + 1 := by rw [IntKind.wrap_i64]; omega
  go_wp2
  go_ret
  have h3 := (unhide H1).lost (lo + 1)
  rw [Int.natCast_add] at h3
  exact ⟨rfl, h3, Tu.after (unhide HB) ((tu_set w1 g 1 _).wide (G := quF g c) fun j e => .inl e)⟩
theorem quput_any (g c m lo : Nat) (L : List ByteArray) (s : ByteArray) (w : World) (h : QuAt w g c m L lo) (hs : s.size ≤ 1048576) (hlo : lo ≤ 1099511627776) :
    Calls Try.prog 15 #[.pointer (some ⟨g, 0, none⟩), .string s] w fun e w' => e = .returned (.bool (roomQ m L)) ∧ QuAt w' g c m (putQ m L s) (lostQ m L lo) ∧ Tu (quF g c) w w' := by
  by_cases hr : L.length < m
  · rw [roomQ_yes hr, putQ_yes hr, lostQ_yes hr]; exact quput_yes g c m lo L s w h hs hr
  · have hr' : m ≤ L.length := by omega
    rw [roomQ_no hr', putQ_no hr', lostQ_no hr']; exact quput_no g c m lo L s w h hs hr' hlo
theorem quput_nil (s : ByteArray) (w : World) : Calls Try.prog 15 #[.pointer none, .string s] w fun e w' => e = .returned (.bool false) ∧ w' = w := by
  refine calls_of_wpn Try.func15 rfl (fun _ h => by cases h.1) ?_
  simp only [Try.ntmps15, List.size_toArray, List.length_cons, List.length_nil, Nat.reduceAdd, Nat.reduceSub, Array.replicate_succ,
     Array.replicate_zero, List.push_toArray, List.append_toArray, List.nil_append, List.cons_append]
  refine wpn_seq_k (fun K hK => ?_)
  go_wp2
  refine wpn_seq_k (fun K hK => ?_)
  go_wp2
  go_ret
  exact ⟨rfl, rfl⟩
set_option maxHeartbeats 1000000 in
theorem qutake_yes (g c m lo : Nat) (s : ByteArray) (L : List ByteArray) (w : World) (h : QuAt w g c m (s :: L) lo) :
    Calls Try.prog 13 #[.pointer (some ⟨g, 0, none⟩)] w fun e w' => e = .returned (.tuple #[.string s, .bool true]) ∧ QuAt w' g c m L lo ∧ Tu (quF g c) w w' := by
  have h0 := h.blk.at 0 rfl
  have H := hide h
  clear h
  refine calls_of_wpn Try.func13 rfl (fun _ h => by cases h.1) ?_
  simp only [Try.ntmps13, List.size_toArray, List.length_cons, List.length_nil, Nat.reduceAdd, Nat.reduceSub, Array.replicate_succ,
     Array.replicate_zero, List.push_toArray, List.append_toArray, List.nil_append, List.cons_append]
  refine wpn_seq_k (fun K hK => ?_)
  go_wp2
  refine wpn_seq_k (fun K hK => ?_)
  go_wp2
  refine wpn_seq_k (fun K hK => ?_)
  go_wp2
  obtain ⟨n, r, hc⟩ := (unhide H).chn
  refine wpn_seq (wpn_first rfl (does_recv_some (z := .string ⟨#[]⟩) (c := c) (by simp [go_sem, execOp, rcase, Act.eval]) hc (by rw [cellsT_size]; exact Nat.succ_pos _)) ?_)
  rw [cellsT_cut]
  have hd : (cellsT (s :: L)).toArray.getD 0 undef = .string s := by simp [cellsT]
  rw [hd]
  have H2 := hide ((unhide H).chan (L' := L) (by have := (unhide H).len; rw [List.length_cons] at this; omega) n (r + 1))
  have HT := hide ((tu_chan w c m (cellsT L).toArray false n (r + 1) false).wide (G := quF g c) fun j e => .inr e)
  clear hc hd
  generalize w.setChan c m (cellsT L).toArray false n (r + 1) false = w2 at *
  go_wp2
  refine wpn_of ?_
  go_wp2
  go_ret2
  exact ⟨rfl, unhide H2, unhide HT⟩
set_option maxHeartbeats 1000000 in
theorem qutake_no (g c m lo : Nat) (w : World) (h : QuAt w g c m [] lo) :
    Calls Try.prog 13 #[.pointer (some ⟨g, 0, none⟩)] w fun e w' => e = .returned (.tuple #[.string ⟨#[]⟩, .bool false]) ∧ w' = w := by
  have h0 := h.blk.at 0 rfl
  have H := hide h
  clear h
  refine calls_of_wpn Try.func13 rfl (fun _ h => by cases h.1) ?_
  simp only [Try.ntmps13, List.size_toArray, List.length_cons, List.length_nil, Nat.reduceAdd, Nat.reduceSub, Array.replicate_succ,
     Array.replicate_zero, List.push_toArray, List.append_toArray, List.nil_append, List.cons_append]
  refine wpn_seq_k (fun K hK => ?_)
  go_wp2
  refine wpn_seq_k (fun K hK => ?_)
  go_wp2
  refine wpn_seq_k (fun K hK => ?_)
  go_wp2
  obtain ⟨n, r, hc⟩ := (unhide H).chn
  refine wpn_seq (wpn_first rfl (does_recv_none (z := .string ⟨#[]⟩) (c := c) (by simp [go_sem, execOp, rcase, Act.eval]) hc) ?_)
  clear hc
  go_wp2
  refine wpn_of ?_
  go_wp2
  go_ret2
  exact ⟨rfl, rfl⟩
theorem qutake_any (g c m lo : Nat) (L : List ByteArray) (w : World) (h : QuAt w g c m L lo) :
    Calls Try.prog 13 #[.pointer (some ⟨g, 0, none⟩)] w fun e w' => e = .returned (.tuple #[.string (headQ L), .bool (someQ L)]) ∧ QuAt w' g c m L.tail lo ∧ Tu (quF g c) w w' := by
  cases L with
  | nil => exact (qutake_no g c m lo w h).mono fun e w' ⟨he, hw⟩ => ⟨he, hw ▸ h, hw ▸ Tu.refl _ _⟩
  | cons s L => exact qutake_yes g c m lo s L w h
theorem qutake_nil (w : World) : Calls Try.prog 13 #[.pointer none] w fun e w' => e = .returned (.tuple #[.string ⟨#[]⟩, .bool false]) ∧ w' = w := by
  refine calls_of_wpn Try.func13 rfl (fun _ h => by cases h.1) ?_
  simp only [Try.ntmps13, List.size_toArray, List.length_cons, List.length_nil, Nat.reduceAdd, Nat.reduceSub, Array.replicate_succ,
     Array.replicate_zero, List.push_toArray, List.append_toArray, List.nil_append, List.cons_append]
  refine wpn_seq_k (fun K hK => ?_)
  go_wp2
  refine wpn_seq_k (fun K hK => ?_)
  go_wp2
  go_ret2
  exact ⟨rfl, rfl⟩
end Go.Proofs.Ytongbbianelfmaa
