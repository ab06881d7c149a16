/-
  Contracts of crc.Seal, bucketlineref05.Seal, crc.Open, bucketlineref05.Open: for every text of at most 2^20 bytes.
-/
import Derived.Test.YtjgckchddllinaaDoorCB
import Derived.Lib.QuietBelow
namespace Go.Proofs.YtjgckchddllinaaDoor
open Go.RowKit Go.Sort
set_option linter.unusedVariables false
set_option maxRecDepth 4000

theorem quietC {W : World} {f : FuncId} {args : Array Value} {v : Value} (h : ∀ w', Below W.heap.size W w' → Calls Tryd.prog f args w' fun e w'' => e = .returned v ∧ Below w'.heap.size w' w'') (d : Nat) (os : Array Obj) :
    Calls Tryd.prog f args (grow (redrawn W d) os) fun e w'' => e = .returned v ∧ ∃ p : Regrown, w'' = grow (redrawn W p.d) p.os :=
  Calls.regrown_of (h _ (below_regrown W d os))
theorem sameC {f : FuncId} {args : Array Value} {v : Value} {w : World} (h : Calls Tryd.prog f args w fun e w'' => e = .returned v ∧ w'' = w) : Calls Tryd.prog f args w fun e w'' => e = .returned v ∧ Below w.heap.size w w'' :=
  h.mono fun e w' ⟨he, hw⟩ => ⟨he, by rw [hw]; exact Below.refl _ _⟩

/-- The bytes of a text's sum. -/
def tailS (s : ByteArray) : ByteArray := st (be4 (sumS s))
def sealS (s : ByteArray) : ByteArray := s ++ tailS s
def headS (s : ByteArray) : ByteArray := s.extract 0 (s.size - 4)
def lastS (s : ByteArray) : ByteArray := s.extract (s.size - 4) s.size
theorem tailS_size (s : ByteArray) : (tailS s).size = 4 := by unfold tailS; rw [st_len]; rfl
theorem sealS_size (s : ByteArray) : (sealS s).size = s.size + 4 := by unfold sealS; rw [ByteArray.size_append, tailS_size]
theorem headS_size (s : ByteArray) (h : 4 ≤ s.size) : (headS s).size = s.size - 4 := by unfold headS; rw [ByteArray.size_extract]; omega
theorem head_last (s : ByteArray) (h : 4 ≤ s.size) : s = headS s ++ lastS s := by
  unfold headS lastS
  rw [ByteArray.extract_append_extract]
  have e1 : min 0 (s.size - 4) = 0 := by omega
  have e2 : max (s.size - 4) s.size = s.size := by omega
  rw [e1, e2]
  exact (ByteArray.extract_zero_size).symm
theorem lastS_size (s : ByteArray) (h : 4 ≤ s.size) : (lastS s).size = 4 := by unfold lastS; rw [ByteArray.size_extract]; omega
theorem seal_head (s : ByteArray) : headS (sealS s) = s := by
  unfold headS
  rw [sealS_size, Nat.add_sub_cancel]
  unfold sealS
  rw [ByteArray.extract_append_size_left]
  exact ByteArray.extract_zero_size
theorem seal_last (s : ByteArray) : lastS (sealS s) = tailS s := by
  have h := head_last (sealS s) (by rw [sealS_size]; omega)
  rw [seal_head] at h
  unfold sealS at h
  exact (ByteArray.append_right_inj _).1 h |>.symm
/-- What was sealed, and the error. -/
def openE (s : ByteArray) : Nat := if s.size < 4 then 2 else if lastS s = tailS (headS s) then 0 else 4
def openT (s : ByteArray) : ByteArray := if openE s = 0 then headS s else ⟨#[]⟩
theorem open_seal (s : ByteArray) : openE (sealS s) = 0 ∧ openT (sealS s) = s := by
  have h : openE (sealS s) = 0 := by
    unfold openE
    rw [if_neg (by rw [sealS_size]; omega), if_pos (by rw [seal_last, seal_head])]
  exact ⟨h, by unfold openT; rw [if_pos h, seal_head]⟩
theorem seal_open (s : ByteArray) (h : openE s = 0) : sealS (openT s) = s := by
  unfold openT
  rw [if_pos h]
  unfold openE at h
  by_cases h4 : s.size < 4
  · rw [if_pos h4] at h; omega
  · rw [if_neg h4] at h
    by_cases hl : lastS s = tailS (headS s)
    · unfold sealS
      rw [← hl]
      exact (head_last s (by omega)).symm
    · rw [if_neg hl] at h; omega
theorem seal_iff (s : ByteArray) (h4 : 4 ≤ s.size) : sealS (headS s) = s ↔ lastS s = tailS (headS s) := by
  constructor
  · intro h
    have := seal_last (headS s)
    rw [h] at this
    exact this
  · intro h
    unfold sealS
    rw [← h]
    exact (head_last s h4).symm

theorem cseal_any (s : ByteArray) (w : World) (hn : s.size ≤ 1048576) :
    Calls Tryd.prog 27 #[.string s] w fun e w' => e = .returned (.string (sealS s)) ∧ Below w.heap.size w w' := by
  have ht := tailS_size s
  have HT := hide (show ∀ w', Calls Tryd.prog 48 #[.string s] w' fun e w'' => e = .returned (.string (tailS s)) ∧ Below w'.heap.size w' w'' from fun w' => ctail_any s w' hn)
  have hsum : ¬ (9223372036854775807 < s.size + (tailS s).size) := by omega
  unfold sealS
  generalize tailS s = t at *
  go_enter Tryd.func27, Tryd.ntmps27
  go_wp2_with fail
  refine (unhide HT _).mono ?_
  rintro e w1 ⟨rfl, hb⟩
  have HB := hide hb
  clear hb
  go_wp2
  go_ret
  exact ⟨rfl, unhide HB⟩

theorem lit4 (w : World) (t : TypeId) (c : Nat) (hc : c < 4294967296) : OwnB (w.alloc (.cells #[.int .u8 ((c : Int) / 16777216), .int .u8 ((c : Int) / 65536 % 256), .int .u8 ((c : Int) / 256 % 256), .int .u8 ((c : Int) % 256)] t)) w.heap.size (.slice (some ⟨w.heap.size, 0, none⟩) 4 4) (be4 c) := by
  refine ⟨be4_bytes c, .inr ⟨w.heap.size, 4, rfl, Nat.le_refl _, by simp, fun i hi => ?_, fun i hi => ?_⟩⟩
  · match i, hi with
    | 0, _ => simp [be4]; omega
    | 1, _ => simp [be4]
    | 2, _ => simp [be4]
    | 3, _ => simp [be4]
  · match i, hi with
    | 0, _ => simp
    | 1, _ => simp
    | 2, _ => simp
    | 3, _ => simp

theorem rseal_any (s : ByteArray) (w : World) (hn : s.size ≤ 1048576) :
    Calls Tryd.prog 18 #[.string s] w fun e w' => e = .returned (.string (sealS s)) ∧ Below w.heap.size w w' := by
  have ht : (st (be4 (sumS s))).size = 4 := tailS_size s
  have hc := sumS_lt s
  have HT := hide (rsum_any s w hn)
  have hsum : ¬ (9223372036854775807 < s.size + (st (be4 (sumS s))).size) := by omega
  unfold sealS tailS
  generalize sumS s = c at *
  have hct := (lit4 w 5 c hc).text
  go_enter Tryd.func18, Tryd.ntmps18
  go_wp2_with fail
  refine (unhide HT).mono ?_
  rintro e w1 ⟨rfl, hw⟩
  obtain rfl := hw.symm
  go_wp2
  go_ret
  exact ⟨rfl, (Below.refl _ _).alloc (Nat.le_refl _) _⟩

theorem open_short {s : ByteArray} (h : s.size < 4) : openE s = 2 ∧ openT s = ⟨#[]⟩ := by
  have e : openE s = 2 := by unfold openE; rw [if_pos h]
  exact ⟨e, by unfold openT; rw [if_neg (by omega)]⟩
theorem open_yes {s : ByteArray} (h : ¬ s.size < 4) (hl : lastS s = tailS (headS s)) : openE s = 0 ∧ openT s = headS s := by
  have e : openE s = 0 := by unfold openE; rw [if_neg h, if_pos hl]
  exact ⟨e, by unfold openT; rw [if_pos e]⟩
theorem open_no {s : ByteArray} (h : ¬ s.size < 4) (hl : ¬ lastS s = tailS (headS s)) : openE s = 4 ∧ openT s = ⟨#[]⟩ := by
  have e : openE s = 4 := by unfold openE; rw [if_neg h, if_neg hl]
  exact ⟨e, by unfold openT; rw [if_neg (by omega)]⟩
theorem ret_pair {a b : ByteArray} {i j : Int} (h : a = b) (h' : i = j) : Ending.returned (.tuple #[.string a, .int .i64 i]) = .returned (.tuple #[.string b, .int .i64 j]) := by rw [h, h']

set_option maxHeartbeats 1000000 in
theorem copen_any (s : ByteArray) (w : World) (hn : s.size ≤ 1048576) :
    Calls Tryd.prog 31 #[.string s] w fun e w' => e = .returned (.tuple #[.string (openT s), .int .i64 ((openE s : Nat) : Int)]) ∧ Below w.heap.size w w' := by
  by_cases h4 : s.size < 4
  · have h4' : (s.size : Int) < 4 := by omega
    have HE := hide (open_short h4)
    clear h4
    go_enter Tryd.func31, Tryd.ntmps31
    go_wp2
    go_ret2
    exact ⟨ret_pair (unhide HE).2.symm (by rw [(unhide HE).1]; rfl), Below.refl _ _⟩
  · have h4' : decide ((s.size : Int) < 4) = false := by rw [decide_eq_false_iff_not]; omega
    have hh := headS_size s (by omega)
    have hti : ((s.size : Int) - 4).toNat = s.size - 4 := by omega
    have hle0 : (0 : Int) ≤ (s.size : Int) - 4 := by omega
    have hle1 : (s.size : Int) - 4 ≤ (s.size : Int) := by omega
    have hhd : s.extract 0 (s.size - 4) = headS s := rfl
    have hlt : s.extract (s.size - 4) s.size = lastS s := rfl
    have cT := quietC (W := w) (fun w' _ => ctail_any (headS s) w' (by omega))
    have cC : ∀ w', Calls Tryd.prog 52 #[.string (headS s)] w' fun e w'' => e = .returned (.string (headS s)) ∧ Below w'.heap.size w' w'' := fun w' => sclone_any (headS s) w' (by omega)
    have HC := hide cC
    clear cC
    by_cases hl : lastS s = tailS (headS s)
    · have HE := hide (open_yes h4 hl)
      have hq : ((lastS s).toList == (st (be4 (sumS (headS s)))).toList) = true := by
        rw [eq_texts, decide_eq_true (show lastS s = st (be4 (sumS (headS s))) from hl)]
      clear h4 hl
      generalize headS s = h at *
      generalize lastS s = l at *
      generalize st (be4 (sumS h)) = t at *
      go_enter Tryd.func31, Tryd.ntmps31
      go_wp2_with fail
      refine wp_region_quiet_below (by kernel_rfl) (by kernel_rfl) ?_
      repeat (with_reducible refine wpQuiet_step (fun K hK => ?_); go_simp; first | (with_reducible refine hK _ ?_; clear hK K) | (apply Exists.intro; apply And.intro; (intro _; go_at_call 48; exact cT _ _); with_reducible refine hK _ ?_; clear hK K))
      refine wpQuiet_nil ?_
      intro _ hw'
      obtain ⟨⟨dq, osq⟩, hw''⟩ := hw'
      subst hw''
      have HB1 := hide (below_regrown w dq osq)
      generalize grow (redrawn w dq) osq = w1 at *
      clear cT
      go_wp2_with fail
      refine (unhide HC _).mono ?_
      rintro e w2 ⟨rfl, hb2⟩
      have HB2 := hide (below0 (unhide HB1) hb2)
      clear hb2 HB1
      go_wp2
      go_ret2
      exact ⟨ret_pair (unhide HE).2.symm (by rw [(unhide HE).1]; rfl), unhide HB2⟩
    · have HE := hide (open_no h4 hl)
      have hq : ((lastS s).toList == (st (be4 (sumS (headS s)))).toList) = false := by
        rw [eq_texts, decide_eq_false (show ¬ lastS s = st (be4 (sumS (headS s))) from hl)]
      clear h4 hl
      generalize headS s = h at *
      generalize lastS s = l at *
      generalize st (be4 (sumS h)) = t at *
      go_enter Tryd.func31, Tryd.ntmps31
      go_wp2_with fail
      refine wp_region_quiet_below (by kernel_rfl) (by kernel_rfl) ?_
      repeat (with_reducible refine wpQuiet_step (fun K hK => ?_); go_simp; first | (with_reducible refine hK _ ?_; clear hK K) | (apply Exists.intro; apply And.intro; (intro _; go_at_call 48; exact cT _ _); with_reducible refine hK _ ?_; clear hK K))
      refine wpQuiet_nil ?_
      intro _ hw'
      obtain ⟨⟨dq, osq⟩, hw''⟩ := hw'
      subst hw''
      have HB1 := hide (below_regrown w dq osq)
      generalize grow (redrawn w dq) osq = w1 at *
      clear cT
      go_wp2
      go_ret2
      exact ⟨ret_pair (unhide HE).2.symm (by rw [(unhide HE).1]; rfl), unhide HB1⟩

set_option maxHeartbeats 1000000 in
theorem ropen_any (s : ByteArray) (w : World) (hn : s.size ≤ 1048576) :
    Calls Tryd.prog 34 #[.string s] w fun e w' => e = .returned (.tuple #[.string (openT s), .int .i64 ((openE s : Nat) : Int)]) ∧ Below w.heap.size w w' := by
  by_cases h4 : s.size < 4
  · have h4' : (s.size : Int) < 4 := by omega
    have HE := hide (open_short h4)
    clear h4
    go_enter Tryd.func34, Tryd.ntmps34
    go_wp2
    go_ret2
    exact ⟨ret_pair (unhide HE).2.symm (by rw [(unhide HE).1]; rfl), Below.refl _ _⟩
  · have h4' : decide ((s.size : Int) < 4) = false := by rw [decide_eq_false_iff_not]; omega
    have hh := headS_size s (by omega)
    have hti : ((s.size : Int) - 4).toNat = s.size - 4 := by omega
    have hle0 : (0 : Int) ≤ (s.size : Int) - 4 := by omega
    have hle1 : (s.size : Int) - 4 ≤ (s.size : Int) := by omega
    have hhd : s.extract 0 (s.size - 4) = headS s := rfl
    have HS := hide (fun w' => rseal_any (headS s) w' (by omega))
    have hiff := seal_iff s (by omega)
    by_cases hl : lastS s = tailS (headS s)
    · have HE := hide (open_yes h4 hl)
      have hq : ((sealS (headS s)).toList == s.toList) = true := by rw [eq_texts, decide_eq_true (hiff.2 hl)]
      clear h4 hl hiff
      generalize sealS (headS s) = t at *
      generalize headS s = h at *
      go_enter Tryd.func34, Tryd.ntmps34
      go_wp2_with fail
      refine (unhide HS _).mono ?_
      rintro e w2 ⟨rfl, hb2⟩
      have HB2 := hide hb2
      clear hb2
      go_wp2
      go_ret2
      exact ⟨ret_pair (unhide HE).2.symm (by rw [(unhide HE).1]; rfl), unhide HB2⟩
    · have HE := hide (open_no h4 hl)
      have hq : ((sealS (headS s)).toList == s.toList) = false := by rw [eq_texts, decide_eq_false (fun e => hl (hiff.1 e))]
      clear h4 hl hiff
      generalize sealS (headS s) = t at *
      generalize headS s = h at *
      go_enter Tryd.func34, Tryd.ntmps34
      go_wp2_with fail
      refine (unhide HS _).mono ?_
      rintro e w2 ⟨rfl, hb2⟩
      have HB2 := hide hb2
      clear hb2
      go_wp2
      go_ret2
      exact ⟨ret_pair (unhide HE).2.symm (by rw [(unhide HE).1]; rfl), unhide HB2⟩
end Go.Proofs.YtjgckchddllinaaDoor
