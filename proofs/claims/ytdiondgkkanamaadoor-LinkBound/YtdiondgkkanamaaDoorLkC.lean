/-
  Contracts of link.taken over the link's own functions, and of link.Pump, of a link that is there and of none. No condition.
-/
import Derived.Test.YtdiondgkkanamaaDoorLkB
namespace Go.Proofs.YtdiondgkkanamaaDoor
open Go.RowKit Go.Conc
set_option linter.unusedVariables false
set_option maxRecDepth 4000

/-- How many may go. -/
def pumpN (L : List ByteArray) (Lv : Int) : Nat := min L.length (Lv / 1000).toNat
theorem pumpN_le (L : List ByteArray) (Lv : Int) : pumpN L Lv ≤ L.length := Nat.min_le_left _ _
theorem pumpN_lev (L : List ByteArray) {Lv : Int} (h : 0 ≤ Lv) : 1000 * (pumpN L Lv : Int) ≤ Lv := by unfold pumpN; omega
theorem pumpN_is {L : List ByteArray} {Lv : Int} {t : Nat} (h1 : t ≤ L.length) (h2 : 1000 * (t : Int) ≤ Lv) (h3 : t = L.length ∨ Lv - 1000 * (t : Int) < 1000) : pumpN L Lv = t := by unfold pumpN; omega
/-- How long a slice is. -/
def lenV : Value → Nat
  | .slice _ n _ => n
  | _ => 0
/-- What a pump holds behind t frames. -/
structure TkJ (w wr : World) (g gb gq c : Nat) (M q Lv : Int) (L : List ByteArray) (lo t : Nat) (v : Value) : Prop where
  lk : LkAt wr g gb gq c M q (Lv - 1000 * (t : Int)) (L.drop t) lo
  own : OwnT wr w.heap.size v (L.take t)
  tu : Tu (lkF g gb gq c) w wr
  lt : (g < w.heap.size ∧ gb < w.heap.size) ∧ gq < w.heap.size ∧ c < w.heap.size
theorem OwnT.tuL {F : Nat → Prop} {w w' : World} {B : Nat} {v : Value} {ss : List ByteArray} (h : OwnT w B v ss) (ht : Tu F w w') (hF : ∀ j, B ≤ j → ¬ F j) : OwnT w' B v ss := by
  refine ⟨h.1, ?_⟩
  rcases h.2 with h0 | ⟨g, cap, cur, h1, hg, hgg, r⟩
  · exact .inl h0
  · exact .inr ⟨g, cap, cur, h1, hg, (ht.block g (Array.getElem?_eq_some_iff.1 hgg).1 (hF g hg)).trans hgg, r⟩
theorem TkJ.no {w wr : World} {g gb gq c lo t : Nat} {M q Lv : Int} {L : List ByteArray} {v : Value} (h : TkJ w wr g gb gq c M q Lv L lo t v) {j : Nat} (hj : w.heap.size ≤ j) : ¬ lkF g gb gq c j := fun e => by
  have := h.lt
  rcases e with e | e | e | e <;> omega
theorem take_snocT {L : List ByteArray} {t : Nat} (h : t < L.length) : L.take t ++ [L.getD t ByteArray.empty] = L.take (t + 1) := by
  rw [List.getD_eq_getElem?_getD, List.getElem?_eq_getElem h, Option.getD_some, List.take_append_getElem]
theorem drop_atT {L : List ByteArray} {t : Nat} (h : t < L.length) : L.drop t = L.getD t ByteArray.empty :: L.drop (t + 1) := by
  rw [List.drop_eq_getElem_cons h, List.getD_eq_getElem?_getD, List.getElem?_eq_getElem h]
  rfl
/-- One more has gone. -/
theorem TkJ.next {w wr w1 w2 w3 : World} {g gb gq c lo t : Nat} {M q Lv : Int} {L : List ByteArray} {v v' : Value} (h : TkJ w wr g gb gq c M q Lv L lo t v) (ht : t < L.length)
    (h1 : LkAt w1 g gb gq c M q (Lv - 1000 * (t : Int) - 1000) (L.getD t ByteArray.empty :: L.drop (t + 1)) lo) (t1 : Tu (lkF g gb gq c) wr w1)
    (h2 : QuAt w2 gq c (capN q) (L.drop (t + 1)) lo) (t2 : Tu (quF gq c) w1 w2) (h3 : OwnT w3 w.heap.size v' (L.take t ++ [L.getD t ByteArray.empty])) (b3 : Below w.heap.size w2 w3) : TkJ w w3 g gb gq c M q Lv L lo (t + 1) v' := by
  have hl := h1.que h2 t2
  have hlt := h.lt
  rw [take_snocT ht] at h3
  have e : Lv - 1000 * ((t + 1 : Nat) : Int) = Lv - 1000 * (t : Int) - 1000 := by omega
  refine ⟨?_, h3, ?_, h.lt⟩
  · rw [e]
    exact hl.belowB b3 hlt.1.1 hlt.1.2 hlt.2.1 hlt.2.2
  · refine (lk_trans h.tu (lk_trans t1 (lk_qu t2))).trans (F := lkF g gb gq c) (G := fun j => w.heap.size ≤ j) ⟨b3.os, b3.tape, b3.output, b3.size, fun k hk hn => b3.block k (by omega)⟩ fun j hj hg => by omega
set_option maxHeartbeats 2000000 in
theorem lktaken_any (g gb gq c lo : Nat) (M q Lv : Int) (L : List ByteArray) (w : World) (h : LkAt w g gb gq c M q Lv L lo) :
    Calls Tryd.prog 21 #[.func (.func 22) #[.pointer (some ⟨g, 0, none⟩)] #[], .func (.func 23) #[.pointer (some ⟨gq, 0, none⟩)] #[]] w fun e w' =>
      ∃ b cc, e = .returned (.slice b (pumpN L Lv) cc) ∧ TkJ w w' g gb gq c M q Lv L lo (pumpN L Lv) (.slice b (pumpN L Lv) cc) := by
  have hlen : L.length ≤ 256 := Nat.le_trans h.qu.len h.qu.most
  have HJ0 := hide (show TkJ w w g gb gq c M q Lv L lo 0 (.slice none 0 0) from ⟨by simpa using h, OwnT.nil _ _, Tu.refl _ _, ⟨⟨h.lt.1, h.lt.2.1⟩, h.lt.2.2.1, h.lt.2.2.2⟩⟩)
  have hlv := h.bt.lev.1
  clear h
  go_enter Tryd.func21, Tryd.ntmps21
  go_wp2_with fail
  go_loopw [5] (fun v wr => ∃ (t : Nat) (b : Option Addr) (cc : Nat), v = .slice b t cc ∧ t ≤ L.length ∧ 1000 * (t : Int) ≤ Lv ∧ Hid (TkJ w wr g gb gq c M q Lv L lo t (.slice b t cc))) (fun v _ => L.length - lenV v)
  case atStart => exact ⟨0, none, 0, rfl, Nat.zero_le _, by omega, HJ0⟩
  case round =>
    obtain ⟨t, b, cc, rfl, ht, htl, HJ⟩ := hrel
    clear HJ0
    by_cases hlt : t < L.length
    case neg =>
      obtain rfl : t = L.length := by omega
      have HP := hide (pumpN_is (L := L) (Nat.le_refl _) htl (.inl rfl))
      have HK := hide (unhide HJ).lk
      rw [List.drop_length] at HK
      generalize L.length = n at *
      go_wp2_with (first
        | (go_at_call 22; refine (lkmaygo_none _ _ _ _ _ _ _ _ _ (unhide HK)).mono ?_; rintro e w1 ⟨rfl, hw1⟩; obtain rfl := hw1.symm; clear hw1)
        | fail)
      go_ret
      rw [unhide HP]
      exact ⟨b, cc, rfl, unhide HJ⟩
    by_cases hl2 : Lv - 1000 * (t : Int) < 1000
    case pos =>
      have HP := hide (pumpN_is ht htl (.inr hl2))
      go_wp2_with (first
        | (go_at_call 22; refine (lkmaygo_no _ _ _ _ _ _ _ _ _ _ (unhide HJ).lk (by rw [List.length_drop]; omega) hl2).mono ?_; rintro e w1 ⟨rfl, hw1⟩; obtain rfl := hw1.symm; clear hw1)
        | fail)
      go_ret
      rw [unhide HP]
      exact ⟨b, cc, rfl, unhide HJ⟩
    have HK := hide (unhide HJ).lk
    rw [drop_atT hlt] at HK
    have HY := hide (fun w1 w2 w3 v' h1 t1 h2 t2 h3 b3 => (unhide HJ).next (w1 := w1) (w2 := w2) (w3 := w3) (v' := v') hlt h1 t1 h2 t2 h3 b3)
    have HO := hide (fun w1 (t1 : Tu (lkF g gb gq c) wr w1) w2 (t2 : Tu (quF gq c) w1 w2) => ((unhide HJ).own.tuL (lk_trans t1 (lk_qu t2)) fun j hj => (unhide HJ).no hj))
    have HZ := hide (unhide HJ).tu.size
    have hL1 : (L.take t).length ≤ 1048576 := by rw [List.length_take]; omega
    have hL2 : (L.take t ++ [L.getD t ByteArray.empty]).length = t + 1 := by rw [List.length_append, List.length_take, List.length_singleton]; omega
    generalize L.getD t ByteArray.empty = x at *
    go_wp2_with (first
      | (go_at_call 22; refine (lkmaygo_yes _ _ _ _ _ _ _ _ _ _ (unhide HK) (by rw [List.length_cons]; omega) (by omega)).mono ?_; rintro e w1 ⟨rfl, hm1, ht1⟩; have H1 := hide hm1; have T1 := hide ht1; clear hm1 ht1)
      | (go_at_call 23; refine (qutake_yes _ _ _ _ _ _ _ (unhide H1).qu).mono ?_; rintro e w2 ⟨rfl, hm2, ht2⟩; have H2 := hide hm2; have T2 := hide ht2; have HO2 := hide (unhide HO _ (unhide T1) _ ht2); have HS2 := hide (Nat.le_trans (unhide HZ) (Nat.le_trans (unhide T1).size ht2.size)); clear hm2 ht2)
      | (at_builtin; refine wpList_pushT rfl _ _ rfl w.heap.size (.slice b t cc) (L.take t) x rfl rfl (unhide HO2) (unhide HS2) hL1 ?_; intro v6 w6 ho6 hb6; have HJ6 := hide (unhide HY _ _ _ _ (unhide H1) (unhide T1) (unhide H2) (unhide T2) ho6 hb6); obtain ⟨b6, c6, hv6, -⟩ := ho6.texts; rw [hL2] at hv6; subst hv6; clear ho6 hb6)
      | fail)
    go_roundw
    case rel => exact ⟨t + 1, b6, c6, rfl, by omega, by omega, HJ6⟩
    case measure => simp [lenV]; omega
theorem lkpump_nil (w : World) : Calls Tryd.prog 11 #[.pointer none] w fun e w' => e = .returned (.slice none 0 0) ∧ w' = w := by
  go_enter Tryd.func11, Tryd.ntmps11
  go_wp2
  go_ret
  exact ⟨rfl, rfl⟩
set_option maxHeartbeats 1000000 in
theorem lkpump_any (g gb gq c lo : Nat) (M q Lv : Int) (L : List ByteArray) (w : World) (h : LkAt w g gb gq c M q Lv L lo) :
    Calls Tryd.prog 11 #[.pointer (some ⟨g, 0, none⟩)] w fun e w' =>
      ∃ b cc, e = .returned (.slice b (pumpN L Lv) cc) ∧ TkJ w w' g gb gq c M q Lv L lo (pumpN L Lv) (.slice b (pumpN L Lv) cc) := by
  have hmf : ∀ (fn : Fn) (first cap : Array Value) (w : World), (Instr.makeFunc fn first cap).run Tryd.prog w = .ok (.func fn first cap) w := fun _ _ _ _ => rfl
  have c3 := h.blk.at 3 rfl
  have HK := hide (lktaken_any g gb gq c lo M q Lv L w h)
  clear h
  generalize pumpN L Lv = t at *
  go_enter Tryd.func11, Tryd.ntmps11
  go_wp2_with (first
    | (go_at_call 21; refine (unhide HK).mono ?_; rintro e w1 ⟨b, cc, rfl, hj⟩; have HJ := hide hj; clear hj)
    | fail)
  go_ret
  exact ⟨b, cc, rfl, unhide HJ⟩
end Go.Proofs.YtdiondgkkanamaaDoor
