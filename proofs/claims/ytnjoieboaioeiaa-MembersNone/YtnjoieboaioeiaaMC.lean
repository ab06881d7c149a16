/-
  Contracts of Members.Hear, Alive, Inc, All, of members that are there and of none. No condition.
-/
import Derived.Test.YtnjoieboaioeiaaMB
namespace Go.Proofs.Ytnjoieboaioeiaa
open Go.RowKit Go.Sort
set_option linter.unusedVariables false
set_option maxRecDepth 4000

theorem MbAt.hear {w : World} {g : Nat} {T : Int} {Z : List Int} (h : MbAt w g T Z) {n : Nat} {i t : Int} (hn : n < 8) (hb : hearB Z (n : Int) i t = true) :
    MbAt ((w.setCell ⟨g, 1 + n * 2, none⟩ (.int .i64 i)).setCell ⟨g, 1 + n * 2 + 1, none⟩ (.int .i64 (t + 1))) g T (hearZ Z (n : Int) i t) := by
  refine ⟨?_, h.inv.hear _ _ _, h.tm⟩
  have h1 := h.blk.set (1 + n * 2) (.int .i64 i)
  rw [mbC_set] at h1
  have h2 := h1.set (1 + n * 2 + 1) (.int .i64 (t + 1))
  rw [Nat.add_assoc, mbC_set] at h2
  rw [hearZ_yes hb, Nat.add_assoc]
  exact h2
theorem hearB_of {Z : List Int} {x i t : Int} (hx : nodeB x = true) (ht : timeB t = true) : hearB Z x i t = decide ((memO Z x).1 ≤ i) := by
  unfold hearB; rw [hx, ht]; rfl
theorem tu_of2 {w w1 : World} {g a b : Nat} {u v : Value} (h : Below w.heap.size w w1) : Tu (fun j => j = g) w ((w1.setCell ⟨g, a, none⟩ u).setCell ⟨g, b, none⟩ v) :=
  Tu.after h ((tu_set w1 g a u).trans (tu_set _ g b v) fun _ _ e => e)
set_option maxHeartbeats 2000000 in
theorem mbhear_any (g : Nat) (T : Int) (Z : List Int) (x i t : Int) (w : World) (h : MbAt w g T Z) :
    Calls Try.prog 12 #[.pointer (some ⟨g, 0, none⟩), .int .i64 x, .int .i64 i, .int .i64 t] w fun e w' => e = .returned (.bool (hearB Z x i t)) ∧ MbAt w' g T (hearZ Z x i t) ∧ Tu (fun j => j = g) w w' := by
  by_cases hx : nodeB x = true
  case neg =>
    have hx' : nodeB x = false := by simpa using hx
    have hq : hearB Z x i t = false := by unfold hearB; rw [hx']; rfl
    rw [hearZ_no hq, hq]
    have H := hide h
    clear h
    go_enter Try.func12, Try.ntmps12
    go_wp2_with (go_at_call 23; refine (isnode_any _ _).mono ?_; rintro e w1 ⟨rfl, hw1⟩; obtain rfl := hw1.symm; clear hw1; rw [hx'])
    go_ret
    exact ⟨rfl, unhide H, Tu.refl _ _⟩
  by_cases ht : timeB t = true
  case neg =>
    have ht' : timeB t = false := by simpa using ht
    have hq : hearB Z x i t = false := by unfold hearB; rw [ht', Bool.and_false]; rfl
    rw [hearZ_no hq, hq]
    have H := hide h
    clear h
    go_enter Try.func12, Try.ntmps12
    go_wp2_with (first
      | (go_at_call 23; refine (isnode_any _ _).mono ?_; rintro e w1 ⟨rfl, hw1⟩; obtain rfl := hw1.symm; clear hw1; rw [hx])
      | (go_at_call 24; refine (istime_any _ _).mono ?_; rintro e w1 ⟨rfl, hw1⟩; obtain rfl := hw1.symm; clear hw1; rw [ht']))
    go_ret
    exact ⟨rfl, unhide H, Tu.refl _ _⟩
  have hq := hearB_of (Z := Z) (i := i) hx ht
  obtain ⟨n, hn, rfl⟩ := node_nat hx
  have hm := memO_in Z hn
  obtain ⟨c0, c1⟩ := h.at hn
  have hn' : (n : Int) < 8 := by omega
  have H := hide h
  by_cases hi : (memO Z (n : Int)).1 ≤ i
  case neg =>
    have hq' : hearB Z (n : Int) i t = false := by rw [hq]; exact decide_eq_false hi
    rw [hearZ_no hq', hq']
    have hd : i < (memO Z (n : Int)).1 := by omega
    rw [hm] at hd
    clear h hq hm hi hq'
    simp only at hd
    generalize Z.getD (n * 2) 0 = a at *
    generalize Z.getD (n * 2 + 1) 0 = b at *
    have hdd : decide (i < a) = true := decide_eq_true hd
    go_enter Try.func12, Try.ntmps12
    go_wp2_with (first
      | (go_at_call 23; refine (isnode_any _ _).mono ?_; rintro e w1 ⟨rfl, hw1⟩; obtain rfl := hw1.symm; clear hw1; rw [hx])
      | (go_at_call 24; refine (istime_any _ _).mono ?_; rintro e w1 ⟨rfl, hw1⟩; obtain rfl := hw1.symm; clear hw1; rw [ht])
      | (go_at_call 25; refine (minc_any a b _).mono ?_; rintro e w1 ⟨rfl, hb1⟩; have HB1 := hide hb1; clear hb1))
    go_ret
    exact ⟨rfl, (unhide H).below (unhide HB1), Tu.of_below (unhide HB1)⟩
  have hq' : hearB Z (n : Int) i t = true := by rw [hq]; exact decide_eq_true hi
  have hd : ¬ i < (memO Z (n : Int)).1 := by omega
  rw [hm] at hd
  simp only at hd
  have HF := hide (fun (wx : World) (hb : Below w.heap.size w wx) => (h.below hb).hear hn hq')
  rw [hq']
  have HA := hide (fun (wx : World) (hb : Below w.heap.size w wx) => (show (wx.cell? ⟨g, 1 + n * 2, none⟩ = some (.int .i64 (Z.getD (n * 2) 0)) ∧ wx.cell? ⟨g, 1 + n * 2 + 1, none⟩ = some (.int .i64 (Z.getD (n * 2 + 1) 0))) ∧ wx.frozen? ⟨g, 1 + n * 2, none⟩ = false ∧ wx.frozen? ⟨g, 1 + n * 2 + 1, none⟩ = false from
    ⟨(h.below hb).at hn, (h.below hb).blk.frz _, (h.below hb).blk.frz _⟩))
  generalize hearZ Z (n : Int) i t = Z' at *
  clear h hq hm hi hq' H
  generalize Z.getD (n * 2) 0 = a at *
  generalize Z.getD (n * 2 + 1) 0 = b at *
  have hdd : decide (i < a) = false := decide_eq_false hd
  have htt := timeB_iff.1 ht
  have HN := hide (fun wx => noted_any i t htt wx)
  clear htt hd
  go_enter Try.func12, Try.ntmps12
  go_wp2_with (first
    | (go_at_call 23; refine (isnode_any _ _).mono ?_; rintro e w1 ⟨rfl, hw1⟩; obtain rfl := hw1.symm; clear hw1; rw [hx])
    | (go_at_call 24; refine (istime_any _ _).mono ?_; rintro e w1 ⟨rfl, hw1⟩; obtain rfl := hw1.symm; clear hw1; rw [ht])
    | (go_at_call 25; refine (minc_any a b _).mono ?_; rintro e w1 ⟨rfl, hb1⟩; have HB1 := hide hb1; clear hb1)
    | fail)
  clear c0 c1
  go_region_held3 (fun _ => True) (trivial) (first
    | (go_at_call 26; refine (unhide HN _).mono ?_; rintro e w2 ⟨rfl, hb2⟩; have HB2 := hide (below0 (unhide HB1).drew hb2); obtain ⟨⟨c0, c1⟩, f0, f1⟩ := unhide HA _ (unhide HB2); clear hb2)
    | fail)
  go_wp2
  go_ret
  exact ⟨rfl, unhide HF _ (unhide HB2), tu_of2 (unhide HB2)⟩
theorem mbhear_nil (x i t : Int) (w : World) : Calls Try.prog 12 #[.pointer none, .int .i64 x, .int .i64 i, .int .i64 t] w fun e w' => e = .returned (.bool false) ∧ w' = w := by
  go_enter Try.func12, Try.ntmps12
  go_wp2
  go_ret
  exact ⟨rfl, rfl⟩
end Go.Proofs.Ytnjoieboaioeiaa
