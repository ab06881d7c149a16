/-
  The walk of QueueOrder: what was taken in comes out in order, and nothing else; what was not is counted. No condition.
-/
import Derived.Test.YtongbbianelfmaaQuE
import Derived.Test.YtongbbianelfmaaTm
namespace Go.Proofs.Ytongbbianelfmaa
open Go.RowKit Go.Conc
set_option linter.unusedVariables false
set_option maxRecDepth 4000

theorem OwnT.tu {F : Nat → Prop} {w w' : World} {B : Nat} {v : Value} {ss : List ByteArray} (h : OwnT w B v ss) (ht : Tu F w w') (hF : ∀ j, B ≤ j → ¬ F j) : OwnT w' B v ss := by
  refine ⟨h.1, ?_⟩
  rcases h.2 with h0 | ⟨g, cap, cur, h1, hg, hgg, r⟩
  · exact .inl h0
  · exact .inr ⟨g, cap, cur, h1, hg, (ht.block g (Array.getElem?_eq_some_iff.1 hgg).1 (hF g hg)).trans hgg, r⟩
theorem OwnT.cellT {w : World} {B n g cap : Nat} {ss : List ByteArray} (h : OwnT w B (.slice (some ⟨g, 0, none⟩) n cap) ss) {i : Nat} (hi : i < n) (hl : ss.length = n) : w.cell? ⟨g, i, none⟩ = some (.string (ss.getD i ByteArray.empty)) := by
  obtain ⟨g', cap', e, _, _, hc, _⟩ := h.at (by omega)
  simp only [Value.slice.injEq, Option.some.injEq, Addr.mk.injEq] at e
  obtain ⟨⟨rfl, _, _⟩, _, _⟩ := e
  exact hc i (by omega)
theorem OwnT.some {w : World} {B n cap : Nat} {b : Option Addr} {ss : List ByteArray} (h : OwnT w B (.slice b n cap) ss) (h0 : 0 < n) (hl : ss.length = n) : ∃ g, b = Option.some ⟨g, 0, none⟩ := by
  obtain ⟨g', cap', e, _, _, _, _⟩ := h.at (by omega)
  simp only [Value.slice.injEq] at e
  exact ⟨g', e.1⟩
/-- A queue of the call's own, and texts behind it. -/
structure QuO (w wr : World) (g c m B : Nat) (L : List ByteArray) (lo : Nat) (v : Value) (M : List ByteArray) : Prop where
  qu : QuAt wr g c m L lo
  own : OwnT wr B v M
  low : Below w.heap.size w wr
  lg : w.heap.size ≤ g
  lc : w.heap.size ≤ c
  gB : g < B
  cB : c < B
  wB : w.heap.size ≤ B
  Bw : B ≤ wr.heap.size
theorem QuO.tu {w wr wx : World} {g c m B lo lo' : Nat} {L L' M : List ByteArray} {v : Value} (h : QuO w wr g c m B L lo v M) (hq : QuAt wx g c m L' lo') (ht : Tu (quF g c) wr wx) : QuO w wx g c m B L' lo' v M :=
  ⟨hq, h.own.tu ht (fun j hj e => by have h1 := h.gB; have h2 := h.cB; rcases e with e | e <;> omega), tu_lowQ h.low ht h.lg h.lc, h.lg, h.lc, h.gB, h.cB, h.wB, Nat.le_trans h.Bw ht.size⟩
theorem QuO.push {w wr wx : World} {g c m B lo : Nat} {L M M' : List ByteArray} {v v' : Value} (h : QuO w wr g c m B L lo v M) (ho : OwnT wx B v' M') (hb : Below B wr wx) : QuO w wx g c m B L lo v' M' :=
  ⟨h.qu.belowB hb h.gB h.cB, ho, h.low.trans (hb.mono h.wB), h.lg, h.lc, h.gB, h.cB, h.wB, Nat.le_trans h.Bw hb.size⟩
theorem QuO.below {w wr wx : World} {g c m B lo : Nat} {L M : List ByteArray} {v : Value} (h : QuO w wr g c m B L lo v M) (hb : Below wr.heap.size wr wx) : QuO w wx g c m B L lo v M :=
  ⟨h.qu.below hb, h.own.below hb, below0 h.low hb, h.lg, h.lc, h.gB, h.cB, h.wB, Nat.le_trans h.Bw hb.size⟩
theorem drop_at {L : List ByteArray} {j : Nat} (h : j < L.length) : L.drop j = L.getD j ByteArray.empty :: L.drop (j + 1) := by
  rw [List.drop_eq_getElem_cons h, List.getD_eq_getElem?_getD, List.getElem?_eq_getElem h]
  rfl
theorem min_runQ (n m k : Nat) (hk : k = min n m) (ts : Array TypeId) (t : TypeId) (w : World) : (Builtin.min_ ts t #[.int .i64 (n : Int), .int .i64 (m : Int)]).run Try.prog w = .ok (.int .i64 (k : Int)) w := by
  rw [run_min_int2]
  congr 2
  split <;> omega
set_option maxHeartbeats 8000000 in
theorem quorder_walk (most : Int) (a : Option Addr) (n cp : Nat) (ss : List ByteArray) (w : World) (h : TextsAt w a n ss) (hn : n ≤ 9223372036854775807) :
    Calls Try.prog 4 #[.int .i64 most, .slice a n cp] w fun e w' => e = .returned (.bool true) ∧ Below w.heap.size w w' := by
  by_cases hf : FewQ ss
  case neg =>
    have HF := hide (few22_no a n cp ss w h hn hf)
    clear h hf
    go_enter Try.func4, Try.ntmps4
    go_wp2_with (first
      | (go_at_call 8; refine (unhide HF).mono ?_; rintro e w1 ⟨rfl, hw1⟩; obtain rfl := hw1.symm; clear hw1)
      | (go_at_call 9; refine (awake_any _).mono ?_; rintro e w1 ⟨rfl, hb1⟩; have HB := hide hb1; clear hb1)
      | fail)
    go_ret
    exact ⟨rfl, unhide HB⟩
  have HF := hide (few22_yes a n cp ss w h hn hf)
  have hl : n ≤ 600 := by have := hf.1; rw [h.1] at this; exact this
  have HW := hide hf
  have HH := hide h
  have HN := hide (qunew_any most w)
  have hcm := max_run most
  have hcr := cap_run most
  have hm := capN_le most
  generalize capN most = m at *
  clear h hf hn
  go_enter Try.func4, Try.ntmps4
  go_wp2_with (first
    | (go_at_call 8; refine (unhide HF).mono ?_; rintro e w1 ⟨rfl, hw1⟩; obtain rfl := hw1.symm; clear hw1)
    | (go_at_call 10; refine (unhide HN).mono ?_; rintro e w1 ⟨g, c, rfl, hg, hc, hm1, hb1⟩; have HJ0 := hide (show QuO w w1 g c m w1.heap.size [] 0 (.slice none 0 0) [] from ⟨hm1, OwnT.nil _ _, hb1, hg, hc, hm1.lt.1, hm1.lt.2, hb1.size, Nat.le_refl _⟩); clear hm1 hb1 hg hc HN)
    | fail)
  clear HF
  generalize w1.heap.size = B at *
  go_loopw [6, 7] (fun v i wr => ∃ (j k lo : Nat) (b : Option Addr) (cc : Nat) (L : List ByteArray), j ≤ n ∧ i = .int .i64 j ∧ v = .slice b k cc ∧ k ≤ 600 ∧ Hid (k = min j m ∧ lo + k = j) ∧ Hid (L.length = k) ∧ Hid (QuO w wr g c m B L lo (.slice b k cc) L)) (fun _ i _ => n - (intOf i).toNat)
  case atStart => exact ⟨0, 0, 0, none, 0, [], Nat.zero_le _, rfl, rfl, Nat.zero_le _, hide (by omega), hide rfl, HJ0⟩
  case round =>
    obtain ⟨j, k, lo, b, cc, L, hj, rfl, rfl, hk6, HK, HL, HJ⟩ := hrel
    clear HJ0
    by_cases hlt : j < n
    case neg =>
      obtain rfl : j = n := by omega
      have hmn := min_runQ j m k (unhide HK).1
      have HLO := hide (fun wx (h : QuAt wx g c m L lo) => qulost_any g c m lo L wx h)
      have hlo : (lo : Int) = (j : Int) - (k : Int) := by have := (unhide HK).2; omega
      have hwr : IntKind.i64.wrap ((j : Int) - (k : Int)) = (j : Int) - (k : Int) := by rw [IntKind.wrap_i64]; omega
      rw [hlo] at HLO
      clear hlo
      go_wp2_with (first
        | (go_at_call 17; refine (unhide HLO _ (unhide HJ).qu).mono ?_; rintro e w2 ⟨rfl, hw2⟩; obtain rfl := hw2.symm; clear hw2)
        | fail)
      clear HLO hmn hwr hcm hcr
      go_loopw [8] (fun i wr => ∃ q : Nat, q ≤ k ∧ i = .int .i64 q ∧ Hid (QuO w wr g c m B (L.drop q) lo (.slice b k cc) L)) (fun i _ => k - (intOf i).toNat)
      case atStart => exact ⟨0, Nat.zero_le _, rfl, HJ⟩
      case round =>
        obtain ⟨q, hq, rfl, HQ⟩ := hrel
        by_cases hqk : q < k
        case neg =>
          obtain rfl : q = k := by omega
          have HQ1 := hide (show QuO w wr g c m B [] lo (.slice b q cc) L by have := unhide HQ; rw [List.drop_of_length_le (by rw [unhide HL]; exact Nat.le_refl _)] at this; exact this)
          clear HQ HJ
          go_wp2_with (first
            | (go_at_call 13; refine (qutake_no _ _ _ _ _ (unhide HQ1).qu).mono ?_; rintro e w4 ⟨rfl, hw4⟩; obtain rfl := hw4.symm; clear hw4)
            | (go_at_call 16; refine (qulen_is _ _ _ _ 0 _ _ (unhide HQ1).qu rfl).mono ?_; rintro e w4 ⟨rfl, hw4⟩; obtain rfl := hw4.symm; clear hw4)
            | (go_at_call 9; refine (awake_any _).mono ?_; rintro e w9 ⟨rfl, hb9⟩; have HB := hide (below0 (unhide HQ1).low hb9); clear hb9)
            | fail)
          go_ret
          exact ⟨rfl, unhide HB⟩
        have hq' : (q : Int) < (k : Int) := by omega
        have HQ1 := hide (show QuO w wr g c m B (L.getD q ByteArray.empty :: L.drop (q + 1)) lo (.slice b k cc) L by have := unhide HQ; rw [drop_at (by rw [unhide HL]; exact hqk)] at this; exact this)
        clear HQ HJ
        obtain ⟨gi, rfl⟩ := (unhide HQ1).own.some (by omega) (unhide HL)
        have HCE := hide (fun wx (h : OwnT wx B (.slice (some ⟨gi, 0, none⟩) k cc) L) => h.cellT hqk (unhide HL))
        generalize L.getD q ByteArray.empty = x at *
        go_wp2_with (first
          | (go_at_call 13; refine (qutake_yes _ _ _ _ _ _ _ (unhide HQ1).qu).mono ?_; rintro e w4 ⟨rfl, hm4, ht4⟩; have HQ4 := hide ((unhide HQ1).tu hm4 ht4); have c4 := unhide HCE _ (unhide HQ4).own; clear hm4 ht4)
          | fail)
        go_roundw
        case rel => exact ⟨q + 1, by omega, by go_num, HQ4⟩
        case measure => simp [intOf]; omega
    have hlt' : (j : Int) < (n : Int) := by omega
    obtain ⟨bl, off, rfl, hc⟩ := (unhide HH).at hlt
    have c0 := ((unhide HJ).low.cell (World.block_lt_of_cell? w _ (hc j hlt))).trans (hc j hlt)
    have HC := hide (fun wx (hx : Below w.heap.size w wx) => (hx.cell (World.block_lt_of_cell? w _ (hc j hlt))).trans (hc j hlt))
    have HX := hide ((unhide HW).at j)
    clear hc HH HW
    generalize ss.getD j ByteArray.empty = x at *
    by_cases hr : k < m
    case neg =>
      have hr : m ≤ k := by omega
      have hl1 : lo ≤ 600 := by have := (unhide HK).2; omega
      have HK2 := hide (show k = min (j + 1) m ∧ lo + 1 + k = j + 1 by have := unhide HK; omega)
      go_wp2_with (first
        | (go_at_call 15; refine (quput_no _ _ _ _ _ _ _ (unhide HJ).qu (unhide HX) (by rw [unhide HL]; exact hr) (by omega)).mono ?_; rintro e w5 ⟨rfl, hm5, ht5⟩; have HJ5 := hide ((unhide HJ).tu hm5 ht5); clear hm5 ht5)
        | fail)
      go_roundw
      case rel => exact ⟨j + 1, k, lo + 1, b, cc, L, by omega, by go_num, rfl, hk6, HK2, HL, HJ5⟩
      case measure => simp [intOf]; omega
    have HK2 := hide (show k + 1 = min (j + 1) m ∧ lo + (k + 1) = j + 1 by have := unhide HK; omega)
    have HP := hide (fun wx (h : QuAt wx g c m L lo) => quput_yes g c m lo L x wx h (unhide HX) (by rw [unhide HL]; exact hr))
    have HL2 := hide (show (L ++ [x]).length = k + 1 by rw [List.length_append, unhide HL]; rfl)
    have HL1 := hide (show L.length ≤ 1048576 by rw [unhide HL]; omega)
    go_wp2_with (first
      | (go_at_call 15; refine (unhide HP _ (unhide HJ).qu).mono ?_; rintro e w5 ⟨rfl, hm5, ht5⟩; have HJ5 := hide ((unhide HJ).tu hm5 ht5); have c5 := unhide HC w5 (unhide HJ5).low; clear hm5 ht5)
      | (at_builtin; refine wpList_pushT rfl _ _ rfl B (.slice b k cc) L x rfl rfl (unhide HJ5).own (unhide HJ5).Bw (unhide HL1) ?_; intro v6 w6 ho6 hb6; have HJ6 := hide ((unhide HJ5).push ho6 hb6); obtain ⟨b6, c6, hv6, -⟩ := ho6.texts; rw [unhide HL2] at hv6; subst hv6; clear ho6 hb6)
      | fail)
    go_roundw
    case rel => exact ⟨j + 1, k + 1, lo, b6, c6, L ++ [x], by omega, by go_num, rfl, by have := (unhide HK2).1; omega, HK2, HL2, HJ6⟩
    case measure => simp [intOf]; omega
end Go.Proofs.Ytongbbianelfmaa
