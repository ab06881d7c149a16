/-
  The walk of QueuePlays: any texts put into any queue, one taken ahead of each that is empty, are as the reference's. No condition.
-/
import Derived.Test.YtongbbianelfmaaQuH
import Derived.Deep.RegionHeld3
import Derived.Deep.CutRange
import Derived.BigQuiet
namespace Go.Proofs.Ytongbbianelfmaa
open Go.RowKit Go.Conc
set_option linter.unusedVariables false
set_option maxRecDepth 4000

/-- A queue, and the reference's: its block cb, its texts M behind B. -/
structure QuP (w wr : World) (g c cb m B : Nat) (L : List ByteArray) (lo : Nat) (v : Value) (M : List ByteArray) (lm : Nat) : Prop where
  qu : QuAt wr g c m L lo
  rb : BkA 28 wr cb [.int .i64 (m : Int), .int .i64 (lm : Int), v]
  own : OwnT wr B v M
  low : Below w.heap.size w wr
  lg : w.heap.size ≤ g
  lc : w.heap.size ≤ c
  lb : w.heap.size ≤ cb
  gB : g < B
  cB : c < B
  bB : cb < B
  wB : w.heap.size ≤ B
  Bw : B ≤ wr.heap.size
theorem QuP.below {w wr wx : World} {g c cb m B lo lm : Nat} {L M : List ByteArray} {v : Value} (h : QuP w wr g c cb m B L lo v M lm) (hb : Below wr.heap.size wr wx) : QuP w wx g c cb m B L lo v M lm :=
  ⟨h.qu.below hb, h.rb.below hb, h.own.below hb, below0 h.low hb, h.lg, h.lc, h.lb, h.gB, h.cB, h.bB, h.wB, Nat.le_trans h.Bw hb.size⟩
theorem QuP.neC {w wr : World} {g c cb m B lo lm : Nat} {L M : List ByteArray} {v : Value} (h : QuP w wr g c cb m B L lo v M lm) : cb ≠ c := fun e => by
  obtain ⟨s, r, hk⟩ := h.qu.chn
  have := h.rb
  unfold BkA at this
  rw [e, hk] at this
  cases this
theorem QuP.neG {w wr : World} {g c cb m B lo lm : Nat} {L M : List ByteArray} {v : Value} (h : QuP w wr g c cb m B L lo v M lm) : g ≠ cb := h.qu.blk.ne h.rb (by decide)
theorem QuP.tuQ {w wr wx : World} {g c cb m B lo lm l1 : Nat} {L M L1 : List ByteArray} {v : Value} (h : QuP w wr g c cb m B L lo v M lm) (hq : QuAt wx g c m L1 l1) (ht : Tu (quF g c) wr wx) : QuP w wx g c cb m B L1 l1 v M lm :=
  ⟨hq, h.rb.tu ht (fun e => by rcases e with e | e; exact h.neG e.symm; exact h.neC e), h.own.tu ht (fun j hj e => by have h1 := h.gB; have h2 := h.cB; rcases e with e | e <;> omega), tu_lowQ h.low ht h.lg h.lc, h.lg, h.lc, h.lb, h.gB, h.cB, h.bB, h.wB, Nat.le_trans h.Bw ht.size⟩
theorem rq_tu3 (w : World) (p : Nat) (x y v : Value) : Tu (fun j => j = p) w (((w.setCell ⟨p, 0, none⟩ x).setCell ⟨p, 1, none⟩ y).setCell ⟨p, 2, none⟩ v) :=
  ((tu_set w p 0 x).trans (tu_set _ p 1 y) fun _ _ e => e).trans (tu_set _ p 2 v) fun _ _ e => e
theorem QuP.setR {w wr : World} {g c cb m B lo lm : Nat} {L M : List ByteArray} {v : Value} (h : QuP w wr g c cb m B L lo v M lm) (v' : Value) (M' : List ByteArray) (lm' : Nat) (ho : OwnT wr B v' M') :
    QuP w (((wr.setCell ⟨cb, 0, none⟩ (.int .i64 (m : Int))).setCell ⟨cb, 1, none⟩ (.int .i64 (lm' : Int))).setCell ⟨cb, 2, none⟩ v') g c cb m B L lo v' M' lm' :=
  ⟨h.qu.tu (rq_tu3 _ _ _ _ _) h.neG (fun e => h.neC e.symm), ((h.rb.set 0 _).set 1 _).set 2 _, ho.tu (rq_tu3 _ _ _ _ _) (fun j hj e => by have := h.bB; omega), tu_low h.low (rq_tu3 _ _ _ _ _) h.lb, h.lg, h.lc, h.lb, h.gB, h.cB, h.bB, h.wB, Nat.le_trans h.Bw (rq_tu3 _ _ _ _ _).size⟩
theorem qutake_none (g c m lo : Nat) (w : World) (h : QuAt w g c m [] lo) :
    Calls Try.prog 13 #[.pointer (some ⟨g, 0, none⟩)] w fun e w' => e = .returned (.tuple #[.string ⟨#[]⟩, .bool false]) ∧ QuAt w' g c m [] lo ∧ Tu (quF g c) w w' :=
  (qutake_no g c m lo w h).mono fun e w' ⟨he, hw⟩ => ⟨he, hw ▸ h, hw ▸ Tu.refl _ _⟩
theorem OwnT.tuK {T : TypeId} {w w' : World} {B p : Nat} {v : Value} {ss : List ByteArray} {cs : List Value} (h : OwnT w B v ss) (ht : Tu (fun j => j = p) w w') (hp : BkA T w p cs) (hT : T ≠ 9) : OwnT w' B v ss := by
  refine ⟨h.1, ?_⟩
  rcases h.2 with h0 | ⟨g, cap, cur, h1, hg, hgg, r⟩
  · exact .inl h0
  · exact .inr ⟨g, cap, cur, h1, hg, (ht.block g (Array.getElem?_eq_some_iff.1 hgg).1 (fun e => hp.ne hgg hT e.symm)).trans hgg, r⟩
/-- Put of the reference, in one form. -/
theorem rqput_any (m lo k cc B : Nat) (a : Option Addr) (L : List ByteArray) (s : ByteArray) (w : World) (h : OwnT w B (.slice a k cc) L) (hB : B ≤ w.heap.size) (hl : L.length = k) (hlm : L.length ≤ m) (hm : m ≤ 256) (hlo : lo ≤ 1099511627776) :
    Calls Try.prog 14 #[.agg #[.int .i64 (m : Int), .int .i64 (lo : Int), .slice a k cc], .string s] w fun e w' => ∃ b' c', e = .returned (.tuple #[.agg #[.int .i64 (m : Int), .int .i64 (lostQ m L lo : Int), .slice b' (putQ m L s).length c'], .bool (roomQ m L)]) ∧ OwnT w' B (.slice b' (putQ m L s).length c') (putQ m L s) ∧ Below w.heap.size w w' := by
  by_cases hr : L.length < m
  · rw [roomQ_yes hr, putQ_yes hr, lostQ_yes hr, show (L ++ [s]).length = k + 1 by rw [List.length_append, hl]; rfl]
    exact (rqput_yes m lo k cc B a L s w h hl (by omega) hm).mono fun e w' ⟨b', c', he, ho, hb⟩ => ⟨b', c', he, ho.mono hB, hb⟩
  · have hr' : m ≤ L.length := by omega
    rw [roomQ_no hr', putQ_no hr', lostQ_no hr', hl]
    exact (rqput_no m lo k cc a s w (by omega) (by omega) hlo).mono fun e w' ⟨he, hb⟩ => ⟨a, cc, he, h.below hb, hb⟩
set_option maxHeartbeats 16000000 in
theorem quplays_walk (most : Int) (a : Option Addr) (n cp : Nat) (ss : List ByteArray) (w : World) (h : TextsAt w a n ss) (hn : n ≤ 9223372036854775807) :
    Calls Try.prog 3 #[.int .i64 most, .slice a n cp] w fun e w' => e = .returned (.bool true) ∧ Below w.heap.size w w' := by
  by_cases hf : FewQ ss
  case neg =>
    have HF := hide (few22_no a n cp ss w h hn hf)
    clear h hf
    go_enter Try.func3, Try.ntmps3
    go_wp2_with (first
      | (go_at_call 8; refine (unhide HF).mono ?_; rintro e w1 ⟨rfl, hw1⟩; obtain rfl := hw1.symm; clear hw1)
      | (go_at_call 9; refine (awake_any _).mono ?_; rintro e w1 ⟨rfl, hb1⟩; have HB := hide hb1; clear hb1)
      | fail)
    go_ret
    exact ⟨rfl, unhide HB⟩
  have HF := hide (few22_yes a n cp ss w h hn hf)
  have hl : n ≤ 600 := by have := hf.1; rw [h.1] at this; exact this
  have HW := hide hf
  have HH := hide h
  have HN := hide (fun wx => qunew_any most wx)
  have HR := hide (fun wx => rqnew_any most wx)
  have hm := capN_le most
  generalize capN most = m at *
  clear h hf hn
  go_enter Try.func3, Try.ntmps3
  go_wp2_with (first
    | (go_at_call 8; refine (unhide HF).mono ?_; rintro e w1 ⟨rfl, hw1⟩; obtain rfl := hw1.symm; clear hw1)
    | (go_at_call 10; refine (unhide HN w).mono ?_; rintro e w1 ⟨g, c, rfl, hg, hc, hm1, hb1⟩; have HQ1 := hide hm1; have HB1 := hide hb1; have HG := hide hg; have HC := hide hc; clear hm1 hb1 hg hc)
    | (go_at_call 11; refine (unhide HR w1).mono ?_; rintro e w2 ⟨rfl, hb2⟩; have HJ0 := hide (show QuP w (w2.alloc (.cells #[.int .i64 (m : Int), .int .i64 0, .slice none 0 0] 28)) g c w2.heap.size m (w2.heap.size + 1) [] 0 (.slice none 0 0) [] 0 from
        ⟨((unhide HQ1).below hb2).below (alloc_low _ _), bkA_new 28 w2 [.int .i64 (m : Int), .int .i64 0, .slice none 0 0], OwnT.nil _ _, below0 (below0 (unhide HB1) hb2) (alloc_low _ _), unhide HG, unhide HC, (below0 (unhide HB1) hb2).size, Nat.lt_succ_of_lt ((unhide HQ1).below hb2).lt.1, Nat.lt_succ_of_lt ((unhide HQ1).below hb2).lt.2, Nat.lt_succ_self _, Nat.le_succ_of_le (below0 (unhide HB1) hb2).size, by rw [alloc_size]; exact Nat.le_refl _⟩); clear hb2 HQ1 HB1 HG HC)
    | fail)
  clear HF HN HR
  generalize w2.heap.size + 1 = B at HJ0
  generalize w2.heap.size = cb at *
  go_loopw [7] (fun i wr => ∃ (j k lo : Nat) (b : Option Addr) (cc : Nat) (L : List ByteArray), j ≤ n ∧ i = .int .i64 j ∧ lo ≤ j ∧ Hid (L.length = k) ∧ Hid (QuP w wr g c cb m B L lo (.slice b k cc) L lo)) (fun i _ => n - (intOf i).toNat)
  case atStart => exact ⟨0, 0, 0, none, 0, [], Nat.zero_le _, rfl, Nat.le_refl _, hide rfl, HJ0⟩
  case round =>
    obtain ⟨j, k, lo, b, cc, L, hj, rfl, hlo, HL, HJ⟩ := hrel
    clear HJ0
    by_cases hlt : j < n
    case neg =>
      obtain rfl : j = n := by omega
      go_wp2_with (first
        | (go_at_call 9; refine (awake_any _).mono ?_; rintro e w9 ⟨rfl, hb9⟩; have HB := hide (below0 (unhide HJ).low hb9); clear hb9)
        | fail)
      go_ret
      exact ⟨rfl, unhide HB⟩
    have hlt' : (j : Int) < (n : Int) := by omega
    obtain ⟨bl, off, rfl, hc⟩ := (unhide HH).at hlt
    have c0 := ((unhide HJ).low.cell (World.block_lt_of_cell? w _ (hc j hlt))).trans (hc j hlt)
    have hbl : bl < w.heap.size := World.block_lt_of_cell? w _ (hc j hlt)
    have HC := hide (fun wx (hx : Below w.heap.size w wx) => (hx.cell (World.block_lt_of_cell? w _ (hc j hlt))).trans (hc j hlt))
    have HX := hide ((unhide HW).at j)
    clear hc HH HW
    generalize ss.getD j ByteArray.empty = x at *
    have r0 := (unhide HJ).rb.at 0 rfl
    have r1 := (unhide HJ).rb.at 1 rfl
    have r2 := (unhide HJ).rb.at 2 rfl
    by_cases hx0 : x.toList.isEmpty = true
    case neg =>
      have hx1 : x.toList.isEmpty = false := by simpa using hx0
      clear hx0
      go_wp2_with fail
      have hLm := (unhide HJ).qu.len
      have HRP := hide (fun wx (h : OwnT wx B (.slice b k cc) L) (hB : B ≤ wx.heap.size) => rqput_any m lo k _ B _ L x wx h hB (unhide HL) hLm hm (by omega))
      have HQP := hide (fun wx (h : QuAt wx g c m L lo) => quput_any g c m lo L x wx h (unhide HX) (by omega))
      have hl2 := lostQ_le m L lo
      obtain ⟨k2, hk2⟩ : ∃ k2, (putQ m L x).length = k2 := ⟨_, rfl⟩
      rw [hk2] at HRP
      have HL2 := hide hk2
      clear hk2 hLm
      generalize roomQ m L = b1 at *
      generalize putQ m L x = L2 at *
      generalize lostQ m L lo = lo2 at *
      have HBZ : Hid (Below wr.heap.size wr (wr.drew.alloc (.cells #[.int .i64 0, .int .i64 0, .slice none 0 0] 28))) := hide ((Below.refl _ _).drew.alloc (Nat.le_refl _) _)
      have HBD : Hid (Below wr.heap.size wr wr.drew) := hide (Below.refl _ _).drew
      have hcl : cb < wr.heap.size := (unhide HJ).rb.lt
      have hwl : w.heap.size ≤ wr.heap.size := (unhide HJ).low.size
      have n1 : wr.heap.size ≠ cb := by omega
      have n2 : wr.heap.size ≠ bl := by omega
      go_cut [13, 14] from 23 to 86 (fun p o wx => ∃ pp b2 c2, p = .pointer (some ⟨pp, 0, none⟩) ∧ o = .bool b1 ∧ Hid (BkA 28 wx pp [.int .i64 (m : Int), .int .i64 (lo2 : Int), .slice b2 k2 c2] ∧ OwnT wx B (.slice b2 k2 c2) L2 ∧ Below wr.heap.size wr wx ∧ wr.heap.size ≤ pp))
      case first =>
        go_region_held3 (fun w' => w'.cell? ⟨bl, off + j, none⟩ = some (.string x) ∧ w'.cell? ⟨cb, 0, none⟩ = some (.int .i64 (m : Int)) ∧ w'.cell? ⟨cb, 1, none⟩ = some (.int .i64 (lo : Int)) ∧ w'.cell? ⟨cb, 2, none⟩ = some (.slice b k cc)) (go_keep) (first
          | (go_at_call 14; refine (unhide HRP _ (by first | exact (unhide HJ).own.below (unhide HBD) | exact (unhide HJ).own.below (unhide HBZ)) (by first | exact Nat.le_trans (unhide HJ).Bw (unhide HBD).size | exact Nat.le_trans (unhide HJ).Bw (unhide HBZ).size)).mono ?_; rintro e w5 ⟨b5, c5, rfl, ho5, hb5⟩; have D5 := hide (show Below wr.heap.size wr w5 from below0 (by first | exact unhide HBD | exact unhide HBZ) hb5); have HO5 := hide ho5; (first | (have X5 := hide (show BkA 28 w5 wr.heap.size [.int .i64 0, .int .i64 0, .slice none 0 0] from (bkA_new 28 wr.drew [.int .i64 0, .int .i64 0, .slice none 0 0]).below hb5); have x0 := (unhide X5).at 0 rfl; have x1 := (unhide X5).at 1 rfl; have x2 := (unhide X5).at 2 rfl; have xf0 := (unhide X5).frz 0; have xf1 := (unhide X5).frz 1; have xf2 := (unhide X5).frz 2) | skip); have hJ5 := (unhide HJ).below (unhide D5); have t0 := hJ5.rb.at 0 rfl; have t1 := hJ5.rb.at 1 rfl; have t2 := hJ5.rb.at 2 rfl; have d0 := unhide HC w5 hJ5.low; have n3 : w5.heap.size ≠ cb := Nat.ne_of_gt hJ5.rb.lt; have n4 : w5.heap.size ≠ bl := Nat.ne_of_gt (Nat.lt_of_lt_of_le hbl hJ5.low.size); clear ho5 hb5 hJ5)
          | fail)
        all_goals (try go_wp2_with fail)
        all_goals go_meet
        all_goals first
          | (have hx5 := unhide X5; exact ⟨wr.heap.size, b5, c5, rfl, rfl, hide ⟨((hx5.set 0 _).set 1 _).set 2 _, (unhide HO5).tuK (rq_tu3 _ _ _ _ _) hx5 (by decide), (unhide D5).trans ((rq_tu3 _ _ _ _ _).below (unhide D5).size (fun i hi e => by omega)), Nat.le_refl _⟩⟩)
          | exact ⟨w5.heap.size, b5, c5, rfl, rfl, hide ⟨bkA_new 28 w5 _, (unhide HO5).below (alloc_low w5 _), below0 (unhide D5) (alloc_low w5 _), (unhide D5).size⟩⟩
      case rest =>
        obtain ⟨pp, b2, c2, rfl, rfl, HQ⟩ := hcut
        have hJ9 := (unhide HJ).below (unhide HQ).2.2.1
        have p0 := (unhide HQ).1.at 0 rfl
        have p1 := (unhide HQ).1.at 1 rfl
        have p2 := (unhide HQ).1.at 2 rfl
        have u0 := hJ9.rb.at 0 rfl
        have u1 := hJ9.rb.at 1 rfl
        have u2 := hJ9.rb.at 2 rfl
        have v0 := hJ9.rb.frz 0
        have v1 := hJ9.rb.frz 1
        have v2 := hJ9.rb.frz 2
        have HJ9 := hide (hJ9.setR (.slice b2 k2 c2) L2 lo2 (unhide HQ).2.1)
        generalize hF : ((wc.setCell ⟨cb, 0, none⟩ (.int .i64 (m : Int))).setCell ⟨cb, 1, none⟩ (.int .i64 (lo2 : Int))).setCell ⟨cb, 2, none⟩ (.slice b2 k2 c2) = w9 at HJ9
        have y1 := (unhide HJ9).rb.at 1 rfl
        have y2 := (unhide HJ9).rb.at 2 rfl
        have y5 := unhide HC w9 (unhide HJ9).low
        clear hJ9 r0 r1 r2 c0 n1 n2 HBZ HBD HQ HRP
        go_wp2_with fail
        go_region_held3 (fun w' => w'.cell? ⟨bl, off + j, none⟩ = some (.string x) ∧ w'.cell? ⟨cb, 1, none⟩ = some (.int .i64 (lo2 : Int)) ∧ w'.cell? ⟨cb, 2, none⟩ = some (.slice b2 k2 c2)) (go_keep) (first
          | (go_at_call 15; refine (unhide HQP _ ((unhide HJ9).below (Below.refl _ _).drew).qu).mono ?_; rintro e w10 ⟨rfl, hm10, ht10⟩; have HJ10 := hide (((unhide HJ9).below (Below.refl _ _).drew).tuQ hm10 ht10); have z1 := (unhide HJ10).rb.at 1 rfl; have z2 := (unhide HJ10).rb.at 2 rfl; have z5 := unhide HC w10 (unhide HJ10).low; clear hm10 ht10)
          | (go_at_call 16; refine (qulen_is _ _ _ _ k2 _ _ (unhide HJ10).qu (unhide HL2)).mono ?_; rintro e w11 ⟨rfl, hw11⟩; obtain rfl := hw11.symm; clear hw11)
          | (go_at_call 17; refine (qulost_is _ _ _ _ lo2 _ _ (unhide HJ10).qu rfl).mono ?_; rintro e w11 ⟨rfl, hw11⟩; obtain rfl := hw11.symm; clear hw11)
          | fail)
        all_goals go_wp2_with fail
        all_goals
          go_roundw
          case rel => exact ⟨j + 1, k2, lo2, b2, c2, L2, by omega, by go_num, by omega, HL2, HJ10⟩
          case measure => simp [intOf]; omega
    cases L with
    | nil =>
      obtain rfl : k = 0 := (unhide HL).symm
      go_wp2_with (first
        | (go_at_call 12; refine (rqtake_no m lo cc b _).mono ?_; rintro e w4 ⟨rfl, hb4⟩; have ho5 := ((unhide HJ).own.below hb4).below (alloc_low w4 (.cells #[.int .i64 (m : Int), .int .i64 (lo : Int), .slice b 0 cc] 28)); have hJ5 := ((unhide HJ).below hb4).below (alloc_low w4 (.cells #[.int .i64 (m : Int), .int .i64 (lo : Int), .slice b 0 cc] 28)); have u0 := hJ5.rb.at 0 rfl; have u1 := hJ5.rb.at 1 rfl; have u2 := hJ5.rb.at 2 rfl; have v0 := hJ5.rb.frz 0; have v1 := hJ5.rb.frz 1; have v2 := hJ5.rb.frz 2; have hlc : cb < w4.heap.size := ((unhide HJ).below hb4).rb.lt; have n7 : cb ≠ w4.heap.size := Nat.ne_of_lt hlc; have n8 : w4.heap.size ≠ cb := Nat.ne_of_gt hlc; have HJ6 := hide (hJ5.setR (.slice b 0 cc) [] lo ho5); clear hb4 hJ5 ho5 hlc r0 r1 r2 c0)
        | (go_at_call 13; refine (qutake_none _ _ _ _ _ (unhide HJ6).qu).mono ?_; rintro e w7 ⟨rfl, hm7, ht7⟩; have HJ7 := hide ((unhide HJ6).tuQ hm7 ht7); have r0 := (unhide HJ7).rb.at 0 rfl; have r1 := (unhide HJ7).rb.at 1 rfl; have r2 := (unhide HJ7).rb.at 2 rfl; have c0 := unhide HC w7 (unhide HJ7).low; clear hm7 ht7 HJ6 u0 u1 u2 v0 v1 v2 n7 n8)
        | fail)
      have hLm := (unhide HJ7).qu.len
      have HRP := hide (fun wx (h : OwnT wx B (.slice b 0 cc) []) (hB : B ≤ wx.heap.size) => rqput_any m lo 0 _ B _ [] x wx h hB (unhide HL) hLm hm (by omega))
      have HQP := hide (fun wx (h : QuAt wx g c m [] lo) => quput_any g c m lo [] x wx h (unhide HX) (by omega))
      have hl2 := lostQ_le m [] lo
      obtain ⟨k2, hk2⟩ : ∃ k2, (putQ m [] x).length = k2 := ⟨_, rfl⟩
      rw [hk2] at HRP
      have HL2 := hide hk2
      clear hk2 hLm
      generalize roomQ m [] = b1 at *
      generalize putQ m [] x = L2 at *
      generalize lostQ m [] lo = lo2 at *
      have HBZ : Hid (Below w7.heap.size w7 (w7.drew.alloc (.cells #[.int .i64 0, .int .i64 0, .slice none 0 0] 28))) := hide ((Below.refl _ _).drew.alloc (Nat.le_refl _) _)
      have HBD : Hid (Below w7.heap.size w7 w7.drew) := hide (Below.refl _ _).drew
      have hcl : cb < w7.heap.size := (unhide HJ7).rb.lt
      have hwl : w.heap.size ≤ w7.heap.size := (unhide HJ7).low.size
      have n1 : w7.heap.size ≠ cb := by omega
      have n2 : w7.heap.size ≠ bl := by omega
      go_cut [13, 14] from 23 to 86 (fun p o wx => ∃ pp b2 c2, p = .pointer (some ⟨pp, 0, none⟩) ∧ o = .bool b1 ∧ Hid (BkA 28 wx pp [.int .i64 (m : Int), .int .i64 (lo2 : Int), .slice b2 k2 c2] ∧ OwnT wx B (.slice b2 k2 c2) L2 ∧ Below w7.heap.size w7 wx ∧ w7.heap.size ≤ pp))
      case first =>
        go_region_held3 (fun w' => w'.cell? ⟨bl, off + j, none⟩ = some (.string x) ∧ w'.cell? ⟨cb, 0, none⟩ = some (.int .i64 (m : Int)) ∧ w'.cell? ⟨cb, 1, none⟩ = some (.int .i64 (lo : Int)) ∧ w'.cell? ⟨cb, 2, none⟩ = some (.slice b 0 cc)) (go_keep) (first
          | (go_at_call 14; refine (unhide HRP _ (by first | exact (unhide HJ7).own.below (unhide HBD) | exact (unhide HJ7).own.below (unhide HBZ)) (by first | exact Nat.le_trans (unhide HJ7).Bw (unhide HBD).size | exact Nat.le_trans (unhide HJ7).Bw (unhide HBZ).size)).mono ?_; rintro e w5 ⟨b5, c5, rfl, ho5, hb5⟩; have D5 := hide (show Below w7.heap.size w7 w5 from below0 (by first | exact unhide HBD | exact unhide HBZ) hb5); have HO5 := hide ho5; (first | (have X5 := hide (show BkA 28 w5 w7.heap.size [.int .i64 0, .int .i64 0, .slice none 0 0] from (bkA_new 28 w7.drew [.int .i64 0, .int .i64 0, .slice none 0 0]).below hb5); have x0 := (unhide X5).at 0 rfl; have x1 := (unhide X5).at 1 rfl; have x2 := (unhide X5).at 2 rfl; have xf0 := (unhide X5).frz 0; have xf1 := (unhide X5).frz 1; have xf2 := (unhide X5).frz 2) | skip); have hJ5 := (unhide HJ7).below (unhide D5); have t0 := hJ5.rb.at 0 rfl; have t1 := hJ5.rb.at 1 rfl; have t2 := hJ5.rb.at 2 rfl; have d0 := unhide HC w5 hJ5.low; have n3 : w5.heap.size ≠ cb := Nat.ne_of_gt hJ5.rb.lt; have n4 : w5.heap.size ≠ bl := Nat.ne_of_gt (Nat.lt_of_lt_of_le hbl hJ5.low.size); clear ho5 hb5 hJ5)
          | fail)
        all_goals (try go_wp2_with fail)
        all_goals go_meet
        all_goals first
          | (have hx5 := unhide X5; exact ⟨w7.heap.size, b5, c5, rfl, rfl, hide ⟨((hx5.set 0 _).set 1 _).set 2 _, (unhide HO5).tuK (rq_tu3 _ _ _ _ _) hx5 (by decide), (unhide D5).trans ((rq_tu3 _ _ _ _ _).below (unhide D5).size (fun i hi e => by omega)), Nat.le_refl _⟩⟩)
          | exact ⟨w5.heap.size, b5, c5, rfl, rfl, hide ⟨bkA_new 28 w5 _, (unhide HO5).below (alloc_low w5 _), below0 (unhide D5) (alloc_low w5 _), (unhide D5).size⟩⟩
      case rest =>
        obtain ⟨pp, b2, c2, rfl, rfl, HQ⟩ := hcut
        have hJ9 := (unhide HJ7).below (unhide HQ).2.2.1
        have p0 := (unhide HQ).1.at 0 rfl
        have p1 := (unhide HQ).1.at 1 rfl
        have p2 := (unhide HQ).1.at 2 rfl
        have u0 := hJ9.rb.at 0 rfl
        have u1 := hJ9.rb.at 1 rfl
        have u2 := hJ9.rb.at 2 rfl
        have v0 := hJ9.rb.frz 0
        have v1 := hJ9.rb.frz 1
        have v2 := hJ9.rb.frz 2
        have HJ9 := hide (hJ9.setR (.slice b2 k2 c2) L2 lo2 (unhide HQ).2.1)
        generalize hF : ((wc.setCell ⟨cb, 0, none⟩ (.int .i64 (m : Int))).setCell ⟨cb, 1, none⟩ (.int .i64 (lo2 : Int))).setCell ⟨cb, 2, none⟩ (.slice b2 k2 c2) = w9 at HJ9
        have y1 := (unhide HJ9).rb.at 1 rfl
        have y2 := (unhide HJ9).rb.at 2 rfl
        have y5 := unhide HC w9 (unhide HJ9).low
        clear hJ9 r0 r1 r2 c0 n1 n2 HBZ HBD HQ HRP
        go_wp2_with fail
        go_region_held3 (fun w' => w'.cell? ⟨bl, off + j, none⟩ = some (.string x) ∧ w'.cell? ⟨cb, 1, none⟩ = some (.int .i64 (lo2 : Int)) ∧ w'.cell? ⟨cb, 2, none⟩ = some (.slice b2 k2 c2)) (go_keep) (first
          | (go_at_call 15; refine (unhide HQP _ ((unhide HJ9).below (Below.refl _ _).drew).qu).mono ?_; rintro e w10 ⟨rfl, hm10, ht10⟩; have HJ10 := hide (((unhide HJ9).below (Below.refl _ _).drew).tuQ hm10 ht10); have z1 := (unhide HJ10).rb.at 1 rfl; have z2 := (unhide HJ10).rb.at 2 rfl; have z5 := unhide HC w10 (unhide HJ10).low; clear hm10 ht10)
          | (go_at_call 16; refine (qulen_is _ _ _ _ k2 _ _ (unhide HJ10).qu (unhide HL2)).mono ?_; rintro e w11 ⟨rfl, hw11⟩; obtain rfl := hw11.symm; clear hw11)
          | (go_at_call 17; refine (qulost_is _ _ _ _ lo2 _ _ (unhide HJ10).qu rfl).mono ?_; rintro e w11 ⟨rfl, hw11⟩; obtain rfl := hw11.symm; clear hw11)
          | fail)
        all_goals go_wp2_with fail
        all_goals
          go_roundw
          case rel => exact ⟨j + 1, k2, lo2, b2, c2, L2, by omega, by go_num, by omega, HL2, HJ10⟩
          case measure => simp [intOf]; omega
    | cons s1 L1 =>
      have hkm := (unhide HJ).qu.len
      obtain ⟨k1, hk1⟩ : ∃ k1, L1.length = k1 := ⟨_, rfl⟩
      have hL := unhide HL
      rw [List.length_cons, hk1] at hL
      rw [List.length_cons, hk1] at hkm
      obtain rfl := hL
      have HL := hide hk1
      clear hk1
      go_wp2_with (first
        | (go_at_call 12; refine (rqtake_yes m lo k1 cc B b s1 L1 _ (unhide HJ).own (unhide HL) (by omega)).mono ?_; rintro e w4 ⟨b4, c4, rfl, ho4, hb4⟩; have ho5 := (ho4.mono (unhide HJ).Bw).below (alloc_low w4 (.cells #[.int .i64 (m : Int), .int .i64 (lo : Int), .slice b4 k1 c4] 28)); have hJ5 := ((unhide HJ).below hb4).below (alloc_low w4 (.cells #[.int .i64 (m : Int), .int .i64 (lo : Int), .slice b4 k1 c4] 28)); have u0 := hJ5.rb.at 0 rfl; have u1 := hJ5.rb.at 1 rfl; have u2 := hJ5.rb.at 2 rfl; have v0 := hJ5.rb.frz 0; have v1 := hJ5.rb.frz 1; have v2 := hJ5.rb.frz 2; have hlc : cb < w4.heap.size := ((unhide HJ).below hb4).rb.lt; have n7 : cb ≠ w4.heap.size := Nat.ne_of_lt hlc; have n8 : w4.heap.size ≠ cb := Nat.ne_of_gt hlc; have HJ6 := hide (hJ5.setR (.slice b4 k1 c4) L1 lo ho5); clear hb4 hJ5 ho5 hlc r0 r1 r2 c0)
        | (go_at_call 13; refine (qutake_yes _ _ _ _ _ _ _ (unhide HJ6).qu).mono ?_; rintro e w7 ⟨rfl, hm7, ht7⟩; have HJ7 := hide ((unhide HJ6).tuQ hm7 ht7); have r0 := (unhide HJ7).rb.at 0 rfl; have r1 := (unhide HJ7).rb.at 1 rfl; have r2 := (unhide HJ7).rb.at 2 rfl; have c0 := unhide HC w7 (unhide HJ7).low; clear hm7 ht7 HJ6 u0 u1 u2 v0 v1 v2 n7 n8)
        | fail)
      have hLm := (unhide HJ7).qu.len
      have HRP := hide (fun wx (h : OwnT wx B (.slice b4 k1 c4) L1) (hB : B ≤ wx.heap.size) => rqput_any m lo k1 _ B _ L1 x wx h hB (unhide HL) hLm hm (by omega))
      have HQP := hide (fun wx (h : QuAt wx g c m L1 lo) => quput_any g c m lo L1 x wx h (unhide HX) (by omega))
      have hl2 := lostQ_le m L1 lo
      obtain ⟨k2, hk2⟩ : ∃ k2, (putQ m L1 x).length = k2 := ⟨_, rfl⟩
      rw [hk2] at HRP
      have HL2 := hide hk2
      clear hk2 hLm
      generalize roomQ m L1 = b1 at *
      generalize putQ m L1 x = L2 at *
      generalize lostQ m L1 lo = lo2 at *
      have HBZ : Hid (Below w7.heap.size w7 (w7.drew.alloc (.cells #[.int .i64 0, .int .i64 0, .slice none 0 0] 28))) := hide ((Below.refl _ _).drew.alloc (Nat.le_refl _) _)
      have HBD : Hid (Below w7.heap.size w7 w7.drew) := hide (Below.refl _ _).drew
      have hcl : cb < w7.heap.size := (unhide HJ7).rb.lt
      have hwl : w.heap.size ≤ w7.heap.size := (unhide HJ7).low.size
      have n1 : w7.heap.size ≠ cb := by omega
      have n2 : w7.heap.size ≠ bl := by omega
      go_cut [13, 14] from 23 to 86 (fun p o wx => ∃ pp b2 c2, p = .pointer (some ⟨pp, 0, none⟩) ∧ o = .bool b1 ∧ Hid (BkA 28 wx pp [.int .i64 (m : Int), .int .i64 (lo2 : Int), .slice b2 k2 c2] ∧ OwnT wx B (.slice b2 k2 c2) L2 ∧ Below w7.heap.size w7 wx ∧ w7.heap.size ≤ pp))
      case first =>
        go_region_held3 (fun w' => w'.cell? ⟨bl, off + j, none⟩ = some (.string x) ∧ w'.cell? ⟨cb, 0, none⟩ = some (.int .i64 (m : Int)) ∧ w'.cell? ⟨cb, 1, none⟩ = some (.int .i64 (lo : Int)) ∧ w'.cell? ⟨cb, 2, none⟩ = some (.slice b4 k1 c4)) (go_keep) (first
          | (go_at_call 14; refine (unhide HRP _ (by first | exact (unhide HJ7).own.below (unhide HBD) | exact (unhide HJ7).own.below (unhide HBZ)) (by first | exact Nat.le_trans (unhide HJ7).Bw (unhide HBD).size | exact Nat.le_trans (unhide HJ7).Bw (unhide HBZ).size)).mono ?_; rintro e w5 ⟨b5, c5, rfl, ho5, hb5⟩; have D5 := hide (show Below w7.heap.size w7 w5 from below0 (by first | exact unhide HBD | exact unhide HBZ) hb5); have HO5 := hide ho5; (first | (have X5 := hide (show BkA 28 w5 w7.heap.size [.int .i64 0, .int .i64 0, .slice none 0 0] from (bkA_new 28 w7.drew [.int .i64 0, .int .i64 0, .slice none 0 0]).below hb5); have x0 := (unhide X5).at 0 rfl; have x1 := (unhide X5).at 1 rfl; have x2 := (unhide X5).at 2 rfl; have xf0 := (unhide X5).frz 0; have xf1 := (unhide X5).frz 1; have xf2 := (unhide X5).frz 2) | skip); have hJ5 := (unhide HJ7).below (unhide D5); have t0 := hJ5.rb.at 0 rfl; have t1 := hJ5.rb.at 1 rfl; have t2 := hJ5.rb.at 2 rfl; have d0 := unhide HC w5 hJ5.low; have n3 : w5.heap.size ≠ cb := Nat.ne_of_gt hJ5.rb.lt; have n4 : w5.heap.size ≠ bl := Nat.ne_of_gt (Nat.lt_of_lt_of_le hbl hJ5.low.size); clear ho5 hb5 hJ5)
          | fail)
        all_goals (try go_wp2_with fail)
        all_goals go_meet
        all_goals first
          | (have hx5 := unhide X5; exact ⟨w7.heap.size, b5, c5, rfl, rfl, hide ⟨((hx5.set 0 _).set 1 _).set 2 _, (unhide HO5).tuK (rq_tu3 _ _ _ _ _) hx5 (by decide), (unhide D5).trans ((rq_tu3 _ _ _ _ _).below (unhide D5).size (fun i hi e => by omega)), Nat.le_refl _⟩⟩)
          | exact ⟨w5.heap.size, b5, c5, rfl, rfl, hide ⟨bkA_new 28 w5 _, (unhide HO5).below (alloc_low w5 _), below0 (unhide D5) (alloc_low w5 _), (unhide D5).size⟩⟩
      case rest =>
        obtain ⟨pp, b2, c2, rfl, rfl, HQ⟩ := hcut
        have hJ9 := (unhide HJ7).below (unhide HQ).2.2.1
        have p0 := (unhide HQ).1.at 0 rfl
        have p1 := (unhide HQ).1.at 1 rfl
        have p2 := (unhide HQ).1.at 2 rfl
        have u0 := hJ9.rb.at 0 rfl
        have u1 := hJ9.rb.at 1 rfl
        have u2 := hJ9.rb.at 2 rfl
        have v0 := hJ9.rb.frz 0
        have v1 := hJ9.rb.frz 1
        have v2 := hJ9.rb.frz 2
        have HJ9 := hide (hJ9.setR (.slice b2 k2 c2) L2 lo2 (unhide HQ).2.1)
        generalize hF : ((wc.setCell ⟨cb, 0, none⟩ (.int .i64 (m : Int))).setCell ⟨cb, 1, none⟩ (.int .i64 (lo2 : Int))).setCell ⟨cb, 2, none⟩ (.slice b2 k2 c2) = w9 at HJ9
        have y1 := (unhide HJ9).rb.at 1 rfl
        have y2 := (unhide HJ9).rb.at 2 rfl
        have y5 := unhide HC w9 (unhide HJ9).low
        clear hJ9 r0 r1 r2 c0 n1 n2 HBZ HBD HQ HRP
        go_wp2_with fail
        go_region_held3 (fun w' => w'.cell? ⟨bl, off + j, none⟩ = some (.string x) ∧ w'.cell? ⟨cb, 1, none⟩ = some (.int .i64 (lo2 : Int)) ∧ w'.cell? ⟨cb, 2, none⟩ = some (.slice b2 k2 c2)) (go_keep) (first
          | (go_at_call 15; refine (unhide HQP _ ((unhide HJ9).below (Below.refl _ _).drew).qu).mono ?_; rintro e w10 ⟨rfl, hm10, ht10⟩; have HJ10 := hide (((unhide HJ9).below (Below.refl _ _).drew).tuQ hm10 ht10); have z1 := (unhide HJ10).rb.at 1 rfl; have z2 := (unhide HJ10).rb.at 2 rfl; have z5 := unhide HC w10 (unhide HJ10).low; clear hm10 ht10)
          | (go_at_call 16; refine (qulen_is _ _ _ _ k2 _ _ (unhide HJ10).qu (unhide HL2)).mono ?_; rintro e w11 ⟨rfl, hw11⟩; obtain rfl := hw11.symm; clear hw11)
          | (go_at_call 17; refine (qulost_is _ _ _ _ lo2 _ _ (unhide HJ10).qu rfl).mono ?_; rintro e w11 ⟨rfl, hw11⟩; obtain rfl := hw11.symm; clear hw11)
          | fail)
        all_goals go_wp2_with fail
        all_goals
          go_roundw
          case rel => exact ⟨j + 1, k2, lo2, b2, c2, L2, by omega, by go_num, by omega, HL2, HJ10⟩
          case measure => simp [intOf]; omega
end Go.Proofs.Ytongbbianelfmaa
