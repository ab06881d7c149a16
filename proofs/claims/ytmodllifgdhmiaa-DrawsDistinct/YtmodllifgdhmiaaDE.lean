/-
  Contract of bucketlineref11's Distinct. Conditions: at most 128 numbers, at most 2^39 draws used.
-/
import Derived.Test.YtmodllifgdhmiaaDD
namespace Go.Proofs.Ytmodllifgdhmiaa
open Go.RowKit
set_option linter.unusedVariables false
set_option maxRecDepth 4000

theorem rdistinct_no (p : Value) (n k : Int) (hn : n < 0 ∨ 128 < n) (w : World) :
    Calls Try.prog 14 #[p, .int .i64 n, .int .i64 k] w fun e w' => e = .returned (.slice none 0 0) ∧ w' = w := by
  rcases hn with hn | hn
  · go_enter Try.func14, Try.ntmps14
    go_wp2
    go_ret
    exact ⟨rfl, rfl⟩
  · have h0 : ¬ n < 0 := by omega
    go_enter Try.func14, Try.ntmps14
    go_wp2
    go_ret
    exact ⟨rfl, rfl⟩

/-- What holds of the marks ahead of a round. -/
def Marks (w wr : World) (b g B : Nat) (L : List Nat) (N n q : Nat) (bs : List Bool) : Prop :=
  OwnF wr w.heap.size (.slice (some ⟨b, 0, none⟩) n n) bs ∧ bs.length = n ∧ untaken bs n = leftL L N (List.range n) q ∧ RfAt wr g B L (N + q) ∧ w.grownBy wr (some g)

set_option maxHeartbeats 4000000 in
theorem rdistinct_any (g B : Nat) (L : List Nat) (N n : Nat) (k : Int) (w : World) (h : RfAt w g B L N) (hL : smalls L) (hB : B ≤ w.heap.size) (hN : N ≤ 549755813888) (hn : n ≤ 128) :
    Calls Try.prog 14 #[.pointer (some ⟨g, 0, none⟩), .int .i64 (n : Int), .int .i64 k] w fun e w' => ∃ v, e = .returned v ∧ OwnZ w' w.heap.size v (castZ (distL L N n (min k.toNat n))) ∧ RfAt w' g B L (N + min k.toNat n) ∧ w.grownBy w' (some g) := by
  have hgB := h.1
  have hm : ∀ i : Nat, i < min k.toNat n ↔ (i : Int) < k ∧ (i : Int) < (n : Int) := fun i => by omega
  have hrn : min k.toNat n ≤ n := Nat.min_le_right _ _
  generalize min k.toNat n = r at *
  have h0 : ¬ ((n : Int) < 0) := by omega
  have h1 : ¬ ((128 : Int) < (n : Int)) := by omega
  have hmk := make_f n (by omega) w
  have hbl : Below w.heap.size w (w.alloc (.cells (madeCells #[.bool false] n) 4)) := (Below.refl _ _).alloc (Nat.le_refl _) _
  have HS := hide (show Marks w (w.alloc (.cells (madeCells #[.bool false] n) 4)) w.heap.size g B L N n 0 (List.replicate n false) from
    ⟨made_f w n (by omega), by simp, untaken_new n, h.below (hbl.mono hB), gb_of_below hbl _⟩)
  have HM := hide hm
  clear h hm hbl
  go_enter Try.func14, Try.ntmps14
  go_wp2
  go_loopw [8] (fun i wr => ∃ q : Nat, q ≤ r ∧ i = .int .i64 q ∧ Hid (∃ bs, Marks w wr w.heap.size g B L N n q bs)) (fun i _ => r - (intOf i).toNat)
  case atStart => exact ⟨0, Nat.zero_le _, rfl, hide ⟨_, unhide HS⟩⟩
  case round =>
    obtain ⟨q, hq, rfl, HR⟩ := hrel
    clear HS
    obtain ⟨bs, hO, hl, hu, hD, hG⟩ := unhide HR
    clear HR
    by_cases hlt : q < r
    · obtain ⟨hqk, hqn⟩ := (unhide HM q).1 hlt
      have hlen : (untaken bs n).length = n - q := by rw [hu, leftL_length _ _ _ _ (by rw [List.length_range]; omega), List.length_range]
      have HX := hide (rbelow_any g B L (N + q) (n - q) ((n : Int) - (q : Int)) (by omega) wr hD hL (by omega) (by omega) (by omega))
      have hj : drawN L (N + q + 1) % (n - q) < (untaken bs n).length := by rw [hlen]; exact Nat.mod_lt _ (by omega)
      have HL := hide (show leftL L N (List.range n) (q + 1) = (untaken bs n).eraseIdx (drawN L (N + q + 1) % (n - q)) from by
        show (leftL L N (List.range n) q).eraseIdx _ = _
        rw [← hu, hlen])
      have HJ := hide hj
      have HO := hide hO
      have HG := hide hG
      have HLen := hide hl
      clear hO hu hD hG hj hlen hl
      generalize drawN L (N + q + 1) % (n - q) = j at *
      go_wp2_with (go_at_call 11; refine (unhide HX).mono ?_; rintro e w2 ⟨rfl, hD2, hG2⟩; have HO2 := hide ((unhide HO).kept hG2 (by omega)); have HG2 := hide (gb_trans (unhide HG) hG2 (.inl rfl)); have HD2 := hide hD2; clear hD2 hG2)
      go_loop [9, 10] (fun jv at' => ∃ t s : Nat, t ≤ n ∧ at' = .int .i64 t ∧ jv = .int .i64 s ∧ Hid (s + (untaken bs t).length = j) ∧ s ≤ 128) (fun _ at' => n - (intOf at').toNat)
      case atStart => exact ⟨0, j, Nat.zero_le _, rfl, rfl, hide rfl, by have := unhide HJ; have h5 : (untaken bs n).length ≤ n := (by have := List.length_filter_le (fun i => !bs.getD i false) (List.range n); rwa [List.length_range] at this); omega⟩
      case round =>
        obtain ⟨t, s, ht, rfl, rfl, HT, hs⟩ := hrel
        by_cases htn : t < n
        · obtain ⟨_, hgs, hc, hf⟩ := (unhide HO2).at
          have hcell := hc t (by rw [unhide HLen]; exact htn)
          have hfz := hf t
          have htn' : (t : Int) < (n : Int) := by omega
          cases hb : bs.getD t false with
          | true =>
            rw [hb] at hcell
            have HT2 := hide (show s + (untaken bs (t + 1)).length = j by rw [untaken_no hb]; exact unhide HT)
            clear hc hf hb HT
            go_wp2
            go_round
            case rel => exact ⟨t + 1, s, by omega, by go_num, rfl, HT2, hs⟩
            case measure => simp [intOf]; omega
          | false =>
            rw [hb] at hcell
            by_cases hs0 : s = 0
            · subst hs0
              have hMk : Marks w (w2.setCell ⟨w.heap.size, t, none⟩ (.bool true)) w.heap.size g B L N n (q + 1) (bs.set t true) := by
                refine ⟨(unhide HO2).stored t true, by rw [List.length_set]; exact unhide HLen, ?_, (unhide HD2).below ((Below.refl B w2).setCell (p := ⟨w.heap.size, t, none⟩) hB _), ?_⟩
                · have hT := unhide HT
                  rw [Nat.zero_add] at hT
                  rw [untaken_set bs n t (unhide HLen) htn hb, hT, unhide HL]
                · exact gb_then (unhide HG2) ((Below.refl w.heap.size w2).setCell (p := ⟨w.heap.size, t, none⟩) (Nat.le_refl _) _)
              have HMk := hide hMk
              clear hc hf hb HT hMk
              go_wp2
              go_roundw
              case rel => exact ⟨q + 1, by omega, by go_num, hide ⟨_, unhide HMk⟩⟩
              case measure => simp [intOf]; omega
            · have hs1 : ¬ ((s : Int) = 0) := by omega
              have HT2 := hide (show (s - 1) + (untaken bs (t + 1)).length = j by rw [untaken_yes hb, List.length_append]; have := unhide HT; simp only [List.length_cons, List.length_nil]; omega)
              clear hc hf hb HT
              go_wp2
              go_round
              case rel => exact ⟨t + 1, s - 1, by omega, by go_num, by go_num, HT2, by omega⟩
              case measure => simp [intOf]; omega
        · exfalso
          obtain rfl : t = n := by omega
          have h1 := unhide HT
          have h2 := unhide HJ
          omega
    · obtain rfl : q = r := by omega
      have hnq := unhide HM q
      have hcases : ¬ ((q : Int) < k) ∨ ((q : Int) < k ∧ ¬ ((q : Int) < (n : Int))) := by
        by_cases h5 : (q : Int) < k
        · exact .inr ⟨h5, fun h6 => hlt (hnq.2 ⟨h5, h6⟩)⟩
        · exact .inl h5
      obtain ⟨wo, rfl⟩ : ∃ wo, wo = wr := ⟨wr, rfl⟩
      obtain ⟨_, hgs, hc, hf⟩ := hO.at
      have HC := hide (fun (wx : World) (hb : Below wo.heap.size wo wx) (t : Nat) (ht : t < n) => (hb.cell (p := ⟨w.heap.size, t, none⟩) hgs).trans (hc t (by rw [hl]; exact ht)))
      have HE := hide (marked_dist hu)
      have HD := hide hD
      have HG := hide hG
      clear hO hl hu hD hG hc hf hgs HM hnq
      rcases hcases with hqk | ⟨hqk, hqn⟩
      all_goals
        go_wp2
        go_loopw [11, 12] (fun o at' wx => ∃ t : Nat, t ≤ n ∧ at' = .int .i64 t ∧ Hid (OwnZ wx wo.heap.size o (castZ (marked bs t)) ∧ Below wo.heap.size wo wx)) (fun _ at' _ => n - (intOf at').toNat)
        case atStart => exact ⟨0, Nat.zero_le _, rfl, hide ⟨OwnZ.nil _ _, Below.refl _ _⟩⟩
        case round =>
          obtain ⟨t, ht, rfl, HR⟩ := hrel
          obtain ⟨hO, hBl⟩ := unhide HR
          by_cases htn : t < n
          · have hcell := unhide HC _ hBl t htn
            have htn' : (t : Int) < (n : Int) := by omega
            have hml : (castZ (marked bs t)).length ≤ 1048576 := by
              rw [castZ_length]
              have := marked_le bs t
              omega
            have hsz := hBl.size
            have HO := hide hO
            have HB2 := hide hBl
            cases hb : bs.getD t false with
            | true =>
              rw [hb] at hcell
              have HMY := hide (marked_yes hb)
              clear hO hBl hb HR
              go_wp2_with (at_builtin; refine wpList_pushZ rfl _ _ rfl wo.heap.size u11 _ (t : Int) rfl rfl (unhide HO) hsz hml ?_; intro s4 w4 ho4 hb4; have HO4 := hide ho4; have HB4 := hide hb4; clear ho4 hb4)
              go_roundw
              case rel =>
                refine ⟨t + 1, by omega, by go_num, hide ⟨?_, (unhide HB2).trans (unhide HB4)⟩⟩
                rw [unhide HMY, castZ_append]
                exact unhide HO4
              case measure => simp [intOf]; omega
            | false =>
              rw [hb] at hcell
              have HMN := hide (marked_no hb)
              clear hO hBl hb HR
              go_wp2
              go_roundw
              case rel =>
                refine ⟨t + 1, by omega, by go_num, hide ⟨?_, unhide HB2⟩⟩
                rw [unhide HMN]
                exact unhide HO
              case measure => simp [intOf]; omega
          · obtain rfl : t = n := by omega
            rw [unhide HE] at hO
            have HO := hide hO
            have HB2 := hide hBl
            clear hO hBl HR HC
            go_wp2
            go_ret
            have hsz := (unhide HG).size
            exact ⟨_, rfl, (unhide HO).mono hsz, (unhide HD).below ((unhide HB2).mono (by omega)), gb_then (unhide HG) ((unhide HB2).mono hsz)⟩
end Go.Proofs.Ytmodllifgdhmiaa
