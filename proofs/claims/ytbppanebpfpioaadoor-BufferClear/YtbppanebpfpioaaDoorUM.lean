/-
  Contracts of bucketlineref07.All of equal packets, of bucketlinelaw17.within.
-/
import Derived.Test.YtbppanebpfpioaaDoorUL
import Derived.Test.YtbppanebpfpioaaDoorM13
namespace Go.Proofs.YtbppanebpfpioaaDoor
open Go.RowKit Go.Sort
set_option linter.unusedVariables false
set_option maxRecDepth 4000

/-- How many of the first i others there are, but for the one at G. -/
def eUp (G i : Nat) : Nat := if G < i then i - 1 else i
theorem erase_at {L : List PD} {G i : Nat} (hi : i ≠ G) : (L.eraseIdx G)[eUp G i]? = L[i]? := by
  unfold eUp
  by_cases h : G < i
  · rw [if_pos h, List.getElem?_eraseIdx_of_ge (by omega), show i - 1 + 1 = i by omega]
  · rw [if_neg h, List.getElem?_eraseIdx_of_lt (by omega)]
theorem eUp_len {L : List PD} {G : Nat} : (L.eraseIdx G).length = eUp G L.length := by
  unfold eUp
  rw [List.length_eraseIdx]
set_option maxHeartbeats 4000000 in
theorem within_any (a : Option Addr) (n c : Nat) (ps : List PKV) (a' : Option Addr) (m c' : Nat) (qs : List PKV) (G : Nat) (w : World) (h : PksAt w a n ps) (h' : PksAt w a' m qs) (he : ps.map PKV.pd = (qs.map PKV.pd).eraseIdx G) (hs : shortK ps) (hs' : shortK qs) (hm : m ≤ 1048576) :
    Calls Tryd.prog 21 #[.slice a n c, .slice a' m c'] w fun e w' => e = .returned (.bool true) ∧ Below w.heap.size w w' := by
  obtain rfl := h.1
  obtain rfl := h'.1
  have hlen : ps.length = eUp G qs.length := by have h1 := congrArg List.length he; rw [List.length_map, eUp_len, List.length_map] at h1; exact h1
  have hl1 : ps.length ≤ qs.length ∧ qs.length ≤ ps.length + 1 := by unfold eUp at hlen; split at hlen <;> omega
  have hd1 : decide (1 < (qs.length : Int) - (ps.length : Int)) = false := by simp only [decide_eq_false_iff_not]; omega
  have H1 := hide h
  have H2 := hide h'
  have HE := hide he
  have HS := hide hs
  have HS' := hide hs'
  have HLN := hide hlen
  clear h h' he hs hs' hlen
  go_enter Tryd.func21, Tryd.ntmps21
  go_wp2
  go_loopw [5, 6] (fun k i wr => ∃ kk ii : Nat, kk ≤ ps.length ∧ ii ≤ qs.length ∧ k = .int .i64 kk ∧ i = .int .i64 ii ∧ Hid (eUp G ii ≤ kk) ∧ Hid (Below w.heap.size w wr)) (fun _ i _ => qs.length - (intOf i).toNat)
  case atStart => exact ⟨0, 0, Nat.zero_le _, Nat.zero_le _, rfl, rfl, hide (by unfold eUp; rw [if_neg (by omega)]; exact Nat.le_refl _), hide (Below.refl _ _)⟩
  case round =>
    obtain ⟨k, i, hk, hi, rfl, rfl, HK, HB⟩ := hrel
    by_cases hlt : i < qs.length
    · have hlt' : (i : Int) < (qs.length : Int) := by omega
      by_cases hlk : k < ps.length
      · have hlk' : (k : Int) < (ps.length : Int) := by omega
        obtain ⟨b, off, rfl, hcl⟩ := ((unhide H1).below (unhide HB)).at hlk
        obtain ⟨b', off', rfl, hcl'⟩ := ((unhide H2).below (unhide HB)).at hlt
        obtain ⟨x0, x1, x2, x3, x4, x5, x6⟩ := hcl k hlk
        obtain ⟨y0, y1, y2, y3, y4, y5, y6⟩ := hcl' i hlt
        have hr1 := ((unhide H1).below (unhide HB)).2.1 k hlk
        have hr2 := ((unhide H2).below (unhide HB)).2.1 i hlt
        have hn1 := unhide HS k hlk
        have hn2 := unhide HS' i hlt
        have hstep : ∀ b : Bool, b = sameD (ps.getD k .dflt).pd (qs.getD i .dflt).pd → eUp G (i + 1) ≤ if b = true then k + 1 else k := fun b hb => by
          have h1 := unhide HK
          by_cases hke : k = eUp G i ∧ i ≠ G
          · have h2 : (ps.getD k .dflt).pd = (qs.getD i .dflt).pd := by
              rw [← pdGet hlk, ← pdGet hlt, List.getD_eq_getElem?_getD, List.getD_eq_getElem?_getD, unhide HE, hke.1, erase_at hke.2]
            rw [h2, sameD_self] at hb
            rw [hb, if_pos rfl]
            unfold eUp at *
            split <;> split at h1 <;> omega
          · have h3 : eUp G (i + 1) ≤ k := by
              unfold eUp at *
              by_cases hg : G < i
              · rw [if_pos hg] at h1 hke
                rw [if_pos (by omega)]
                omega
              · rw [if_neg hg] at h1 hke
                by_cases hg2 : G < i + 1
                · rw [if_pos hg2]; omega
                · rw [if_neg hg2]; omega
            split <;> omega
        have HSt := hide hstep
        generalize ps.getD k .dflt = p at *
        generalize qs.getD i .dflt = q at *
        have cS := quietB (W := wr) (fun w' hb => rpsame_is p q w' (hr1.below hb) (hr2.below hb) hn1 hn2)
        generalize hSB : sameD p.pd q.pd = SB at *
        have CS := hide cS
        have r0 := cell_regrown x0
        have r1 := cell_regrown x1
        have r2 := cell_regrown x2
        have r3 := cell_regrown x3
        have r4 := cell_regrown x4
        have r5 := cell_regrown x5
        have r6 := cell_regrown x6
        have s0 := cell_regrown y0
        have s1 := cell_regrown y1
        have s2 := cell_regrown y2
        have s3 := cell_regrown y3
        have s4 := cell_regrown y4
        have s5 := cell_regrown y5
        have s6 := cell_regrown y6
        have HST := hide (unhide HSt SB rfl)
        clear hcl hcl' cS hr1 hr2 hn1 hn2 x0 x1 x2 x3 x4 x5 x6 y0 y1 y2 y3 y4 y5 y6 hstep HSt hSB
        go_wp2_with fail
        refine wp_region_quiet_below (by kernel_rfl) (by kernel_rfl) ?_
        repeat (with_reducible refine wpQuiet_step (fun K hK => ?_); go_simp; first | (with_reducible refine hK _ ?_; clear hK K) | (apply Exists.intro; apply And.intro; (intro _; (go_at_call 20; exact unhide CS _ _)); with_reducible refine hK _ ?_; clear hK K))
        refine wpQuiet_nil ?_
        intro w3 hw3
        obtain ⟨⟨dq, osq⟩, hw3⟩ := hw3
        have B3 := hide (below0 (unhide HB) (show Below wr.heap.size wr w3 by rw [hw3]; exact below_regrown _ dq osq))
        clear hw3 dq osq r0 r1 r2 r3 r4 r5 r6 s0 s1 s2 s3 s4 s5 s6 CS HB
        cases SB
        · have HK2 : Hid (eUp G (i + 1) ≤ k) := hide (by have := unhide HST; rwa [if_neg (by decide)] at this)
          clear HST
          go_wp2
          go_roundw
          case rel => exact ⟨k, i + 1, by omega, by omega, rfl, by go_num, HK2, B3⟩
          case measure => simp [intOf]; omega
        · have HK2 : Hid (eUp G (i + 1) ≤ k + 1) := hide (by have := unhide HST; rwa [if_pos rfl] at this)
          clear HST
          go_wp2
          go_roundw
          case rel => exact ⟨k + 1, i + 1, by omega, by omega, by go_num, by go_num, HK2, B3⟩
          case measure => simp [intOf]; omega
      · have hke : ((k : Int) == (ps.length : Int)) = true := by rw [beq_iff_eq]; omega
        go_wp2
        go_ret
        exact ⟨rfl, unhide HB⟩
    · have hke : ((k : Int) == (ps.length : Int)) = true := by
        have h1 := unhide HK
        have h2 := unhide HLN
        rw [show i = qs.length by omega] at h1
        rw [beq_iff_eq]
        omega
      go_wp2
      go_ret
      exact ⟨rfl, unhide HB⟩
end Go.Proofs.YtbppanebpfpioaaDoor
