/-
  Contract of bucketlineref28.way: the way to the first sink that there is one to. Condition: the config can be read.
-/
import Derived.Test.YtljkmajajcocdaaU29
import Derived.Test.YtljkmajajcocdaaU35
namespace Go.Proofs.Ytljkmajajcocdaa
open Go.RowKit Go.Sort Go.Shelf
set_option linter.unusedVariables false
set_option linter.unusedSimpArgs false
set_option maxRecDepth 4000

set_option maxHeartbeats 8000000 in
theorem rway_any (f : CFV) (w : World) (hf : CfIn w f) (hch : ChkR f 0) :
    Calls Try.prog 27 #[f.val] w fun e w' => ∃ v s L, e = .returned v ∧ (s < f.n ∧ kdN f.ds s = 1) ∧ SinkR f s L ∧ OwnZ w' w.heap.size v (natZ L) ∧ Below w.heap.size w w' := by
  obtain ⟨s, hs1, hs2, hs3⟩ := src_one f.n hch.cfg.1.2.2
  have hn8 : f.n ≤ 8 := (stepP_of hch).1.1
  have X := hide (bkA_new 25 w [.slice f.a f.n f.c, .string f.obj, .int .i64 f.size, .int .i64 f.spread, .int .i64 f.buffer, .int .i64 f.queue, .int .i64 f.cache, .float .f64 f.rate, .int .i64 f.timeout, .int .i64 f.target])
  have HB := hide (alloc_low w (.cells #[.slice f.a f.n f.c, .string f.obj, .int .i64 f.size, .int .i64 f.spread, .int .i64 f.buffer, .int .i64 f.queue, .int .i64 f.cache, .float .f64 f.rate, .int .i64 f.timeout, .int .i64 f.target] 25))
  have HPR := hide (fun (j : Nat) wx (hb : Below w.heap.size w wx) => rpath_any f (s : Int) (j : Int) wx (hf.below hb))
  have HN := hide (fun wx (hb : Below w.heap.size w wx) => hf.nds.below hb)
  have HCH := hide hch
  have HS := hide (And.intro hs1 hs2)
  have HS3 := hide hs3
  have hs1' : (s : Int) < (f.n : Int) := by omega
  clear hf hch
  unfold CFV.val at *
  go_enter Try.func27, Try.ntmps27
  go_wp2_with fail
  generalize hW : w.alloc (.cells #[.slice f.a f.n f.c, .string f.obj, .int .i64 f.size, .int .i64 f.spread, .int .i64 f.buffer, .int .i64 f.queue, .int .i64 f.cache, .float .f64 f.rate, .int .i64 f.timeout, .int .i64 f.target] 25) = W at *
  clear hW hs2 hs3
  have x0 := (unhide X).at 0 rfl
  obtain ⟨b, off, ha, hc⟩ := ((unhide HN) W (unhide HB)).at hs1
  have HC := hide (show ∀ W', Below W.heap.size W W' → ∀ i, i < f.n → W'.cell? ⟨b, off + i * 2, none⟩ = some (.int .i64 (kdN f.ds i)) from fun W' hb i hi => (hb.cell (p := ⟨b, off + i * 2, none⟩) (World.block_lt_of_cell? W _ (hc i hi).1)).trans (hc i hi).1)
  rw [ha] at x0 HPR
  have HX0 := hide (show ∀ W', Below W.heap.size W W' → W'.cell? ⟨w.heap.size, 0, none⟩ = some (.slice (some ⟨b, off, none⟩) f.n f.c) from fun W' hb => (hb.cell (p := ⟨w.heap.size, 0, none⟩) (World.block_lt_of_cell? W _ x0)).trans x0)
  clear hc ha
  go_loop [3, 4] (fun v i => ∃ k : Nat, k ≤ f.n ∧ i = .int .i64 k ∧ ∃ z : Int, v = .int .i64 z ∧ Hid ((z = -1 ∧ k ≤ s) ∨ (z = (s : Int) ∧ s < k))) (fun _ i => f.n - (intOf i).toNat)
  case atStart => exact ⟨0, Nat.zero_le _, rfl, -1, rfl, hide (.inl ⟨rfl, Nat.zero_le _⟩)⟩
  case round =>
    obtain ⟨k, hk, rfl, z, rfl, HZ⟩ := hrel
    by_cases hlt : k < f.n
    · have hlt' : (k : Int) < (f.n : Int) := by omega
      have hck := (unhide HC) W (Below.refl _ _) k hlt
      by_cases hks : k = s
      · have e : kdN f.ds k = 1 := by rw [hks]; exact (unhide HS).2
        rw [e] at hck
        have HKS := hide hks
        clear e hks
        go_wp2
        go_round
        case rel => exact ⟨k + 1, hlt, by go_num, (k : Int), rfl, hide (.inr ⟨by rw [unhide HKS], by have := unhide HKS; omega⟩)⟩
        case measure => simp [intOf]; omega
      · have e : (kdN f.ds k == 1) = false := by rw [beq_eq_false_iff_ne]; exact fun h => hks ((unhide HS3) k hlt h)
        generalize kdN f.ds k = kd at *
        go_wp2
        go_round
        case rel => exact ⟨k + 1, hlt, by go_num, z, rfl, hide (by rcases unhide HZ with h | h; exact .inl ⟨h.1, by omega⟩; exact .inr ⟨h.1, by omega⟩)⟩
        case measure => simp [intOf]; omega
    · obtain rfl : k = f.n := by omega
      obtain rfl : z = (s : Int) := by rcases unhide HZ with h | h; omega; exact h.1
      go_wp2_with fail
      clear x0
      go_loopw [5] (fun i wr => ∃ j : Nat, j ≤ f.n ∧ i = .int .i64 j ∧ Hid (Below W.heap.size W wr) ∧ Hid (∀ q, q < j → kdN f.ds q = 3 → wayF f.ds f.n s q = [])) (fun i _ => f.n - (intOf i).toNat)
      case atStart => exact ⟨0, Nat.zero_le _, rfl, hide (Below.refl _ _), hide (fun q hq => by omega)⟩
      case round =>
        obtain ⟨j, hj, rfl, HBW, HE⟩ := hrel
        rename World => wj
        have hB2 := below0 (unhide HB) (unhide HBW)
        have HB2 := hide hB2
        clear hB2
        by_cases hjn : j < f.n
        · have hjn' : (j : Int) < (f.n : Int) := by omega
          have X2 := hide ((unhide X).below (unhide HBW))
          have y0 := (unhide HX0) wj (unhide HBW)
          have hcj := (unhide HC) wj (unhide HBW) j hjn
          by_cases hk3 : kdN f.ds j = 3
          case neg =>
            have e : (kdN f.ds j == 3) = false := by rw [beq_eq_false_iff_ne]; exact hk3
            have HE' := hide (show ∀ q, q < j + 1 → kdN f.ds q = 3 → wayF f.ds f.n s q = [] from fun q hq h => by
              by_cases e : q = j
              · subst e; exact absurd h hk3
              · exact (unhide HE) q (by omega) h)
            generalize kdN f.ds j = kd at *
            clear hk3
            go_wp2
            go_roundw
            case rel => exact ⟨j + 1, hjn, by go_num, HBW, HE'⟩
            case measure => simp [intOf]; omega
          rw [hk3] at hcj
          have y1 := (unhide X2).at 1 rfl
          have y2 := (unhide X2).at 2 rfl
          have y3 := (unhide X2).at 3 rfl
          have y4 := (unhide X2).at 4 rfl
          have y5 := (unhide X2).at 5 rfl
          have y6 := (unhide X2).at 6 rfl
          have y7 := (unhide X2).at 7 rfl
          have y8 := (unhide X2).at 8 rfl
          have y9 := (unhide X2).at 9 rfl
          have HK3 := hide hk3
          clear hk3
          go_wp2_with fail
          refine ((unhide HPR) j wj (unhide HB2)).mono ?_
          rintro e w3 ⟨v3, L3, rfl, hp3, ho3, hb3⟩
          have HB3 := hide (below0 (unhide HB2) hb3)
          have HW3 := hide (below0 (unhide HBW) hb3)
          have HLW := hide (hp3.way (unhide HCH) hs1 hjn)
          obtain ⟨a3, c3, rfl, -⟩ := ho3.ints
          have HO3 := hide (ho3.mono (unhide HB2).size)
          have hlM : (natZ L3).length = L3.length := List.length_map _
          rw [hlM] at HO3 ⊢
          clear hp3 ho3 hb3 hlM hcj y0 y1 y2 y3 y4 y5 y6 y7 y8 y9
          by_cases hM : 0 < L3.length
          · generalize hq : L3.length = nM at *
            have HQ := hide hq
            clear hq
            go_wp2
            go_ret
            exact ⟨_, s, L3, rfl, unhide HS, .inl ⟨j, hjn, unhide HK3, unhide HLW, fun e => by have := unhide HQ; rw [e] at this; have : 0 = nM := this; omega, unhide HE⟩, unhide HO3, unhide HB3⟩
          · obtain rfl : L3 = [] := List.length_eq_zero_iff.1 (by omega)
            have HE' := hide (show ∀ q, q < j + 1 → kdN f.ds q = 3 → wayF f.ds f.n s q = [] from fun q hq h => by
              by_cases e : q = j
              · subst e; exact (unhide HLW).symm
              · exact (unhide HE) q (by omega) h)
            clear hM
            go_wp2
            go_roundw
            case rel => exact ⟨j + 1, hjn, by go_num, HW3, HE'⟩
            case measure => simp [intOf]; omega
        · obtain rfl : j = f.n := by omega
          have y0 := (unhide HX0) wj (unhide HBW)
          go_wp2
          go_ret
          exact ⟨_, s, [], rfl, unhide HS, .inr ⟨rfl, unhide HE⟩, OwnZ.nil _ _, unhide HB2⟩
end Go.Proofs.Ytljkmajajcocdaa
