/-
  Contract of bucketlineref28.Script: it is calm's. Condition: the config can be read.
-/
import Derived.Test.YtljkmajajcocdaaU37
namespace Go.Proofs.Ytljkmajajcocdaa
open Go.RowKit Go.Sort Go.Shelf
set_option linter.unusedVariables false
set_option linter.unusedSimpArgs false
set_option maxRecDepth 4000

theorem script_len (ds : List NDV) (k : Int) (L : List Nat) (i q : Nat) (hL : L.length ≤ 8) (hi : i ≤ 128) (hq : q ≤ 8) : (roundsD ds k L i ++ sentD ds k i L q).length + 100 ≤ 1000000 := by
  rw [List.length_append, roundsD_len, sentD_len]
  have h : 10 * (L.length - 1) * i ≤ 80 * 128 := Nat.mul_le_mul (by omega) hi
  omega
set_option maxHeartbeats 16000000 in
theorem rscript_any (f : CFV) (rounds : Int) (w : World) (hf : CfIn w f) :
    Calls Try.prog 11 #[f.val, .int .i64 rounds] w fun e w' => ∃ v es, e = .returned v ∧ OwnE w' w.heap.size v es ∧ DrsP w' w.heap.size es ∧ ScriptP f rounds (es.map EVV.data) ∧ Below w.heap.size w w' := by
  have X := hide (bkA_new 25 w [.slice f.a f.n f.c, .string f.obj, .int .i64 f.size, .int .i64 f.spread, .int .i64 f.buffer, .int .i64 f.queue, .int .i64 f.cache, .float .f64 f.rate, .int .i64 f.timeout, .int .i64 f.target])
  have HB := hide (alloc_low w (.cells #[.slice f.a f.n f.c, .string f.obj, .int .i64 f.size, .int .i64 f.spread, .int .i64 f.buffer, .int .i64 f.queue, .int .i64 f.cache, .float .f64 f.rate, .int .i64 f.timeout, .int .i64 f.target] 25))
  have hld := (unhide X).load Try.underlying25 rfl info_cfg rfl
  have HC := hide (rchk26_any f _ (hf.below (unhide HB)))
  have HF := hide (fun wx (hb : Below w.heap.size w wx) => hf.below hb)
  have HWY := hide (fun wx (hb : Below w.heap.size w wx) => rway_any f wx (hf.below hb))
  have HRN := hide (fun wx (hb : Below w.heap.size w wx) => rrnd28_any f wx (hf.below hb))
  clear hf
  unfold CFV.val at *
  go_enter Try.func11, Try.ntmps11
  go_wp2_with fail
  refine (unhide HC).mono ?_
  rintro e w1 ⟨en, rfl, hr, hb⟩
  have HB1 := hide (below0 (unhide HB) hb)
  have X1 := hide ((unhide X).below hb)
  have HR := hide hr
  clear hr hb hld HC
  by_cases h0 : en = 0
  case neg =>
    have hd : (en != 0) = true := by simp [h0]
    have HP := hide (show ScriptP f rounds [] from .inl ⟨fun p => h0 ((unhide HR).uniq p), rfl⟩)
    clear h0
    go_wp2
    go_ret
    exact ⟨_, [], rfl, OwnE.nil _ _, (fun e he => (by cases he)), unhide HP, unhide HB1⟩
  subst h0
  have y0 := (unhide X1).at 0 rfl
  have y1 := (unhide X1).at 1 rfl
  have y2 := (unhide X1).at 2 rfl
  have y3 := (unhide X1).at 3 rfl
  have y4 := (unhide X1).at 4 rfl
  have y5 := (unhide X1).at 5 rfl
  have y6 := (unhide X1).at 6 rfl
  have y7 := (unhide X1).at 7 rfl
  have y8 := (unhide X1).at 8 rfl
  have y9 := (unhide X1).at 9 rfl
  go_wp2_with fail
  refine ((unhide HWY) w1 (unhide HB1) (unhide HR)).mono ?_
  rintro e w2 ⟨v2, s, L, rfl, ⟨hs1, hs2⟩, hsk, ho, hb⟩
  have HB2 := hide (below0 (unhide HB1) hb)
  have X2 := hide ((unhide X1).below hb)
  have hlt2 := (unhide X2).lt
  obtain ⟨a2, c2, rfl, hz⟩ := ho.ints
  have hlL : (natZ L).length = L.length := List.length_map _
  rw [hlL] at hz ⊢
  have HZ := hide (fun wx (hb : Below w2.heap.size w2 wx) => hz.below hb)
  have HL8 := hide hsk.len
  have HSK := hide hsk
  have HS := hide (And.intro hs1 hs2)
  obtain ⟨nL, hnL⟩ : ∃ nL, L.length = nL := ⟨_, rfl⟩
  have HNL := hide hnL
  have hn8 : nL ≤ 8 := by rw [← hnL]; exact hsk.len
  rw [hnL] at HZ ⊢
  have hwn : IntKind.i64.wrap ((nL : Int) - 1) = (nL : Int) - 1 := by rw [IntKind.wrap_i64]; omega
  obtain ⟨R, hRR, hR128⟩ : ∃ R : Nat, min (max rounds 0) 128 = (R : Int) ∧ R ≤ 128 := ⟨(min (max rounds 0) 128).toNat, by omega, by omega⟩
  have HFIN := hide (show ScriptP f rounds (roundsD f.ds (planK f.obj.size f.size) L R) from .inr ⟨unhide HR, s, L, hs1, hs2, hsk, by rw [hRR]; rfl⟩)
  have HKD := hide (show ∀ q, 0 < q → q < nL → kdN f.ds (L.getD q 0) ≠ 1 from fun q h0 hq h1 => by
    obtain ⟨t, ht⟩ := hsk.q (unhide HR) hs1 (by rw [hnL]; omega)
    obtain ⟨z, _, _, hz3⟩ := src_one f.n (unhide HR).cfg.1.2.2
    have e1 := hz3 _ (ht.lt q (by rw [hnL]; exact hq)) h1
    have e2 := hz3 s hs1 hs2
    have e3 := ht.first
    exact ht.ne h0 (by rw [hnL]; exact hq) (by omega))
  have HK0 := hide (show 0 < nL → L.getD 0 0 = s from fun h => by
    obtain ⟨t, ht⟩ := hsk.q (unhide HR) hs1 (by rw [hnL]; exact h)
    have := ht.first
    omega)
  clear hs1 hs2 hsk ho hz hb hnL hlL y0 y1 y2 y3 y4 y5 y6 y7 y8 y9
  have HRK := hide (show ∀ k, RndP f k → k = planK f.obj.size f.size from fun k h => h.uniq (.inl ⟨unhide HR, rfl⟩))
  generalize planK f.obj.size f.size = kk at *
  go_wp2_with fail
  go_loopw [6, 7] (fun o v wr => ∃ i : Nat, i ≤ R ∧ v = .int .i64 i ∧ Hid (RsI w2 wr o (roundsD f.ds kk L i))) (fun _ v _ => R - (intOf v).toNat)
  case atStart => exact ⟨0, Nat.zero_le _, rfl, hide ⟨⟨[], OwnE.nil _ _, (fun e he => (by cases he)), rfl⟩, Below.refl _ _⟩⟩
  case round =>
    obtain ⟨i, hi, rfl, HI⟩ := hrel
    rename World => wi
    by_cases hlt : i < R
    · have hlt' : (i : Int) < rounds := by omega
      have hlt2' : (i : Int) < 128 := by omega
      obtain ⟨M, hM⟩ : ∃ M, M = nL - 1 := ⟨_, rfl⟩
      go_wp2_with fail
      go_loopw [6, 8] (fun o v wr => ∃ q : Nat, q ≤ M ∧ v = .int .i64 q ∧ Hid (RsI w2 wr o (roundsD f.ds kk L i ++ sentD f.ds kk i L q))) (fun _ v _ => M - (intOf v).toNat)
      case atStart => exact ⟨0, Nat.zero_le _, rfl, hide (by rw [show sentD f.ds kk i L 0 = [] from rfl, List.append_nil]; exact unhide HI)⟩
      case round =>
        obtain ⟨q, hq, rfl, HQ⟩ := hrel
        rename World => wq
        by_cases hqM : q < M
        · have hqM' : (q : Int) < (nL : Int) - 1 := by omega
          have hqn : q < nL := by omega
          have hqn' : (q : Int) < (nL : Int) := by omega
          have hq8 : q ≤ 8 := by omega
          have hwu : IntKind.u64.wrap (i : Int) = (i : Int) := by rw [IntKind.wrap_u64]; omega
          obtain ⟨b3, off3, ha3, hc3⟩ := ((unhide HZ) wq (unhide HQ).low).at hqn
          have hcy := hc3 q hqn
          rw [natZ_get] at hcy
          obtain ⟨y, hy⟩ : ∃ y, L.getD q 0 = y := ⟨_, rfl⟩
          rw [hy] at hcy
          obtain ⟨D0, hD0⟩ : ∃ D0, D0 = roundsD f.ds kk L i ++ sentD f.ds kk i L q := ⟨_, rfl⟩
          have HD0 := hide (show D0.length + 100 ≤ 1000000 from by rw [hD0]; exact script_len f.ds kk L i q (unhide HL8) (by omega) hq8)
          have HRS := hide (show RsI w2 wq u6 D0 from by rw [hD0]; exact unhide HQ)
          have HD0E := hide hD0.symm
          have HY := hide hy
          rw [ha3]
          clear hc3 ha3 hy hD0
          have hb3 := alloc_low wq (.cells #[.int .u64 (i : Int)] 42)
          have hcy2 := (hb3.cell (World.block_lt_of_cell? wq _ hcy)).trans hcy
          have hlD : D0.length + 2 ≤ 1000000 := by have := unhide HD0; omega
          by_cases hq0 : q = 0
          · have X3 := hide (((unhide X2).below (unhide HQ).low).below hb3)
            have z0 := (unhide X3).at 0 rfl
            have z1 := (unhide X3).at 1 rfl
            have z2 := (unhide X3).at 2 rfl
            have z3 := (unhide X3).at 3 rfl
            have z4 := (unhide X3).at 4 rfl
            have z5 := (unhide X3).at 5 rfl
            have z6 := (unhide X3).at 6 rfl
            have z7 := (unhide X3).at 7 rfl
            have z8 := (unhide X3).at 8 rfl
            have z9 := (unhide X3).at 9 rfl
            have HBq := hide (below0 (below0 (unhide HB2) (unhide HQ).low) hb3)
            have HR3 := hide ((unhide HRS).below hb3)
            have HSD := hide (show sendD f.ds kk i L q = turnD (y : Int) (drawsD kk (i : Int)) from by
              have e : drawsF (kdN f.ds y) kk (i : Int) = drawsD kk (i : Int) := by
                rw [← unhide HY, hq0, (unhide HK0) (by omega), (unhide HS).2]
                exact if_pos rfl
              unfold sendD
              rw [unhide HY, e])
            have hd : ((q : Int) == 0) = true := by rw [beq_iff_eq]; omega
            clear hb3 hcy hq0
            go_wp2_with (first
              | (go_at_call 13; refine ((unhide HRN) (wq.alloc (.cells #[.int .u64 (i : Int)] 42)) (unhide HBq)).mono ?_; rintro e w3 ⟨k3, rfl, hr3, hb3⟩; rw [(unhide HRK) k3 hr3]; have HR4 := hide ((unhide HR3).below hb3); have hcy3 := (hb3.cell (World.block_lt_of_cell? _ _ hcy2)).trans hcy2; clear hr3 hb3 HR3 z0 z1 z2 z3 z4 z5 z6 z7 z8 z9)
              | (go_at_call 16; refine (rdraws28_any kk (i : Int) w3).mono ?_; rintro e w4 ⟨v4, rfl, ho4, hb4⟩; obtain ⟨a4, c4, rfl, -⟩ := ho4.row; have HOD := hide (ho4.mono (unhide HR4).low.size); have HR5 := hide ((unhide HR4).below hb4); have hcy4 := (hb4.cell (World.block_lt_of_cell? _ _ hcy3)).trans hcy3; clear ho4 hb4 HR4)
              | (at_builtin; refine (unhide HR5).two (id := (y : Int)) (xs := drawsD kk (i : Int)) (unhide HOD) rfl (.tmp 41) (.tmp 49) rfl rfl _ rfl rfl hlD ?_; intro v6 w6 hr6; have HR6 := hide hr6; clear hr6)
              | fail)
            go_loopw [6, 10] (fun o vi wr => ∃ m : Nat, m ≤ 8 ∧ vi = .int .i64 m ∧ Hid (RsI w2 wr o (D0 ++ partD (y : Int) (drawsD kk (i : Int)) m))) (fun _ vi _ => 8 - (intOf vi).toNat)
            case atStart => exact ⟨0, Nat.zero_le _, rfl, HR6⟩
            case round =>
              obtain ⟨m, hm, rfl, HR7⟩ := hrel
              rename World => wm
              by_cases hm8 : m < 8
              · have hm8' : (m : Int) < 8 := by omega
                have hl7 : (D0 ++ partD (y : Int) (drawsD kk (i : Int)) m).length + 1 ≤ 1000000 := by rw [List.length_append, partD_len]; have := unhide HD0; omega
                go_wp2_with (first
                  | (at_builtin; refine (unhide HR7).del rfl (.tmp 55) (.tmp 57) rfl rfl rfl hl7 ?_; intro v8 w8 hr8; rw [List.append_assoc, partD_succ] at hr8; have HR8 := hide hr8; clear hr8)
                  | fail)
                go_roundw
                case rel => exact ⟨m + 1, hm8, by go_num, HR8⟩
                case measure => simp [intOf]; omega
              · obtain rfl : m = 8 := by omega
                go_wp2
                go_roundw
                case rel => exact ⟨q + 1, hqM, by go_num, hide (by
                  have h := unhide HR7
                  rw [partD_all] at h
                  rw [sentD_succ, ← List.append_assoc]
                  rw [unhide HD0E]
                  exact (unhide HSD).symm ▸ h)⟩
                case measure => simp [intOf]; omega
          · have HXS := hide (show drawsF (kdN f.ds y) kk (i : Int) = [i] from by
              have h := (unhide HKD) q (by omega) hqn
              rw [unhide HY] at h
              exact if_neg h)
            have hd : ((q : Int) == 0) = false := by rw [beq_eq_false_iff_ne]; omega
            have HSD := hide (show sendD f.ds kk i L q = turnD (y : Int) [i] from by unfold sendD; rw [unhide HY, unhide HXS])
            have HOD := hide ((own_lit1 wq i (by omega)).mono (unhide HRS).low.size)
            have HR3 := hide ((unhide HRS).below hb3)
            clear hb3 hcy
            go_wp2_with (first
              | (at_builtin; refine (unhide HR3).two (id := (y : Int)) (xs := [i]) (unhide HOD) rfl (.tmp 41) (.tmp 49) rfl rfl _ (alloc_size _ _) rfl hlD ?_; intro v6 w6 hr6; have HR6 := hide hr6; clear hr6)
              | fail)
            go_loopw [6, 10] (fun o vi wr => ∃ m : Nat, m ≤ 8 ∧ vi = .int .i64 m ∧ Hid (RsI w2 wr o (D0 ++ partD (y : Int) [i] m))) (fun _ vi _ => 8 - (intOf vi).toNat)
            case atStart => exact ⟨0, Nat.zero_le _, rfl, HR6⟩
            case round =>
              obtain ⟨m, hm, rfl, HR7⟩ := hrel
              rename World => wm
              by_cases hm8 : m < 8
              · have hm8' : (m : Int) < 8 := by omega
                have hl7 : (D0 ++ partD (y : Int) [i] m).length + 1 ≤ 1000000 := by rw [List.length_append, partD_len]; have := unhide HD0; omega
                go_wp2_with (first
                  | (at_builtin; refine (unhide HR7).del rfl (.tmp 55) (.tmp 57) rfl rfl rfl hl7 ?_; intro v8 w8 hr8; rw [List.append_assoc, partD_succ] at hr8; have HR8 := hide hr8; clear hr8)
                  | fail)
                go_roundw
                case rel => exact ⟨m + 1, hm8, by go_num, HR8⟩
                case measure => simp [intOf]; omega
              · obtain rfl : m = 8 := by omega
                go_wp2
                go_roundw
                case rel => exact ⟨q + 1, hqM, by go_num, hide (by
                  have h := unhide HR7
                  rw [partD_all] at h
                  rw [sentD_succ, ← List.append_assoc]
                  rw [unhide HD0E]
                  exact (unhide HSD).symm ▸ h)⟩
                case measure => simp [intOf]; omega
        · obtain rfl : q = M := by omega
          have hqM' : ¬ (q : Int) < (nL : Int) - 1 := by omega
          go_wp2
          go_roundw
          case rel => exact ⟨i + 1, hlt, by go_num, hide (by rw [roundsD_succ, unhide HNL, ← hM]; exact unhide HQ)⟩
          case measure => simp [intOf]; omega
    · obtain rfl : i = R := by omega
      have HE := unhide HI
      have HB3 := hide (below0 (unhide HB2) (unhide HI).low)
      by_cases hir : (i : Int) < rounds
      · have h128 : ¬ (i : Int) < 128 := by omega
        go_wp2
        go_ret
        obtain ⟨es, k1, k2, k3⟩ := HE.out
        exact ⟨_, rfl, es, k1.mono (unhide HB2).size, k2.mono (unhide HB2).size, by rw [k3]; exact unhide HFIN, unhide HB3⟩
      · go_wp2
        go_ret
        obtain ⟨es, k1, k2, k3⟩ := HE.out
        exact ⟨_, rfl, es, k1.mono (unhide HB2).size, k2.mono (unhide HB2).size, by rw [k3]; exact unhide HFIN, unhide HB3⟩
end Go.Proofs.Ytljkmajajcocdaa
