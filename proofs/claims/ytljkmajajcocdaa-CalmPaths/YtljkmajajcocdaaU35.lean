/-
  Contract of bucketlineref28.Path: it is calm's. Condition: the config can be read.
-/
import Derived.Test.YtljkmajajcocdaaU25
import Derived.Test.YtljkmajajcocdaaU34
import Derived.Deep.QuietTactic
import Derived.BigQuiet
namespace Go.Proofs.Ytljkmajajcocdaa
open Go.RowKit Go.Sort Go.Shelf
set_option linter.unusedVariables false
set_option linter.unusedSimpArgs false
set_option maxRecDepth 4000

theorem frp_edge {ds : List NDV} {n to a t : Nat} {F : Nat → Nat} (hF : FarP ds n to F) (ha : a < n) (ht : (t : Int) ∈ tosN ds a) (h0 : F a ≠ 0) (h8 : F a < 8) : (farI (F t) = (F a : Int) - 1 ↔ F t < F a) := by
  have h := hF.edge a ha (t : Int) ht
  rw [Int.toNat_natCast] at h
  unfold farI
  split
  · omega
  · omega
theorem wayK_one {ds : List NDV} {F : Nat → Nat} {n : Nat} (k i : Nat) : (wayK ds F n k i).take 1 = [i] := by cases k <;> rfl
theorem natZ_next {W : List Nat} {j : Nat} (h : j + 1 < W.length) : natZ (W.take (j + 1)) ++ [((W.getD (j + 1) 0 : Nat) : Int)] = natZ (W.take (j + 1 + 1)) := by
  rw [List.take_succ_eq_append_getElem h, natZ, natZ, List.map_append, List.getD_eq_getElem?_getD, List.getElem?_eq_getElem h]
  rfl
theorem ownz_one (w : World) (x : Int) : OwnZ (w.alloc (.cells #[.int .i64 x] 3)) w.heap.size (.slice (some ⟨w.heap.size, 0, none⟩) 1 1) [x] :=
  ⟨rfl, .inr ⟨w.heap.size, 1, _, rfl, Nat.le_refl _, heap_alloc_new w _, Nat.le_refl _, by unfold maxLen; omega, rfl, rfl⟩⟩
set_option maxHeartbeats 16000000 in
theorem rpath_any (f : CFV) (fr to : Int) (w : World) (hf : CfIn w f) :
    Calls Try.prog 19 #[f.val, .int .i64 fr, .int .i64 to] w fun e w' => ∃ v L, e = .returned v ∧ PathP f fr to L ∧ OwnZ w' w.heap.size v (natZ L) ∧ Below w.heap.size w w' := by
  have X := hide (bkA_new 25 w [.slice f.a f.n f.c, .string f.obj, .int .i64 f.size, .int .i64 f.spread, .int .i64 f.buffer, .int .i64 f.queue, .int .i64 f.cache, .float .f64 f.rate, .int .i64 f.timeout, .int .i64 f.target])
  have HB := hide (alloc_low w (.cells #[.slice f.a f.n f.c, .string f.obj, .int .i64 f.size, .int .i64 f.spread, .int .i64 f.buffer, .int .i64 f.queue, .int .i64 f.cache, .float .f64 f.rate, .int .i64 f.timeout, .int .i64 f.target] 25))
  have hld := (unhide X).load Try.underlying25 rfl info_cfg rfl
  have x0 := (unhide X).at 0 rfl
  have HC := hide (rchk26_any f _ (hf.below (unhide HB)))
  have HF := hide hf
  clear hf
  unfold CFV.val at *
  go_enter Try.func19, Try.ntmps19
  go_wp2_with fail
  refine (unhide HC).mono ?_
  rintro e w1 ⟨en, rfl, hr, hb⟩
  have HB1 := hide (below0 (unhide HB) hb)
  have X1 := hide ((unhide X).below hb)
  have HR := hide hr
  clear hr hb hld HC x0
  by_cases h0 : en = 0
  case neg =>
    have hd : (en != 0) = true := by simp [h0]
    have HP := hide (show PathP f fr to [] from .inr ⟨fun p => h0 ((unhide HR).uniq p.1), rfl⟩)
    clear h0
    go_wp2
    go_ret
    exact ⟨_, [], rfl, unhide HP, OwnZ.nil _ _, unhide HB1⟩
  subst h0
  by_cases h1 : fr < 0
  · have HP := hide (show PathP f fr to [] from .inr ⟨fun p => by have := p.2.1.1; omega, rfl⟩)
    go_wp2
    go_ret
    exact ⟨_, [], rfl, unhide HP, OwnZ.nil _ _, unhide HB1⟩
  by_cases h2 : (f.n : Int) ≤ fr
  · have HP := hide (show PathP f fr to [] from .inr ⟨fun p => by have := p.2.1.2; omega, rfl⟩)
    go_wp2
    go_ret
    exact ⟨_, [], rfl, unhide HP, OwnZ.nil _ _, unhide HB1⟩
  by_cases h3 : to < 0
  · have HP := hide (show PathP f fr to [] from .inr ⟨fun p => by have := p.2.2.1.1; omega, rfl⟩)
    go_wp2
    go_ret
    exact ⟨_, [], rfl, unhide HP, OwnZ.nil _ _, unhide HB1⟩
  by_cases h4 : (f.n : Int) ≤ to
  · have HP := hide (show PathP f fr to [] from .inr ⟨fun p => by have := p.2.2.1.2; omega, rfl⟩)
    go_wp2
    go_ret
    exact ⟨_, [], rfl, unhide HP, OwnZ.nil _ _, unhide HB1⟩
  have hsp := stepP_of (unhide HR)
  have hN8 := hsp.1.1
  have hmk := make_intz f.n (by omega) w1
  have HFW := hide (FrS.new w1 f.n (by omega))
  obtain ⟨p, rfl⟩ : ∃ p : Nat, fr = (p : Int) := ⟨fr.toNat, by omega⟩
  obtain ⟨q, rfl⟩ : ∃ q : Nat, to = (q : Int) := ⟨to.toNat, by omega⟩
  have hp : p < f.n := by omega
  have hq : q < f.n := by omega
  have hp' : (p : Int) < (f.n : Int) := by omega
  have hq' : (q : Int) < (f.n : Int) := by omega
  have d1 : decide (f.n ≤ p) = false := by rw [decide_eq_false_iff_not]; omega
  have d2 : decide (f.n ≤ q) = false := by rw [decide_eq_false_iff_not]; omega
  have d3 : decide ((p : Int) < 0) = false := by rw [decide_eq_false_iff_not]; omega
  have d4 : decide ((q : Int) < 0) = false := by rw [decide_eq_false_iff_not]; omega
  go_wp2_with fail
  try simp only [d1, d2, d3, d4]
  clear h1 h2 h3 h4 hmk d1 d2 d3 d4
  have HSP := hide hsp
  have HN := hide (show ∀ W, Below w1.heap.size w1 W → NdsAt W f.a f.n f.ds from fun W hb => ((unhide HF).nds.below (unhide HB1)).below hb)
  have hlt1 := (unhide X1).lt
  have HT := hide (show ∀ i, i < f.n → (f.ds.getD i .dflt).n ≤ 9223372036854775807 from fun i hi => ((unhide HF).tos i hi).1)
  clear hsp
  go_loopw [9] (fun i wr => ∃ k : Nat, k ≤ f.n ∧ i = .int .i64 k ∧ ∃ L, Hid (FrS w1 wr f.n L ∧ ∀ j, j < k → L.getD j 0 = -1)) (fun i _ => f.n - (intOf i).toNat)
  case atStart => exact ⟨0, Nat.zero_le _, rfl, _, hide ⟨unhide HFW, fun j hj => by omega⟩⟩
  case round =>
    obtain ⟨k, hk, rfl, L, HL⟩ := hrel
    rename_i wr
    by_cases hlt : k < f.n
    · have hlt' : (k : Int) < (f.n : Int) := by omega
      obtain ⟨hck, hfk⟩ := (unhide HL).1.at hlt
      generalize L.getD k 0 = v at *
      go_wp2
      go_roundw
      case rel => exact ⟨k + 1, hlt, by go_num, _, hide ⟨(unhide HL).1.set k (-1), fun j hj => by
        rw [getDz_set (by rw [(unhide HL).1.len]; exact hlt)]
        split
        · rfl
        · exact (unhide HL).2 j (by omega)⟩⟩
      case measure => simp [intOf]; omega
    · obtain rfl : k = f.n := by omega
      obtain ⟨hcq, hfq⟩ := (unhide HL).1.at hq
      have HL0 := hide (show FrS w1 (wr.setCell ⟨w1.heap.size, q, none⟩ (.int .i64 0)) f.n (L.set q 0) ∧ LvP f.n (lev f.ds q 0) (L.set q 0) from ⟨(unhide HL).1.set q 0, by rw [List.length_set]; exact (unhide HL).1.len, fun j hj => by
        rw [getDz_set (by rw [(unhide HL).1.len]; exact hq)]
        show _ = farI (if j = q then 0 else 8)
        split
        · rfl
        · exact (unhide HL).2 j hj⟩)
      generalize L.getD q 0 = v at *
      go_wp2_with fail
      generalize wr.setCell ⟨w1.heap.size, q, none⟩ (.int .i64 0) = W0 at *
      generalize L.set q 0 = L0 at *
      clear hcq hfq
      go_loopw [10] (fun i wr => ∃ k : Nat, k ≤ f.n ∧ i = .int .i64 ((k : Int) + 1) ∧ ∃ L, Hid (FrS w1 wr f.n L ∧ LvP f.n (lev f.ds q k) L)) (fun i _ => f.n + 1 - (intOf i).toNat)
      case atStart => exact ⟨0, Nat.zero_le _, rfl, _, HL0⟩
      case round =>
        obtain ⟨k, hk, rfl, L1, HL1⟩ := hrel
        rename World => wk
        by_cases hkn : k < f.n
        · have hkn' : (k : Int) + 1 ≤ (f.n : Int) := by omega
          have hk8 : k < 8 := by omega
          go_wp2_with fail
          go_loopw [11] (fun i wr => ∃ j : Nat, j ≤ f.n ∧ i = .int .i64 j ∧ ∃ L, Hid (FrS w1 wr f.n L ∧ LvP f.n (levM f.ds q k j) L)) (fun i _ => f.n - (intOf i).toNat)
          case atStart => exact ⟨0, Nat.zero_le _, rfl, _, hide ⟨(unhide HL1).1, (unhide HL1).2.1, fun x hx => by
            rw [(unhide HL1).2.2 x hx]
            show _ = farI (if x < 0 then _ else _)
            rw [if_neg (by omega)]⟩⟩
          case round =>
            obtain ⟨j, hj, rfl, L2, HL2⟩ := hrel
            rename World => wj
            by_cases hjn : j < f.n
            · have hjn' : (j : Int) < (f.n : Int) := by omega
              have x0 := ((unhide X1).belowB (unhide HL2).1.low hlt1).at 0 rfl
              obtain ⟨b, off, ha, hc⟩ := ((unhide HN) wj (unhide HL2).1.low).at hjn
              obtain ⟨-, hc1⟩ := hc j hjn
              rw [ha] at x0
              have HTZ := hide (show ∀ W, Below w1.heap.size w1 W → IntzAt W (f.ds.getD j .dflt).a (f.ds.getD j .dflt).n (f.ds.getD j .dflt).tos from fun W hb => ((unhide HN) W hb).2.1 j hjn)
              have htl := (unhide HT) j hjn
              have HIP := hide (show FrS w1 wj f.n L2 ∧ (∀ x, x < f.n → x ≠ j → L2.getD x 0 = farI (levM f.ds q k j x)) ∧ InP f.ds q k j 0 (L2.getD j 0) from ⟨(unhide HL2).1, fun x hx _ => (unhide HL2).2.2 x hx, by
                rw [(unhide HL2).2.2 j hjn]
                unfold levM
                rw [if_neg (Nat.lt_irrefl j)]
                exact InP.start _ _ _ _⟩)
              have HTB := hide (show ∀ x, x ∈ (f.ds.getD j .dflt).tos → 0 ≤ x ∧ x < (f.n : Int) from (unhide HSP).1.2 j hjn)
              have htn : tosN f.ds j = (f.ds.getD j .dflt).tos := rfl
              have HTN := hide htn
              clear hc ha htn
              generalize f.ds.getD j .dflt = d at *
              go_wp2_with fail
              clear x0 hc1
              go_loopw [73] (fun i wr => ∃ m : Nat, m ≤ d.n ∧ i = .int .i64 m ∧ ∃ L, Hid (FrS w1 wr f.n L ∧ (∀ x, x < f.n → x ≠ j → L.getD x 0 = farI (levM f.ds q k j x)) ∧ InP f.ds q k j m (L.getD j 0))) (fun i _ => d.n - (intOf i).toNat)
              case atStart => exact ⟨0, Nat.zero_le _, rfl, _, HIP⟩
              case round =>
                obtain ⟨m, hm, rfl, L3, HL3⟩ := hrel
                rename World => wm
                by_cases hmn : m < d.n
                · have hmn' : (m : Int) < (d.n : Int) := by omega
                  have htz := (unhide HTZ) wm (unhide HL3).1.low
                  have hml : m < d.tos.length := by rw [htz.1]; exact hmn
                  obtain ⟨b3, off3, ha3, hc3⟩ := htz.at hmn
                  have hcm := hc3 m hmn
                  have htb := (unhide HTB) _ (getD_mem hml)
                  obtain ⟨t, ht⟩ : ∃ t : Nat, d.tos.getD m 0 = (t : Int) := ⟨(d.tos.getD m 0).toNat, by omega⟩
                  rw [ht] at hcm htb
                  have htn : t < f.n := by omega
                  have htn' : (t : Int) < (f.n : Int) := by omega
                  rw [ha3]
                  obtain ⟨hcj, hfj⟩ := (unhide HL3).1.at hjn
                  have hct := ((unhide HL3).1.at htn).1
                  obtain ⟨v, hv⟩ : ∃ v, L3.getD j 0 = v := ⟨_, rfl⟩
                  obtain ⟨u, hu⟩ : ∃ u, L3.getD t 0 = u := ⟨_, rfl⟩
                  have hnx := (unhide HL3).2.2.next (u := u) hk8 (m := m) (by rw [unhide HTN]; exact hml) (by
                    rw [unhide HTN, ht, Int.toNat_natCast]
                    by_cases e : t = j
                    · exact .inl ⟨e, by rw [← hu, e]⟩
                    · exact .inr (by rw [← hu]; exact (unhide HL3).2.1 t htn e))
                  rw [hv] at hnx hcj
                  rw [hu] at hct
                  have HV := hide hv
                  have hwk : IntKind.i64.wrap ((k : Int) + 1 - 1) = (k : Int) := by rw [IntKind.wrap_i64]; omega
                  by_cases hv0 : v < 0
                  · by_cases hu0 : u = (k : Int)
                    · have HNX := hide (hnx.1 ⟨hv0, hu0⟩)
                      subst hu0
                      clear hnx hu hv hc3 ha3 ht htb htz hml
                      go_wp2
                      go_roundw
                      case rel => exact ⟨m + 1, hmn, by go_num, _, hide ⟨(unhide HL3).1.set j ((k : Int) + 1), fun x hx hxj => by
                        rw [getDz_set (by rw [(unhide HL3).1.len]; exact hjn), if_neg hxj]
                        exact (unhide HL3).2.1 x hx hxj, by
                        rw [getDz_set (by rw [(unhide HL3).1.len]; exact hjn), if_pos rfl]
                        exact unhide HNX⟩⟩
                      case measure => simp [intOf]; omega
                    · have HNX := hide (hnx.2 fun h => hu0 h.2)
                      have hd : (u == (k : Int)) = false := by rw [beq_eq_false_iff_ne]; exact hu0
                      clear hnx hu hv hc3 ha3 ht htb htz hml
                      go_wp2
                      go_roundw
                      case rel => exact ⟨m + 1, hmn, by go_num, _, hide ⟨(unhide HL3).1, (unhide HL3).2.1, by rw [unhide HV]; exact unhide HNX⟩⟩
                      case measure => simp [intOf]; omega
                  · have HNX := hide (hnx.2 fun h => hv0 h.1)
                    clear hnx hu hv hc3 ha3 ht htb htz hml
                    go_wp2
                    go_roundw
                    case rel => exact ⟨m + 1, hmn, by go_num, _, hide ⟨(unhide HL3).1, (unhide HL3).2.1, by rw [unhide HV]; exact unhide HNX⟩⟩
                    case measure => simp [intOf]; omega
                · obtain rfl : m = d.n := by omega
                  have HST := hide ((show InP f.ds q k j (tosN f.ds j).length (L3.getD j 0) from by
                    rw [unhide HTN, ((unhide HTZ) wm (unhide HL3).1.low).1]
                    exact (unhide HL3).2.2).stop (unhide HSP).1 hjn hk8)
                  go_wp2
                  go_roundw
                  case rel => exact ⟨j + 1, hjn, by go_num, _, hide ⟨(unhide HL3).1, (unhide HL3).1.len, fun x hx => by
                    by_cases e : x = j
                    · rw [e, unhide HST]
                      unfold levM
                      rw [if_pos (Nat.lt_succ_self j)]
                    · rw [(unhide HL3).2.1 x hx e]
                      unfold levM
                      by_cases h : x < j
                      · rw [if_pos h, if_pos (by omega)]
                      · rw [if_neg h, if_neg (by omega)]⟩⟩
                  case measure => simp [intOf]; omega
            · obtain rfl : j = f.n := by omega
              go_wp2
              go_roundw
              case rel => exact ⟨k + 1, hkn, by go_num, _, hide ⟨(unhide HL2).1, (unhide HL2).2.1, fun x hx => by
                rw [(unhide HL2).2.2 x hx]
                unfold levM
                rw [if_pos hx]⟩⟩
              case measure => simp [intOf]; omega
        · obtain rfl : k = f.n := by omega
          have hcp := ((unhide HL1).1.at hp).1
          rw [(unhide HL1).2.2 p hp] at hcp
          have hB2 := below0 (unhide HB1) (unhide HL1).1.low
          have HB2 := hide hB2
          obtain ⟨F, hF⟩ : ∃ F, F = farN f.ds f.n q := ⟨_, rfl⟩
          have hFP : FarP f.ds f.n q F := by rw [hF]; exact farN_is (unhide HSP).1
          have hLF : LvP f.n F L1 := by rw [hF]; exact (unhide HL1).2
          by_cases h8 : farN f.ds f.n q p < 8
          case neg =>
            have HP := hide (show PathP f (p : Int) (q : Int) [] from .inr ⟨fun k => by have := k.2.2.2; rw [Int.toNat_natCast, Int.toNat_natCast] at this; exact h8 this, rfl⟩)
            have e : farI (lev f.ds q f.n p) = -1 := farI_no h8
            rw [e] at hcp
            clear h8 hF hFP hLF hB2 e
            go_wp2
            go_ret
            exact ⟨_, [], rfl, unhide HP, OwnZ.nil _ _, unhide HB2⟩
          have e : farI (lev f.ds q f.n p) = ((F p : Nat) : Int) := by rw [hF]; exact farI_lt h8
          rw [e] at hcp
          have HP := hide (show PathP f (p : Int) (q : Int) (wayK f.ds F f.n (F p) p) from .inl ⟨unhide HR, ⟨by omega, hp'⟩, ⟨by omega, hq'⟩, by rw [Int.toNat_natCast, Int.toNat_natCast]; exact h8, by rw [Int.toNat_natCast, Int.toNat_natCast, hF]; rfl⟩)
          have hkey := wayK_at hFP (unhide HSP).1 (F p) p hp rfl (by rw [hF]; exact h8)
          have hWl : (wayK f.ds F f.n (F p) p).length = F p + 1 := wayK_len _ _
          have hW1 := wayK_one (ds := f.ds) (F := F) (n := f.n) (F p) p
          have hW0 := wayK_head (ds := f.ds) (F := F) (n := f.n) (F p) p
          have h8' : F p < 8 := by rw [hF]; exact h8
          have HNX := hide (show ∀ a, a < f.n → F a ≠ 0 → F a < 8 → _ from fun a ha h0 h8 => nxt_is hFP (unhide HSP).1 ha h0 h8)
          have HKEY := hide hkey
          have HWL := hide hWl
          have HW0 := hide hW0
          have HW1 := hide hW1
          have HFP := hide hFP
          have HLF := hide hLF
          generalize wayK f.ds F f.n (F p) p = W at *
          clear h8 hF hFP hLF hB2 e hkey hWl hW1 hW0
          generalize F p = F0 at *
          go_wp2_with fail
          clear hcp
          have HO0 := hide (show OwnZ (wk.alloc (.cells #[.int .i64 (p : Int)] 3)) wk.heap.size (.slice (some ⟨wk.heap.size, 0, none⟩) 1 1) (natZ (W.take (0 + 1))) ∧ Below wk.heap.size wk (wk.alloc (.cells #[.int .i64 (p : Int)] 3)) from ⟨by rw [unhide HW1]; exact ownz_one wk (p : Int), alloc_low _ _⟩)
          go_loopw [14, 15] (fun o v wr => ∃ j a : Nat, j ≤ F0 ∧ v = .int .i64 (a : Int) ∧ Hid (W.getD j 0 = a ∧ a < f.n ∧ F a + j = F0) ∧ Hid (OwnZ wr wk.heap.size o (natZ (W.take (j + 1))) ∧ Below wk.heap.size wk wr)) (fun _ v _ => F (intOf v).toNat)
          case atStart => exact ⟨0, p, Nat.zero_le _, rfl, hide ⟨unhide HW0, hp, by have := ((unhide HKEY) 0 (Nat.zero_le _)).2.1; rw [unhide HW0] at this; exact this⟩, HO0⟩
          case round =>
            obtain ⟨j, a, hj, rfl, HA, HO⟩ := hrel
            rename World => wo
            have hB3 := below0 (unhide HB2) (unhide HO).2
            have HB3 := hide hB3
            clear hB3
            by_cases haq : a = q
            · have hF0 : F a = 0 := by rw [haq]; exact (unhide HFP).zero
              have HOF := hide (show OwnZ wo w.heap.size u14 (natZ W) from by
                have h := (unhide HO).1.mono (B' := w.heap.size) (unhide HB2).size
                rwa [List.take_of_length_le (by rw [unhide HWL]; have := (unhide HA).2.2; omega)] at h)
              clear hF0
              subst haq
              go_wp2
              go_ret
              exact ⟨_, W, rfl, unhide HP, unhide HOF, unhide HB3⟩
            · have han := (unhide HA).2.1
              have han' : (a : Int) < (f.n : Int) := by omega
              have hd : ((a : Int) != (q : Int)) = true := by simp; omega
              have hF0 : F a ≠ 0 := fun h => haq ((unhide HFP).fin a h)
              have hF8 : F a < 8 := by have := (unhide HA).2.2; omega
              obtain ⟨n1, n2, n3, n4, -⟩ := (unhide HNX) a han hF0 hF8
              have hjF : j < F0 := by have := (unhide HA).2.2; omega
              have hnx := ((unhide HKEY) j hj).2.2 hjF
              rw [(unhide HA).1] at hnx
              have hlow : Below w1.heap.size w1 wo := below0 (unhide HL1).1.low (unhide HO).2
              have x0 := ((unhide X1).belowB hlow hlt1).at 0 rfl
              obtain ⟨b, off, ha, hc⟩ := ((unhide HN) wo hlow).at han
              obtain ⟨-, hc1⟩ := hc a han
              rw [ha] at x0
              have HTZ := hide (show ∀ W, Below w1.heap.size w1 W → IntzAt W (f.ds.getD a .dflt).a (f.ds.getD a .dflt).n (f.ds.getD a .dflt).tos from fun W hb => ((unhide HN) W hb).2.1 a han)
              have hdl : (f.ds.getD a .dflt).tos.length = (f.ds.getD a .dflt).n := ((unhide HTZ) wo hlow).1
              have htl := (unhide HT) a han
              have HTB := hide (show ∀ x, x ∈ (f.ds.getD a .dflt).tos → 0 ≤ x ∧ x < (f.n : Int) from (unhide HSP).1.2 a han)
              have HED := hide (show ∀ t : Nat, (t : Int) ∈ (f.ds.getD a .dflt).tos → (farI (F t) = (F a : Int) - 1 ↔ F t < F a) from fun t ht => frp_edge (unhide HFP) han ht hF0 hF8)
              have HNK := hide (show nearK (f.ds.getD a .dflt).tos F (F a) f.n (f.ds.getD a .dflt).tos.length = ((nxtN f.ds F f.n a : Nat) : Int) from n1)
              obtain ⟨N, hN⟩ : ∃ N, nxtN f.ds F f.n a = N := ⟨_, rfl⟩
              rw [hN] at HNK n2 n4 hnx
              have HN4 := hide n4
              have HNXT := hide hnx
              clear hc ha n1 n3 n4 hnx hN
              generalize f.ds.getD a .dflt = d at *
              have HFA := hide (show ∀ W, Below wo.heap.size wo W → W.cell? ⟨w1.heap.size, a, none⟩ = some (.int .i64 ((F a : Nat) : Int)) from fun W hb => by
                have h := ((unhide HL1).1.at han).1
                rw [(unhide HLF).2 a han, farI_lt hF8] at h
                have hB := below0 (unhide HO).2 hb
                exact (hB.cell (World.block_lt_of_cell? wk _ h)).trans h)
              have HFT := hide (show ∀ W, Below wo.heap.size wo W → ∀ t, t < f.n → W.cell? ⟨w1.heap.size, t, none⟩ = some (.int .i64 (farI (F t))) from fun W hb t ht => by
                have h := ((unhide HL1).1.at ht).1
                rw [(unhide HLF).2 t ht] at h
                have hB := below0 (unhide HO).2 hb
                exact (hB.cell (World.block_lt_of_cell? wk _ h)).trans h)
              have hlo := (unhide HO).2.size
              go_wp2_with fail
              clear x0 hc1
              go_loopw [16, 115] (fun b i wr => ∃ m : Nat, m ≤ d.n ∧ i = .int .i64 m ∧ b = .int .i64 (nearK d.tos F (F a) f.n m) ∧ Hid (Below wo.heap.size wo wr)) (fun _ i _ => d.n - (intOf i).toNat)
              case atStart => exact ⟨0, Nat.zero_le _, rfl, rfl, hide (Below.refl _ _)⟩
              case round =>
                obtain ⟨m, hm, rfl, rfl, HM⟩ := hrel
                rename World => wm
                by_cases hmn : m < d.n
                · have hmn' : (m : Int) < (d.n : Int) := by omega
                  have htz := (unhide HTZ) wm (below0 hlow (unhide HM))
                  have hml : m < d.tos.length := by rw [hdl]; exact hmn
                  obtain ⟨b3, off3, ha3, hc3⟩ := htz.at hmn
                  have hcm := hc3 m hmn
                  have htb := (unhide HTB) _ (getD_mem hml)
                  have htm := getD_mem hml
                  obtain ⟨t, ht⟩ : ∃ t : Nat, d.tos.getD m 0 = (t : Int) := ⟨(d.tos.getD m 0).toNat, by omega⟩
                  have hns : nearK d.tos F (F a) f.n (m + 1) = if F (d.tos.getD m 0).toNat < F a then min (nearK d.tos F (F a) f.n m) (d.tos.getD m 0) else nearK d.tos F (F a) f.n m := rfl
                  rw [ht, Int.toNat_natCast] at hns
                  rw [ht] at hcm htb htm
                  have htn : t < f.n := by omega
                  have htn' : (t : Int) < (f.n : Int) := by omega
                  have hed := (unhide HED) t htm
                  have hct := (unhide HFT) wm (unhide HM) t htn
                  have hca := (unhide HFA) wm (unhide HM)
                  have hwf : IntKind.i64.wrap ((F a : Int) - 1) = (F a : Int) - 1 := by rw [IntKind.wrap_i64]; omega
                  rw [ha3]
                  obtain ⟨best, hbe⟩ : ∃ best, nearK d.tos F (F a) f.n m = best := ⟨_, rfl⟩
                  rw [hbe] at hns ⊢
                  by_cases hFt : F t < F a
                  · rw [hed.2 hFt] at hct
                    rw [if_pos hFt] at hns
                    by_cases hbt : (t : Int) < best
                    · have HNS := hide (show nearK d.tos F (F a) f.n (m + 1) = (t : Int) by omega)
                      clear hns hed hFt hc3 ha3 ht htb htz hml htm hbe
                      go_wp2_with fail
                      go_quiet (fail)
                      go_wp2
                      go_roundw
                      case rel => exact ⟨m + 1, hmn, by go_num, by rw [unhide HNS], hide (below_drewN (unhide HM) _)⟩
                      case measure => simp [intOf]; omega
                    · have HNS := hide (show nearK d.tos F (F a) f.n (m + 1) = best by omega)
                      clear hns hed hFt hc3 ha3 ht htb htz hml htm hbe
                      go_wp2_with fail
                      go_quiet (fail)
                      go_wp2
                      go_roundw
                      case rel => exact ⟨m + 1, hmn, by go_num, by rw [unhide HNS], hide (below_drewN (unhide HM) _)⟩
                      case measure => simp [intOf]; omega
                  · have hdn : (farI (F t) == (F a : Int) - 1) = false := by rw [beq_eq_false_iff_ne]; exact fun h => hFt (hed.1 h)
                    rw [if_neg hFt] at hns
                    have HNS := hide hns
                    generalize farI (F t) = u at *
                    clear hns hed hFt hc3 ha3 ht htb htz hml htm hbe
                    go_wp2_with fail
                    go_quiet (fail)
                    go_wp2
                    go_roundw
                    case rel => exact ⟨m + 1, hmn, by go_num, by rw [unhide HNS], hide (below_drewN (unhide HM) _)⟩
                    case measure => simp [intOf]; omega
                · obtain rfl : m = d.n := by omega
                  have hnk := unhide HNK
                  rw [hdl] at hnk
                  rw [hnk]
                  have HOM := hide ((unhide HO).1.below (unhide HM))
                  have hsz := Nat.le_trans hlo (unhide HM).size
                  have hln : (natZ (W.take (j + 1))).length ≤ 1048576 := by
                    show (List.map _ _).length ≤ _
                    rw [List.length_map, List.length_take]
                    omega
                  clear hnk
                  go_wp2_with (first
                    | (at_builtin; refine wpList_pushZ rfl (.tmp 137) (.tmp 139) rfl wk.heap.size _ (natZ (W.take (j + 1))) (N : Int) rfl rfl (unhide HOM) hsz hln ?_; intro s4 w4 ho4 hb4; have HO4 := hide ho4; have HB4 := hide ((unhide HO).2.trans ((unhide HM).mono hlo |>.trans hb4)); clear ho4 hb4)
                    | fail)
                  go_roundw
                  case rel => exact ⟨j + 1, N, hjF, rfl, hide ⟨unhide HNXT, n2, by have := unhide HN4; have := (unhide HA).2.2; omega⟩, hide ⟨by
                    have h := natZ_next (W := W) (j := j) (by rw [unhide HWL]; omega)
                    rw [unhide HNXT] at h
                    rw [← h]
                    exact unhide HO4, unhide HB4⟩⟩
                  case measure => have := unhide HN4; simp [intOf]; omega
end Go.Proofs.Ytljkmajajcocdaa
