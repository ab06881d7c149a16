/-
  Contract of bucketlineref18.Choose. Conditions: at most 300 rows of at most 10 words, a target from -2^40 to 2^40.
-/
import Derived.Test.YtbcgiodgobmkaaaGreatDoorVJ
import Derived.Test.YtbcgiodgobmkaaaGreatDoorU37
import Derived.Test.YtbcgiodgobmkaaaGreatDoorU2
namespace Go.Proofs.YtbcgiodgobmkaaaGreatDoor
open Go.RowKit Go.Sort
set_option linter.unusedVariables false
set_option linter.unusedSimpArgs false
set_option maxRecDepth 4000

theorem places_le (ch : List Bool) (n : Nat) : (placesCh ch n).length ≤ n := by
  have := List.length_filter_le (fun i => ch.getD i false) (List.range n)
  rwa [List.length_range] at this
/-- The xor so far: a row that came in, or one of one's own. -/
def VcP (w wr : World) (va : Option Addr) (vn vc : Nat) (xs : List Nat) : Prop := RowAt w va vn xs ∨ Own wr (w.heap.size + 1) (.slice va vn vc) xs
theorem VcP.row {w wr : World} {va : Option Addr} {vn vc : Nat} {xs : List Nat} (h : VcP w wr va vn vc xs) (hb : Below w.heap.size w wr) : RowAt wr va vn xs := by
  rcases h with h | h
  · exact h.below hb
  · obtain ⟨a, c, e, hr⟩ := h.row
    simp only [Value.slice.injEq] at e
    obtain ⟨rfl, rfl, rfl⟩ := e
    exact hr
/-- What the reference holds behind q steps. -/
def RcS (w wr : World) (rs : List RV) (s : CS) (va : Option Addr) (vn vc : Nat) : Prop :=
  OwnF wr w.heap.size (.slice (some ⟨w.heap.size, 0, none⟩) rs.length rs.length) s.ch ∧ VcP w wr va vn vc s.v ∧ Below w.heap.size w wr ∧ s.ch.length = rs.length
theorem OwnF.far {w w' : World} {g n c : Nat} {bs : List Bool} (h : OwnF w g (.slice (some ⟨g, 0, none⟩) n c) bs) (hb : Below w.heap.size w w') : OwnF w' g (.slice (some ⟨g, 0, none⟩) n c) bs :=
  h.below hb fun k hk => by
    have e : g = k := by simpa [Value.ownBlock] using hk
    rw [← e]
    exact h.at.2.1

set_option maxHeartbeats 16000000 in
theorem rchoose_any (a : Option Addr) (n c : Nat) (rs : List RV) (b t : Int) (w : World) (hr : RowsAt w a n rs) (hs : shortR rs) (hn : n ≤ 300) (hb : -9223372036854775808 ≤ b ∧ b ≤ 9223372036854775807) (ht : -1099511627776 ≤ t ∧ t ≤ 1099511627776) :
    Calls Tryz.prog 31 #[.slice a n c, .int .i64 b, .int .i64 t] w fun e w' => ∃ v, e = .returned v ∧ OwnZ w' w.heap.size v (chooseL rs b t) ∧ Below w.heap.size w w' := by
  obtain rfl := hr.1
  unfold chooseL
  by_cases h0 : rs.length = 0
  · rw [if_pos h0]
    have h0' : (rs.length : Int) = 0 := by omega
    clear hr
    go_enter Tryz.func31, Tryz.ntmps31
    go_wp2
    go_ret
    exact ⟨_, rfl, OwnZ.nil _ _, Below.refl _ _⟩
  · rw [if_neg h0]
    have h0' : ¬ (rs.length : Int) = 0 := by omega
    have hpl := (place_is b (show 0 < rs.length by omega)).2
    have hpe := (place_emod b (show 0 < rs.length by omega)).symm
    have h2 : (b.tmod rs.length) < rs.length := Int.tmod_lt_of_pos _ (by omega)
    have h3 : -(rs.length : Int) < b.tmod rs.length := by
      have := Int.lt_tmod_of_pos b (show (0 : Int) < rs.length by omega)
      omega
    generalize placeN b rs.length = p at *
    have hpl' : (p : Int) < (rs.length : Int) := by omega
    have hmk := make_f rs.length (by omega) w
    have hof := made_f w rs.length (by omega)
    have hb1 : Below w.heap.size w (w.alloc (.cells (madeCells #[.bool false] rs.length) 4)) := (Below.refl _ _).alloc (Nat.le_refl _) _
    generalize w.alloc (.cells (madeCells #[.bool false] rs.length) 4) = w1 at *
    have hcp := hof.at.2.2.1 p (by rw [List.length_replicate]; exact hpl)
    have hfp := hof.at.2.2.2 p
    have hof2 := hof.stored p true
    have hb2 := hb1.setCell (p := ⟨w.heap.size, p, none⟩) (Nat.le_refl _) (.bool true)
    obtain ⟨bb, off, rfl, hcl⟩ := hr.at hpl
    have hbb : bb < w.heap.size := World.block_lt_of_cell? w _ (hcl p hpl).1
    have hc0 := (hb2.cell (p := ⟨bb, off + p * 2, none⟩) hbb).trans (hcl p hpl).1
    have HCL := hide (fun wx (hbx : Below w.heap.size w wx) i (hi : i < rs.length) => (hbx.cell (p := ⟨bb, off + i * 2, none⟩) hbb).trans (hcl i hi).1)
    have hst0 : RcS w (w1.setCell ⟨w.heap.size, p, none⟩ (.bool true)) rs (chTo (vecsR rs) t p 0) (rs.getD p .dflt).a (rs.getD p .dflt).n (rs.getD p .dflt).c := by
      have e1 : (chTo (vecsR rs) t p 0).ch = (List.replicate rs.length false).set p true := by rw [← vecsR_len rs]; rfl
      have e2 : (chTo (vecsR rs) t p 0).v = (rs.getD p .dflt).xs := by rw [← vecsR_get hpl]; rfl
      exact ⟨by rw [e1]; exact hof2, .inl (by rw [e2]; exact hr.2.1 p hpl), hb2, by rw [e1, List.length_set, List.length_replicate]⟩
    have HST := hide hst0
    have HV := hide (vecs_len hr hs)
    have HR := hide hr
    have HSH := hide hs
    have HFA := hide (fun d (hd : d ≤ 1048576) wx => far_any d t hd ht wx)
    generalize rs.getD p .dflt = r0 at *
    clear hr hs hof hof2 hb1 hb2 hcl hst0
    go_enter Tryz.func31, Tryz.ntmps31
    go_wp2
    generalize hW : w1.setCell ⟨w.heap.size, p, none⟩ (.bool true) = w2 at *
    clear hcp hfp hc0 hmk hpe h2 h3 hW
    generalize (b.tmod rs.length + rs.length) % rs.length = z9 at *
    generalize b.tmod rs.length + rs.length = z10 at *
    generalize b.tmod rs.length = z11 at *
    rw [show ((rs.length : Int) == 0) = false from beq_eq_false_iff_ne.2 h0']
    go_loopw [10, 11] (fun v k wr => ∃ j : Nat, ∃ va : Option Addr, ∃ vn vc : Nat, 1 ≤ j ∧ j ≤ 32 ∧ k = .int .i64 j ∧ v = .slice va vn vc ∧ Hid (RcS w wr rs (chTo (vecsR rs) t p (j - 1)) va vn vc)) (fun _ k _ => 33 - (intOf k).toNat)
    case atStart => exact ⟨1, _, _, _, Nat.le_refl _, by omega, rfl, rfl, HST⟩
    case round =>
      obtain ⟨j, va, vn, vc, hj1, hj2, rfl, rfl, HS⟩ := hrel
      clear HST
      obtain ⟨wo, rfl⟩ : ∃ wo, wo = wr := ⟨wr, rfl⟩
      by_cases hlt : j < 32
      · have hlt' : (j : Int) < 32 := by omega
        obtain ⟨hO, hV, hB, hl⟩ := unhide HS
        have hrowv := hV.row hB
        have hx := chTo_len (t := t) (p := p) (unhide HV) (j - 1)
        have HEN := hide (fun h => chTo_last (V := vecsR rs) (t := t) (p := p) (k := j - 1) (by omega) h)
        have HSP := hide (show ∀ b, (nearTo (vecsR rs) (chTo (vecsR rs) t p (j - 1)).ch (chTo (vecsR rs) t p (j - 1)).v t (vecsR rs).length).1 = some b → chTo (vecsR rs) t p (j + 1 - 1) = ⟨(chTo (vecsR rs) t p (j - 1)).ch.set b true, xorL (chTo (vecsR rs) t p (j - 1)).v ((vecsR rs).getD b [])⟩ from fun b h => by
          have h5 : chTo (vecsR rs) t p (j - 1 + 1) = chStep (vecsR rs) t (chTo (vecsR rs) t p (j - 1)) := rfl
          rw [show j + 1 - 1 = j - 1 + 1 by omega, h5]
          exact step_some h)
        rw [vecsR_len] at HEN HSP
        have HOF := hide hO
        have HBO := hide hB
        have HLN := hide hl
        have HEND0 := hide (show (chTo (vecsR rs) t p 31).ch = (chTo (vecsR rs) t p 31).ch from rfl)
        obtain ⟨s31, HS31⟩ : ∃ s, Hid (chTo (vecsR rs) t p 31 = s) := ⟨_, hide rfl⟩
        rw [unhide HS31] at HEN
        generalize chTo (vecsR rs) t p (j - 1) = s at *
        obtain ⟨ch, xs⟩ := s
        simp only at *
        have hvl := hrowv.1
        have hc1 : cnt xs ≤ 1048576 := by have := cnt_le xs; omega
        have HCN := hide (rcount_any va vn vc xs wo hrowv (by omega))
        have HF0 := hide (unhide HFA (cnt xs) hc1)
        have HN0 := hide (show distZ (cnt xs) t = (nearTo (vecsR rs) ch xs t 0).2 from rfl)
        have HRV := hide hrowv
        have HVC := hide hV
        have hvl' : vn ≤ 10 := by omega
        clear hO hV hB hl hrowv HS HEND0 hvl
        generalize cnt xs = d0 at *
        go_wp2_with (first
          | (go_at_call 42; refine (unhide HCN).mono ?_; rintro e w3 ⟨rfl, hw3⟩; obtain rfl := hw3.symm; clear hw3)
          | (go_at_call 56; refine (unhide HF0 _).mono ?_; rintro e w4 ⟨rfl, hw4⟩; obtain rfl := hw4.symm; clear hw4))
        go_loopw [12, 13, 14] (fun bs nr i wx => ∃ m : Nat, m ≤ rs.length ∧ i = .int .i64 m ∧ bs = .int .i64 (nextZ (nearTo (vecsR rs) ch xs t m).1) ∧ nr = .int .i64 (nearTo (vecsR rs) ch xs t m).2 ∧ Hid (Below wo.heap.size wo wx)) (fun _ _ i _ => rs.length - (intOf i).toNat)
        case atStart => exact ⟨0, Nat.zero_le _, rfl, rfl, by rw [unhide HN0], hide (Below.refl _ _)⟩
        case round =>
          obtain ⟨m, hm, rfl, rfl, rfl, HBI⟩ := hrel
          clear HN0
          have hsw := (unhide HBO).size
          have hbw := (unhide HBO).trans ((unhide HBI).mono hsw)
          by_cases hmn : m < rs.length
          · have hmn' : (m : Int) < (rs.length : Int) := by omega
            have hc0 := unhide HCL wr hbw m hmn
            have hrow := ((unhide HR).below hbw).2.1 m hmn
            have hsh := (unhide HSH m).1
            have hOw := (unhide HOF).far (unhide HBI)
            have hck0 := hOw.at.2.2.1 m (by rw [unhide HLN]; exact hmn)
            have HCK := hide (fun wx (hbx : Below wr.heap.size wr wx) => (hbx.cell (p := ⟨w.heap.size, m, none⟩) hOw.at.2.1).trans hck0)
            have hbrd : brD (vecsR rs) xs m = cnt (xorL xs (rs.getD m .dflt).xs) := by unfold brD; rw [vecsR_get hmn]
            have hrl := hrow.1
            have HYS := hide (fun hh => nearTo_yes (V := vecsR rs) (ch := ch) (v := xs) (t := t) (i := m) hh)
            have HNO := hide (fun hh => nearTo_no (V := vecsR rs) (ch := ch) (v := xs) (t := t) (i := m) hh)
            clear hOw
            generalize rs.getD m .dflt = r at *
            have HX := hide (rxor_any va vn vc xs r.a r.n r.c r.xs wr ((unhide HRV).below (unhide HBI)) hrow (by omega) (by omega))
            have hzl : (xorL xs r.xs).length ≤ 10 := by rw [xorL_length]; omega
            generalize xorL xs r.xs = zs at *
            have hdl : cnt zs ≤ 1048576 := by have := cnt_le zs; omega
            have HFA2 := unhide HFA (cnt zs) hdl
            have HFA := hide HFA2
            clear HFA2 hrow
            have HBR := hide hbrd
            have HCZ := hide (fun wx a m c (h : RowAt wx a m zs) (hm : m ≤ 10) => rcount_any a m c zs wx h (by omega))
            clear hbrd hrl
            generalize cnt zs = e1 at *
            cases hcm : ch.getD m false
            · rw [hcm] at hck0 HCK
              have HNR := hide (show nearer (vecsR rs) ch xs t m (nearTo (vecsR rs) ch xs t m).2 ↔ 0 < e1 ∧ distZ e1 t < (nearTo (vecsR rs) ch xs t m).2 from by
                unfold nearer
                rw [unhide HBR, hcm]
                exact ⟨fun h => h.2, fun h => ⟨rfl, h⟩⟩)
              have HD2 := hide (show distZ (brD (vecsR rs) xs m) t = distZ e1 t from by rw [unhide HBR])
              generalize nearTo (vecsR rs) ch xs t m = Z at *
              clear hcm
              have hdp := distZ_pos e1 t
              generalize distZ e1 t = f1 at *
              by_cases h1 : 0 < e1
              · have h1' : (0 : Int) < (e1 : Int) := by omega
                by_cases h2 : f1 < Z.2
                · have HE := hide (unhide HYS ((unhide HNR).2 ⟨h1, h2⟩))
                  clear HYS HNO HNR
                  go_wp2_with (first
                    | (go_at_call 57; refine (unhide HX).mono ?_; rintro e w3 ⟨v3, rfl, ho3, hb3⟩; obtain ⟨a3, m3, c3, rfl, hr3, hm3⟩ : ∃ a m c, v3 = Value.slice a m c ∧ RowAt w3 a m zs ∧ m ≤ 10 := (by obtain ⟨a, c, e, hr⟩ := ho3.row; exact ⟨a, _, c, e, hr, hzl⟩); have HR3 := hide hr3; have HB3 := hide hb3; have hck := unhide HCK w3 hb3; clear hb3 ho3 hr3)
                    | (go_at_call 42; refine (unhide HCZ w3 a3 m3 c3 (unhide HR3) hm3).mono ?_; rintro e w4 ⟨rfl, hw4⟩; obtain rfl := hw4.symm; clear hw4)
                    | (go_at_call 56; refine (unhide HFA _).mono ?_; rintro e w5 ⟨rfl, hw5⟩; obtain rfl := hw5.symm; clear hw5))
                  go_roundw
                  case rel => exact ⟨m + 1, by omega, by go_num, by rw [unhide HE]; rfl, by rw [unhide HE]; show _ = Value.int .i64 (distZ (brD (vecsR rs) xs m) t); rw [unhide HD2], hide (below0 (unhide HBI) (unhide HB3))⟩
                  case measure => simp [intOf]; omega
                · have HE := hide (unhide HNO fun hh => h2 ((unhide HNR).1 hh).2)
                  clear HYS HNO HNR
                  go_wp2_with (first
                    | (go_at_call 57; refine (unhide HX).mono ?_; rintro e w3 ⟨v3, rfl, ho3, hb3⟩; obtain ⟨a3, m3, c3, rfl, hr3, hm3⟩ : ∃ a m c, v3 = Value.slice a m c ∧ RowAt w3 a m zs ∧ m ≤ 10 := (by obtain ⟨a, c, e, hr⟩ := ho3.row; exact ⟨a, _, c, e, hr, hzl⟩); have HR3 := hide hr3; have HB3 := hide hb3; have hck := unhide HCK w3 hb3; clear hb3 ho3 hr3)
                    | (go_at_call 42; refine (unhide HCZ w3 a3 m3 c3 (unhide HR3) hm3).mono ?_; rintro e w4 ⟨rfl, hw4⟩; obtain rfl := hw4.symm; clear hw4)
                    | (go_at_call 56; refine (unhide HFA _).mono ?_; rintro e w5 ⟨rfl, hw5⟩; obtain rfl := hw5.symm; clear hw5))
                  go_roundw
                  case rel => exact ⟨m + 1, by omega, by go_num, by rw [unhide HE], by rw [unhide HE], hide (below0 (unhide HBI) (unhide HB3))⟩
                  case measure => simp [intOf]; omega
              · have h1' : ¬ (0 : Int) < (e1 : Int) := by omega
                have HE := hide (unhide HNO fun hh => h1 ((unhide HNR).1 hh).1)
                clear HYS HNO HNR
                go_wp2_with (first
                  | (go_at_call 57; refine (unhide HX).mono ?_; rintro e w3 ⟨v3, rfl, ho3, hb3⟩; obtain ⟨a3, m3, c3, rfl, hr3, hm3⟩ : ∃ a m c, v3 = Value.slice a m c ∧ RowAt w3 a m zs ∧ m ≤ 10 := (by obtain ⟨a, c, e, hr⟩ := ho3.row; exact ⟨a, _, c, e, hr, hzl⟩); have HR3 := hide hr3; have HB3 := hide hb3; have hck := unhide HCK w3 hb3; clear hb3 ho3 hr3)
                  | (go_at_call 42; refine (unhide HCZ w3 a3 m3 c3 (unhide HR3) hm3).mono ?_; rintro e w4 ⟨rfl, hw4⟩; obtain rfl := hw4.symm; clear hw4)
                  | (go_at_call 56; refine (unhide HFA _).mono ?_; rintro e w5 ⟨rfl, hw5⟩; obtain rfl := hw5.symm; clear hw5))
                go_roundw
                case rel => exact ⟨m + 1, by omega, by go_num, by rw [unhide HE], by rw [unhide HE], hide (below0 (unhide HBI) (unhide HB3))⟩
                case measure => simp [intOf]; omega
            · rw [hcm] at hck0 HCK
              have HE := hide (unhide HNO fun hh => absurd (hcm.symm.trans hh.1) (by decide))
              clear HYS HNO
              go_wp2_with (first
                | (go_at_call 57; refine (unhide HX).mono ?_; rintro e w3 ⟨v3, rfl, ho3, hb3⟩; obtain ⟨a3, m3, c3, rfl, hr3, hm3⟩ : ∃ a m c, v3 = Value.slice a m c ∧ RowAt w3 a m zs ∧ m ≤ 10 := (by obtain ⟨a, c, e, hr⟩ := ho3.row; exact ⟨a, _, c, e, hr, hzl⟩); have HR3 := hide hr3; have HB3 := hide hb3; have hck := unhide HCK w3 hb3; clear hb3 ho3 hr3)
                | (go_at_call 42; refine (unhide HCZ w3 a3 m3 c3 (unhide HR3) hm3).mono ?_; rintro e w4 ⟨rfl, hw4⟩; obtain rfl := hw4.symm; clear hw4)
                | (go_at_call 56; refine (unhide HFA _).mono ?_; rintro e w5 ⟨rfl, hw5⟩; obtain rfl := hw5.symm; clear hw5))
              go_roundw
              case rel => exact ⟨m + 1, by omega, by go_num, by rw [unhide HE], by rw [unhide HE], hide (below0 (unhide HBI) (unhide HB3))⟩
              case measure => simp [intOf]; omega
          · obtain rfl : m = rs.length := by omega
            have hOw := (unhide HOF).far (unhide HBI)
            obtain ⟨_, _, k3⟩ := near_spec (vecsR rs) ch xs t rs.length
            cases hb : (nearTo (vecsR rs) ch xs t rs.length).1 with
            | none =>
              have HEND := hide (show (chTo (vecsR rs) t p 31).ch = ch from by rw [unhide HS31, ← unhide HEN hb])
              have HOF2 := hide hOw
              have HBO2 := hide hbw
              clear HOF HBO HEN HSP hOw hbw k3 HCN HF0 HRV HVC HCL HBI HR HSH HV hsw
              obtain ⟨wi, rfl⟩ : ∃ wi, wi = wo := ⟨wo, rfl⟩
              obtain ⟨wo, rfl⟩ : ∃ wo, wo = wr := ⟨wr, rfl⟩
              have HOF := HOF2
              have HBO := HBO2
              clear HOF2 HBO2 HS31 hb
              rw [show nextZ none = -1 from rfl]
              generalize (nearTo (vecsR rs) ch xs t rs.length).2 = z13 at *
              have HC := hide (fun (wx : World) (hb : Below wo.heap.size wo wx) (u : Nat) (hu : u < rs.length) => (hb.cell (p := ⟨w.heap.size, u, none⟩) (unhide HOF).at.2.1).trans ((unhide HOF).at.2.2.1 u (by rw [unhide HLN]; exact hu)))
              have HBW := hide (unhide HBO)
              clear HOF HBO HLN
              go_wp2
              go_loopw [16, 17] (fun o i wx => ∃ u : Nat, u ≤ rs.length ∧ i = .int .i64 u ∧ Hid (OwnZ wx wo.heap.size o (castZ (placesCh ch u)) ∧ Below wo.heap.size wo wx)) (fun _ i _ => rs.length - (intOf i).toNat)
              case atStart => exact ⟨0, Nat.zero_le _, rfl, hide ⟨OwnZ.nil _ _, Below.refl _ _⟩⟩
              case round =>
                obtain ⟨u, hu, rfl, HR⟩ := hrel
                obtain ⟨hO, hBl⟩ := unhide HR
                by_cases hun : u < rs.length
                · have hcell := unhide HC _ hBl u hun
                  have hun' : (u : Int) < (rs.length : Int) := by omega
                  have hml : (castZ (placesCh ch u)).length ≤ 1048576 := by
                    rw [castZ_length]
                    have := places_le ch u
                    omega
                  have hsz := hBl.size
                  have HO := hide hO
                  have HB2 := hide hBl
                  have HMS := hide (places_succ ch u)
                  cases hb : ch.getD u false with
                  | true =>
                    rw [hb] at hcell
                    have HMY := hide (show placesCh ch (u + 1) = placesCh ch u ++ [u] from by rw [unhide HMS, hb, if_pos rfl])
                    clear hO hBl hb HR HMS
                    go_wp2_with (at_builtin; refine wpList_pushZ rfl _ _ rfl wo.heap.size u16 _ (u : Int) rfl rfl (unhide HO) hsz hml ?_; intro s4 w4 ho4 hb4; have HO4 := hide ho4; have HB4 := hide hb4; clear ho4 hb4)
                    go_roundw
                    case rel =>
                      refine ⟨u + 1, by omega, by go_num, hide ⟨?_, (unhide HB2).trans (unhide HB4)⟩⟩
                      rw [unhide HMY, castZ_append]
                      exact unhide HO4
                    case measure => simp [intOf]; omega
                  | false =>
                    rw [hb] at hcell
                    have HMN := hide (show placesCh ch (u + 1) = placesCh ch u from by rw [unhide HMS, hb, if_neg (by decide)])
                    clear hO hBl hb HR HMS
                    go_wp2
                    go_roundw
                    case rel =>
                      refine ⟨u + 1, by omega, by go_num, hide ⟨?_, unhide HB2⟩⟩
                      rw [unhide HMN]
                      exact unhide HO
                    case measure => simp [intOf]; omega
                · obtain rfl : u = rs.length := by omega
                  have HO := hide hO
                  have HB2 := hide hBl
                  clear hO hBl HR HC
                  go_wp2
                  go_ret
                  have hsz := (unhide HBW).size
                  exact ⟨_, rfl, by rw [unhide HEND]; exact (unhide HO).mono hsz, (unhide HBW).trans ((unhide HB2).mono hsz)⟩
            | some b2 =>
              rw [hb] at k3
              have hbn := k3.1
              have hbn' : (b2 : Int) < (rs.length : Int) := by omega
              have hnb : ¬ ((b2 : Int) < 0) := by omega
              have HST2 := hide (unhide HSP b2 hb)
              have hcb := hOw.at.2.2.1 b2 (by rw [unhide HLN]; exact hbn)
              have hfb := hOw.at.2.2.2 b2
              have hOs := hOw.stored b2 true
              have hbs := hbw.setCell (p := ⟨w.heap.size, b2, none⟩) (Nat.le_refl _) (.bool true)
              have hgl := hOw.at.2.1
              have hcr := unhide HCL _ hbs b2 hbn
              have hvs : VcP w (wr.setCell ⟨w.heap.size, b2, none⟩ (.bool true)) va vn vc xs := (unhide HVC).imp id fun h => (h.below (unhide HBI)).other _ _ (Nat.lt_succ_self _)
              have hrow := ((unhide HR).below hbs).2.1 b2 hbn
              have hsh := (unhide HSH b2).1
              have HVG := hide (vecsR_get (rs := rs) hbn)
              have HX := hide (rxor_any va vn vc xs (rs.getD b2 .dflt).a (rs.getD b2 .dflt).n (rs.getD b2 .dflt).c (rs.getD b2 .dflt).xs (wr.setCell ⟨w.heap.size, b2, none⟩ (.bool true)) (hvs.row hbs) hrow (by omega) (by omega))
              have HOS := hide (fun wx (hbx : Below (wr.setCell ⟨w.heap.size, b2, none⟩ (.bool true)).heap.size (wr.setCell ⟨w.heap.size, b2, none⟩ (.bool true)) wx) => hOs.far hbx)
              have HBS := hide hbs
              have hgz : w.heap.size + 1 ≤ (wr.setCell ⟨w.heap.size, b2, none⟩ (.bool true)).heap.size := by rw [World.size_setCell]; exact hgl
              clear hOw k3 hOs hbs hvs hrow hbw HCN HF0 HRV HVC HEN HSP HOF HBO hsw
              generalize rs.getD b2 .dflt = r at *
              rw [show nextZ (some b2) = (b2 : Int) from rfl]
              clear hb
              generalize (nearTo (vecsR rs) ch xs t rs.length).2 = z13 at *
              generalize hwS : wr.setCell ⟨w.heap.size, b2, none⟩ (.bool true) = ws at *
              go_wp2_with (first | (go_at_call 57; refine (unhide HX).mono ?_; rintro e w3 ⟨v3, rfl, ho3, hb3⟩; obtain ⟨a3, m3, c3, rfl⟩ : ∃ a m c, v3 = Value.slice a m c := (by obtain ⟨a, c, e, _⟩ := ho3.row; exact ⟨a, _, c, e⟩); have HO3 := hide ho3; have HB3 := hide hb3; clear ho3 hb3))
              go_roundw
              case rel =>
                refine ⟨j + 1, a3, m3, c3, by omega, by omega, by go_num, rfl, hide ?_⟩
                rw [unhide HST2]
                refine ⟨unhide HOS _ (unhide HB3), .inr ?_, below0 (unhide HBS) (unhide HB3), by show (List.set _ _ _).length = _; rw [List.length_set]; exact unhide HLN⟩
                show Own w3 _ _ (xorL xs ((vecsR rs).getD b2 []))
                rw [unhide HVG]
                exact (unhide HO3).mono hgz
              case measure => simp [intOf]; omega
      · have hlt' : ¬ (j : Int) < 32 := by omega
        have hS2 := unhide HS
        rw [show j - 1 = 31 by omega] at hS2
        obtain ⟨hO, hV, hB, hl⟩ := hS2
        obtain ⟨ch, hch⟩ : ∃ ch, (chTo (vecsR rs) t p 31).ch = ch := ⟨_, rfl⟩
        rw [hch] at hO hl
        have HEND := hide hch
        have HOF := hide hO
        have HBO := hide hB
        have HLN := hide hl
        clear hO hV hB hl HS HCL HR HSH HV hch
        have HC := hide (fun (wx : World) (hb : Below wo.heap.size wo wx) (u : Nat) (hu : u < rs.length) => (hb.cell (p := ⟨w.heap.size, u, none⟩) (unhide HOF).at.2.1).trans ((unhide HOF).at.2.2.1 u (by rw [unhide HLN]; exact hu)))
        have HBW := hide (unhide HBO)
        clear HOF HBO HLN
        go_wp2
        go_loopw [16, 17] (fun o i wx => ∃ u : Nat, u ≤ rs.length ∧ i = .int .i64 u ∧ Hid (OwnZ wx wo.heap.size o (castZ (placesCh ch u)) ∧ Below wo.heap.size wo wx)) (fun _ i _ => rs.length - (intOf i).toNat)
        case atStart => exact ⟨0, Nat.zero_le _, rfl, hide ⟨OwnZ.nil _ _, Below.refl _ _⟩⟩
        case round =>
          obtain ⟨u, hu, rfl, HR⟩ := hrel
          obtain ⟨hO, hBl⟩ := unhide HR
          by_cases hun : u < rs.length
          · have hcell := unhide HC _ hBl u hun
            have hun' : (u : Int) < (rs.length : Int) := by omega
            have hml : (castZ (placesCh ch u)).length ≤ 1048576 := by
              rw [castZ_length]
              have := places_le ch u
              omega
            have hsz := hBl.size
            have HO := hide hO
            have HB2 := hide hBl
            have HMS := hide (places_succ ch u)
            cases hb : ch.getD u false with
            | true =>
              rw [hb] at hcell
              have HMY := hide (show placesCh ch (u + 1) = placesCh ch u ++ [u] from by rw [unhide HMS, hb, if_pos rfl])
              clear hO hBl hb HR HMS
              go_wp2_with (at_builtin; refine wpList_pushZ rfl _ _ rfl wo.heap.size u16 _ (u : Int) rfl rfl (unhide HO) hsz hml ?_; intro s4 w4 ho4 hb4; have HO4 := hide ho4; have HB4 := hide hb4; clear ho4 hb4)
              go_roundw
              case rel =>
                refine ⟨u + 1, by omega, by go_num, hide ⟨?_, (unhide HB2).trans (unhide HB4)⟩⟩
                rw [unhide HMY, castZ_append]
                exact unhide HO4
              case measure => simp [intOf]; omega
            | false =>
              rw [hb] at hcell
              have HMN := hide (show placesCh ch (u + 1) = placesCh ch u from by rw [unhide HMS, hb, if_neg (by decide)])
              clear hO hBl hb HR HMS
              go_wp2
              go_roundw
              case rel =>
                refine ⟨u + 1, by omega, by go_num, hide ⟨?_, unhide HB2⟩⟩
                rw [unhide HMN]
                exact unhide HO
              case measure => simp [intOf]; omega
          · obtain rfl : u = rs.length := by omega
            have HO := hide hO
            have HB2 := hide hBl
            clear hO hBl HR HC
            go_wp2
            go_ret
            have hsz := (unhide HBW).size
            exact ⟨_, rfl, by rw [unhide HEND]; exact (unhide HO).mono hsz, (unhide HBW).trans ((unhide HB2).mono hsz)⟩
end Go.Proofs.YtbcgiodgobmkaaaGreatDoor
