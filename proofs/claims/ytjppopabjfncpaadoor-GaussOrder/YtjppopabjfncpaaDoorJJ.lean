/-
  Contracts of bucketlinelaw14.few and right.
-/
import Derived.Test.YtjppopabjfncpaaDoorJI
import Derived.Deep.RegionHeld3
namespace Go.Proofs.YtjppopabjfncpaaDoor
open Go.RowKit Go.Sort
set_option linter.unusedVariables false
set_option maxRecDepth 4000


/-- A bool that, where it is true, tells P. -/
def RetR (e : Ending) (P : Prop) : Prop := ∃ b, e = .returned (.bool b) ∧ (b = true → P)
theorem below_dN (w : World) (d : Nat) : Below w.heap.size w (w.drewN d) := ⟨rfl, rfl, rfl, Nat.le_refl _, fun _ _ => rfl⟩
set_option maxHeartbeats 400000 in
theorem few14_any (a : Option Addr) (n c : Nat) (rs : List RV) (w : World) (h : RowsAt w a n rs) (hn : n ≤ 9223372036854775807) (hbig : ∀ i, (rs.getD i .dflt).n ≤ 9223372036854775807 ∧ (rs.getD i .dflt).s.size ≤ 9223372036854775807) :
    Calls Tryd.prog 8 #[.slice a n c] w fun e w' => RetR e (shortR rs ∧ n ≤ 80) ∧ w' = w := by
  have HF := hide (fewR_any a n c rs w h hn hbig)
  clear h hbig
  go_enter Tryd.func8, Tryd.ntmps8
  go_wp2_with fail
  refine (unhide HF).mono ?_
  rintro e w0 ⟨hf, hw⟩
  obtain rfl := hw.symm
  clear hw HF
  rcases hf with ⟨rfl, hf⟩ | ⟨rfl, hf⟩
  · have Hf := hide hf
    clear hf
    by_cases h1 : n ≤ 80
    · have hd : decide ((n : Int) ≤ 80) = true := by rw [decide_eq_true_iff]; omega
      go_wp2
      go_ret
      exact ⟨⟨true, rfl, fun _ => ⟨(unhide Hf).2, h1⟩⟩, rfl⟩
    · have hd : decide ((n : Int) ≤ 80) = false := by rw [decide_eq_false_iff_not]; omega
      go_wp2
      go_ret
      exact ⟨⟨false, rfl, fun h => by cases h⟩, rfl⟩
  · clear hf
    go_wp2
    go_ret
    exact ⟨⟨false, rfl, fun h => by cases h⟩, rfl⟩

/-- Blocks of one size, and rows that are true of them, with texts of that size. -/
structure RightP (ss : List ByteArray) (rs : List RV) : Prop where
  short : shortR rs
  few : rs.length ≤ 80
  pos : 0 < ss.length
  most : ss.length ≤ 100
  size : ∀ i, i < ss.length → (ss.getD i ByteArray.empty).size = (ss.getD 0 ByteArray.empty).size ∧ (ss.getD i ByteArray.empty).size ≤ 100
  holds : ∀ i, i < rs.length → holdsB ss (rs.getD i .dflt).xs (rs.getD i .dflt).s = true ∧ (rs.getD i .dflt).s.size = (ss.getD 0 ByteArray.empty).size

set_option maxHeartbeats 4000000 in
theorem right_any (al : Option Addr) (nl cl : Nat) (ss : List ByteArray) (a : Option Addr) (n c : Nat) (rs : List RV) (w : World) (hl : TextsAt w al nl ss) (h : RowsAt w a n rs) (hn : n ≤ 9223372036854775807) (hbig : ∀ i, (rs.getD i .dflt).n ≤ 9223372036854775807 ∧ (rs.getD i .dflt).s.size ≤ 9223372036854775807) :
    Calls Tryd.prog 17 #[.slice al nl cl, .slice a n c] w fun e w' => RetR e (RightP ss rs) ∧ Below w.heap.size w w' := by
  have HF := hide (few14_any a n c rs w h hn hbig)
  have HL := hide hl
  have Hh := hide h
  have HLL := hide hl.1
  have HNL := hide h.1
  clear hl h hbig
  go_enter Tryd.func17, Tryd.ntmps17
  go_wp2_with fail
  refine (unhide HF).mono ?_
  rintro e w0 ⟨⟨b, rfl, hb⟩, hw⟩
  obtain rfl := hw.symm
  clear hw HF
  cases b
  · clear hb
    go_wp2
    go_ret
    exact ⟨⟨false, rfl, fun h => by cases h⟩, Below.refl _ _⟩
  obtain ⟨hs, hn80⟩ := hb rfl
  have Hs := hide hs
  clear hs
  by_cases h0 : nl = 0
  · have hd : ((nl : Int) == 0) = true := by rw [beq_iff_eq]; omega
    go_wp2
    go_ret
    exact ⟨⟨false, rfl, fun h => by cases h⟩, Below.refl _ _⟩
  have hd0 : ((nl : Int) == 0) = false := by rw [beq_eq_false_iff_ne]; omega
  by_cases h1 : 100 < nl
  · have hd : decide ((100 : Int) < (nl : Int)) = true := by rw [decide_eq_true_iff]; omega
    go_wp2
    go_ret
    exact ⟨⟨false, rfl, fun h => by cases h⟩, Below.refl _ _⟩
  have hd1 : decide ((100 : Int) < (nl : Int)) = false := by rw [decide_eq_false_iff_not]; omega
  go_wp2
  go_loopw [5] (fun i wr => ∃ k : Nat, k ≤ nl ∧ i = .int .i64 k ∧ Hid (∀ q, q < k → (ss.getD q ByteArray.empty).size = (ss.getD 0 ByteArray.empty).size ∧ (ss.getD q ByteArray.empty).size ≤ 100) ∧ ∃ d, wr = w.drewN d) (fun i _ => nl - (intOf i).toNat)
  case atStart => exact ⟨0, Nat.zero_le _, rfl, hide (fun q hq => by omega), 0, rfl⟩
  case round =>
    obtain ⟨k, hk, rfl, HZ, d, rfl⟩ := hrel
    by_cases hlt : k < nl
    · obtain ⟨bl, ofl, rfl, hcl⟩ := (unhide HL).at hlt
      have hck := hcl k hlt
      have hc0 := hcl 0 (by omega)
      have hlt' : (k : Int) < (nl : Int) := by omega
      have HZ2 := hide (fun (h : (ss.getD k ByteArray.empty).size = (ss.getD 0 ByteArray.empty).size ∧ (ss.getD k ByteArray.empty).size ≤ 100) => show ∀ q, q < k + 1 → (ss.getD q ByteArray.empty).size = (ss.getD 0 ByteArray.empty).size ∧ (ss.getD q ByteArray.empty).size ≤ 100 from fun q hq => by
        by_cases e : q = k
        · rw [e]; exact h
        · exact unhide HZ q (by omega))
      generalize ss.getD k ByteArray.empty = t at *
      generalize hss0 : ss.getD 0 ByteArray.empty = t0 at *
      rw [Nat.add_zero] at hc0
      clear hcl HZ
      by_cases h2 : t.size = t0.size
      · have hd2 : ((t.size : Int) == (t0.size : Int)) = true := by rw [beq_iff_eq]; omega
        by_cases h3 : 100 < t.size
        · have hd3 : decide ((100 : Int) < (t.size : Int)) = true := by rw [decide_eq_true_iff]; omega
          go_wp2
          go_quiet (fail)
          go_wp2
          go_ret
          exact ⟨⟨false, rfl, fun h => by cases h⟩, ⟨rfl, rfl, rfl, Nat.le_refl _, fun _ _ => rfl⟩⟩
        · have hd3 : decide ((100 : Int) < (t.size : Int)) = false := by rw [decide_eq_false_iff_not]; omega
          have HZ3 := hide (unhide HZ2 ⟨h2, by omega⟩)
          clear HZ2
          go_wp2
          go_quiet (fail)
          go_wp2
          go_roundw
          case rel => exact ⟨k + 1, by omega, by go_num, HZ3, _, rfl⟩
          case measure => simp [intOf]; omega
      · have hd2 : ((t.size : Int) == (t0.size : Int)) = false := by rw [beq_eq_false_iff_ne]; omega
        have hd3 : decide ((t.size : Int) = (t0.size : Int)) = false := decide_eq_false (by omega)
        have hd4 : decide (t.size = t0.size) = false := decide_eq_false h2
        have hd5 : ((t.size : Int) != (t0.size : Int)) = true := by rw [bne, hd2]; rfl
        go_wp2
        go_quiet (fail)
        go_wp2
        go_ret
        exact ⟨⟨false, rfl, fun h => by cases h⟩, ⟨rfl, rfl, rfl, Nat.le_refl _, fun _ _ => rfl⟩⟩
    · have hSS := hide (show shorts ss from fun s hs => by
        obtain ⟨i, hi, rfl⟩ := List.mem_iff_getElem.1 hs
        have := (unhide HZ i (by have := unhide HLL; omega)).2
        rw [List.getD_eq_getElem?_getD, List.getElem?_eq_getElem hi] at this
        simp only [Option.getD_some] at this
        omega)
      have hlt' : ¬ (k : Int) < (nl : Int) := by omega
      have HZK := hide (show ∀ q, q < nl → (ss.getD q ByteArray.empty).size = (ss.getD 0 ByteArray.empty).size ∧ (ss.getD q ByteArray.empty).size ≤ 100 from fun q hq => unhide HZ q (by omega))
      clear HZ
      go_wp2
      go_loopw [6] (fun i wr => ∃ m : Nat, m ≤ n ∧ i = .int .i64 m ∧ Hid (Below w.heap.size w wr) ∧ Hid (∀ q, q < m → holdsB ss (rs.getD q .dflt).xs (rs.getD q .dflt).s = true ∧ (rs.getD q .dflt).s.size = (ss.getD 0 ByteArray.empty).size)) (fun i _ => n - (intOf i).toNat)
      case atStart => exact ⟨0, Nat.zero_le _, rfl, hide ⟨rfl, rfl, rfl, Nat.le_refl _, fun _ _ => rfl⟩, hide (fun q hq => by omega)⟩
      case round =>
        obtain ⟨m, hm, rfl, HB, HZ⟩ := hrel
        by_cases hlt2 : m < n
        · have hR := (unhide Hh).below (unhide HB)
          obtain ⟨b, off, rfl, hcl⟩ := hR.at hlt2
          obtain ⟨hc0, hc1⟩ := hcl m hlt2
          obtain ⟨bl, ofl, rfl, hcl2⟩ := ((unhide HL).below (unhide HB)).at (i := 0) (by omega)
          have hct := hcl2 0 (by omega)
          rw [Nat.add_zero] at hct
          have hlt2' : (m : Int) < (n : Int) := by omega
          have hnl0 : (0 : Int) < (nl : Int) := by omega
          have hnl1 : 0 < nl := by omega
          have hsh := unhide Hs m
          have HHO := hide (fun (wx : World) (hb : Below wr.heap.size wr wx) => rholds_any (some ⟨bl, ofl, none⟩) nl cl ss (rs.getD m .dflt).a (rs.getD m .dflt).n (rs.getD m .dflt).c (rs.getD m .dflt).xs (rs.getD m .dflt).s wx (((unhide HL).below (unhide HB)).below hb) (unhide hSS) (by omega) ((hR.2.1 m hlt2).below hb) (by omega) (by omega))
          have HZ2 := hide (fun (h : holdsB ss (rs.getD m .dflt).xs (rs.getD m .dflt).s = true ∧ (rs.getD m .dflt).s.size = (ss.getD 0 ByteArray.empty).size) => show ∀ q, q < m + 1 → holdsB ss (rs.getD q .dflt).xs (rs.getD q .dflt).s = true ∧ (rs.getD q .dflt).s.size = (ss.getD 0 ByteArray.empty).size from fun q hq => by
            by_cases e : q = m
            · rw [e]; exact h
            · exact unhide HZ q (by omega))
          generalize rs.getD m .dflt = r at *
          generalize hss0 : ss.getD 0 ByteArray.empty = t0 at *
          have k0 := cell_regrown hc0
          have k1 := cell_regrown hc1
          have k2 := cell_regrown hct
          have cS := hide (quietB (fun wx hbx => unhide HHO wx hbx))
          have HQ := hide (fun (wx : World) (hb : Below wr.heap.size wr wx) => show wx.cell? ⟨b, off + m * 2, none⟩ = some (.slice r.a r.n r.c) ∧ wx.cell? ⟨b, off + m * 2 + 1, none⟩ = some (.string r.s) ∧ wx.cell? ⟨bl, ofl, none⟩ = some (.string t0) from ⟨(hb.cell (World.block_lt_of_cell? wr _ hc0)).trans hc0, (hb.cell (World.block_lt_of_cell? wr _ hc1)).trans hc1, (hb.cell (World.block_lt_of_cell? wr _ hct)).trans hct⟩)
          clear hcl hcl2 hR HZ
          cases hho : holdsB ss r.xs r.s
          · rw [hho] at cS
            clear HZ2 HHO hc0 hc1 hct HQ
            go_wp2_with fail
            refine wp_region_quiet_below (by kernel_rfl) (by kernel_rfl) ?_
            repeat (with_reducible refine wpQuiet_step (fun K hK => ?_); go_simp; first | (with_reducible refine hK _ ?_; clear hK K) | (apply Exists.intro; apply And.intro; (intro _; go_at_call 33; exact unhide cS _ _); with_reducible refine hK _ ?_; clear hK K))
            refine wpQuiet_nil ?_
            intro _ hw'
            obtain ⟨⟨dq, osq⟩, hw''⟩ := hw'
            subst hw''
            have C1 := hide (below_regrown wr dq osq)
            clear cS k0 k1 k2
            go_wp2
            go_ret
            exact ⟨⟨false, rfl, fun h => by cases h⟩, below0 (unhide HB) (unhide C1)⟩
          · rw [hho] at HHO
            clear cS k0 k1 k2
            by_cases h2 : r.s.size = t0.size
            · have HZ3 := hide (unhide HZ2 ⟨hho, h2⟩)
              have hd2 : ((r.s.size : Int) == (t0.size : Int)) = true := by rw [beq_iff_eq]; omega
              clear HZ2 hho
              go_wp2
              go_region_held (fun w' => w'.cell? ⟨b, off + m * 2, none⟩ = some (.slice r.a r.n r.c) ∧ w'.cell? ⟨b, off + m * 2 + 1, none⟩ = some (.string r.s) ∧ w'.cell? ⟨bl, ofl, none⟩ = some (.string t0)) (go_keep)
                (first | (go_at_call 33; refine (unhide HHO _ (Below.refl _ _).drew).mono ?_; rintro e w1 ⟨rfl, hb1⟩; have C1 := hide ((Below.refl wr.heap.size wr).drew.trans hb1); have q1 := unhide HQ _ (unhide C1); clear hb1))
              all_goals go_wp2
              go_roundw
              case rel => exact ⟨m + 1, by omega, by go_num, hide (below0 (unhide HB) (unhide C1)), HZ3⟩
              case measure => simp [intOf]; omega
            · have hd2 : ((r.s.size : Int) == (t0.size : Int)) = false := by rw [beq_eq_false_iff_ne]; omega
              have hd3 : decide ((r.s.size : Int) = (t0.size : Int)) = false := decide_eq_false (by omega)
              have hd4 : decide (r.s.size = t0.size) = false := decide_eq_false h2
              have hd5 : ((r.s.size : Int) != (t0.size : Int)) = true := by rw [bne, hd2]; rfl
              clear HZ2 hho
              go_wp2
              go_region_held (fun w' => w'.cell? ⟨b, off + m * 2, none⟩ = some (.slice r.a r.n r.c) ∧ w'.cell? ⟨b, off + m * 2 + 1, none⟩ = some (.string r.s) ∧ w'.cell? ⟨bl, ofl, none⟩ = some (.string t0)) (go_keep)
                (first | (go_at_call 33; refine (unhide HHO _ (Below.refl _ _).drew).mono ?_; rintro e w1 ⟨rfl, hb1⟩; have C1 := hide ((Below.refl wr.heap.size wr).drew.trans hb1); have q1 := unhide HQ _ (unhide C1); clear hb1))
              all_goals go_wp2
              go_ret
              exact ⟨⟨false, rfl, fun h => by cases h⟩, below0 (unhide HB) (unhide C1)⟩
        · have hlt2' : ¬ (m : Int) < (n : Int) := by omega
          go_wp2
          go_ret
          exact ⟨⟨true, rfl, fun _ => ⟨unhide Hs, by have := unhide HNL; omega, by have := unhide HLL; omega, by have := unhide HLL; omega, fun i hi => unhide HZK i (by have := unhide HLL; omega), fun i hi => unhide HZ i (by have := unhide HNL; omega)⟩⟩, unhide HB⟩
end Go.Proofs.YtjppopabjfncpaaDoor
