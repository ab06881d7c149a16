/-
  The walk of bucketlinelaw23.SeenPlays: any packets that come by any cache are answered as by the reference's.
-/
import Derived.Test.YtpklckpnimmkpaaSeI
import Derived.Test.YtpklckpnimmkpaaSeN
import Derived.Deep.RegionHeld3
import Derived.Deep.CutRange
import Derived.BigQuiet
namespace Go.Proofs.Ytpklckpnimmkpaa
open Go.RowKit Go.Sort Go.Maps
set_option linter.unusedVariables false
set_option maxRecDepth 4000

/-- Where no block that turns holds a uint32. -/
theorem U32At.tuB {F : Nat → Prop} {w w' : World} {a : Option Addr} {n : Nat} {L : List Nat} (h : U32At w a n L) (ht : Tu F w w') (hF : ∀ j, F j → ∀ (off : Nat) (x : Int), w.cell? ⟨j, off, none⟩ ≠ some (.int .u32 x)) : U32At w' a n L := by
  refine ⟨h.1, ?_⟩
  rcases h.2 with h0 | ⟨b, off, rfl, hc⟩
  · exact .inl h0
  · refine .inr ⟨b, off, rfl, fun i hi => ?_⟩
    have h1 := hc i hi
    exact (World.cell?_of_block (a := ⟨b, off + i, none⟩) (ht.block b (World.block_lt_of_cell? w _ h1) fun hf => hF b hf _ _ h1)).trans h1
theorem BkA.no32 {T : TypeId} {w : World} {g : Nat} {cs : List Value} (h : BkA T w g cs) (hn : ∀ v ∈ cs, ∀ x : Int, v ≠ .int .u32 x) (off : Nat) (x : Int) : w.cell? ⟨g, off, none⟩ ≠ some (.int .u32 x) := fun e => by
  unfold BkA at h
  rw [cell_of_row w g _ _ _ _ h] at e
  have e' : cs[off]? = some (.int .u32 x) := by simpa using e
  exact hn _ (List.mem_of_getElem? e') x rfl
theorem CaAt.no32 {w : World} {g b m N : Nat} {L : List Nat} (h : CaAt w g b m N L) (j : Nat) (hj : caF g b j) (off : Nat) (x : Int) : w.cell? ⟨j, off, none⟩ ≠ some (.int .u32 x) := by
  obtain ⟨nx, es, D, _, hk, ho, _⟩ := h.it
  rcases hj with rfl | rfl
  · exact hk.no32 (fun v hv y => by simp only [List.mem_cons, List.not_mem_nil, or_false] at hv; rcases hv with rfl | rfl | rfl <;> simp) off x
  · obtain ⟨es, clock, hb, _⟩ := ho
    simp [World.cell?, hb]
/-- A cache, and the reference's: its block cb, its prints in a slice. -/
structure SeP (w wr : World) (g b cb m N : Nat) (L : List Nat) (a : Option Addr) (n c : Nat) (M : List Nat) : Prop where
  cj : CaJ w wr g b m N L
  rb : BkA 38 wr cb [.int .i64 (m : Int), .slice a n c]
  us : U32At wr a n M
  lc : w.heap.size ≤ cb
theorem SeP.below {w wr w' : World} {g b cb m N : Nat} {L M : List Nat} {a : Option Addr} {n c : Nat} (h : SeP w wr g b cb m N L a n c M) (hb : Below wr.heap.size wr w') : SeP w w' g b cb m N L a n c M := ⟨h.cj.below hb, h.rb.below hb, h.us.below hb, h.lc⟩
theorem SeP.tu {w wr w' : World} {g b cb m N N' : Nat} {L L' M : List Nat} {a : Option Addr} {n c : Nat} (h : SeP w wr g b cb m N L a n c M) (ht : Tu (caF g b) wr w') (hc : CaAt w' g b m N' L') : SeP w w' g b cb m N' L' a n c M :=
  ⟨h.cj.tu ht hc, h.rb.tu ht (h.cj.ca.out h.rb (by decide)), h.us.tuB ht h.cj.ca.no32, h.lc⟩
theorem rc_tu2 (w : World) (p : Nat) (x y : Value) : Tu (fun j => j = p) w ((w.setCell ⟨p, 0, none⟩ x).setCell ⟨p, 1, none⟩ y) := (tu_set w p 0 x).trans (tu_set _ p 1 y) fun _ _ e => e
theorem SeP.setR {w wr : World} {g b cb m N : Nat} {L M M' : List Nat} {a a' : Option Addr} {n c n' c' : Nat} (h : SeP w wr g b cb m N L a n c M) (hu : U32At wr a' n' M') :
    SeP w ((wr.setCell ⟨cb, 0, none⟩ (.int .i64 (m : Int))).setCell ⟨cb, 1, none⟩ (.slice a' n' c')) g b cb m N L a' n' c' M' := by
  have ht := rc_tu2 wr cb (.int .i64 (m : Int)) (.slice a' n' c')
  have hout := h.cj.ca.out h.rb (by decide)
  have h32 : ∀ j, j = cb → ∀ (off : Nat) (x : Int), wr.cell? ⟨j, off, none⟩ ≠ some (.int .u32 x) := fun j e => by
    subst e
    exact h.rb.no32 (fun v hv y => by simp only [List.mem_cons, List.not_mem_nil, or_false] at hv; rcases hv with rfl | rfl <;> simp)
  exact ⟨⟨h.cj.ca.tu ht (fun e => hout (.inl e.symm)) (fun e => hout (.inr e.symm)), tu_low h.cj.bel ht h.lc, h.cj.lg, h.cj.lb⟩, (h.rb.set 0 _).set 1 _, hu.tuB ht h32, h.lc⟩

/-- .. and the reference's next one. -/
structure SeQ (w wr : World) (g b cb m N : Nat) (L : List Nat) (a : Option Addr) (n c : Nat) (M : List Nat) (pp : Nat) (a2 : Option Addr) (n2 c2 : Nat) (L2 : List Nat) : Prop where
  sp : SeP w wr g b cb m N L a n c M
  nb : BkA 38 wr pp [.int .i64 (m : Int), .slice a2 n2 c2]
  us : U32At wr a2 n2 L2
theorem SeQ.below {w wr w' : World} {g b cb m N : Nat} {L M : List Nat} {a : Option Addr} {n c pp : Nat} {a2 : Option Addr} {n2 c2 : Nat} {L2 : List Nat} (h : SeQ w wr g b cb m N L a n c M pp a2 n2 c2 L2) (hb : Below wr.heap.size wr w') : SeQ w w' g b cb m N L a n c M pp a2 n2 c2 L2 := ⟨h.sp.below hb, h.nb.below hb, h.us.below hb⟩
theorem SeQ.tu {w wr w' : World} {g b cb m N N' : Nat} {L L' M : List Nat} {a : Option Addr} {n c pp : Nat} {a2 : Option Addr} {n2 c2 : Nat} {L2 : List Nat} (h : SeQ w wr g b cb m N L a n c M pp a2 n2 c2 L2) (ht : Tu (caF g b) wr w') (hc : CaAt w' g b m N' L') : SeQ w w' g b cb m N' L' a n c M pp a2 n2 c2 L2 :=
  ⟨h.sp.tu ht hc, h.nb.tu ht (h.sp.cj.ca.out h.nb (by decide)), h.us.tuB ht h.sp.cj.ca.no32⟩

set_option maxHeartbeats 16000000 in
theorem seplays_walk (most : Int) (a : Option Addr) (n c : Nat) (ps : List PKV) (W : World) (h : PksAt W a n ps) (hn : n ≤ 9223372036854775807) (hbig : ∀ i, (ps.getD i .dflt).r.n ≤ 9223372036854775807 ∧ (ps.getD i .dflt).r.s.size ≤ 9223372036854775807) :
    Calls Try.prog 4 #[.int .i64 most, .slice a n c] W fun e w' => e = .returned (.bool true) ∧ Below W.heap.size W w' := by
  have HAW := hide (fun (w1 : World) => seawake_any w1)
  have HF := hide (fewP_any a n c ps W h hn hbig)
  have HH := hide h
  have HL1 := hide h.1
  clear h hbig
  go_enter Try.func4, Try.ntmps4
  go_wp2_with fail
  refine (unhide HF).mono ?_
  rintro e w0 ⟨hf, hw⟩
  obtain rfl := hw.symm
  clear hw HF
  rcases hf with ⟨rfl, hf⟩ | ⟨rfl, hf⟩
  case inr =>
    clear hf
    go_wp2_with (go_at_call 8; refine (unhide HAW _).mono ?_; rintro e w1 ⟨rfl, hb1⟩)
    go_ret
    exact ⟨rfl, hb1⟩
  have hl : n ≤ 60 := by rw [← unhide HL1]; exact hf.1
  have HN := hide (fun wx => cj_new most wx)
  have HR := hide (fun wx => rsnew_any most wx)
  have hm := capN_le most
  generalize capN most = m at *
  clear hf HL1
  go_wp2_with (first
    | (go_at_call 13; refine (unhide HN W).mono ?_; rintro e w1 ⟨g, b, rfl, hj1⟩; have HJ1 := hide hj1; clear hj1)
    | (go_at_call 14; refine (unhide HR w1).mono ?_; rintro e w2 ⟨rfl, hb2⟩; have HJ0 := hide (show SeP W (w2.alloc (.cells #[.int .i64 (m : Int), .slice none 0 0] 38)) g b w2.heap.size m 0 [] none 0 0 [] from ⟨((unhide HJ1).below hb2).below (alloc_low _ _), bkA_new 38 w2 [.int .i64 (m : Int), .slice none 0 0], U32At.nil _, Nat.le_trans (unhide HJ1).bel.size hb2.size⟩); clear hb2 HJ1)
    | fail)
  clear HN HR
  generalize w2.heap.size = cb at *
  go_loopw [7] (fun i wr => ∃ (j k : Nat) (b1 : Option Addr) (cc : Nat) (L : List Nat), j ≤ n ∧ i = .int .i64 j ∧ Hid (SeP W wr g b cb m j L b1 k cc L)) (fun i _ => n - (intOf i).toNat)
  case atStart => exact ⟨0, 0, none, 0, [], Nat.zero_le _, rfl, HJ0⟩
  case round =>
    obtain ⟨j, k, b1, cc, L, hj, rfl, HJ⟩ := hrel
    clear HJ0
    by_cases hlt : j < n
    case neg =>
      have hlt' : (n : Int) ≤ (j : Int) := by omega
      have HB := hide (unhide HJ).cj.bel
      clear HJ
      go_wp2_with (first | (go_at_call 8; refine (unhide HAW _).mono ?_; rintro e w9 ⟨rfl, hb9⟩; have HB9 := hide (below0 (unhide HB) hb9); clear hb9) | fail)
      go_ret
      exact ⟨rfl, unhide HB9⟩
    have hlt' : (j : Int) < (n : Int) := by omega
    have HRW := hide ((unhide HH).2.1 j hlt)
    obtain ⟨bl, off, rfl, hcl⟩ := ((unhide HH).below (unhide HJ).cj.bel).at hlt
    have HCL := hide (fun wx (hb : Below W.heap.size W wx) => by
      have h3 := ((unhide HH).below hb).at hlt
      obtain ⟨b1, off1, e1, h4⟩ := h3
      cases e1
      exact h4 j hlt)
    have hbl : bl < wr.heap.size := World.block_lt_of_cell? _ _ (hcl j hlt).1
    obtain ⟨q0, q1, q2, q3, q4, q5, q6⟩ := hcl j hlt
    clear hcl
    generalize ps.getD j .dflt = p at *
    have r0 := (unhide HJ).rb.at 0 rfl
    have r1 := (unhide HJ).rb.at 1 rfl
    have hLm := (unhide HJ).cj.ca.len
    have HFR := hide (fun wx N (h : CaJ W wx g b m N L) hN => sefresh_any g b m N L p wx h.ca ((unhide HRW).below h.bel) hN)
    have HHS := hide (fun wx N L (h : CaJ W wx g b m N L) => sehas_any g b m N L p wx h.ca ((unhide HRW).below h.bel))
    have HRF := hide (fun wx (h : SeP W wx g b cb m j L b1 k cc L) => rsfresh_any m b1 k cc L p wx h.us hm hLm ((unhide HRW).below h.cj.bel))
    have HRH := hide (fun wx N L a' n' c' M (h : SeP W wx g b cb m N L a' n' c' M) (hn : n' ≤ 1048576) => rshas_any m a' n' c' M p wx h.us hn ((unhide HRW).below h.cj.bel))
    have hk : k ≤ 256 := by have := (unhide HJ).us.1; omega
    have hL2 : (cameL m L p.pd).length ≤ 256 := Nat.le_trans (cameL_len hLm _) hm
    unfold RfP at HRF
    obtain ⟨L2, hL2e⟩ : ∃ L2, cameL m L p.pd = L2 := ⟨_, rfl⟩
    rw [hL2e] at HRF HFR hL2
    obtain ⟨fr, hfr⟩ : ∃ fr, freshD L p.pd = fr := ⟨_, rfl⟩
    rw [hfr] at HRF HFR
    obtain ⟨X, hX⟩ : ∃ X, prD p.pd = X := ⟨_, rfl⟩
    rw [hX] at HHS HRH
    unfold PKV.val at HRF HFR HHS HRH
    clear hL2e hfr hX hLm
    have HBZ : Hid (Below wr.heap.size wr (wr.drew.alloc (.cells #[.int .i64 0, .slice none 0 0] 38))) := hide ((Below.refl _ _).drew.alloc (Nat.le_refl _) _)
    have HBD : Hid (Below wr.heap.size wr wr.drew) := hide (Below.refl _ _).drew
    have hcl : cb < wr.heap.size := (unhide HJ).rb.lt
    have n1 : wr.heap.size ≠ cb := by omega
    have n2 : wr.heap.size ≠ bl := by omega
    go_wp2_with fail
    go_cut [8, 9] from 18 to 77 (fun p o wx => ∃ pp b2 k2 c2, p = .pointer (some ⟨pp, 0, none⟩) ∧ o = .bool fr ∧ Hid (BkA 38 wx pp [.int .i64 (m : Int), .slice b2 k2 c2] ∧ U32At wx b2 k2 L2 ∧ Below wr.heap.size wr wx ∧ wr.heap.size ≤ pp))
    case first =>
      go_region_held3 (fun w' => w'.cell? ⟨cb, 0, none⟩ = some (.int .i64 (m : Int)) ∧ w'.cell? ⟨cb, 1, none⟩ = some (.slice b1 k cc) ∧ w'.cell? ⟨bl, off + j * 7, none⟩ = some (.int .i64 p.o) ∧ w'.cell? ⟨bl, off + j * 7 + 1, none⟩ = some (.int .i64 p.l) ∧ w'.cell? ⟨bl, off + j * 7 + 2, none⟩ = some (.int .i64 p.k) ∧ w'.cell? ⟨bl, off + j * 7 + 3, none⟩ = some (.int .i64 p.z) ∧ w'.cell? ⟨bl, off + j * 7 + 4, none⟩ = some (.int .i64 p.h) ∧ w'.cell? ⟨bl, off + j * 7 + 5, none⟩ = some (.slice p.r.a p.r.n p.r.c) ∧ w'.cell? ⟨bl, off + j * 7 + 6, none⟩ = some (.string p.r.s)) (go_keep) (first
        | (go_at_call 15; refine (unhide HRF _ (by first | exact (unhide HJ).below (unhide HBD) | exact (unhide HJ).below (unhide HBZ))).mono ?_; rintro e w5 ⟨b5, k5, c5, rfl, hu5, hb5⟩; have D5 := hide (show Below wr.heap.size wr w5 from below0 (by first | exact unhide HBD | exact unhide HBZ) hb5); have HU5 := hide hu5; (first | (have X5 := hide (show BkA 38 w5 wr.heap.size [.int .i64 0, .slice none 0 0] from (bkA_new 38 wr.drew [.int .i64 0, .slice none 0 0]).below hb5); have x0 := (unhide X5).at 0 rfl; have x1 := (unhide X5).at 1 rfl; have xf0 := (unhide X5).frz 0; have xf1 := (unhide X5).frz 1) | skip); have hJ5 := (unhide HJ).below (unhide D5); have t0 := hJ5.rb.at 0 rfl; have t1 := hJ5.rb.at 1 rfl; obtain ⟨d0, d1, d2, d3, d4, d5, d6⟩ := unhide HCL w5 hJ5.cj.bel; have n3 : w5.heap.size ≠ cb := Nat.ne_of_gt hJ5.rb.lt; have n4 : w5.heap.size ≠ bl := Nat.ne_of_gt (Nat.lt_of_lt_of_le hbl (unhide D5).size); clear hu5 hb5 hJ5)
        | fail)
      all_goals (try go_wp2_with fail)
      all_goals go_meet
      all_goals first
        | (have hx5 := unhide X5; exact ⟨wr.heap.size, b5, k5, c5, rfl, rfl, hide ⟨(hx5.set 0 _).set 1 _, (unhide HU5).tuB (rc_tu2 _ _ _ _) (fun i e => by subst e; exact hx5.no32 (fun v hv y => by simp only [List.mem_cons, List.not_mem_nil, or_false] at hv; rcases hv with rfl | rfl <;> simp)), (unhide D5).trans ((rc_tu2 _ _ _ _).below (unhide D5).size (fun i hi e => by omega)), Nat.le_refl _⟩⟩)
        | exact ⟨w5.heap.size, b5, k5, c5, rfl, rfl, hide ⟨bkA_new 38 w5 _, (unhide HU5).below (alloc_low w5 _), below0 (unhide D5) (alloc_low w5 _), (unhide D5).size⟩⟩
    case rest =>
      obtain ⟨pp, b2, k2, c2, rfl, rfl, HQ⟩ := hcut
      have HS9 := hide (show SeQ W wc g b cb m j L b1 k cc L pp b2 k2 c2 L2 from ⟨(unhide HJ).below (unhide HQ).2.2.1, (unhide HQ).1, (unhide HQ).2.1⟩)
      have HK2 := hide (unhide HQ).2.1.1
      have hk2 : k2 ≤ 256 := by have := unhide HK2; omega
      clear q0 q1 q2 q3 q4 q5 q6 r0 r1 n1 n2 HBZ HBD HQ HRF HJ hcl hbl
      have ua := (unhide HS9).sp.rb.at 0 rfl
      have ub := (unhide HS9).sp.rb.at 1 rfl
      obtain ⟨u0, u1, u2, u3, u4, u5, u6⟩ := unhide HCL wc (unhide HS9).sp.cj.bel
      go_wp2_with fail
      go_region_held3 (fun w' => w'.cell? ⟨cb, 0, none⟩ = some (.int .i64 (m : Int)) ∧ w'.cell? ⟨cb, 1, none⟩ = some (.slice b1 k cc) ∧ w'.cell? ⟨bl, off + j * 7, none⟩ = some (.int .i64 p.o) ∧ w'.cell? ⟨bl, off + j * 7 + 1, none⟩ = some (.int .i64 p.l) ∧ w'.cell? ⟨bl, off + j * 7 + 2, none⟩ = some (.int .i64 p.k) ∧ w'.cell? ⟨bl, off + j * 7 + 3, none⟩ = some (.int .i64 p.z) ∧ w'.cell? ⟨bl, off + j * 7 + 4, none⟩ = some (.int .i64 p.h) ∧ w'.cell? ⟨bl, off + j * 7 + 5, none⟩ = some (.slice p.r.a p.r.n p.r.c) ∧ w'.cell? ⟨bl, off + j * 7 + 6, none⟩ = some (.string p.r.s)) (go_keep) (first
        | (go_at_call 16; refine (unhide HHS _ _ _ ((unhide HS9).below (Below.refl _ _).drew).sp.cj).mono ?_; rintro e w10 ⟨rfl, hb10⟩; have HS10 := hide (((unhide HS9).below (Below.refl _ _).drew).below hb10); have va := (unhide HS10).sp.rb.at 0 rfl; have vb := (unhide HS10).sp.rb.at 1 rfl; obtain ⟨v0, v1, v2, v3, v4, v5, v6⟩ := unhide HCL w10 (unhide HS10).sp.cj.bel; clear hb10)
        | (go_at_call 17; refine (unhide HRH _ _ _ _ _ _ _ (unhide HS10).sp (by omega)).mono ?_; rintro e w11 ⟨rfl, hb11⟩; have HS11 := hide ((unhide HS10).below hb11); have xa := (unhide HS11).sp.rb.at 0 rfl; have xb := (unhide HS11).sp.rb.at 1 rfl; obtain ⟨x0, x1, x2, x3, x4, x5, x6⟩ := unhide HCL w11 (unhide HS11).sp.cj.bel; clear hb11)
        | (go_at_call 18; refine (unhide HFR _ _ (unhide HS11).sp.cj (by omega)).mono ?_; rintro e w12 ⟨rfl, hc12, ht12⟩; have HS12 := hide ((unhide HS11).tu ht12 hc12); have ya := (unhide HS12).sp.rb.at 0 rfl; have yb := (unhide HS12).sp.rb.at 1 rfl; obtain ⟨y0, y1, y2, y3, y4, y5, y6⟩ := unhide HCL w12 (unhide HS12).sp.cj.bel; clear hc12 ht12)
        | fail)
      all_goals
        have p0 := (unhide HS12).nb.at 0 rfl
        have p1 := (unhide HS12).nb.at 1 rfl
        have f0 := (unhide HS12).sp.rb.frz 0
        have f1 := (unhide HS12).sp.rb.frz 1
        have HS13 := hide ((unhide HS12).sp.setR (c' := c2) (unhide HS12).us)
        generalize hF : (w12.setCell ⟨cb, 0, none⟩ (.int .i64 (m : Int))).setCell ⟨cb, 1, none⟩ (.slice b2 k2 c2) = w13 at HS13
        have za := (unhide HS13).rb.at 0 rfl
        have zb := (unhide HS13).rb.at 1 rfl
        obtain ⟨z0, z1, z2, z3, z4, z5, z6⟩ := unhide HCL w13 (unhide HS13).cj.bel
        go_wp2_with fail
      all_goals go_region_held3 (fun w' => w'.cell? ⟨cb, 0, none⟩ = some (.int .i64 (m : Int)) ∧ w'.cell? ⟨cb, 1, none⟩ = some (.slice b2 k2 c2) ∧ w'.cell? ⟨bl, off + j * 7, none⟩ = some (.int .i64 p.o) ∧ w'.cell? ⟨bl, off + j * 7 + 1, none⟩ = some (.int .i64 p.l) ∧ w'.cell? ⟨bl, off + j * 7 + 2, none⟩ = some (.int .i64 p.k) ∧ w'.cell? ⟨bl, off + j * 7 + 3, none⟩ = some (.int .i64 p.z) ∧ w'.cell? ⟨bl, off + j * 7 + 4, none⟩ = some (.int .i64 p.h) ∧ w'.cell? ⟨bl, off + j * 7 + 5, none⟩ = some (.slice p.r.a p.r.n p.r.c) ∧ w'.cell? ⟨bl, off + j * 7 + 6, none⟩ = some (.string p.r.s)) (go_keep) (first
        | (go_at_call 19; refine (selen_any _ _ _ _ _ _ ((unhide HS13).below (Below.refl _ _).drew).cj.ca).mono ?_; rintro e w14 ⟨rfl, hw14⟩; obtain rfl := hw14.symm; clear hw14; rw [unhide HK2])
        | (go_at_call 16; refine (unhide HHS _ _ _ ((unhide HS13).below (Below.refl _ _).drew).cj).mono ?_; rintro e w15 ⟨rfl, hb15⟩; have HS15 := hide (((unhide HS13).below (Below.refl _ _).drew).below hb15); have sa := (unhide HS15).rb.at 0 rfl; have sb := (unhide HS15).rb.at 1 rfl; obtain ⟨s0, s1, s2, s3, s4, s5, s6⟩ := unhide HCL w15 (unhide HS15).cj.bel; clear hb15)
        | (go_at_call 17; refine (unhide HRH _ _ _ _ _ _ _ (unhide HS15) (by omega)).mono ?_; rintro e w16 ⟨rfl, hb16⟩; have HS16 := hide ((unhide HS15).below hb16); have ta := (unhide HS16).rb.at 0 rfl; have tb := (unhide HS16).rb.at 1 rfl; obtain ⟨t0, t1, t2, t3, t4, t5, t6⟩ := unhide HCL w16 (unhide HS16).cj.bel; clear hb16)
        | fail)
      all_goals go_wp2_with fail
      all_goals
        go_roundw
        case rel => exact ⟨j + 1, k2, b2, c2, L2, by omega, by go_num, HS16⟩
        case measure => simp [intOf]; omega
end Go.Proofs.Ytpklckpnimmkpaa
