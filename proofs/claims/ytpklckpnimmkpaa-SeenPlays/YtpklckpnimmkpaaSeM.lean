/-
  Contracts of bucketlineref23.New, Has, Fresh: a cache by value, its prints in a slice that can be read. At most 256 prints.
-/
import Derived.Test.YtpklckpnimmkpaaG3
import Derived.Test.YtpklckpnimmkpaaS32
import Derived.Test.YtpklckpnimmkpaaBw
namespace Go.Proofs.Ytpklckpnimmkpaa
open Go.RowKit Go.Sort Go.Maps
set_option linter.unusedVariables false
set_option maxRecDepth 4000

theorem info_rc : (Try.prog.info? 38).map (·.size) = some 2 := by kernel_rfl
theorem results_rc1 {tmps : Array Value} {W : World} {g : Nat} {a b : Value} (h2 : tmps.getD 2 undef = .pointer (some ⟨g, 0, none⟩)) (hq : BkA 38 W g [a, b]) :
    (results Try.f14 tmps).run Try.prog W = .ok (.agg #[a, b]) W := by
  have hld := hq.load Try.underlying38 rfl info_rc rfl
  have h2' : tmps[2]?.getD undef = .pointer (some ⟨g, 0, none⟩) := by simpa using h2
  simp [results, Try.results14, asAddr, h2', hld]
theorem results_rc2 {tmps : Array Value} {W : World} {g : Nat} {t : Bool} {a b : Value} (h2 : tmps.getD 4 undef = .pointer (some ⟨g, 0, none⟩)) (h3 : tmps.getD 5 undef = .bool t) (hq : BkA 38 W g [a, b]) :
    (results Try.f15 tmps).run Try.prog W = .ok (.tuple #[.agg #[a, b], .bool t]) W := by
  have hld := hq.load Try.underlying38 rfl info_rc rfl
  have h2' : tmps[4]?.getD undef = .pointer (some ⟨g, 0, none⟩) := by simpa using h2
  have h3' : tmps[5]?.getD undef = .bool t := by simpa using h3
  simp [results, Try.results15, asAddr, h2', h3', hld]
theorem rsnew_any (n : Int) (w : World) : Calls Try.prog 14 #[.int .i64 n] w fun e w' => e = .returned (.agg #[.int .i64 (capN n : Int), .slice none 0 0]) ∧ Below w.heap.size w w' := by
  have hcp := rcap_any n
  generalize capN n = m at *
  go_enter Try.func14, Try.ntmps14
  go_wp2_with (first
    | (go_at_call 20; refine (hcp _).mono ?_; rintro e w1 ⟨rfl, hw1⟩; obtain rfl := hw1.symm; clear hw1)
    | fail)
  exact bodyPost_ret (results_rc1 rfl (bkA_new 38 w [.int .i64 (m : Int), .slice none 0 0])) rfl ⟨rfl, alloc_low _ _⟩

/-- A cache's and a packet's block, one above the other; what they lead to. -/
structure HaS (w wk : World) (m : Nat) (a : Option Addr) (n c : Nat) (L : List Nat) (p : PKV) : Prop where
  cc : BkA 38 wk w.heap.size [.int .i64 (m : Int), .slice a n c]
  pa : BkA 26 wk (w.heap.size + 1) [.int .i64 p.o, .int .i64 p.l, .int .i64 p.k, .int .i64 p.z, .int .i64 p.h, .slice p.r.a p.r.n p.r.c, .string p.r.s]
  us : U32At wk a n L
  ro : RowAt wk p.r.a p.r.n p.r.xs
  bel : Below w.heap.size w wk
theorem HaS.below {w wk w' : World} {m : Nat} {a : Option Addr} {n c : Nat} {L : List Nat} {p : PKV} (h : HaS w wk m a n c L p) (hb : Below wk.heap.size wk w') : HaS w w' m a n c L p := ⟨h.cc.below hb, h.pa.below hb, h.us.below hb, h.ro.below hb, below0 h.bel hb⟩
theorem HaS.start {w : World} {m : Nat} {a : Option Addr} {n c : Nat} {L : List Nat} {p : PKV} (hu : U32At w a n L) (hr : RowAt w p.r.a p.r.n p.r.xs) :
    HaS w ((w.alloc (.cells #[.int .i64 (m : Int), .slice a n c] 38)).alloc (.cells #[.int .i64 p.o, .int .i64 p.l, .int .i64 p.k, .int .i64 p.z, .int .i64 p.h, .slice p.r.a p.r.n p.r.c, .string p.r.s] 26)) m a n c L p := by
  have b1 := below_new w (.cells #[.int .i64 (m : Int), .slice a n c] 38)
  have k1 := bkA_new 38 w [.int .i64 (m : Int), .slice a n c]
  generalize e1 : w.alloc (.cells #[.int .i64 (m : Int), .slice a n c] 38) = w2 at *
  have z2 : w2.heap.size = w.heap.size + 1 := by rw [← e1, alloc_size]
  have b2 := below_new w2 (.cells #[.int .i64 p.o, .int .i64 p.l, .int .i64 p.k, .int .i64 p.z, .int .i64 p.h, .slice p.r.a p.r.n p.r.c, .string p.r.s] 26)
  have k2 := bkA_new 26 w2 [.int .i64 p.o, .int .i64 p.l, .int .i64 p.k, .int .i64 p.z, .int .i64 p.h, .slice p.r.a p.r.n p.r.c, .string p.r.s]
  rw [z2] at k2
  exact ⟨k1.below b2, k2, (hu.below b1).below b2, (hr.below b1).below b2, below0 b1 b2⟩

set_option maxHeartbeats 2000000 in
theorem rshas_any (m : Nat) (a : Option Addr) (n c : Nat) (L : List Nat) (p : PKV) (w : World) (hu : U32At w a n L) (hn : n ≤ 1048576) (hr : RowAt w p.r.a p.r.n p.r.xs) :
    Calls Try.prog 17 #[.agg #[.int .i64 (m : Int), .slice a n c], p.val] w fun e w' => e = .returned (.bool (hasD L (prD p.pd))) ∧ Below w.heap.size w w' := by
  have HS0 := hide (HaS.start (m := m) (c := c) hu hr)
  have HP := hide (fun wx (h : HaS w wx m a n c L p) => rpr_any p wx h.ro)
  have HLL := hide hu.1
  obtain ⟨X, hX⟩ : ∃ X, prD p.pd = X := ⟨_, rfl⟩
  rw [hX] at HP ⊢
  unfold PKV.val at HP ⊢
  clear hu hr hX
  go_enter Try.func17, Try.ntmps17
  go_wp2
  generalize (w.alloc (.cells #[.int .i64 (m : Int), .slice a n c] 38)).alloc (.cells #[.int .i64 p.o, .int .i64 p.l, .int .i64 p.k, .int .i64 p.z, .int .i64 p.h, .slice p.r.a p.r.n p.r.c, .string p.r.s] 26) = W at *
  go_loopw [5] (fun i wr => ∃ j : Nat, j ≤ n ∧ i = .int .i64 j ∧ Hid (∀ i, i < j → L.getD i 0 ≠ X) ∧ Hid (HaS w wr m a n c L p)) (fun i _ => n - (intOf i).toNat)
  case atStart => exact ⟨0, Nat.zero_le _, rfl, hide (fun i hi => by omega), HS0⟩
  case round =>
    obtain ⟨j, hj, rfl, HN, HS⟩ := hrel
    clear HS0
    have k1 := (unhide HS).cc.at 1 rfl
    by_cases hlt : j < n
    · have hlt' : (j : Int) < (n : Int) := by omega
      obtain ⟨b0, off, rfl, hcl⟩ := (unhide HS).us.at hlt
      have hc := hcl j hlt
      clear hcl
      have q0 := (unhide HS).pa.at 0 rfl
      have q1 := (unhide HS).pa.at 1 rfl
      have q2 := (unhide HS).pa.at 2 rfl
      have q3 := (unhide HS).pa.at 3 rfl
      have q4 := (unhide HS).pa.at 4 rfl
      have q5 := (unhide HS).pa.at 5 rfl
      have q6 := (unhide HS).pa.at 6 rfl
      have HSD := hide (show HaS w wr.drew m (some ⟨b0, off, none⟩) n c L p from (unhide HS).below (Below.refl _ _).drew)
      have HCE := hide (fun wx (h : HaS w wx m (some ⟨b0, off, none⟩) n c L p) => by
        obtain ⟨b1, off1, e1, h4⟩ := h.us.at hlt
        cases e1
        exact h4 j hlt)
      have HY := hide (show ∀ x, L.getD j 0 = x → x = X → hasD L X = true from fun x h1 h2 => by
        rw [hasD_iff, ← h2, ← h1, List.getD_eq_getElem?_getD, List.getElem?_eq_getElem (by rw [unhide HLL]; exact hlt)]
        exact List.getElem_mem _)
      have HNN := hide (show ∀ x, L.getD j 0 = x → x ≠ X → ∀ i, i < j + 1 → L.getD i 0 ≠ X from fun x h1 h2 i hi => by
        by_cases e : i = j
        · rw [e, h1]; exact h2
        · exact unhide HN i (by omega))
      generalize hx : L.getD j 0 = x at *
      have HXE := hide hx
      clear hx HS HN
      go_wp2_with fail
      go_region_held (fun w' => w'.cell? ⟨w.heap.size, 1, none⟩ = some (.slice (some ⟨b0, off, none⟩) n c) ∧ w'.cell? ⟨b0, off + j, none⟩ = some (.int .u32 (x : Int)) ∧ w'.cell? ⟨w.heap.size + 1, 0, none⟩ = some (.int .i64 p.o) ∧ w'.cell? ⟨w.heap.size + 1, 1, none⟩ = some (.int .i64 p.l) ∧ w'.cell? ⟨w.heap.size + 1, 2, none⟩ = some (.int .i64 p.k) ∧ w'.cell? ⟨w.heap.size + 1, 3, none⟩ = some (.int .i64 p.z) ∧ w'.cell? ⟨w.heap.size + 1, 4, none⟩ = some (.int .i64 p.h) ∧ w'.cell? ⟨w.heap.size + 1, 5, none⟩ = some (.slice p.r.a p.r.n p.r.c) ∧ w'.cell? ⟨w.heap.size + 1, 6, none⟩ = some (.string p.r.s)) (go_keep) (first
        | (go_at_call 11; refine (unhide HP _ (unhide HSD)).mono ?_; rintro e w2 ⟨rfl, hb2⟩; have HS2 := hide ((unhide HSD).below hb2); have y1 := (unhide HS2).cc.at 1 rfl; have yc := unhide HCE _ (unhide HS2); have z0 := (unhide HS2).pa.at 0 rfl; have z1 := (unhide HS2).pa.at 1 rfl; have z2 := (unhide HS2).pa.at 2 rfl; have z3 := (unhide HS2).pa.at 3 rfl; have z4 := (unhide HS2).pa.at 4 rfl; have z5 := (unhide HS2).pa.at 5 rfl; have z6 := (unhide HS2).pa.at 6 rfl; clear hb2))
      by_cases hxX : x = X
      · have HT := hide (unhide HY x rfl hxX)
        subst hxX
        have HB := hide (unhide HS2).bel
        clear HY HNN HS2 HSD
        go_wp2
        go_ret
        exact ⟨ret_bool (unhide HT).symm, unhide HB⟩
      · have hne : ((x : Int) == (X : Int)) = false := by simp; omega
        have HN2 := hide (unhide HNN x rfl hxX)
        clear HY HNN hxX HSD
        go_wp2
        go_roundw
        case rel => exact ⟨j + 1, by omega, by go_num, HN2, HS2⟩
        case measure => simp [intOf]; omega
    · have hlt' : (n : Int) ≤ (j : Int) := by omega
      have HT := hide (show hasD L X = false from hasD_no.2 fun hm => by
        obtain ⟨i, hi, e⟩ := List.getElem_of_mem hm
        exact unhide HN i (by have := unhide HLL; omega) (by rw [List.getD_eq_getElem?_getD, List.getElem?_eq_getElem hi]; exact e))
      have HB := hide (unhide HS).bel
      clear HS HN
      go_wp2
      go_ret
      exact ⟨ret_bool (unhide HT).symm, unhide HB⟩
end Go.Proofs.Ytpklckpnimmkpaa
