/-
  Contracts of gauss.vecs, gauss.fitting, bucketlineref14.Vecs: the rows' bits, and those rows that are of k blocks.
  Contracts of gauss.at, gauss.data: the rows at places, and the xor of their texts.
  Contracts of gauss.data, gauss.keep, gauss.Rank.
  Contracts of gauss.keep, gauss.Rank, bucketlineref14.Rank.
-/
import Derived.Test.YtjppopabjfncpaaDoorYX
import Derived.Test.YtjppopabjfncpaaDoorRk
import Derived.Test.YtjppopabjfncpaaDoorM10
import Derived.Test.YtjppopabjfncpaaDoorJM
import Derived.Test.YtjppopabjfncpaaDoorM12
namespace Go.Proofs.YtjppopabjfncpaaDoor
open Go.RowKit Go.Sort
set_option linter.unusedVariables false
set_option maxRecDepth 4000




set_option maxHeartbeats 2000000 in
theorem fitting_any (k : Int) (a : Option Addr) (n c : Nat) (rs : List RV) (w : World) (h : RowsAt w a n rs) (hcap : CapR rs) (hn : n ≤ 1048576) :
    Calls Tryd.prog 20 #[.int .i64 k, .slice a n c] w fun e w' => ∃ a1 m1 c1, e = .returned (.slice a1 m1 c1) ∧ GaS w w' a1 m1 c1 ((rs.filter fun r => validB k r.xs).map core) (rs.filter fun r => validB k r.xs) := by
  obtain rfl := h.1
  have Hh := hide h
  have HC := hide hcap
  clear h hcap
  go_enter Tryd.func20, Tryd.ntmps20
  go_wp2
  go_loopw [5, 10] (fun o i wr => ∃ m : Nat, ∃ a1 : Option Addr, ∃ m1 c1 : Nat, m ≤ rs.length ∧ i = .int .i64 m ∧ o = .slice a1 m1 c1 ∧ Hid (GaS w wr a1 m1 c1 (((rs.take m).filter fun r => validB k r.xs).map core) ((rs.take m).filter fun r => validB k r.xs))) (fun _ i _ => rs.length - (intOf i).toNat)
  case atStart => exact ⟨0, none, 0, 0, Nat.zero_le _, rfl, rfl, hide (GaS.nil w)⟩
  case round =>
    obtain ⟨m, a1, m1, c1, hm, rfl, rfl, HG⟩ := hrel
    by_cases hlt : m < rs.length
    · have hR := (unhide Hh).below (unhide HG).2.2.2.2
      obtain ⟨b, off, rfl, hcl⟩ := hR.at hlt
      obtain ⟨hc0, hc1⟩ := hcl m hlt
      have hrow := hR.2.1 m hlt
      have hrow0 := (unhide Hh).2.1 m hlt
      have hcp := unhide HC m hlt
      have hlt' : (m : Int) < (rs.length : Int) := by omega
      have HYS := hide (fun h => take_filter_yes (q := fun r => validB k r.xs) hlt h)
      have HNO := hide (fun h => take_filter_no (q := fun r => validB k r.xs) hlt h)
      have hfl : ((rs.take m).filter fun r => validB k r.xs).length ≤ 1048576 := by
        have h1 := List.length_filter_le (fun r : RV => validB k r.xs) (rs.take m)
        have h2 := List.length_take_le m rs
        omega
      generalize rs.getD m .dflt = r at *
      have hb1 : Below wr.heap.size wr (wr.alloc (.cells #[.slice r.a r.n r.c, .string r.s] 37)) := (Below.refl _ _).alloc (Nat.le_refl _) _
      have HV := hide (valid_any r.a r.n r.c r.xs k _ (hrow.below hb1))
      have hbx := box_new wr (.slice r.a r.n r.c) (.string r.s)
      have HBX := hide (fun w2 (hb : Below (wr.alloc (.cells #[.slice r.a r.n r.c, .string r.s] 37)).heap.size (wr.alloc (.cells #[.slice r.a r.n r.c, .string r.s] 37)) w2) => hbx.below hb)
      have HB1 := hide hb1
      have HR1 := hide (fun (w2 : World) (hb : Below wr.heap.size wr w2) => RowsIn.one (r := r) (hrow.below hb) hcp)
      have HT1 := hide (fun (w2 : World) => tys_old (w' := w2) hrow0)
      clear hR hcl hrow hrow0 hcp hb1 hbx
      generalize ((rs.take m).filter fun r => validB k r.xs) = ts at *
      cases hv : validB k r.xs
      · have HE := hide (unhide HNO hv)
        clear HYS HNO HR1 HT1
        go_wp2_with (go_at_call 35; refine (unhide HV).mono ?_; rintro e w2 ⟨he, hb2⟩; obtain rfl := retV he; rw [hv]; have HB2 := hide (below0 (unhide HB1) hb2); clear hb2 he)
        go_roundw
        case rel => exact ⟨m + 1, a1, m1, c1, by omega, by go_num, rfl, hide (by rw [unhide HE]; exact (unhide HG).below (unhide HB2))⟩
        case measure => simp [intOf]; omega
      · have HE := hide (unhide HYS hv)
        clear HYS HNO
        go_wp2_with (first | (go_at_call 35; refine (unhide HV).mono ?_; rintro e w2 ⟨he, hb2⟩; obtain rfl := retV he; rw [hv]; obtain ⟨hx0, hx1⟩ := unhide HBX w2 hb2; have HB2 := hide (below0 (unhide HB1) hb2); have HG2 := hide ((unhide HG).below (unhide HB2)); clear hb2 he) | (at_builtin; refine wpList_pushS rfl (.tmp 18) (.tmp 20) rfl w.heap.size (.slice a1 m1 c1) ts r rfl rfl (unhide HG2).1 (unhide HG2).2.2.2.2.size hfl ?_; intro v3 w3 ho3 hg3 hb3; obtain ⟨a3, m3, c3, rfl, hG3⟩ := (unhide HG2).push (unhide HR1 w2 (unhide HB2)) (unhide HT1 w2) ho3 hg3 hb3; have HG3 := hide hG3; clear ho3 hg3 hb3 hG3))
        go_roundw
        case rel => exact ⟨m + 1, a3, m3, c3, by omega, by go_num, rfl, hide (by rw [unhide HE, List.map_append]; exact unhide HG3)⟩
        case measure => simp [intOf]; omega
    · have hke : rs.take m = rs := List.take_of_length_le (by omega)
      rw [hke] at HG
      go_wp2
      go_ret
      exact ⟨a1, m1, c1, rfl, unhide HG⟩
end Go.Proofs.YtjppopabjfncpaaDoor
namespace Go.Proofs.YtjppopabjfncpaaDoor
open Go.RowKit Go.Sort
set_option linter.unusedVariables false
set_option maxRecDepth 4000

/-- The rows at places. -/
def atR (ts : List RV) (ps : List Nat) : List RV := ps.map fun i => ts.getD i .dflt
theorem atR_len (ts : List RV) (ps : List Nat) : (atR ts ps).length = ps.length := by simp [atR]
theorem atR_get (ts : List RV) (ps : List Nat) (k : Nat) (hk : k < ps.length) : (atR ts ps).getD k .dflt = ts.getD (ps.getD k 0) .dflt := by
  unfold atR
  rw [List.getD_eq_getElem?_getD, List.getElem?_map, List.getElem?_eq_getElem hk, List.getD_eq_getElem?_getD (l := ps), List.getElem?_eq_getElem hk]
  rfl
theorem RowsIn.atR {w : World} {ts : List RV} {ps : List Nat} (h : RowsIn w ts) (hp : ∀ i ∈ ps, i < ts.length) : RowsIn w (atR ts ps) := fun r hr => by
  obtain ⟨i, hi, rfl⟩ := List.mem_map.1 hr
  exact h.get (hp i hi)

set_option maxHeartbeats 2000000 in
theorem at_any (a : Option Addr) (n c : Nat) (ts : List RV) (ap : Option Addr) (np cp : Nat) (ps : List Nat) (w : World) (h : RowsAt w a n ts) (hp : IntsAt w ap np ps) (hl : ∀ i ∈ ps, i < n) (hn : n ≤ 1048576) (hnp : np ≤ 1048576) :
    Calls Tryd.prog 56 #[.slice a n c, .slice ap np cp] w fun e w' => ∃ v, e = .returned v ∧ OwnS w' w.heap.size v (atR ts ps) ∧ Below w.heap.size w w' := by
  obtain rfl := hp.1
  have Hh := hide h
  have HP := hide hp
  have HL := hide hl
  have hmk := make_r ps.length hnp
  have HM := hide (made_r w ps.length hnp (filR (atR ts ps) 0) (by rw [filR_zero, atR_len]))
  have HBM : Hid (Below w.heap.size w (w.alloc (.cells (madeCells #[.slice none 0 0, .string ⟨#[]⟩] (ps.length * 2)) 37))) := hide ((Below.refl _ _).alloc (Nat.le_refl _) _)
  clear h hp hl
  go_enter Tryd.func56, Tryd.ntmps56
  go_wp2
  go_loopw [13] (fun i wr => ∃ k : Nat, k ≤ ps.length ∧ i = .int .i64 k ∧ Hid (OwnS wr w.heap.size (.slice (some ⟨w.heap.size, 0, none⟩) ps.length ps.length) (filR (atR ts ps) k)) ∧ Hid (Below w.heap.size w wr)) (fun i _ => ps.length - (intOf i).toNat)
  case atStart => exact ⟨0, Nat.zero_le _, rfl, HM, HBM⟩
  case round =>
    obtain ⟨k, hk, rfl, HI, HB⟩ := hrel
    clear HM HBM
    by_cases hlt : k < ps.length
    · obtain ⟨bp, offp, rfl, hclp⟩ := ((unhide HP).below (unhide HB)).at hlt
      have hcp := hclp k hlt
      have hpl : ps.getD k 0 < n := unhide HL _ (by rw [List.getD_eq_getElem?_getD, List.getElem?_eq_getElem hlt]; exact List.getElem_mem hlt)
      obtain ⟨b, off, rfl, hcl⟩ := ((unhide Hh).below (unhide HB)).at hpl
      obtain ⟨hc0, hc1⟩ := hcl _ hpl
      have hlt' : (k : Int) < (ps.length : Int) := by omega
      have hS := filR_succ (atR ts ps) k (by rw [atR_len]; exact hlt)
      rw [atR_get ts ps k hlt] at hS
      generalize ps.getD k 0 = p at *
      have hpl' : (p : Int) < (n : Int) := by omega
      generalize ts.getD p .dflt = r at *
      have hI := unhide HI
      have hfl : (filR (atR ts ps) k).length = ps.length := by rw [filR_length _ _ (by rw [atR_len]; exact hk), atR_len]
      have hcg := cellsR_get (filR (atR ts ps) k) k (by omega)
      have hcell0 := hI.cellAt hcg.1
      have hcell1 := hI.cellAt hcg.2
      have hI' : wr.ownsRow w.heap.size 37 2 (.slice (some ⟨w.heap.size, 0, none⟩) ps.length ps.length) ps.length (cellsR (filR (atR ts ps) k)) := by
        have : wr.ownsRow w.heap.size 37 2 (.slice (some ⟨w.heap.size, 0, none⟩) ps.length ps.length) (filR (atR ts ps) k).length (cellsR (filR (atR ts ps) k)) := hI
        rwa [hfl] at this
      have hfz0 := hI'.frozenAt (k * 2)
      have hfz1 := hI'.frozenAt (k * 2 + 1)
      have hs2 := hI.stored k r
      rw [hS] at hs2
      have HS := hide hs2
      have HB2 := hide (((unhide HB).setCell (p := ⟨w.heap.size, k * 2, none⟩) (Nat.le_refl _) (.slice r.a r.n r.c)).setCell (p := ⟨w.heap.size, k * 2 + 1, none⟩) (Nat.le_refl _) (.string r.s))
      clear hcl hclp hI hI' hs2 hS hcg hfl HI HB
      generalize (filR (atR ts ps) k).getD k .dflt = z at *
      go_wp2
      go_roundw
      case rel => exact ⟨k + 1, by omega, by go_num, HS, HB2⟩
      case measure => simp [intOf]; omega
    · obtain rfl : k = ps.length := by omega
      rw [show ps.length = (atR ts ps).length from (atR_len ts ps).symm, filR_all, atR_len] at HI
      go_wp2
      go_ret
      exact ⟨_, rfl, unhide HI, unhide HB⟩
end Go.Proofs.YtjppopabjfncpaaDoor
namespace Go.Proofs.YtjppopabjfncpaaDoor
open Go.RowKit Go.Sort
set_option linter.unusedVariables false
set_option maxRecDepth 4000

def filT (ss : List ByteArray) (k : Nat) : List ByteArray := ss.take k ++ List.replicate (ss.length - k) ByteArray.empty
theorem filT_zero (ss : List ByteArray) : filT ss 0 = List.replicate ss.length ByteArray.empty := by simp [filT]
theorem filT_all (ss : List ByteArray) : filT ss ss.length = ss := by simp [filT]
theorem filT_length (ss : List ByteArray) (k : Nat) (hk : k ≤ ss.length) : (filT ss k).length = ss.length := by simp [filT]; omega
theorem filT_succ (ss : List ByteArray) (k : Nat) (hk : k < ss.length) : (filT ss k).set k (ss.getD k ByteArray.empty) = filT ss (k + 1) := by
  unfold filT
  have hl : (ss.take k).length = k := by simp; omega
  rw [List.set_append_right _ _ (by omega), hl, Nat.sub_self, List.take_succ_eq_append_getElem hk, List.append_assoc, show ss.length - k = (ss.length - (k + 1)) + 1 by omega, List.replicate_succ, List.set_cons_zero]
  simp [List.getD_eq_getElem?_getD, List.getElem?_eq_getElem hk]
/-- The texts of rows. -/
def textsR (us : List RV) : List ByteArray := us.map fun r => r.s
theorem textsR_len (us : List RV) : (textsR us).length = us.length := by simp [textsR]
theorem textsR_get (us : List RV) (k : Nat) (hk : k < us.length) : (textsR us).getD k ByteArray.empty = (us.getD k .dflt).s := by
  unfold textsR
  rw [List.getD_eq_getElem?_getD, List.getElem?_map, List.getElem?_eq_getElem hk, List.getD_eq_getElem?_getD, List.getElem?_eq_getElem hk]
  rfl
theorem short_texts {us : List RV} (h : shortR us) : shorts (textsR us) := fun s hs => by
  obtain ⟨r, hr, rfl⟩ := List.mem_map.1 hs
  obtain ⟨i, hi, rfl⟩ := List.mem_iff_getElem.1 hr
  have := (h i).2
  rw [List.getD_eq_getElem?_getD, List.getElem?_eq_getElem hi] at this
  simp only [Option.getD_some] at this
  omega
theorem short_atR {ts : List RV} (h : shortR ts) (ps : List Nat) : shortR (atR ts ps) := fun i => by
  by_cases hi : i < ps.length
  · rw [atR_get ts ps i hi]; exact h _
  · rw [List.getD_eq_getElem?_getD, List.getElem?_eq_none (by rw [atR_len]; omega)]
    exact short_nil 0

set_option maxHeartbeats 2000000 in
theorem data_any (a : Option Addr) (n c : Nat) (ts : List RV) (ap : Option Addr) (np cp : Nat) (ps : List Nat) (w : World) (h : RowsAt w a n ts) (hr : RowsIn w ts) (hs : shortR ts) (hp : IntsAt w ap np ps) (hl : ∀ i ∈ ps, i < n) (hn : n ≤ 1048576) (hnp : np ≤ 1048576) :
    Calls Tryd.prog 40 #[.slice a n c, .slice ap np cp] w fun e w' => e = .returned (.string (st (sumL (textsR (atR ts ps))))) ∧ Below w.heap.size w w' := by
  obtain rfl := hp.1
  have hmk := make_texts ps.length hnp
  have hM := made_texts w ps.length hnp (filT (textsR (atR ts ps)) 0) (by rw [filT_zero, textsR_len, atR_len])
  have hBM : Below w.heap.size w (w.alloc (.cells (madeCells #[.string ByteArray.empty] ps.length) 9)) := (Below.refl _ _).alloc (Nat.le_refl _) _
  have hsz : (w.alloc (.cells (madeCells #[.string ByteArray.empty] ps.length) 9)).heap.size = w.heap.size + 1 := alloc_size _ _
  have HAT := hide (at_any a n c ts ap ps.length cp ps _ (h.below hBM) (hp.below hBM) hl hn hnp)
  have HUL : Hid ((atR ts ps).length = ps.length) := hide (atR_len ts ps)
  have HSH := hide (short_texts (short_atR hs ps))
  have HM := hide hM
  have HBM := hide hBM
  have HSZ := hide hsz
  clear h hp hl hr hs hM hBM hsz
  generalize atR ts ps = us at *
  go_enter Tryd.func40, Tryd.ntmps40
  go_wp2_with fail
  refine (unhide HAT).mono ?_
  rintro e w1 ⟨v1, rfl, ho1, hb1⟩
  obtain ⟨a1, c1, rfl⟩ := ho1.shape
  rw [unhide HSZ] at ho1
  rw [unhide HUL] at ho1 ⊢
  have HO1 := hide ho1
  have HM1 := hide ((unhide HM).below hb1)
  have HB1 := hide (below0 (unhide HBM) hb1)
  clear ho1 hb1 HAT HM HBM
  go_wp2
  go_loopw [15] (fun i wr => ∃ k : Nat, k ≤ ps.length ∧ i = .int .i64 k ∧ Hid (OwnT wr w.heap.size (.slice (some ⟨w.heap.size, 0, none⟩) ps.length ps.length) (filT (textsR us) k)) ∧ Hid (OwnS wr (w.heap.size + 1) (.slice a1 ps.length c1) us) ∧ Hid (Below w.heap.size w wr)) (fun i _ => ps.length - (intOf i).toNat)
  case atStart => exact ⟨0, Nat.zero_le _, rfl, HM1, HO1, HB1⟩
  case round =>
    obtain ⟨k, hk, rfl, HI, HO, HB⟩ := hrel
    clear HM1 HO1 HB1
    have HUL' := unhide HUL
    by_cases hlt : k < ps.length
    · have hO := unhide HO
      obtain ⟨g, rfl⟩ : ∃ g, a1 = some ⟨g, 0, none⟩ := by
        rcases hO.2 with ⟨e, h0⟩ | ⟨g, cap, cur, e, _⟩
        · omega
        · simp only [Value.slice.injEq] at e; exact ⟨g, e.1⟩
      have hcg := cellsR_get us k (by omega)
      have hc0 := hO.cellAt hcg.1
      have hc1 := hO.cellAt hcg.2
      have hlt' : (k : Int) < (ps.length : Int) := by omega
      have hS := filT_succ (textsR us) k (by rw [textsR_len]; omega)
      rw [textsR_get us k (by omega)] at hS
      generalize us.getD k .dflt = r at *
      have hb1 : Below wr.heap.size wr (wr.alloc (.cells #[.slice r.a r.n r.c, .string r.s] 37)) := (Below.refl _ _).alloc (Nat.le_refl _) _
      have hI := (unhide HI).below hb1
      have hfl : (filT (textsR us) k).length = ps.length := by rw [filT_length _ _ (by rw [textsR_len]; omega), textsR_len, HUL']
      obtain ⟨g2, cap2, e2, _, _, hcg2, hfg2⟩ := hI.at (by omega)
      simp only [Value.slice.injEq, Option.some.injEq, Addr.mk.injEq, and_true] at e2
      obtain ⟨rfl, -, -⟩ := e2
      have hcell := hcg2 k (by omega)
      have hfz := hfg2 k
      have hs2 := hI.stored k r.s
      rw [hS] at hs2
      have hB2 := (below0 (unhide HB) hb1).setCell (p := ⟨w.heap.size, k, none⟩) (Nat.le_refl _) (.string r.s)
      have hO2 := (hO.below hb1).keptB (gb_setCell _ w.heap.size k (.string r.s)) (by omega)
      obtain ⟨hx0, hx1⟩ := box_new wr (.slice r.a r.n r.c) (.string r.s)
      have HS := hide hs2
      have HB2 := hide hB2
      have HO2 := hide hO2
      clear hcg hI hs2 hB2 hb1 hS HI HB HO hO hO2 hfl hcg2 hfg2
      generalize (filT (textsR us) k).getD k ByteArray.empty = z at *
      go_wp2
      go_roundw
      case rel => exact ⟨k + 1, by omega, by go_num, HS, HO2, HB2⟩
      case measure => simp [intOf]; omega
    · obtain rfl : k = ps.length := by omega
      rw [show filT (textsR us) ps.length = textsR us by rw [← HUL', ← textsR_len us]; exact filT_all _] at HI
      obtain ⟨a2, c2, e2, hT⟩ := (unhide HI).texts
      rw [textsR_len, HUL'] at e2 hT
      simp only [Value.slice.injEq] at e2
      obtain ⟨rfl, -, rfl⟩ := e2
      have HSU := hide (sum_any _ ps.length ps.length (textsR us) wr hT (unhide HSH) hnp)
      clear hT HI HO
      go_wp2_with (go_at_call 65; refine (unhide HSU).mono ?_; rintro e w2 ⟨rfl, hb2⟩; have HB2 := hide (below0 (unhide HB) hb2); clear hb2)
      go_ret
      exact ⟨rfl, unhide HB2⟩
end Go.Proofs.YtjppopabjfncpaaDoor
namespace Go.Proofs.YtjppopabjfncpaaDoor
open Go.RowKit Go.Sort
set_option linter.unusedVariables false
set_option maxRecDepth 4000

theorem core_zero : core (.dflt : RV) = zC := rfl
theorem getD_core (ts : List RV) (i : Nat) : (ts.map core).getD i zC = core (ts.getD i .dflt) := by
  rw [List.getD_eq_getElem?_getD, List.getElem?_map, List.getD_eq_getElem?_getD]
  cases ts[i]? <;> rfl
theorem vecsL_core (ts : List RV) : vecsL ts = vecsC (ts.map core) := by
  unfold vecsL vecsC
  rw [List.map_map]; rfl
theorem atR_core (ts : List RV) (ps : List Nat) : (atR ts ps).map core = atC (ts.map core) ps := by
  unfold atR atC
  rw [List.map_map]
  exact List.map_congr_left fun i _ => (getD_core ts i).symm
theorem textsR_core (ts : List RV) (ps : List Nat) : textsR (atR ts ps) = textsC (ts.map core) ps := by
  unfold textsR atR textsC
  rw [List.map_map]
  refine List.map_congr_left fun i _ => ?_
  rw [getD_core]; rfl
/-- The rows that are kept. -/
def keptR (ts : List RV) : List RV := atR ts (keepL (vecsL ts) ts.length)
theorem keptR_core (ts : List RV) : (keptR ts).map core = keptC (ts.map core) := by
  unfold keptR keptC
  rw [atR_core, vecsL_core, List.length_map]
theorem keptR_len (ts : List RV) : (keptR ts).length = (keepL (vecsL ts) ts.length).length := by simp [keptR, atR]
theorem keptR_le (ts : List RV) : (keptR ts).length ≤ ts.length := by rw [keptR_len]; exact keep_len _ _
theorem keep_in (ts : List RV) : ∀ i ∈ keepL (vecsL ts) ts.length, i < ts.length := keep_lt _ _
theorem OwnI.at' {w : World} {B : Nat} {a : Option Addr} {n c : Nat} {xs : List Nat} (h : OwnI w B (.slice a n c) xs) : n = xs.length ∧ IntsAt w a n xs := by
  obtain ⟨a', c', e, h'⟩ := h.ints
  simp only [Value.slice.injEq] at e
  obtain ⟨rfl, rfl, rfl⟩ := e
  exact ⟨rfl, h'⟩

set_option maxHeartbeats 1000000 in
theorem gkeep_any (a : Option Addr) (n c : Nat) (ts : List RV) (w : World) (ht : Tab w) (h : RowsAt w a n ts) (hr : RowsIn w ts) (hs : shortR ts) (hn : n ≤ 100000) :
    Calls Tryd.prog 37 #[.slice a n c] w fun e w' => ∃ a1 c1, e = .returned (.slice a1 (keptR ts).length c1) ∧ OwnS w' w.heap.size (.slice a1 (keptR ts).length c1) (keptR ts) ∧ Below w.heap.size w w' := by
  obtain rfl := h.1
  have HV := hide (gvecs_any a ts.length c ts w h (by omega))
  have HK := hide (fun (w1 : World) (a1 : Option Addr) (c1 : Nat) (hb : Below w.heap.size w w1) (hv : VecsAt w1 a1 ts.length (vecsL ts)) => keep_any a1 ts.length c1 (vecsL ts) w1 (ht.below hb) hv (fit_of hr hs) hn)
  have HA := hide (fun (w1 : World) (ap : Option Addr) (np cp : Nat) (hb : Below w.heap.size w w1) (hp : IntsAt w1 ap np (keepL (vecsL ts) ts.length)) (hnp : np ≤ 1048576) => at_any a ts.length c ts ap np cp (keepL (vecsL ts) ts.length) w1 (h.below hb) hp (keep_in ts) (by omega) hnp)
  have HKL := hide (keep_len (vecsL ts) ts.length)
  have HR := hide hr
  clear h hr hs ht
  go_enter Tryd.func37, Tryd.ntmps37
  go_wp2_with fail
  refine (unhide HV).mono ?_
  rintro e w1 ⟨v1, rfl, ho1, hb1⟩
  obtain ⟨a1, c1, rfl, hv1⟩ := ho1.vecs ((unhide HR).below hb1)
  have HK1 := unhide HK w1 a1 c1 hb1 hv1
  rw [vecsL_len] at HK1
  have HK1 := hide HK1
  have HB1 := hide hb1
  clear ho1 hb1 hv1 HV HK
  go_wp2_with fail
  refine (unhide HK1).mono ?_
  rintro e w2 ⟨v2, rfl, ho2, hb2⟩
  obtain ⟨a2, c2, rfl, hi2⟩ := ho2.ints
  have HB2 := hide (below0 (unhide HB1) hb2)
  have HA2 := hide (unhide HA w2 a2 _ c2 (unhide HB2) hi2 (by have := unhide HKL; omega))
  clear ho2 hb2 hi2 HK1 HA HB1
  go_wp2_with fail
  refine (unhide HA2).mono ?_
  rintro e w3 ⟨v3, rfl, ho3, hb3⟩
  obtain ⟨a3, c3, rfl⟩ := ho3.shape
  have HO3 := hide (ho3.mono (unhide HB2).size)
  have HB3 := hide (below0 (unhide HB2) hb3)
  clear ho3 hb3 HA2 HB2
  go_wp2
  go_ret
  exact ⟨a3, c3, rfl, unhide HO3, unhide HB3⟩


end Go.Proofs.YtjppopabjfncpaaDoor
