/-
  Contract of peel.begin.
-/
import Derived.Test.YtnjdldbdkafnaaaGreatDoorYD
namespace Go.Proofs.YtnjdldbdkafnaaaGreatDoor
open Go.RowKit Go.Sort
set_option linter.unusedVariables false
set_option linter.unusedSimpArgs false
set_option maxRecDepth 4000

theorem made_u (w : World) (n : Nat) (hn : n ≤ 1048576) :
    Own (w.alloc (.cells (madeCells #[.int .u64 0] n) 53)) w.heap.size (.slice (some ⟨w.heap.size, 0, none⟩) n n) (List.replicate n 0) := by
  refine ⟨smalls_zeros n, by simp [cellsU], .inr ⟨w.heap.size, n, madeCells #[.int .u64 0] n, by simp, Nat.le_refl _, heap_alloc_new w _, by simp, by unfold maxLen; omega, by simp [size_madeCells], ?_⟩⟩
  rw [toList_madeCells_one, List.take_of_length_le (by simp)]
  simp [cellsU]
theorem make_u (n : Nat) (hn : n ≤ 1048576) (wx : World) : (Instr.makeSlice 27 (.int .i64 (n : Int)) (.int .i64 (n : Int))).run Tryz.prog wx = .ok (.slice (some ⟨wx.heap.size, 0, none⟩) n n) (wx.alloc (.cells (madeCells #[.int .u64 0] n) 53)) := by
  obtain ⟨i0, hi0, hz0, hzs, hzb⟩ := info_parts info_u64
  have := run_make (P := Tryz.prog) wx 27 53 i0 (.int .u64 0) Tryz.underlying27 hi0 hz0 .i64 .i64 (n : Int) (n : Int) (by omega) (Int.le_refl _) (by rw [hzb]; omega) (by omega)
  rw [hzs] at this
  simpa [Value.cells] using this
/-- A peeling in memory: S the places that are left, cs what is left of their rows, kn which blocks are known, bs what they are. -/
def PS (w : World) (B : Nat) (v : PV) (sz : Nat) (S : Nat → Bool) (f : Nat → Nat × Nat) (cs : Nat → List Nat) (kn : List Nat) (bs : List ByteArray) : Prop :=
  PlAt w B v kn bs ∧ (∃ D, w.ownsMap Tryz.prog 3 slElem v.bm v.n D ∧ RdAs D S (slv sz f)) ∧ Lf w B sz S f cs ∧ (∀ p, S p = true → p < v.n ∧ (f p).1 ≠ v.kg) ∧ B ≤ v.bm
theorem PS.below {w w' : World} {B : Nat} {v : PV} {sz : Nat} {S : Nat → Bool} {f : Nat → Nat × Nat} {cs : Nat → List Nat} {kn : List Nat} {bs : List ByteArray} (h : PS w B v sz S f cs kn bs) (hb : Below w.heap.size w w') : PS w' B v sz S f cs kn bs := by
  obtain ⟨h1, ⟨D, h2, h3⟩, h4, h5, h6⟩ := h
  exact ⟨h1.below hb, ⟨D, h2.kept (gb_of_below hb none) (by simp), h3⟩, h4.below hb, h5, h6⟩
/-- The rows of k blocks, of the first m. -/
def valTo (k : Int) (rs : List RV) (m p : Nat) : Bool := decide (p < m) && validB k (rs.getD p .dflt).xs
/-- What a round of begin leaves. -/
def BgS (w wr : World) (k : Int) (rs : List RV) (m : Nat) (f : Nat → Nat × Nat) (D : DataW Value) : Prop :=
  wr.ownsMap Tryz.prog 3 slElem w.heap.size m D ∧ RdAs D (valTo k rs m) (slv (sizeOfK k) f) ∧ Lf wr w.heap.size (sizeOfK k) (valTo k rs m) f (fun p => (rs.getD p .dflt).xs) ∧ Below w.heap.size w wr
theorem BgS.no {w wr w2 : World} {k : Int} {rs : List RV} {m : Nat} {f : Nat → Nat × Nat} {D : DataW Value} (h : BgS w wr k rs m f D) (hb : Below wr.heap.size wr w2) (hv : validB k (rs.getD m .dflt).xs = false) : BgS w w2 k rs (m + 1) f D := by
  obtain ⟨h1, h2, h3, h4⟩ := h
  have e : ∀ p, valTo k rs m p = valTo k rs (m + 1) p := fun p => by
    unfold valTo
    by_cases hp : p = m
    · subst hp; rw [hv]; simp
    · have : (p < m + 1) = (p < m) := propext (by omega)
      simp only [this]
  have e' : valTo k rs m = valTo k rs (m + 1) := funext e
  rw [e'] at h2 h3
  exact ⟨(h1.kept (gb_of_below hb none) (by simp)).mono (Nat.le_succ _), h2, h3.below hb, below0 h4 hb⟩
theorem BgS.yes {w wr w2 w3 : World} {k : Int} {rs : List RV} {m : Nat} {f : Nat → Nat × Nat} {D : DataW Value} {g2 c2 : Nat} (h : BgS w wr k rs m f D) (hb : Below wr.heap.size wr w2) (hv : validB k (rs.getD m .dflt).xs = true)
    (ho : Own w2 wr.heap.size (.slice (some ⟨g2, 0, none⟩) (sizeOfK k) c2) (rs.getD m .dflt).xs) (hm : w3.ownsMap Tryz.prog 3 slElem w.heap.size (m + 1) (D.put (.int .i64 (m : Int)) (.held (.slice (some ⟨g2, 0, none⟩) (sizeOfK k) c2)))) (hg : w2.grownBy w3 (some w.heap.size)) :
    BgS w w3 k rs (m + 1) (fun q => if q = m then (g2, c2) else f q) (D.put (.int .i64 (m : Int)) (.held (.slice (some ⟨g2, 0, none⟩) (sizeOfK k) c2))) := by
  obtain ⟨h1, h2, h3, h4⟩ := h
  have e : ∀ p, (decide (p = m) || valTo k rs m p) = valTo k rs (m + 1) p := fun p => by
    unfold valTo
    by_cases hp : p = m
    · subst hp; rw [hv]; simp
    · have : (p < m + 1) = (p < m) := propext (by omega)
      simp only [this, hp, decide_false, Bool.false_or]
  have hlt := h1.lt
  have hnew : ∀ p, valTo k rs m p = true → (f p).1 < wr.heap.size := fun p hp => ((h3.own p hp).1.lt (k := (f p).1) rfl).2
  have hg2 := ho.lt (k := g2) rfl
  have hgm : w2.ownsMap Tryz.prog 3 slElem w.heap.size m D := h1.kept (gb_of_below hb none) (by simp)
  refine ⟨hm, (h2.put h1.isMap (p := m) _).congr e (fun p hp => ?_), ⟨fun p hp => ?_, fun p q hp hq hne => ?_⟩, ?_⟩
  · by_cases hpm : p = m
    · subst hpm; simp [slv]
    · simp [slv, hpm]
  · rw [← e] at hp
    by_cases hpm : p = m
    · subst hpm
      simp only [if_true]
      refine ⟨(ho.mono (by have := h4.size; omega)).kept hg (.inr fun e => ?_), (valid_size hv).2.1⟩
      exact own_nomap ho hgm (by simpa [Value.ownBlock] using e)
    · have hp' : valTo k rs m p = true := by simpa [hpm] using hp
      simp only [hpm, if_false]
      refine ⟨((h3.own p hp').1.below hb).kept hg (.inr fun e => ?_), (h3.own p hp').2⟩
      exact own_nomap ((h3.own p hp').1.below hb) hgm (by simpa [Value.ownBlock] using e)
  · rw [← e] at hp hq
    by_cases hpm : p = m
    · by_cases hqm : q = m
      · exact absurd (hpm.trans hqm.symm) hne
      · have := hnew q (by simpa [hqm] using hq)
        simp only [hpm, hqm, if_true, if_false]
        omega
    · have hp' : valTo k rs m p = true := by simpa [hpm] using hp
      have := hnew p hp'
      by_cases hqm : q = m
      · simp only [hpm, hqm, if_true, if_false]
        omega
      · simp only [hpm, hqm, if_false]
        exact h3.two p q hp' (by simpa [hqm] using hq) hne
  · exact (below0 h4 hb).trans (gb_below hg (Nat.le_trans h4.size hb.size) fun j hj => by cases hj; exact Nat.le_refl _)
/-- The end of begin: the two orders in which its slices are made. -/
theorem BgS.done {w wr w1 w3 : World} {k : Int} {rs : List RV} {f : Nat → Nat × Nat} {D : DataW Value} {K kg bg g n c : Nat} {a : Option Addr} (h : BgS w wr k rs n f D) (h1 : Below wr.heap.size wr w1) (h3 : Below w1.heap.size w1 w3)
    (hk : Own w3 wr.heap.size (.slice (some ⟨kg, 0, none⟩) (sizeOfK k) (sizeOfK k)) (List.replicate (sizeOfK k) 0)) (hbk : OwnT w3 wr.heap.size (.slice (some ⟨bg, 0, none⟩) K K) (List.replicate K ByteArray.empty))
    (hx : w3.heap[g]? = some (.cells #[.slice a n c, .slice (some ⟨kg, 0, none⟩) (sizeOfK k) (sizeOfK k), .slice (some ⟨bg, 0, none⟩) K K, .map (some w.heap.size)] 153 (0, 0))) :
    PS w3 w.heap.size ⟨g, a, n, c, kg, sizeOfK k, bg, K, w.heap.size⟩ (sizeOfK k) (valTo k rs n) f (fun p => (rs.getD p .dflt).xs) (List.replicate (sizeOfK k) 0) (List.replicate K ByteArray.empty) ∧ Below w.heap.size w w3 := by
  obtain ⟨m1, m2, m3, m4⟩ := h
  have hb := below0 h1 h3
  refine ⟨⟨⟨by simpa using hx, by simpa using hk.mono m4.size, by simpa using hbk.mono m4.size⟩, ⟨D, m1.kept (gb_of_below hb none) (by simp), m2⟩, m3.below hb, fun p hp => ⟨?_, fun e => ?_⟩, Nat.le_refl _⟩, below0 m4 hb⟩
  · have : (decide (p < n) && validB k (rs.getD p .dflt).xs) = true := hp
    simp only [Bool.and_eq_true, decide_eq_true_eq] at this
    exact this.1
  · have h1 := ((m3.own p hp).1.lt (k := (f p).1) rfl).2
    have h2 := (hk.lt (k := kg) rfl).1
    simp only at e
    omega

theorem alloc_b (w : World) (o : Obj) : Below w.heap.size w (w.alloc o) := (Below.refl _ _).alloc (Nat.le_refl _) _
theorem BgS.endA {w wr : World} {k : Int} {rs : List RV} {f : Nat → Nat × Nat} {D : DataW Value} {K n c : Nat} {a : Option Addr} (h : BgS w wr k rs n f D) (hK : K ≤ 128) :
    PS (((wr.drew.alloc (.cells (madeCells #[.int .u64 0] (sizeOfK k)) 53)).alloc (.cells (madeCells #[.string ByteArray.empty] K) 9)).alloc (.cells #[.slice a n c, .slice (some ⟨wr.heap.size, 0, none⟩) (sizeOfK k) (sizeOfK k), .slice (some ⟨wr.heap.size + 1, 0, none⟩) K K, .map (some w.heap.size)] 153)) w.heap.size
      ⟨wr.heap.size + 1 + 1, a, n, c, wr.heap.size, sizeOfK k, wr.heap.size + 1, K, w.heap.size⟩ (sizeOfK k) (valTo k rs n) f (fun p => (rs.getD p .dflt).xs) (List.replicate (sizeOfK k) 0) (List.replicate K ByteArray.empty) ∧
    Below w.heap.size w (((wr.drew.alloc (.cells (madeCells #[.int .u64 0] (sizeOfK k)) 53)).alloc (.cells (madeCells #[.string ByteArray.empty] K) 9)).alloc (.cells #[.slice a n c, .slice (some ⟨wr.heap.size, 0, none⟩) (sizeOfK k) (sizeOfK k), .slice (some ⟨wr.heap.size + 1, 0, none⟩) K K, .map (some w.heap.size)] 153)) := by
  have hz := sizeOfK_le k
  have o1 := made_u wr.drew (sizeOfK k) (by omega)
  have o2 := made_texts (wr.drew.alloc (.cells (madeCells #[.int .u64 0] (sizeOfK k)) 53)) K (by omega) _ rfl
  rw [alloc_size] at o2
  refine h.done (w1 := wr.drew) ((Below.refl _ _).drew) ?_ ?_ ?_ ?_
  · exact below0 (below0 (alloc_b _ _) (alloc_b _ _)) (alloc_b _ _)
  · exact (o1.below (alloc_b _ _)).below (alloc_b _ _)
  · exact (o2.below (alloc_b _ _)).mono (by show wr.heap.size ≤ wr.heap.size + 1; omega)
  · have := heap_alloc_new ((wr.drew.alloc (.cells (madeCells #[.int .u64 0] (sizeOfK k)) 53)).alloc (.cells (madeCells #[.string ByteArray.empty] K) 9)) (.cells #[.slice a n c, .slice (some ⟨wr.heap.size, 0, none⟩) (sizeOfK k) (sizeOfK k), .slice (some ⟨wr.heap.size + 1, 0, none⟩) K K, .map (some w.heap.size)] 153)
    rw [alloc_size, alloc_size] at this
    exact this
theorem BgS.endB {w wr : World} {k : Int} {rs : List RV} {f : Nat → Nat × Nat} {D : DataW Value} {K n c : Nat} {a : Option Addr} (h : BgS w wr k rs n f D) (hK : K ≤ 128) :
    PS (((wr.drew.alloc (.cells (madeCells #[.string ByteArray.empty] K) 9)).alloc (.cells (madeCells #[.int .u64 0] (sizeOfK k)) 53)).alloc (.cells #[.slice a n c, .slice (some ⟨wr.heap.size + 1, 0, none⟩) (sizeOfK k) (sizeOfK k), .slice (some ⟨wr.heap.size, 0, none⟩) K K, .map (some w.heap.size)] 153)) w.heap.size
      ⟨wr.heap.size + 1 + 1, a, n, c, wr.heap.size + 1, sizeOfK k, wr.heap.size, K, w.heap.size⟩ (sizeOfK k) (valTo k rs n) f (fun p => (rs.getD p .dflt).xs) (List.replicate (sizeOfK k) 0) (List.replicate K ByteArray.empty) ∧
    Below w.heap.size w (((wr.drew.alloc (.cells (madeCells #[.string ByteArray.empty] K) 9)).alloc (.cells (madeCells #[.int .u64 0] (sizeOfK k)) 53)).alloc (.cells #[.slice a n c, .slice (some ⟨wr.heap.size + 1, 0, none⟩) (sizeOfK k) (sizeOfK k), .slice (some ⟨wr.heap.size, 0, none⟩) K K, .map (some w.heap.size)] 153)) := by
  have hz := sizeOfK_le k
  have o1 := made_texts wr.drew K (by omega) _ rfl
  have o2 := made_u (wr.drew.alloc (.cells (madeCells #[.string ByteArray.empty] K) 9)) (sizeOfK k) (by omega)
  rw [alloc_size] at o2
  refine h.done (w1 := wr.drew) ((Below.refl _ _).drew) ?_ ?_ ?_ ?_
  · exact below0 (below0 (alloc_b _ _) (alloc_b _ _)) (alloc_b _ _)
  · exact (o2.below (alloc_b _ _)).mono (by show wr.heap.size ≤ wr.heap.size + 1; omega)
  · exact (o1.below (alloc_b _ _)).below (alloc_b _ _)
  · have := heap_alloc_new ((wr.drew.alloc (.cells (madeCells #[.string ByteArray.empty] K) 9)).alloc (.cells (madeCells #[.int .u64 0] (sizeOfK k)) 53)) (.cells #[.slice a n c, .slice (some ⟨wr.heap.size + 1, 0, none⟩) (sizeOfK k) (sizeOfK k), .slice (some ⟨wr.heap.size, 0, none⟩) K K, .map (some w.heap.size)] 153)
    rw [alloc_size, alloc_size] at this
    exact this

set_option maxHeartbeats 2000000 in
theorem begin_any (K : Nat) (a : Option Addr) (n c : Nat) (rs : List RV) (w : World) (hsz : 0 < sizeOfK (K : Int)) (h : RowsAt w a n rs) (hs : shortR rs) (hn : n ≤ 1048576) :
    Calls Tryz.prog 107 #[.int .i64 (K : Int), .slice a n c] w fun e w' => ∃ g kg bg f, e = .returned (.pointer (some ⟨g, 0, none⟩)) ∧
      PS w' w.heap.size ⟨g, a, n, c, kg, sizeOfK (K : Int), bg, K, w.heap.size⟩ (sizeOfK (K : Int)) (valTo (K : Int) rs n) f (fun p => (rs.getD p .dflt).xs) (List.replicate (sizeOfK (K : Int)) 0) (List.replicate K ByteArray.empty) ∧ Below w.heap.size w w' := by
  obtain rfl := h.1
  have hroom := size_room hsz
  have hK : K ≤ 128 := by omega
  have hz2 := sizeOfK_le (K : Int)
  have hmm := @run_makeMap Tryz.prog
  have Hh := hide h
  have Hs := hide hs
  have HZ := hide (size_any (K : Int))
  have HMU := hide (make_u (sizeOfK (K : Int)) (by omega))
  have HMT := hide (make_texts K (by omega))
  have HOU := hide (fun wx => made_u wx (sizeOfK (K : Int)) (by omega))
  have HOT := hide (fun wx => made_texts wx K (by omega) _ rfl)
  have HBG : Hid (BgS w (w.alloc (.map #[] 0)) (K : Int) rs 0 (fun _ => (0, 0)) (.map [])) := hide ⟨World.ownsMap_made _ _ _ _, (RdAs.empty (slv 0 fun _ => (0, 0))).congr (fun p => by simp [valTo]) (fun p hp => by cases hp), ⟨fun p hp => by simp [valTo] at hp, fun p q hp => by simp [valTo] at hp⟩, (Below.refl _ _).alloc (Nat.le_refl _) _⟩
  clear h hs hsz hroom
  have HSZ : Hid (∀ xs, validB (K : Int) xs = true → xs.length = sizeOfK (K : Int)) := hide fun xs hx => (valid_size hx).2.1
  go_enter Tryz.func107, Tryz.ntmps107
  go_wp2
  go_loopw [11] (fun i wr => ∃ k : Nat, ∃ f : Nat → Nat × Nat, ∃ D : DataW Value, k ≤ rs.length ∧ i = .int .i64 k ∧ Hid (BgS w wr (K : Int) rs k f D)) (fun i _ => rs.length - (intOf i).toNat)
  case atStart => exact ⟨0, _, _, Nat.zero_le _, rfl, HBG⟩
  case round =>
    obtain ⟨k, f, D, hk, rfl, HB⟩ := hrel
    clear HBG
    by_cases hlt : k < rs.length
    · have hB := unhide HB
      have hR := (unhide Hh).below hB.2.2.2
      obtain ⟨b, off, rfl, hcl⟩ := hR.at hlt
      obtain ⟨hc0, hc1⟩ := hcl k hlt
      have hrow := hR.2.1 k hlt
      have hlt' : (k : Int) < (rs.length : Int) := by omega
      have hsh := (unhide Hs) k
      have HNO := hide (fun w2 hb hv => hB.no (w2 := w2) hb hv)
      have HYE := hide (fun (w2 w3 : World) (g2 c2 : Nat) hb hv ho hm hg => hB.yes (w2 := w2) (w3 := w3) (g2 := g2) (c2 := c2) hb hv ho hm hg)
      generalize rs.getD k .dflt = r at *
      have hb1 : Below wr.heap.size wr (wr.alloc (.cells #[.slice r.a r.n r.c, .string r.s] 29)) := (Below.refl _ _).alloc (Nat.le_refl _) _
      have hr1 := hrow.below hb1
      have HV := hide (valid_any r.a r.n r.c r.xs (K : Int) _ hr1)
      have hbx := box_new wr (.slice r.a r.n r.c) (.string r.s)
      have HBX := hide (fun w2 (hb : Below (wr.alloc (.cells #[.slice r.a r.n r.c, .string r.s] 29)).heap.size (wr.alloc (.cells #[.slice r.a r.n r.c, .string r.s] 29)) w2) => (hbx.below hb).1)
      have HCL := hide (fun w2 (hb : Below (wr.alloc (.cells #[.slice r.a r.n r.c, .string r.s] 29)).heap.size (wr.alloc (.cells #[.slice r.a r.n r.c, .string r.s] 29)) w2) => clone_any r.a r.n r.c r.xs w2 (hr1.below hb) (by omega))
      have HB1 := hide hb1
      have HMP := hide hB.1
      clear hB hR hcl hrow hr1 hb1 hbx
      cases hv : validB (K : Int) r.xs
      · have HN2 := hide (fun w2 hb => unhide HNO w2 hb hv)
        clear HNO HYE HBX HCL
        go_wp2_with (go_at_call 77; refine (unhide HV).mono ?_; rintro e w2 ⟨he, hb2⟩; obtain rfl := retV he; rw [hv]; have HB2 := hide hb2; clear hb2 he)
        go_roundw
        case rel => exact ⟨k + 1, f, D, by omega, by go_num, hide (unhide HN2 w2 (below0 (unhide HB1) (unhide HB2)))⟩
        case measure => simp [intOf]; omega
      · have hl := hide (unhide HSZ r.xs hv)
        have hpos : Hid (0 < r.xs.length) := hide (validB_iff.1 hv).1
        have HY2 := hide (fun (w3 w4 : World) (g2 c2 : Nat) (hb : Below wr.heap.size wr w3) ho hm hg => unhide HYE w3 w4 g2 c2 hb hv ho hm hg)
        clear HNO HYE HB
        go_wp2_with (first | (go_at_call 77; refine (unhide HV).mono ?_; rintro e w2 ⟨he, hb2⟩; obtain rfl := retV he; rw [hv]; have hx := unhide HBX w2 hb2; have HC := hide (unhide HCL w2 hb2); have HB0 := hide (below0 (unhide HB1) hb2); clear hb2 he) | (go_at_call 102; refine (unhide HC).mono ?_; rintro e w3 ⟨v3, rfl, ho3, hb3⟩; obtain ⟨g3, c3, hv3, hBg, hgs, _, _⟩ := ho3.at (unhide hpos); rw [unhide hl] at hv3; subst hv3; have HO3 := hide ho3; have HB3 := hide (below0 (unhide HB0) hb3); clear ho3 hb3 hBg hgs) | (at_mapUpdate; refine wpList_mapUpdate_own _ rfl (.tmp 20) (.tmp 21) (.tmp 24) 151 rfl 3 27 lawI Tryz.underlying151 slElem w.heap.size k D rfl ((unhide HMP).kept (gb_of_below (unhide HB3) none) (by simp)) (by unfold maxLen; omega) (.int .i64 (k : Int)) (.slice (some ⟨g3, 0, none⟩) (sizeOfK (K : Int)) c3) (.int .i64 (k : Int)) rfl rfl (key_nat (by omega)) (.held (.slice (some ⟨g3, 0, none⟩) (sizeOfK (K : Int)) c3)) [] rfl ?_; intro w4 hm4 hg4; have HM4 := hide hm4; have HG4 := hide hg4; clear hm4 hg4))
        go_roundw
        case rel => exact ⟨k + 1, _, _, by omega, by go_num, hide (unhide HY2 w3 w4 g3 c3 (unhide HB3) ((unhide HO3).mono (unhide HB0).size) (unhide HM4) (unhide HG4))⟩
        case measure => simp [intOf]; omega
    · have hke : k = rs.length := by omega
      subst hke
      have hmu := unhide HMU
      have hmt := unhide HMT
      clear HMU HMT Hh Hs HSZ
      go_wp2_with fail
      go_region_held (fun _ => True) (go_keep) (first | (go_at_call 93; refine (unhide HZ _).mono ?_; rintro e w' ⟨rfl, rfl⟩))
      all_goals go_wp2
      all_goals go_ret
      all_goals first | exact ⟨_, _, _, f, rfl, (unhide HB).endA hK⟩ | exact ⟨_, _, _, f, rfl, (unhide HB).endB hK⟩
end Go.Proofs.YtnjdldbdkafnaaaGreatDoor
