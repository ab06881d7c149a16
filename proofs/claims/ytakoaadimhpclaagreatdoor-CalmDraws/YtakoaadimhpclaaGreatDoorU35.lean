/-
  A loop over a function that keeps a number of its own in a box; calm.nearer. Condition: the slices can be read.
  The way as data ('wayL'); contract of calm.nearer. Condition: the slices can be read.
-/
import Derived.Test.YtakoaadimhpclaaGreatDoorU34
namespace Go.Proofs.YtakoaadimhpclaaGreatDoor
open Go.RowKit Go.Sort Go.Shelf
set_option linter.unusedVariables false
set_option linter.unusedSimpArgs false
set_option maxRecDepth 4000
attribute [local go_sem] Oper.semAt_some

/-- A loop over a function whose maker gave it a box (Bx) that it writes between the rounds; no round is left early. -/
theorem rangeFunc_box {α : Type} {g : Operand} {ps : Array Tmp} {assign body : Code} {Q : Exit → Act → World → Prop} {a : Act} {w : World} {n : Nat} {P : Program}
    (h1 : 1 ≤ n) {gf : Nat} {lb : Array Value} (hg : a.eval g = .func (.func gf) #[] lb) (eg : ∀ args w, (callFunc gf args).run P w = .ok (.enter gf args) w) {encs : α → Array Value} {N Bx n₀ : Nat} {ys : List α} (hn₀ : n₀ ≤ w.heap.size)
    (hseq : ∀ (l : Nat) (J : List α → World → Prop) (W : World), Below w.heap.size w W → AbidesFrom W.heap.size J → (∀ pre W v, J pre W → J pre (W.setCell ⟨Bx, 0, none⟩ v)) →
      (∀ pre x W1, J pre W1 → pre.length < N → YieldAt Fence.wide (n - 1 - 1) P l (encs x) W1 fun e W' => e = .returned (.bool true) ∧ J (pre ++ [x]) W' ∧ Below n₀ W1 W') → J [] W →
      CallsIn Fence.wide (n - 1) P gf (#[.func (.yield l) #[] #[]] ++ lb) W fun e W' => (∃ v, e = .returned v) ∧ J ys W')
    (hps : ∀ x, (encs x).size = ps.size) (I : List α → World → Prop) (hI : OwnFrom w.heap.size I) (hIx : ∀ pre W v, I pre W → I pre (W.setCell ⟨Bx, 0, none⟩ v)) (h0 : I [] w) (a₁ : α → Act)
    (hassign : ∀ (l : Nat) (x : α) (W : World) (K : Act → World → Prop), K (a₁ x) W → assign.wpIn (Fence.wide.inRound l) (n - 1 - 1) P (Exit.then K (fun _ _ _ => False)) { tmps := (ps.zip (encs x)).foldl (fun t (p, v) => t.setIfInBounds p v) a.tmps, defers := [] } W)
    (hbody : ∀ (l : Nat) (pre : List α) (x : α) (W : World), I pre W → pre.length < N → body.wpIn (Fence.wide.inRound l) (n - 1 - 1) P (fun e _ W' => e = .normal ∧ KeepsFrom w.heap.size W W' ∧ Below n₀ W W' ∧ I (pre ++ [x]) W') (a₁ x) W)
    (hdone : ∀ (D : Nat) (W : World), w.heap.size ≤ D → I ys W → W.heap[D]? = some (.deferred (some [])) → Q .normal { a with defers := { target := .collected D, args := #[] } :: a.defers } W) :
    (Code.rangeFunc g ps assign body).wpIn Fence.wide n P Q a w := by
  refine wpIn_rangeFunc fun fn hfn => ?_
  obtain ⟨rec, hrec⟩ : ∃ rec : LoopState → Option Code → Loop, rec = fun st pe => { state := st, pending := pe, fn, tmps := a.tmps, params := ps, assign, body, defers := w.heap.size } := ⟨_, rfl⟩
  obtain ⟨W1, hW1⟩ : ∃ W1, (w.alloc (.deferred (some []))).alloc (.loop (rec .ready none)) = W1 := ⟨_, rfl⟩
  have hb1 : Below w.heap.size w W1 := by rw [← hW1]; exact ((Below.refl _ w).alloc (Nat.le_refl _) _).alloc (by simp) _
  have hL : W1.heap[w.heap.size + 1]? = some (.loop (rec .ready none)) := by
    rw [← hW1]
    have := World.alloc_heap_new (w.alloc (.deferred (some []))) (.loop (rec .ready none))
    rwa [World.size_alloc] at this
  have hK : W1.heap[w.heap.size]? = some (.deferred (some [])) := by rw [← hW1]; exact (Below.heap_alloc _ _ _ (by simp)).trans (World.alloc_heap_new w _)
  have hI1 : I [] W1 := by rw [← hW1]; exact hI.alloc _ (hI.alloc _ h0)
  have hput : ∀ (W : World) (o o' : Obj), W.heap[w.heap.size + 1]? = some o → Below n₀ W (W.putObj (w.heap.size + 1) o') := fun W o o' ho => (Below.refl _ W).grown (grownBy_putObj' W _ o') (by have := (Array.getElem?_eq_some_iff.1 ho).1; omega) (fun k e => by cases e; omega)
  refine ⟨w.heap.size + 1, [{ target := .collected w.heap.size, args := #[] }], W1, { target := .fn (.func gf) lb, args := #[.func (.yield (w.heap.size + 1)) #[] #[]] }, W1, gf, #[.func (.yield (w.heap.size + 1)) #[] #[]] ++ lb, W1, ?_, ?_, fun _ _ => trivial, ?_, fun _ => h1, ?_⟩
  · rw [← hW1, hrec]; exact run_enterLoop_outer _ _ _ _ _
  · simp only [resolve, hg]
    simp [go_sem]
  · simp [invoke, go_sem, eg]
  refine (hseq (w.heap.size + 1) (fun pre W => I pre W ∧ W.heap[w.heap.size + 1]? = some (.loop (rec .ready none)) ∧ W.heap[w.heap.size]? = some (.deferred (some []))) W1 hb1 (fun s A B row hs hg' hr => ?_) (fun pre W v hs => ?_) (fun pre x W hs hlen => ?_) ⟨hI1, hL, hK⟩).mono ?_
  · refine ⟨hI s A B row hs.1 hg' fun r e => ?_, (grownBy_keeps hg' (fun r e => (hr r e).2) hs.2.1 rfl).trans hs.2.1, (grownBy_keeps hg' (fun r e => (hr r e).2) hs.2.2 rfl).trans hs.2.2⟩
    obtain ⟨hB, o, ho, hw⟩ := hr r e
    exact ⟨Nat.le_trans hb1.size hB, o, ho, Obj.not_cells_of_walk hw⟩
  · have hk := KeepsOthers.setCell W ⟨Bx, 0, none⟩ v
    exact ⟨hIx _ _ _ hs.1, hk.same _ _ hs.2.1 rfl, hk.same _ _ hs.2.2 rfl⟩
  · obtain ⟨hi, hl, hk⟩ := hs
    have hlt : w.heap.size + 1 < W.heap.size := (Array.getElem?_eq_some_iff.1 hl).1
    have hy := run_yield (P := P) (args := encs x) hl (by rw [hrec]; exact hps x)
    rw [hrec] at hy
    refine ⟨fn, _, assign, body, hy, roundIn_of_wpIn hfn (hassign _ x W _ ⟨_, run_beginRound hl (by rw [hrec]), ?_⟩)⟩
    have hl2 : (W.putObj (w.heap.size + 1) (.loop { rec .ready none with state := .busy })).heap[w.heap.size + 1]? = some (.loop { rec .ready none with state := .busy }) := World.putObj_heap_same hlt
    have hk2 : (W.putObj (w.heap.size + 1) (.loop { rec .ready none with state := .busy })).heap[w.heap.size]? = some (.deferred (some [])) := (World.putObj_heap_other (by omega)).trans hk
    refine wpIn_mono (hbody _ pre x _ (hI.putObj _ hi (by omega) hl rfl) hlen) ?_
    rintro e a3 W3 ⟨rfl, hk3, hb3, hi3⟩
    have hl3 := hk3.same _ _ (by omega) hl2 rfl
    have hr := run_endRound (P := P) none hl3
    rw [hrec] at hr hl3
    refine ⟨_, _, hr, rfl, ⟨hI.putObj _ hi3 (by omega) hl3 rfl, ?_, (World.putObj_heap_other (by omega)).trans (hk3.same _ _ (Nat.le_refl _) hk2 rfl)⟩, ((hput W _ _ hl).trans hb3).trans (hput W3 _ _ hl3)⟩
    rw [hrec]
    exact World.putObj_heap_same (Array.getElem?_eq_some_iff.1 hl3).1
  · rintro e W2 ⟨⟨v, rfl⟩, hi, hl, hk⟩
    exact ⟨none, _, by have := run_endLoop (P := P) hl (by rw [hrec]; simp); rw [hrec] at this; exact this, hdone _ _ (Nat.le_refl _) (hI.putObj _ hi (by omega) hl rfl) ((World.putObj_heap_other (by omega)).trans hk)⟩
end Go.Proofs.YtakoaadimhpclaaGreatDoor
namespace Go.Proofs.YtakoaadimhpclaaGreatDoor
open Go.RowKit Go.Sort Go.Shelf
set_option linter.unusedVariables false
set_option linter.unusedSimpArgs false
set_option maxRecDepth 4000

/-- The least of the first k that is nearer than m. -/
def nearK (xs : List Int) (F : Nat → Nat) (m n : Nat) : Nat → Int
  | 0 => (n : Int)
  | k + 1 => if F (xs.getD k 0).toNat < m then min (nearK xs F m n k) (xs.getD k 0) else nearK xs F m n k
theorem nearK_least {xs : List Int} {F : Nat → Nat} {m n : Nat} : ∀ k j, j < k → F (xs.getD j 0).toNat < m → nearK xs F m n k ≤ xs.getD j 0
  | k + 1, j, hj, h => by
    unfold nearK
    by_cases e : j = k
    · subst e
      rw [if_pos h]
      omega
    · have := nearK_least (n := n) k j (by omega) h
      split
      · omega
      · exact this
theorem nearK_in {xs : List Int} {F : Nat → Nat} {m n : Nat} : ∀ k, nearK xs F m n k = (n : Int) ∨ ∃ j, j < k ∧ F (xs.getD j 0).toNat < m ∧ nearK xs F m n k = xs.getD j 0
  | 0 => .inl rfl
  | k + 1 => by
    unfold nearK
    have ih := nearK_in (xs := xs) (F := F) (m := m) (n := n) k
    split
    · rename_i h
      by_cases e : nearK xs F m n k ≤ xs.getD k 0
      · rw [show min (nearK xs F m n k) (xs.getD k 0) = nearK xs F m n k by omega]
        rcases ih with ih | ⟨j, h1, h2, h3⟩
        · exact .inl ih
        · exact .inr ⟨j, by omega, h2, h3⟩
      · exact .inr ⟨k, by omega, h, by omega⟩
    · rcases ih with ih | ⟨j, h1, h2, h3⟩
      · exact .inl ih
      · exact .inr ⟨j, by omega, h2, h3⟩
theorem nearK_bound {xs : List Int} {F : Nat → Nat} {m n : Nat} (h : ∀ x, x ∈ xs → 0 ≤ x ∧ x < (n : Int)) : ∀ k, k ≤ xs.length → 0 ≤ nearK xs F m n k ∧ nearK xs F m n k ≤ (n : Int)
  | 0, _ => by unfold nearK; omega
  | k + 1, hk => by
    have := nearK_bound (F := F) (m := m) h k (by omega)
    have hm : xs.getD k 0 ∈ xs := by
      rw [List.getD_eq_getElem?_getD, List.getElem?_eq_getElem (by omega)]
      exact List.getElem_mem _
    have := h _ hm
    unfold nearK
    split <;> omega
/-- The next node of the way. -/
def nxtN (ds : List NDV) (F : Nat → Nat) (n i : Nat) : Nat := (nearK (tosN ds i) F (F i) n (tosN ds i).length).toNat
theorem getD_mem {xs : List Int} {j : Nat} (h : j < xs.length) : xs.getD j 0 ∈ xs := by
  rw [List.getD_eq_getElem?_getD, List.getElem?_eq_getElem h]
  exact List.getElem_mem _
theorem mem_getD {xs : List Int} {x : Int} (h : x ∈ xs) : ∃ j, j < xs.length ∧ xs.getD j 0 = x := (mem_takeZ (Nat.le_refl _) x).1 (by rw [List.take_length]; exact h)
/-- What the next node is. -/
theorem nxt_is {ds : List NDV} {n tn i : Nat} {F : Nat → Nat} (hF : FarP ds n tn F) (hw : WayP ds n) (hi : i < n) (h0 : F i ≠ 0) (h8 : F i < 8) :
    nearK (tosN ds i) F (F i) n (tosN ds i).length = ((nxtN ds F n i : Nat) : Int) ∧ nxtN ds F n i < n ∧ ((nxtN ds F n i : Nat) : Int) ∈ tosN ds i ∧ F (nxtN ds F n i) + 1 = F i ∧ ∀ x, x ∈ tosN ds i → F x.toNat < F i → ((nxtN ds F n i : Nat) : Int) ≤ x := by
  have hne : i ≠ tn := fun e => h0 (by rw [e]; exact hF.zero)
  obtain ⟨x, hx, hx1⟩ := hF.next i hne h8
  obtain ⟨j, hj, hj1⟩ := mem_getD hx
  have hb := nearK_bound (F := F) (m := F i) (hw.2 i hi) (tosN ds i).length (Nat.le_refl _)
  have e : nearK (tosN ds i) F (F i) n (tosN ds i).length = ((nxtN ds F n i : Nat) : Int) := by unfold nxtN; omega
  have hl : ∀ x, x ∈ tosN ds i → F x.toNat < F i → ((nxtN ds F n i : Nat) : Int) ≤ x := fun y hy hlt => by
    obtain ⟨q, hq, hq1⟩ := mem_getD hy
    have := nearK_least (n := n) (tosN ds i).length q hq (by rw [hq1]; exact hlt)
    rw [hq1, e] at this
    exact this
  have hxn := hw.2 i hi x hx
  have h1 := hl x hx (by omega)
  rcases nearK_in (xs := tosN ds i) (F := F) (m := F i) (n := n) (tosN ds i).length with h | ⟨q, hq, hq2, hq3⟩
  · rw [e] at h; omega
  · rw [e] at hq3
    have hm : ((nxtN ds F n i : Nat) : Int) ∈ tosN ds i := by rw [hq3]; exact getD_mem hq
    have he := hF.edge i hi _ hm
    rw [Int.toNat_natCast] at he
    rw [← hq3, Int.toNat_natCast] at hq2
    exact ⟨e, by omega, hm, by omega, hl⟩
/-- The way: so many steps from one node on. -/
def wayK (ds : List NDV) (F : Nat → Nat) (n : Nat) : Nat → Nat → List Nat
  | 0, i => [i]
  | k + 1, i => i :: wayK ds F n k (nxtN ds F n i)
/-- The shortest way. -/
def wayL (ds : List NDV) (n tn i : Nat) : List Nat := wayK ds (farN ds n tn) n (farN ds n tn i) i
theorem wayK_len {ds : List NDV} {F : Nat → Nat} {n : Nat} : ∀ k i, (wayK ds F n k i).length = k + 1
  | 0, _ => rfl
  | k + 1, i => by unfold wayK; rw [List.length_cons, wayK_len k]

set_option maxHeartbeats 1000000 in
theorem nearer_any (a : Option Addr) (q c : Nat) (xs : List Int) (al : Option Addr) (N cl : Nat) (L : List Int) (F : Nat → Nat) (m : Nat) (w : World) (h : IntzAt w a q xs) (hL : IntzAt w al N L) (hF : ∀ i, i < N → L.getD i 0 = ((F i : Nat) : Int)) (hx : ∀ x, x ∈ xs → 0 ≤ x ∧ x < (N : Int)) (hq : q ≤ 1048576) :
    Calls Tryz.prog 63 #[.slice a q c, .slice al N cl, .int .i64 (m : Int)] w fun e w' => e = .returned (.int .i64 (nearK xs F m N xs.length)) ∧ w' = w := by
  obtain rfl := h.1
  have H := hide h
  have HL := hide hL
  have HF := hide hF
  have HX := hide hx
  clear h hL hF hx
  go_enter Tryz.func63, Tryz.ntmps63
  go_wp2
  go_loop [7, 14] (fun s i => ∃ k : Nat, k ≤ xs.length ∧ i = .int .i64 k ∧ s = .int .i64 (nearK xs F m N k)) (fun _ i => xs.length - (intOf i).toNat)
  case atStart => exact ⟨0, Nat.zero_le _, rfl, rfl⟩
  case round =>
    obtain ⟨k, hk, rfl, rfl⟩ := hrel
    by_cases hlt : k < xs.length
    · have hlt' : (k : Int) < (xs.length : Int) := by omega
      obtain ⟨b, off, rfl, hc⟩ := (unhide H).at hlt
      have hck := hc k hlt
      have hxb := (unhide HX) _ (getD_mem hlt)
      obtain ⟨x, hx1⟩ : ∃ x : Nat, xs.getD k 0 = (x : Int) := ⟨(xs.getD k 0).toNat, by omega⟩
      have hxN : x < N := by omega
      have hxN' : (x : Int) < (N : Int) := by omega
      obtain ⟨b', off', rfl, hc'⟩ := (unhide HL).at hxN
      have hcx := hc' x hxN
      rw [(unhide HF) x hxN] at hcx
      have HS := hide (show nearK xs F m N (k + 1) = if F (xs.getD k 0).toNat < m then min (nearK xs F m N k) (xs.getD k 0) else nearK xs F m N k from rfl)
      have hmin := min_runZ (nearK xs F m N k) (x : Int)
      rw [hx1, Int.toNat_natCast] at HS
      rw [hx1] at hck
      clear hc hc' hxb hx1
      by_cases hm : F x < m
      · have hm' : ((F x : Nat) : Int) < (m : Int) := by omega
        have HS' := hide ((unhide HS).trans (if_pos hm))
        clear HS
        go_wp2
        go_round
        case rel => exact ⟨k + 1, hlt, by go_num, by rw [unhide HS']⟩
        case measure => simp [intOf]; omega
      · have hm' : ¬ ((F x : Nat) : Int) < (m : Int) := by omega
        have HS' := hide ((unhide HS).trans (if_neg hm))
        clear HS
        go_wp2
        go_round
        case rel => exact ⟨k + 1, hlt, by go_num, by rw [unhide HS']⟩
        case measure => simp [intOf]; omega
    · obtain rfl : k = xs.length := by omega
      go_wp2
      go_ret
      exact ⟨rfl, rfl⟩
end Go.Proofs.YtakoaadimhpclaaGreatDoor
