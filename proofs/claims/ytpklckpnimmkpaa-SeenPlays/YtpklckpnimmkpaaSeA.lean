/-
  Packets' fingerprints and what a cache keeps, as data ('prD', 'hasD', 'freshD', 'seenL', 'cameL'); a map from fingerprints to the order in which they came ('MpL'); a cache in memory ('CaAt'). No condition.
-/
import Derived.Test.YtpklckpnimmkpaaPd
import Derived.Test.YtpklckpnimmkpaaG2
import Derived.Test.YtpklckpnimmkpaaCM
import Derived.Test.YtpklckpnimmkpaaG1
import Derived.Test.YtpklckpnimmkpaaCp
import Derived.Maps.RangeWalk
import Derived.Maps.OwnSet
import Derived.Maps.OwnOps
namespace Go.Proofs.Ytpklckpnimmkpaa
open Go.RowKit Go.Sort Go.Maps
set_option linter.unusedVariables false
set_option maxRecDepth 4000

/-- A packet's fingerprint. -/
def prD (p : PD) : Nat := if okD p = true then sumN (encL p.o p.l p.k p.z 0 p.xs (tx p.s)) else 0
theorem prD_yes {p : PD} (h : okD p = true) : prD p = sumN (encL p.o p.l p.k p.z 0 p.xs (tx p.s)) := if_pos h
theorem prD_no {p : PD} (h : okD p = false) : prD p = 0 := if_neg (by rw [h]; decide)
theorem prD_lt (p : PD) : prD p < 4294967296 := by
  unfold prD
  split
  · exact sumN_lt (encL_bytes _ _ _ _ _ _ _ (tx_bytes _))
  · decide
/-- Is it kept? -/
def hasD (L : List Nat) (x : Nat) : Bool := L.contains x
theorem hasD_iff {L : List Nat} {x : Nat} : hasD L x = true ↔ x ∈ L := by simp [hasD]
theorem hasD_no {L : List Nat} {x : Nat} : hasD L x = false ↔ x ∉ L := by rw [← hasD_iff]; simp
/-- Is it fresh? -/
def freshD (L : List Nat) (p : PD) : Bool := okD p && !hasD L (prD p)
/-- What is kept once a print came that was not there. -/
def seenL (m : Nat) (L : List Nat) (x : Nat) : List Nat := if m = 0 then L else if L.length = m then L.tail ++ [x] else L ++ [x]
/-- .. once a packet came. -/
def cameL (m : Nat) (L : List Nat) (p : PD) : List Nat := if freshD L p = true then seenL m L (prD p) else L
theorem seenL_len {m : Nat} {L : List Nat} (h : L.length ≤ m) (x : Nat) : (seenL m L x).length ≤ m := by
  unfold seenL
  split
  · exact h
  · split
    · simp only [List.length_append, List.length_tail, List.length_singleton]; omega
    · simp only [List.length_append, List.length_singleton]; omega
theorem cameL_len {m : Nat} {L : List Nat} (h : L.length ≤ m) (p : PD) : (cameL m L p).length ≤ m := by
  unfold cameL
  split
  · exact seenL_len h _
  · exact h

theorem lit32 {a b : Nat} (h : (.int .u32 (a : Int) : Lit) = .int .u32 (b : Int)) : a = b := by
  simp only [Lit.int.injEq, true_and] at h
  omega
theorem isKey32 (a : Nat) : WideAt.IsKeyLit (.int .u32 (a : Int)) := trivial
theorem same32 (a b : Nat) : (Lit.int .u32 (a : Int)).sameKey (.int .u32 (b : Int)) = decide (a = b) := by
  by_cases e : a = b
  · subst e; rw [WideAt.sameKey_self (isKey32 a)]; simp
  · rw [sameKey_ne (fun h => e (lit32 h))]; simp [e]

/-- A map that reads as es: prints and when they came, the eldest first; nx: when the next one comes. -/
structure MpL (D : DataW Unit) (nx : Nat) (es : List (Nat × Nat)) : Prop where
  has : ∀ x : Nat, Maps.has D (.int .u32 (x : Int)) = hasD (es.map Prod.fst) x
  at' : ∀ p ∈ es, ∀ z, D.atKey (.int .u32 (p.1 : Int)) z = .lit (.int .i64 (p.2 : Int))
  size : Maps.size D = es.length
  rise : es.Pairwise fun p q => p.2 < q.2
  two : es.Pairwise fun p q => p.1 ≠ q.1
  low : ∀ p ∈ es, p.2 < nx
theorem MpL.empty : MpL (.map []) 0 [] :=
  ⟨fun x => rfl, fun p h => (by cases h), rfl, List.Pairwise.nil, List.Pairwise.nil, fun p h => (by cases h)⟩
theorem MpL.put {D : DataW Unit} {nx : Nat} {es : List (Nat × Nat)} (h : MpL D nx es) (hT : Tidy D) {x : Nat} (hx : x ∉ es.map Prod.fst) :
    MpL (D.put (.int .u32 (x : Int)) (.lit (.int .i64 (nx : Int)))) (nx + 1) (es ++ [(x, nx)]) := by
  have hh : Maps.has D (.int .u32 (x : Int)) = false := by rw [h.has, hasD_no]; exact hx
  refine ⟨fun y => ?_, fun p hp z => ?_, ?_, ?_, ?_, fun p hp => ?_⟩
  · by_cases e : y = x
    · subst e
      rw [has_put_same hT.isMap (isKey32 y)]
      simp [hasD]
    · rw [has_put_other (fun he => e (lit32 he)), h.has]
      simp [hasD, e]
  · rw [List.mem_append, List.mem_singleton] at hp
    rcases hp with hp | rfl
    · have : p.1 ≠ x := fun e => hx (List.mem_map.2 ⟨p, hp, e⟩)
      rw [atKey_put_other (fun he => this (lit32 he))]
      exact h.at' p hp z
    · exact atKey_put_same hT.isMap (isKey32 x) _ z
  · rw [size_put hT, hh, h.size]; simp
  · rw [List.pairwise_append]
    exact ⟨h.rise, List.pairwise_singleton _ _, fun p hp q hq => by rw [List.mem_singleton] at hq; subst hq; exact h.low p hp⟩
  · rw [List.pairwise_append]
    exact ⟨h.two, List.pairwise_singleton _ _, fun p hp q hq => by rw [List.mem_singleton] at hq; subst hq; exact fun e => hx (List.mem_map.2 ⟨p, hp, e⟩)⟩
  · rw [List.mem_append, List.mem_singleton] at hp
    rcases hp with hp | rfl
    · have := h.low p hp; omega
    · show nx < nx + 1; omega
theorem MpL.del {D : DataW Unit} {nx k s : Nat} {es : List (Nat × Nat)} (h : MpL D nx ((k, s) :: es)) (hT : Tidy D) : MpL (D.del (.int .u32 (k : Int))) nx es := by
  have hr := List.pairwise_cons.1 h.rise
  have ht := List.pairwise_cons.1 h.two
  have hk : k ∉ es.map Prod.fst := fun hm => by
    obtain ⟨p, hp, e⟩ := List.mem_map.1 hm
    exact ht.1 p hp e.symm
  have hh : Maps.has D (.int .u32 (k : Int)) = true := by rw [h.has]; simp [hasD]
  refine ⟨fun y => ?_, fun p hp z => ?_, ?_, hr.2, ht.2, fun p hp => h.low p (List.mem_cons_of_mem _ hp)⟩
  · by_cases e : y = k
    · subst e
      rw [has_del_same]
      exact (hasD_no.2 hk).symm
    · rw [has_del_other (fun he => e (lit32 he)), h.has]
      simp [hasD, e]
  · have : p.1 ≠ k := fun e => hk (List.mem_map.2 ⟨p, hp, e⟩)
    rw [atKey_del_other (fun he => this (lit32 he))]
    exact h.at' p (List.mem_cons_of_mem _ hp) z
  · have := size_del (k := .int .u32 (k : Int)) hT
    rw [hh, h.size] at this
    simp only [if_true, List.length_cons] at this
    omega

theorem law32 : Keyed Try.prog 29 := int_keyed Try.underlying29
theorem zero_i (w : World) : (zeroValue 3).run Try.prog w = .ok (.int .i64 0) w := by kernel_rfl
theorem key32 {x : Nat} (h : x < 4294967296) : keyOf Try.prog 29 (.int .u32 (x : Int)) = some (.int .u32 (x : Int)) := keyOf_int_mk Try.underlying29 (WalkArith.wf_u32 (by omega))
/-- A map of ints by uint32. -/
def OwnM (w : World) (b n : Nat) (D : DataW Unit) : Prop := w.ownsMap Try.prog 29 (plainElem Try.prog 3) b n D
theorem OwnM.lt {w : World} {b n : Nat} {D : DataW Unit} (h : OwnM w b n D) : b < w.heap.size := World.ownsMap.lt h
theorem OwnM.tu {F : Nat → Prop} {w w' : World} {b n : Nat} {D : DataW Unit} (h : OwnM w b n D) (ht : Tu F w w') (hb : ¬ F b) : OwnM w' b n D := by
  have hl := h.lt
  obtain ⟨es, clock, hk, r⟩ := h
  exact ⟨es, clock, (ht.block b hl hb).trans hk, r⟩
theorem OwnM.exact {w : World} {b n : Nat} {D : DataW Unit} (h : OwnM w b n D) : OwnM w b (Maps.size D) D := by
  obtain ⟨es, clock, hk, F, hs, rfl⟩ := h
  exact ⟨es, clock, hk, F, by simp [Maps.size, length_sorted], rfl⟩
theorem OwnM.tidy {w : World} {b n : Nat} {D : DataW Unit} (h : OwnM w b n D) : Tidy D := World.ownsMap.tidy h law32
theorem tu_map {w w' : World} {b : Nat} (h : w.mapTurned w' b) : Tu (fun j => j = b) w w' := Tu.of_gb h.grown fun j _ e => (Option.some.inj e).symm
theorem OwnM.nocells {w : World} {b n : Nat} {D : DataW Unit} (h : OwnM w b n D) (cur : Array Value) (t : TypeId) (m : Nat × Nat) : w.heap[b]? ≠ some (.cells cur t m) := by
  obtain ⟨es, clock, hk, _⟩ := h
  rw [hk]
  intro e
  cases e

/-- A cache at block g, its map at block b: at most m, at most N came; it keeps L, the eldest first. -/
structure CaAt (w : World) (g b m N : Nat) (L : List Nat) : Prop where
  it : ∃ nx es D, nx ≤ N ∧ BkA 60 w g [.int .i64 (m : Int), .map (some b), .int .i64 (nx : Int)] ∧ OwnM w b L.length D ∧ MpL D nx es ∧ L = es.map Prod.fst
  len : L.length ≤ m
  most : m ≤ 256
/-- What is the cache's. -/
def caF (g b : Nat) (j : Nat) : Prop := j = g ∨ j = b
theorem CaAt.lt {w : World} {g b m N : Nat} {L : List Nat} (h : CaAt w g b m N L) : g < w.heap.size ∧ b < w.heap.size := by
  obtain ⟨nx, es, D, _, hb, ho, _⟩ := h.it
  exact ⟨hb.lt, ho.lt⟩
theorem CaAt.tu {F : Nat → Prop} {w w' : World} {g b m N : Nat} {L : List Nat} (h : CaAt w g b m N L) (ht : Tu F w w') (hg : ¬ F g) (hb : ¬ F b) : CaAt w' g b m N L := by
  obtain ⟨nx, es, D, hn, hk, ho, r⟩ := h.it
  exact ⟨⟨nx, es, D, hn, hk.tu ht hg, ho.tu ht hb, r⟩, h.len, h.most⟩
theorem CaAt.below {w w' : World} {g b m N : Nat} {L : List Nat} (h : CaAt w g b m N L) (hb : Below w.heap.size w w') : CaAt w' g b m N L := h.tu (F := fun _ => False) (Tu.of_below hb) id id
theorem CaAt.mono {w : World} {g b m N N' : Nat} {L : List Nat} (h : CaAt w g b m N L) (hN : N ≤ N') : CaAt w g b m N' L := by
  obtain ⟨nx, es, D, hn, r⟩ := h.it
  exact ⟨⟨nx, es, D, Nat.le_trans hn hN, r⟩, h.len, h.most⟩
theorem CaAt.ne {w : World} {g b m N : Nat} {L : List Nat} (h : CaAt w g b m N L) : g ≠ b := fun e => by
  obtain ⟨nx, es, D, _, hk, ho, _⟩ := h.it
  exact ho.nocells _ _ _ (e ▸ hk)
/-- A row of cells of another type is none of a cache's. -/
theorem CaAt.out {w : World} {g b m N : Nat} {L : List Nat} {j : Nat} {cur : Array Value} {t : TypeId} {f : Nat × Nat} (h : CaAt w g b m N L) (hj : w.heap[j]? = some (.cells cur t f)) (ht : t ≠ 60) : ¬ caF g b j := by
  obtain ⟨nx, es, D, _, hk, ho, _⟩ := h.it
  rintro (e | e)
  · subst e
    exact hk.ne hj (fun e => ht e.symm) rfl
  · subst e
    exact ho.nocells _ _ _ hj
end Go.Proofs.Ytpklckpnimmkpaa
