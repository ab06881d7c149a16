/-
  Plain mathematics of the decoder: peeling hangs on rows' bits and texts alone; rows of full rank tell all blocks, each of the rows' size; what a put makes of a decoder (dput, dputE), and what always holds of it (DInv). No condition.
-/
import Derived.Test.YtnjdldbdkafnaaaGreatDoorU32
import Derived.Test.YtnjdldbdkafnaaaGreatDoorU34
import Derived.Test.YtnjdldbdkafnaaaGreatDoorU14
namespace Go.Proofs.YtnjdldbdkafnaaaGreatDoor
open Go.RowKit Go.Sort
set_option linter.unusedVariables false
set_option linter.unusedSimpArgs false
set_option maxRecDepth 4000

theorem find_core (p : List Nat × ByteArray → Bool) {rs rs' : List RV} (h : rs.map core = rs'.map core) : (rs.find? (fun r => p (core r))).map core = (rs'.find? (fun r => p (core r))).map core := by
  have := congrArg (List.find? p) h
  rw [List.find?_map, List.find?_map] at this
  exact this
def tellC (k : Int) (kn : List Nat) (x : List Nat × ByteArray) : Bool := validB k x.1 && decide (cnt (dropL x.1 kn) = 1)
theorem tells_core (k : Int) (kn : List Nat) : tellsB k kn = fun r => tellC k kn (core r) := rfl
theorem run_core {k : Int} {rs rs' : List RV} (h : rs.map core = rs'.map core) : ∀ {j : Nat} {kn : List Nat} {bs : List ByteArray}, Run k rs j kn bs → Run k rs' j kn bs
  | 0, _, _, hr => hr
  | j + 1, kn, bs, ⟨kn0, bs0, r, h1, h2, h3, h4⟩ => by
    have hf := find_core (tellC k kn0) h
    rw [tells_core] at h2
    rw [h2] at hf
    obtain ⟨r', hr', he⟩ := Option.map_eq_some_iff.1 hf.symm
    have e1 : r'.xs = r.xs := congrArg Prod.fst he
    have e2 : r'.s = r.s := congrArg Prod.snd he
    refine ⟨kn0, bs0, r', run_core h h1, hr', ?_, ?_⟩
    · rw [h3]; unfold blkOf; rw [e1]
    · rw [h4]; unfold blkOf; rw [e1, e2]
/-- Peeling hangs on the rows' bits and texts alone. -/
theorem peel_core {k : Int} {rs rs' : List RV} {kn : List Nat} {bs : List ByteArray} (h : rs.map core = rs'.map core) (hP : PeelP k rs kn bs) : PeelP k rs' kn bs := by
  obtain ⟨⟨j, hj⟩, hn⟩ := hP
  refine ⟨⟨j, run_core h hj⟩, ?_⟩
  have hf := find_core (tellC k kn) h
  rw [tells_core] at hn
  rw [hn] at hf
  exact Option.map_eq_none_iff.1 hf.symm
def restC (k : Int) (kn : List Nat) (x : List Nat × ByteArray) : Bool := validB k x.1 && !decide (cnt (dropL x.1 kn) = 0) && !decide (cnt (dropL x.1 kn) = 1)
theorem rest_fst (k : Int) (ts : List RV) (kn : List Nat) (bs : List ByteArray) : restL k ts kn bs = ((ts.map core).filter (restC k kn)).map fun x => (dropL x.1 kn, txtL bs x.1 x.2) := by
  unfold restL
  rw [List.filter_map, List.map_map]
  rfl
theorem peelC_core {k : Int} {rs rs' : List RV} {kn : List Nat} {bs : List ByteArray} (h : rs.map core = rs'.map core) : peelC k rs kn bs = peelC k rs' kn bs := by
  unfold peelC
  rw [rest_fst, rest_fst, h]
/-- The object that rows tell. -/
def ObjP (k l : Int) (L : List (List Nat × ByteArray)) (ob : ByteArray) : Prop := ∃ rs kn bs, rs.map core = L ∧ PeelP k rs kn bs ∧ ob = st ((joinL (solveC k (peelC k rs kn bs))).take l.toNat)
theorem ObjP.uniq {k l : Int} {L : List (List Nat × ByteArray)} {a b : ByteArray} (h : ObjP k l L a) (g : ObjP k l L b) : a = b := by
  obtain ⟨rs, kn, bs, h1, h2, rfl⟩ := h
  obtain ⟨rs', kn', bs', g1, g2, rfl⟩ := g
  have hc : rs.map core = rs'.map core := h1.trans g1.symm
  obtain ⟨rfl, rfl⟩ := (peel_core hc h2).uniq g2
  rw [peelC_core hc]

theorem ObjP.size {k l : Int} {L : List (List Nat × ByteArray)} {a : ByteArray} (h : ObjP k l L a) : a.size ≤ l.toNat := by
  obtain ⟨rs, kn, bs, _, _, rfl⟩ := h
  rw [st_len]
  exact List.length_take_le _ _

theorem joinL_same {m : Nat} : ∀ {ss : List ByteArray}, (∀ s ∈ ss, s.size = m) → (joinL ss).length = ss.length * m
  | [], _ => by simp [joinL]
  | s :: ss, h => by
    have h1 := joinL_same (ss := ss) fun t ht => h t (List.mem_cons_of_mem _ ht)
    have h2 := h s List.mem_cons_self
    unfold joinL at *
    rw [List.flatMap_cons, List.length_append, h1, tx_length, h2, List.length_cons, Nat.add_mul, Nat.one_mul, Nat.add_comm]
theorem sum_same {m : Nat} {L : List (List Nat × ByteArray)} : ∀ (ps : List Nat) (a : List Nat), (∀ i ∈ ps, (L.getD i zC).2.size = m) → a.length = m ∨ (a.length ≤ m ∧ ps ≠ []) → ((textsC L ps).foldl (fun a s => xorL a (tx s)) a).length = m
  | [], a, _, h => by
    rcases h with h | h
    · exact h
    · exact absurd rfl h.2
  | i :: ps, a, hp, h => by
    unfold textsC
    rw [List.map_cons, List.foldl_cons]
    refine sum_same ps _ (fun q hq => hp q (List.mem_cons_of_mem _ hq)) (.inl ?_)
    have := hp i List.mem_cons_self
    rw [xorL_length, tx_length, this]
    rcases h with h | h <;> omega
/-- Rows of one size and of full rank: each block is of that size. -/
theorem block_same {K m : Nat} {L : List (List Nat × ByteArray)} (hz : 0 < sizeOfK (K : Int)) (hf : FitC 1048576 L) (hn : L.length ≤ 100000) (hv : ∀ x ∈ L, validB (K : Int) x.1 = true) (hm : ∀ x ∈ L, x.2.size = m)
    (hr : (basisL (vecsC L)).length = K) {b : Nat} (hb : b < K) : (blockC (K : Int) L b).size = m := by
  have hbk : ((b : Nat) : Int) < (K : Int) := by omega
  have hu : val (unitL (K : Int) (b : Int)) = 2 ^ b := val_one (unit_small hbk) (unit_bit hz hbk)
  have hul : (unitL (K : Int) (b : Int)).length ≤ 1048576 := by rw [unit_len hbk]; have := sizeOfK_le (K : Int); omega
  have hsp : Ech.Sp ((vecsC (keptC L)).map val) (val (unitL (K : Int) (b : Int))) := by
    rw [vecs_kept, kept_sp hf, hu]
    have hvv : ∀ v ∈ vecsC L, validB (K : Int) v = true := fun v hv' => by
      obtain ⟨x, hx, rfl⟩ := List.mem_map.1 hv'
      exact hv x hx
    exact (rank_full hf hvv).2 (by rw [Int.toNat_natCast]; exact hr) b (by rw [Int.toNat_natCast]; exact hb)
  have hfk := hf.kept
  have hkn : (vecsC (keptC L)).length ≤ 100000 := by
    rw [vecsC_len, kept_length]
    have := keep_len (vecsC L) L.length
    omega
  obtain ⟨c, hc⟩ := choice_of hfk hsp
  have hyes : firstI (reduceL (broughtL (vecsC (keptC L))) (unitL (K : Int) (b : Int))) < 0 := (brought_in hfk (unit_small hbk) hul).2 hsp
  have hex : exL (vecsC (keptC L)) (unitL (K : Int) (b : Int)) = exprL (vecsC (keptC L)) (unitL (K : Int) (b : Int)) := by unfold exL; rw [if_pos hyes]
  unfold blockC
  rw [hex, st_len]
  have hch := expr_choice hfk hkn (unit_small hbk) hc
  have hsum : val (sumV (vecsC (keptC L)) (exprL (vecsC (keptC L)) (unitL (K : Int) (b : Int)))) = 2 ^ b := by
    rw [hch, ← hu]
    exact hc.sum hfk
  have hlt := expr_lt _ hfk hkn (unit_small hbk) hc
  refine sum_same _ [] (fun i hi => ?_) (.inr ⟨Nat.zero_le _, fun hne => ?_⟩)
  · have hlt := hlt i hi
    rw [vecsC_len] at hlt
    rw [List.getD_eq_getElem?_getD, List.getElem?_eq_getElem hlt]
    exact hm _ (kept_mem (List.getElem_mem hlt))
  · rw [hne] at hsum
    have h0 : val (sumV (vecsC (keptC L)) []) = 0 := by simp [sumV, val]
    rw [h0] at hsum
    have := Nat.two_pow_pos b
    omega

/-- Rows of k blocks, of one size and of full rank: all blocks are told, each of that size. -/
theorem full_told {K m : Nat} {rs : List RV} {kn : List Nat} {bs : List ByteArray} (hP : PeelP (K : Int) rs kn bs) (hg : Good rs) (hl : ∀ r ∈ rs, r.xs.length ≤ 10) (hn : rs.length ≤ 300) (hz : 0 < sizeOfK (K : Int)) (hv : ∀ r ∈ rs, validB (K : Int) r.xs = true) (hm : ∀ r ∈ rs, r.s.size = m) (hk : rankC (rs.map core) = K) :
    okC (K : Int) (peelC (K : Int) rs kn bs) = true ∧ (solveC (K : Int) (peelC (K : Int) rs kn bs)).length = K ∧ ∀ s ∈ solveC (K : Int) (peelC (K : Int) rs kn bs), s.size = m := by
  have hval := peel_valid hP hg
  have hz2 := sizeOfK_le (K : Int)
  have hroom := size_room hz
  obtain ⟨j, hK⟩ := hP.kn hg hz
  have hf : FitC 1048576 (peelC (K : Int) rs kn bs) := fun v hv => by
    obtain ⟨x, hx, rfl⟩ := List.mem_map.1 hv
    refine ⟨?_, by have := (valid_size (hval x hx)).2.1; omega⟩
    unfold peelC at hx
    rcases List.mem_append.1 hx with hx | hx
    · obtain ⟨b, hb, _, rfl⟩ := told_mem hK hx
      exact unit_small (by omega)
    · unfold restL at hx
      obtain ⟨r, hr, rfl⟩ := List.mem_map.1 hx
      exact dropL_small (hg r (List.mem_filter.1 hr).1).1 _
  have hln : (peelC (K : Int) rs kn bs).length ≤ 100000 := by
    unfold peelC toldTo restL
    rw [List.length_append, List.length_map, List.length_map]
    have h1 := List.length_filter_le (fun b => getB kn b) (List.range (K : Int).toNat)
    have h2 := List.length_filter_le (restB (K : Int) kn) rs
    rw [List.length_range] at h1
    omega
  have hfr : Fit 1048576 (vecsL rs) := by
    have := fit_filter hg hl (fun _ => true)
    rwa [List.filter_eq_self.2 (fun _ _ => rfl)] at this
  have hfl : (rs.filter fun r => validB (K : Int) r.xs) = rs := List.filter_eq_self.2 hv
  have hr : (basisL (vecsC (peelC (K : Int) rs kn bs))).length = K := by
    have h1 : (basisL (vecsC (peelC (K : Int) rs kn bs))).length = rankV (K : Int) rs := rank_eq hf (fit_filter hg hl _) (peel_span hP hg)
    rw [h1]
    unfold rankV
    rw [hfl, ← keep_rank hfr, vecsL_len, ← hk, ← rankN_core]
    rfl
  have hkr : (keepL (vecsC (peelC (K : Int) rs kn bs)) (peelC (K : Int) rs kn bs).length).length = K := by
    have := keep_rank hf
    rw [vecsC_len] at this
    exact this.trans hr
  have hok : okC (K : Int) (peelC (K : Int) rs kn bs) = true := by
    unfold okC
    rw [decide_eq_true hz, Bool.true_and, hkr]
    exact decide_eq_true (Int.le_refl _)
  obtain ⟨⟨jj, hjj⟩, _⟩ := id hP
  obtain ⟨s1, s2⟩ := run_sizes hz hg hm hjj
  have hms : ∀ x ∈ peelC (K : Int) rs kn bs, x.2.size = m := fun x hx => by
    unfold peelC at hx
    rcases List.mem_append.1 hx with hx | hx
    · obtain ⟨b, hb, hgb, rfl⟩ := told_mem hK hx
      exact s1 b hgb
    · unfold restL at hx
      obtain ⟨r, hr, rfl⟩ := List.mem_map.1 hx
      exact txtL_same s2 (hm r (List.mem_filter.1 hr).1)
  have hs : solveC (K : Int) (peelC (K : Int) rs kn bs) = (List.range K).map (blockC (K : Int) (peelC (K : Int) rs kn bs)) := by
    unfold solveC
    rw [if_pos hok, Int.toNat_natCast]
  refine ⟨hok, by rw [hs, List.length_map, List.length_range], fun s hsm => ?_⟩
  rw [hs] at hsm
  obtain ⟨b, hb, rfl⟩ := List.mem_map.1 hsm
  exact block_same hz hf hln hval hms hr (List.mem_range.1 hb)

/-- A decoder: whether it has begun; of which object; what it keeps; whether one was left over, whether it is done, and the object. -/
structure DS where
  bg : Bool
  o : Int
  l : Int
  k : Int
  z : Int
  L : List (List Nat × ByteArray)
  ov : Bool
  dn : Bool
  ob : ByteArray
def zDS : DS := ⟨false, 0, 0, 0, 0, [], false, false, ⟨#[]⟩⟩
/-- A packet that may be. -/
def okB (p : PKV) : Bool := decide (((1 ≤ p.k ∧ p.k ≤ 128) ∧ 1 ≤ p.z ∧ p.z ≤ 64) ∧ (0 ≤ p.o ∧ p.o ≤ 4294967295) ∧ (0 ≤ p.l ∧ p.l ≤ p.k * p.z) ∧ 0 ≤ p.h ∧ p.h ≤ 15) && fitB p.k p.z (p.r.xs, p.r.s)
theorem fitB_iff {k z : Int} {x : List Nat × ByteArray} : fitB k z x = true ↔ rowedP k z x.1 x.2.size := by
  unfold fitB rowedP
  rw [Bool.and_eq_true, Bool.and_eq_true, validB_iff, decide_eq_true_iff, decide_eq_true_iff, and_assoc]
theorem okB_iff {p : PKV} : okB p = true ↔ CheckP p.o p.l p.k p.z p.h p.r.xs p.r.s.size := by
  unfold okB CheckP
  rw [Bool.and_eq_true, decide_eq_true_iff, fitB_iff]
  rfl
theorem okB_ck (p : PKV) : CkP (if okB p = true then 0 else 1) (CheckP p.o p.l p.k p.z p.h p.r.xs p.r.s.size) := by
  by_cases h : okB p = true
  · rw [if_pos h]; exact .inl ⟨okB_iff.1 h, rfl⟩
  · rw [if_neg h]; exact .inr ⟨fun hc => h (okB_iff.2 hc), rfl⟩
def alikeB (s : DS) (p : PKV) : Bool := decide (p.o = s.o ∧ p.l = s.l ∧ p.k = s.k ∧ p.z = s.z)
/-- May it be put? -/
def admB (s : DS) (p : PKV) : Bool := okB p && (!s.bg || alikeB s p)
def begS (s : DS) (p : PKV) : DS := if s.bg = true then s else ⟨true, p.o, p.l, p.k, p.z, [], false, false, ⟨#[]⟩⟩
def newlyB (M : Int) (s : DS) (x : List Nat × ByteArray) : Bool := !s.dn && (decide (s.L.length < capN M) && decide ((rankC (s.L ++ [x]) : Int) = s.k))
/-- A row is kept, or not; ob is the object, if it is told now. -/
def keepS (M : Int) (s : DS) (x : List Nat × ByteArray) (ob : ByteArray) : DS :=
  if s.dn = true then s
  else if s.L.length < capN M then (if (rankC (s.L ++ [x]) : Int) = s.k then { s with L := s.L ++ [x], dn := true, ob := ob } else { s with L := s.L ++ [x] })
  else { s with ov := true }
def keepE (M : Int) (s : DS) : Int := if s.dn = true then 0 else if s.L.length < capN M then 0 else 5
def dput (M : Int) (s : DS) (p : PKV) (ob : ByteArray) : DS := if admB s p = true then keepS M (begS s p) (p.r.xs, p.r.s) ob else s
def dputE (M : Int) (s : DS) (p : PKV) : Int := if admB s p = true then keepE M (begS s p) else 1
/-- What is told now, if something is, is the object. -/
def TellsP (M : Int) (s : DS) (x : List Nat × ByteArray) (ob : ByteArray) : Prop := newlyB M s x = true → ObjP s.k s.l (s.L ++ [x]) ob
theorem keepS_dn {M : Int} {s : DS} {x : List Nat × ByteArray} {ob : ByteArray} (h : s.dn = true) : keepS M s x ob = s ∧ keepE M s = 0 := by
  unfold keepS keepE
  rw [if_pos h, if_pos h]; exact ⟨rfl, rfl⟩
theorem keepS_new {M : Int} {s : DS} {x : List Nat × ByteArray} {ob : ByteArray} (h : s.dn = false) (hl : s.L.length < capN M) (hr : (rankC (s.L ++ [x]) : Int) = s.k) : keepS M s x ob = { s with L := s.L ++ [x], dn := true, ob := ob } ∧ keepE M s = 0 ∧ newlyB M s x = true := by
  unfold keepS keepE newlyB
  rw [h, if_neg (by decide), if_pos hl, if_pos hr, if_neg (by decide), if_pos hl, decide_eq_true hl, decide_eq_true hr]; exact ⟨rfl, rfl, rfl⟩
theorem keepS_in {M : Int} {s : DS} {x : List Nat × ByteArray} {ob : ByteArray} (h : s.dn = false) (hl : s.L.length < capN M) (hr : ¬ (rankC (s.L ++ [x]) : Int) = s.k) : keepS M s x ob = { s with L := s.L ++ [x] } ∧ keepE M s = 0 ∧ newlyB M s x = false := by
  unfold keepS keepE newlyB
  rw [h, if_neg (by decide), if_pos hl, if_neg hr, if_neg (by decide), if_pos hl, decide_eq_true hl, decide_eq_false hr]; exact ⟨rfl, rfl, rfl⟩
theorem keepS_full {M : Int} {s : DS} {x : List Nat × ByteArray} {ob : ByteArray} (h : s.dn = false) (hl : ¬ s.L.length < capN M) : keepS M s x ob = { s with ov := true } ∧ keepE M s = 5 ∧ newlyB M s x = false := by
  unfold keepS keepE newlyB
  rw [h, if_neg (by decide), if_neg hl, if_neg (by decide), if_neg hl, decide_eq_false hl]; exact ⟨rfl, rfl, rfl⟩
theorem newly_not {M : Int} {s : DS} {x : List Nat × ByteArray} (h : s.dn = true) : newlyB M s x = false := by
  unfold newlyB
  rw [h]; rfl
theorem keepS_same {M : Int} {s : DS} {x : List Nat × ByteArray} (h : newlyB M s x = false) (a b : ByteArray) : keepS M s x a = keepS M s x b := by
  cases hd : s.dn
  · by_cases hl : s.L.length < capN M
    · by_cases hr : (rankC (s.L ++ [x]) : Int) = s.k
      · rw [(keepS_new (ob := a) hd hl hr).2.2] at h; cases h
      · rw [(keepS_in (ob := a) hd hl hr).1, (keepS_in (ob := b) hd hl hr).1]
    · rw [(keepS_full (x := x) (ob := a) hd hl).1, (keepS_full (x := x) (ob := b) hd hl).1]
  · rw [(keepS_dn hd).1, (keepS_dn hd).1]
/-- What is told is one. -/
theorem TellsP.uniq {M : Int} {s : DS} {x : List Nat × ByteArray} {a b : ByteArray} (ha : TellsP M s x a) (hb : TellsP M s x b) : keepS M s x a = keepS M s x b := by
  cases h : newlyB M s x
  · exact keepS_same h a b
  · rw [(ha h).uniq (hb h)]
/-- What holds of a decoder that has begun. -/
structure DInv (s : DS) : Prop where
  bg : s.bg = true
  sh : ((1 ≤ s.k ∧ s.k ≤ 128) ∧ 1 ≤ s.z ∧ s.z ≤ 64) ∧ 0 ≤ s.l ∧ s.l ≤ s.k * s.z
  fit : ∀ x ∈ s.L, fitB s.k s.z x = true
  dn : s.dn = true ↔ (rankC s.L : Int) = s.k
  ob : s.dn = false → s.ob = ⟨#[]⟩
  obs : s.ob.size ≤ 8192
theorem DInv.lz {s : DS} (h : DInv s) : s.l.toNat ≤ 8192 := by
  have := mul_le (k := s.k) (z := s.z) h.sh.1
  have := h.sh.2
  omega
theorem DInv.keep {M : Int} {s : DS} (h : DInv s) {x : List Nat × ByteArray} (hx : fitB s.k s.z x = true) {ob : ByteArray} (hT : TellsP M s x ob) : DInv (keepS M s x ob) := by
  have hfit : ∀ y ∈ s.L ++ [x], fitB s.k s.z y = true := fun y hy => by
    rcases List.mem_append.1 hy with hy | hy
    · exact h.fit y hy
    · rw [List.mem_singleton.1 hy]; exact hx
  cases hd : s.dn
  · by_cases hl : s.L.length < capN M
    · by_cases hr : (rankC (s.L ++ [x]) : Int) = s.k
      · have hz := (hT (keepS_new (ob := ob) hd hl hr).2.2).size
        rw [(keepS_new hd hl hr).1]
        exact ⟨h.bg, h.sh, hfit, ⟨fun _ => hr, fun _ => rfl⟩, (fun e => by cases e), Nat.le_trans hz h.lz⟩
      · rw [(keepS_in hd hl hr).1]
        exact ⟨h.bg, h.sh, hfit, ⟨(fun e => by have e' : s.dn = true := e; rw [hd] at e'; cases e'), fun e => absurd e hr⟩, h.ob, h.obs⟩
    · rw [(keepS_full hd hl).1]
      exact ⟨h.bg, h.sh, h.fit, h.dn, h.ob, h.obs⟩
  · rw [(keepS_dn hd).1]; exact h
theorem rankC_nil : rankC [] = 0 := rfl
theorem adm_fit {s : DS} {p : PKV} (h : admB s p = true) : okB p = true ∧ fitB (begS s p).k (begS s p).z (p.r.xs, p.r.s) = true ∧ (begS s p).bg = true := by
  unfold admB at h
  rw [Bool.and_eq_true, Bool.or_eq_true] at h
  obtain ⟨h1, h2⟩ := h
  have hf := h1
  unfold okB at hf
  rw [Bool.and_eq_true] at hf
  refine ⟨h1, ?_⟩
  unfold begS
  cases hb : s.bg
  · rw [if_neg (by decide)]; exact ⟨hf.2, rfl⟩
  · rw [if_pos rfl]
    rw [hb] at h2
    rcases h2 with h2 | h2
    · cases h2
    · unfold alikeB at h2
      obtain ⟨_, _, e1, e2⟩ := decide_eq_true_iff.1 h2
      rw [← e1, ← e2]; exact ⟨hf.2, hb⟩
theorem DInv.beg {s : DS} {p : PKV} (h : s.bg = true → DInv s) (hp : okB p = true) : DInv (begS s p) := by
  unfold begS
  cases hb : s.bg
  · rw [if_neg (by decide)]
    unfold okB at hp
    rw [Bool.and_eq_true] at hp
    obtain ⟨a1, a2, a3, a4⟩ := decide_eq_true_iff.1 hp.1
    exact ⟨rfl, ⟨a1, a3⟩, (fun x hx => by cases hx), ⟨(fun e => by cases e), (fun e => by have h1 : (rankC [] : Int) = p.k := e; rw [rankC_nil] at h1; omega)⟩, (fun _ => rfl), Nat.zero_le _⟩
  · rw [if_pos rfl]; exact h hb
end Go.Proofs.YtnjdldbdkafnaaaGreatDoor
