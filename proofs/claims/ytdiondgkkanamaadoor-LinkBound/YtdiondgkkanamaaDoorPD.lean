/-
  Plain mathematics of packets' bytes: what bytes are read as (DecP): there and back, cut, with more behind. No condition.
-/
import Derived.Test.YtdiondgkkanamaaDoorPK
namespace Go.Proofs.YtdiondgkkanamaaDoor
set_option linter.unusedVariables false
set_option maxRecDepth 4000

def dO (s : ByteArray) : Nat := num ((tx s).take 4)
def dL (s : ByteArray) : Nat := num (((tx s).drop 4).take 4)
def dK (s : ByteArray) : Nat := (tx s).getD 8 0
def dZ (s : ByteArray) : Nat := (tx s).getD 9 0
def dH (s : ByteArray) : Nat := (tx s).getD 10 0
def dN (s : ByteArray) : Nat := 11 + 8 * sizeOfK (dK s)
def dX (s : ByteArray) : List Nat := wsL ((tx s).drop 11) (sizeOfK (dK s))
/-- Too few bytes. -/
def shortB (s : ByteArray) : Prop := s.size < 11 ∨ (shapedP (dK s) (dZ s) ∧ s.size < dN s + dZ s)
/-- What stands there may be. -/
def goodP (s : ByteArray) : Prop := CheckP (dO s) (dL s) (dK s) (dZ s) (dH s) (dX s) (s.size - dN s)
def ZeroP (o l k z h : Int) (xs : List Nat) (t : ByteArray) : Prop := o = 0 ∧ l = 0 ∧ k = 0 ∧ z = 0 ∧ h = 0 ∧ xs = [] ∧ t = ⟨#[]⟩
def FieldsP (s : ByteArray) (o l k z h : Int) (xs : List Nat) (t : ByteArray) : Prop := o = dO s ∧ l = dL s ∧ k = dK s ∧ z = dZ s ∧ h = dH s ∧ xs = dX s ∧ t = s.extract (dN s) s.size
/-- What is read of bytes: a packet, or the error. -/
def DecP (s : ByteArray) (o l k z h : Int) (xs : List Nat) (t : ByteArray) (en : Nat) : Prop :=
  (shortB s ∧ en = 2 ∧ ZeroP o l k z h xs t) ∨ (¬ shortB s ∧ ¬ goodP s ∧ en = 3 ∧ ZeroP o l k z h xs t) ∨ (¬ shortB s ∧ goodP s ∧ en = 0 ∧ FieldsP s o l k z h xs t)
theorem DecP.uniq {s : ByteArray} {o l k z h o' l' k' z' h' : Int} {xs ys : List Nat} {t t' : ByteArray} {en en' : Nat} (h1 : DecP s o l k z h xs t en) (h2 : DecP s o' l' k' z' h' ys t' en') :
    (o = o' ∧ l = l' ∧ k = k' ∧ z = z' ∧ h = h') ∧ xs = ys ∧ t = t' ∧ en = en' := by
  rcases h1 with ⟨a, b, c⟩ | ⟨a, a2, b, c⟩ | ⟨a, a2, b, c⟩ <;> rcases h2 with ⟨a', b', c'⟩ | ⟨a', a2', b', c'⟩ | ⟨a', a2', b', c'⟩
  all_goals first
    | exact absurd a a'
    | exact absurd a' a
    | exact absurd a2 a2'
    | exact absurd a2' a2
    | (obtain ⟨p1, p2, p3, p4, p5, p6, p7⟩ := c
       obtain ⟨q1, q2, q3, q4, q5, q6, q7⟩ := c'
       rw [p1, p2, p3, p4, p5, p6, p7, q1, q2, q3, q4, q5, q6, q7, b, b']
       exact ⟨⟨rfl, rfl, rfl, rfl, rfl⟩, rfl, rfl, rfl⟩)
theorem DecP.short {s : ByteArray} {o l k z h : Int} {xs : List Nat} {t : ByteArray} {en : Nat} (h1 : DecP s o l k z h xs t en) (hs : shortB s) : en = 2 := by
  rcases h1 with ⟨_, h, _⟩ | ⟨h, _⟩ | ⟨h, _⟩
  · exact h
  · exact absurd hs h
  · exact absurd hs h
theorem DecP.bad {s : ByteArray} {o l k z h : Int} {xs : List Nat} {t : ByteArray} {en : Nat} (h1 : DecP s o l k z h xs t en) (hs : ¬ shortB s) (hg : ¬ goodP s) : en = 3 := by
  rcases h1 with ⟨h, _⟩ | ⟨_, _, h, _⟩ | ⟨_, h, _⟩
  · exact absurd h hs
  · exact h
  · exact absurd h hg
theorem DecP.err {s : ByteArray} {o l k z h : Int} {xs : List Nat} {t : ByteArray} {en : Nat} (h1 : DecP s o l k z h xs t en) : (en = 0 ∧ ¬ shortB s ∧ goodP s ∧ FieldsP s o l k z h xs t) ∨ ((en = 2 ∨ en = 3) ∧ ZeroP o l k z h xs t) := by
  rcases h1 with ⟨_, h, h2⟩ | ⟨_, _, h, h2⟩ | ⟨h0, h1, h, h2⟩
  · exact .inr ⟨.inl h, h2⟩
  · exact .inr ⟨.inr h, h2⟩
  · exact .inl ⟨h, h0, h1, h2⟩
theorem zero_no {o l k z h : Int} {xs : List Nat} {t : ByteArray} (hz : ZeroP o l k z h xs t) : ¬ CheckP o l k z h xs t.size := by
  intro hc
  have := hc.1.1.1.1
  have := hz.2.2.1
  omega

theorem getD_app_lt {p q : List Nat} {i : Nat} (h : i < p.length) : (p ++ q).getD i 0 = p.getD i 0 := by
  simp [List.getD_eq_getElem?_getD, List.getElem?_append_left h]
/-- Bytes that begin as a packet's do. -/
theorem head_of {o l k z h : Int} {xs ts us : List Nat} {s : ByteArray} (hb : boundP o l k z h) (hx : smalls xs) (hv : xs.length = sizeOfK k) (h11 : 11 ≤ s.size) (hp : ∃ r, tx s ++ r = encL o l k z h xs ts) :
    o = dO s ∧ l = dL s ∧ k = dK s ∧ z = dZ s ∧ h = dH s := by
  obtain ⟨r, hr⟩ := hp
  have hl := tx_length s
  obtain ⟨⟨⟨k1, k2⟩, z1, z2⟩, ⟨o1, o2⟩, ⟨l1, l2⟩, h1, h2⟩ := hb
  have hkz := mul_le ⟨⟨k1, k2⟩, z1, z2⟩
  have e : encL o l k z h xs ts = be 4 (m64 o) ++ (be 4 (m64 l) ++ ([m64 k % 256, m64 z % 256, m64 h % 256] ++ (beV xs ++ ts))) := by
    unfold encL
    rw [putL4, putL4, putL1, putL1, putL1, be1, be1, be1]
    simp
  rw [e] at hr
  have mo : m64 o = o.toNat := m64_of (by omega) (by omega)
  have ml : m64 l = l.toNat := m64_of (by omega) (by omega)
  have mk : m64 k = k.toNat := m64_of (by omega) (by omega)
  have mz : m64 z = z.toNat := m64_of (by omega) (by omega)
  have mh : m64 h = h.toNat := m64_of (by omega) (by omega)
  have t4 : (tx s).take 4 = be 4 (m64 o) := by
    have := congrArg (List.take 4) hr
    rw [List.take_append_of_le_length (by omega), List.take_append_of_le_length (by rw [be_length]; omega), List.take_of_length_le (l := be 4 (m64 o)) (by rw [be_length]; omega)] at this
    exact this
  have d4 : (tx s).drop 4 ++ r = be 4 (m64 l) ++ ([m64 k % 256, m64 z % 256, m64 h % 256] ++ (beV xs ++ ts)) := by
    have := congrArg (List.drop 4) hr
    rw [List.drop_append_of_le_length (by omega), List.drop_append_of_le_length (by rw [be_length]; omega), (show (be 4 (m64 o)).drop 4 = [] from List.drop_eq_nil_of_le (by rw [be_length]; omega)), List.nil_append] at this
    exact this
  have t8 : ((tx s).drop 4).take 4 = be 4 (m64 l) := by
    have := congrArg (List.take 4) d4
    rw [List.take_append_of_le_length (by rw [List.length_drop]; omega), List.take_append_of_le_length (by rw [be_length]; omega), List.take_of_length_le (l := be 4 (m64 l)) (by rw [be_length]; omega)] at this
    exact this
  have g : ∀ i, i < 11 → (tx s).getD i 0 = (be 4 (m64 o) ++ (be 4 (m64 l) ++ ([m64 k % 256, m64 z % 256, m64 h % 256] ++ (beV xs ++ ts)))).getD i 0 := fun i hi => by
    rw [← hr, getD_app_lt (by omega)]
  have g8 : dK s = m64 k % 256 := by
    unfold dK
    rw [g 8 (by omega)]
    simp [be]
  have g9 : dZ s = m64 z % 256 := by
    unfold dZ
    rw [g 9 (by omega)]
    simp [be]
  have g10 : dH s = m64 h % 256 := by
    unfold dH
    rw [g 10 (by omega)]
    simp [be]
  have go : dO s = m64 o % 256 ^ 4 := by unfold dO; rw [t4, num_be]
  have gl : dL s = m64 l % 256 ^ 4 := by unfold dL; rw [t8, num_be]
  rw [go, gl, g8, g9, g10, mo, ml, mk, mz, mh]
  refine ⟨?_, ?_, ?_, ?_, ?_⟩ <;> omega
theorem enc_len {o l k z h : Int} {xs ts : List Nat} : (encL o l k z h xs ts).length = 11 + 8 * xs.length + ts.length := by
  unfold encL
  simp only [List.length_append, putL4, putL1, be_length, beV_length]
theorem enc_drop {o l k z h : Int} {xs ts : List Nat} : (encL o l k z h xs ts).drop 11 = beV xs ++ ts := by
  unfold encL
  rw [List.append_assoc _ (beV xs), List.drop_append_of_le_length (by simp only [List.length_append, putL4, putL1, be_length]; omega), List.drop_eq_nil_of_le (by simp only [List.length_append, putL4, putL1, be_length]; omega), List.nil_append]
theorem enc_size (o l k z h : Int) (xs : List Nat) (t : ByteArray) : (st (encL o l k z h xs (tx t))).size = 11 + 8 * xs.length + t.size := by rw [st_len, enc_len, tx_length]
theorem shape_le {k z : Int} (h : shapedP k z) : sizeOfK k ≤ 2 ∧ z ≤ 64 := ⟨sizeOfK_le k, h.2.2⟩

/-- What was encoded is decoded. -/
theorem dec_enc {o l k z h : Int} {xs : List Nat} {t : ByteArray} (hx : smalls xs) (hc : CheckP o l k z h xs t.size) :
    ¬ shortB (st (encL o l k z h xs (tx t))) ∧ goodP (st (encL o l k z h xs (tx t))) ∧ FieldsP (st (encL o l k z h xs (tx t))) o l k z h xs t := by
  have hsz := enc_size o l k z h xs t
  have ht := tx_st (encL_bytes o l k z h xs (tx t) (tx_bytes t))
  have hh := head_of (s := st (encL o l k z h xs (tx t))) (us := []) hc.1 hx hc.2.1.2.1 (by omega) ⟨[], by rw [ht, List.append_nil]⟩
  generalize hS : st (encL o l k z h xs (tx t)) = s at *
  obtain ⟨e1, e2, e3, e4, e5⟩ := hh
  have hn : xs.length = sizeOfK k := hc.2.1.2.1
  have hz : (t.size : Int) = z := hc.2.2.2
  have eN : dN s = 11 + 8 * xs.length := by unfold dN; rw [← e3, hn]
  have eX : dX s = xs := by unfold dX; rw [← e3, ← hn, ht, enc_drop, wsL_beV xs _ hx]
  have eT : t = s.extract (dN s) s.size := by
    apply tx_inj
    have e11 : 11 + 8 * xs.length = 8 * xs.length + 11 := by omega
    rw [tx_cut, ht, eN, ← List.drop_drop, enc_drop, List.drop_append_of_le_length (by rw [beV_length]; exact Nat.le_refl _), List.drop_eq_nil_of_le (by rw [beV_length]; exact Nat.le_refl _), List.nil_append, List.take_of_length_le (by rw [tx_length]; omega)]
  refine ⟨?_, ?_, e1, e2, e3, e4, e5, eX.symm, eT⟩
  · rintro (h0 | ⟨_, h0⟩)
    · omega
    · rw [eN] at h0
      omega
  · unfold goodP
    rw [← e1, ← e2, ← e3, ← e4, ← e5, eX, eN, show s.size - (11 + 8 * xs.length) = t.size by omega]
    exact hc
/-- Cut anywhere it is too short. -/
theorem dec_cut {o l k z h : Int} {xs : List Nat} {t : ByteArray} (hx : smalls xs) (hc : CheckP o l k z h xs t.size) (j : Nat) (hj : j < (st (encL o l k z h xs (tx t))).size) :
    shortB ((st (encL o l k z h xs (tx t))).extract 0 j) := by
  have hsz := enc_size o l k z h xs t
  have ht := tx_st (encL_bytes o l k z h xs (tx t) (tx_bytes t))
  have hu : ((st (encL o l k z h xs (tx t))).extract 0 j).size = j := by rw [ByteArray.size_extract]; omega
  have hut : tx ((st (encL o l k z h xs (tx t))).extract 0 j) = (encL o l k z h xs (tx t)).take j := by rw [tx_cut, ht]; simp
  by_cases h11 : j < 11
  · exact .inl (by omega)
  have hh := head_of (s := (st (encL o l k z h xs (tx t))).extract 0 j) (us := []) hc.1 hx hc.2.1.2.1 (by omega) ⟨(encL o l k z h xs (tx t)).drop j, by rw [hut, List.take_append_drop]⟩
  generalize (st (encL o l k z h xs (tx t))).extract 0 j = u at *
  obtain ⟨e1, e2, e3, e4, e5⟩ := hh
  have hn : xs.length = sizeOfK k := hc.2.1.2.1
  have hz : (t.size : Int) = z := hc.2.2.2
  refine .inr ⟨by rw [← e3, ← e4]; exact hc.1.1, ?_⟩
  unfold dN
  rw [← e3, ← hn]
  omega
/-- With more behind it is no packet's bytes. -/
theorem dec_more {o l k z h : Int} {xs : List Nat} {t b : ByteArray} (hx : smalls xs) (hc : CheckP o l k z h xs t.size) (hb : 0 < b.size) :
    ¬ shortB (st (encL o l k z h xs (tx t)) ++ b) ∧ ¬ goodP (st (encL o l k z h xs (tx t)) ++ b) := by
  have hsz := enc_size o l k z h xs t
  have ht := tx_st (encL_bytes o l k z h xs (tx t) (tx_bytes t))
  have hu : (st (encL o l k z h xs (tx t)) ++ b).size = 11 + 8 * xs.length + t.size + b.size := by rw [ByteArray.size_append, hsz]
  have hut : tx (st (encL o l k z h xs (tx t)) ++ b) = encL o l k z h xs (tx t ++ tx b) := by rw [tx_append, ht]; unfold encL; rw [List.append_assoc]
  have hh := head_of (s := st (encL o l k z h xs (tx t)) ++ b) (us := []) hc.1 hx hc.2.1.2.1 (by omega) ⟨[], by rw [hut, List.append_nil]⟩
  generalize st (encL o l k z h xs (tx t)) ++ b = u at *
  obtain ⟨e1, e2, e3, e4, e5⟩ := hh
  have hn : xs.length = sizeOfK k := hc.2.1.2.1
  have hz : (t.size : Int) = z := hc.2.2.2
  have eN : dN u = 11 + 8 * xs.length := by unfold dN; rw [← e3, hn]
  constructor
  · rintro (h0 | ⟨_, h0⟩)
    · omega
    · rw [eN] at h0
      omega
  · intro hg
    have := hg.2.2.2
    rw [eN] at this
    omega
/-- What is decoded is encoded. -/
theorem enc_dec {s : ByteArray} (hs : ¬ shortB s) (hg : goodP s) :
    (s.extract (dN s) s.size).size = s.size - dN s ∧ st (encL (dO s) (dL s) (dK s) (dZ s) (dH s) (dX s) (tx (s.extract (dN s) s.size))) = s := by
  have hsh := hg.1.1
  have hle : dN s + dZ s ≤ s.size := by
    have : ¬ s.size < dN s + dZ s := fun h => hs (.inr ⟨hsh, h⟩)
    omega
  have h11 : 11 ≤ s.size := by
    have : ¬ s.size < 11 := fun h => hs (.inl h)
    omega
  have hl := tx_length s
  have hb := tx_bytes s
  refine ⟨by rw [ByteArray.size_extract]; omega, ?_⟩
  apply tx_inj
  rw [tx_st (encL_bytes _ _ _ _ _ _ _ (tx_bytes _)), tx_cut]
  have hbyte : ∀ i, (tx s).getD i 0 < 256 := fun i => hb.get i
  have mo : m64 (dO s : Int) = dO s := m64_of rfl (Nat.lt_trans (num_lt_of (bytes_take hb 4) (k := 4) (by rw [List.length_take]; omega)) (by decide))
  have ml : m64 (dL s : Int) = dL s := m64_of rfl (Nat.lt_trans (num_lt_of (bytes_take (bytes_drop hb 4) 4) (k := 4) (by rw [List.length_take]; omega)) (by decide))
  have mk : m64 (dK s : Int) = dK s := m64_of rfl (Nat.lt_trans (hbyte 8) (by decide))
  have mz : m64 (dZ s : Int) = dZ s := m64_of rfl (Nat.lt_trans (hbyte 9) (by decide))
  have mh : m64 (dH s : Int) = dH s := m64_of rfl (Nat.lt_trans (hbyte 10) (by decide))
  have b1 : ∀ i, i < s.size → be 1 ((tx s).getD i 0) = ((tx s).drop i).take 1 := fun i hi => by
    rw [be1, Nat.mod_eq_of_lt (hbyte i)]
    have : i < (tx s).length := by omega
    rw [List.drop_eq_getElem_cons this, List.take_succ_cons, List.take_zero, List.getD_eq_getElem?_getD, List.getElem?_eq_getElem this]
    rfl
  unfold encL
  rw [putL4, putL4, putL1, putL1, putL1, mo, ml, mk, mz, mh]
  have w4 : be 4 (dO s) = (tx s).take 4 := be_num_of (bytes_take hb 4) (by rw [List.length_take]; omega)
  have w8 : be 4 (dL s) = ((tx s).drop 4).take 4 := be_num_of (bytes_take (bytes_drop hb 4) 4) (by rw [List.length_take, List.length_drop]; omega)
  have wx : beV (dX s) = ((tx s).drop 11).take (8 * sizeOfK (dK s)) := beV_wsL (bytes_drop hb 11) _ (by rw [List.length_drop]; unfold dN at hle; omega)
  rw [w4, w8, show be 1 (dK s) = ((tx s).drop 8).take 1 from b1 8 (by omega), show be 1 (dZ s) = ((tx s).drop 9).take 1 from b1 9 (by omega), show be 1 (dH s) = ((tx s).drop 10).take 1 from b1 10 (by omega), wx]
  rw [← List.take_add, ← List.take_add, ← List.take_add, ← List.take_add, ← List.take_add]
  rw [show 4 + 4 + 1 + 1 + 1 + 8 * sizeOfK (dK s) = dN s from by unfold dN; omega]
  rw [List.take_of_length_le (l := (tx s).drop (dN s)) (by rw [List.length_drop]; omega), List.take_append_drop]

/-- A row of k blocks out of just its bytes. -/
theorem wsL_take (xs : List Nat) (n : Nat) : wsL (xs.take (8 * n)) n = wsL xs n := by
  unfold wsL
  apply List.map_congr_left
  intro i hi
  rw [List.mem_range] at hi
  rw [List.drop_take, List.take_take, show min 8 (8 * n - 8 * i) = 8 by omega]
theorem cut_words (s : ByteArray) : wsL (tx (s.extract 11 (dN s))) (sizeOfK (dK s)) = dX s := by
  rw [tx_cut, show dN s - 11 = 8 * sizeOfK (dK s) by unfold dN; omega, wsL_take]
  rfl
/-- The row that was got of just its bytes: what is checked with it. -/
theorem got_good {s : ByteArray} {D : Nat} {xs : List Nat} {en : Nat} (hN : dN s = D) (hsz : s.size = D + dZ s) (hpos : 0 < sizeOfK (dK s)) (hg : GotP (s.extract 11 D) (dK s) xs en) :
    (CheckP (dO s) (dL s) (dK s) (dZ s) (dH s) xs (dZ s) ↔ goodP s) ∧ (CheckP (dO s) (dL s) (dK s) (dZ s) (dH s) xs (dZ s) → xs = dX s) := by
  have e0 := cut_words s
  rw [hN] at e0
  have eS : s.size - dN s = dZ s := by omega
  have e8 : (s.extract 11 D).size = 8 * sizeOfK (dK s) := by rw [ByteArray.size_extract, ← hN]; unfold dN at *; omega
  unfold goodP
  rw [eS]
  rcases hg with ⟨a, _⟩ | ⟨_, b, _⟩ | ⟨_, _, c, _, d⟩ | ⟨_, _, c, _, d⟩
  · omega
  · omega
  · rw [e0] at c
    subst d
    exact ⟨⟨fun h => absurd h.2.1.1 (by simp), fun h => absurd h.2.1 c⟩, fun h => absurd h.2.1.1 (by simp)⟩
  · rw [e0] at d
    subst d
    exact ⟨Iff.rfl, fun _ => rfl⟩
end Go.Proofs.YtdiondgkkanamaaDoor
