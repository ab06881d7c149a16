/-
  Plain mathematics of frames as bytes: what is encoded is decoded, and the other way round. No condition.
-/
import Derived.Test.YtdiondgkkanamaaDoorG8
import Derived.Test.YtdiondgkkanamaaDoorG9
namespace Go.Proofs.YtdiondgkkanamaaDoor
open Go.RowKit
set_option linter.unusedVariables false
set_option maxRecDepth 4000

def hdK (t : ByteArray) : Nat := (tx t).getD 0 0
def hdF (t : ByteArray) : Nat := (tx t).getD 1 0
def hdI (t : ByteArray) : Nat := num (((tx t).drop 2).take 4)
def restT (t : ByteArray) : ByteArray := t.extract 6 t.size
def badP (t : ByteArray) : Prop := 8 ≤ hdF t ∨ (hdK t ≠ 1 ∧ hdK t ≠ 2) ∨ (hdK t = 1 ∧ 6 < t.size)
/-- A frame without anything. -/
def FZ (kd fr ic o l k z h : Int) (xs : List Nat) (t : ByteArray) : Prop := (kd = 0 ∧ fr = 0 ∧ ic = 0) ∧ ZeroP o l k z h xs t
def HeadP (T : ByteArray) (kd fr ic : Int) : Prop := kd = hdK T ∧ fr = hdF T ∧ ic = hdI T
/-- What is read of bytes that were opened. -/
def FDecT (T : ByteArray) (kd fr ic o l k z h : Int) (xs : List Nat) (t : ByteArray) (en : Nat) : Prop :=
  (T.size < 6 → en = 2 ∧ FZ kd fr ic o l k z h xs t) ∧ (¬ T.size < 6 → badP T → en = 3 ∧ FZ kd fr ic o l k z h xs t) ∧
  (¬ T.size < 6 → ¬ badP T → hdK T = 1 → en = 0 ∧ HeadP T kd fr ic ∧ ZeroP o l k z h xs t) ∧
  (¬ T.size < 6 → ¬ badP T → hdK T ≠ 1 → DecP (restT T) o l k z h xs t en ∧ (en ≠ 0 → kd = 0 ∧ fr = 0 ∧ ic = 0) ∧ (en = 0 → HeadP T kd fr ic))
/-- What is read of bytes: a frame, or the error. -/
def FDecP (s : ByteArray) (kd fr ic o l k z h : Int) (xs : List Nat) (t : ByteArray) (en : Nat) : Prop :=
  (openE s ≠ 0 → en = openE s ∧ FZ kd fr ic o l k z h xs t) ∧ (openE s = 0 → FDecT (openT s) kd fr ic o l k z h xs t en)
theorem fd_open {s : ByteArray} {kd fr ic o l k z h : Int} {xs : List Nat} {t : ByteArray} {en : Nat} (h0 : openE s ≠ 0) (he : en = openE s) (hz : FZ kd fr ic o l k z h xs t) : FDecP s kd fr ic o l k z h xs t en :=
  ⟨fun _ => ⟨he, hz⟩, fun h => absurd h h0⟩
theorem fd_short {T : ByteArray} {kd fr ic o l k z h : Int} {xs : List Nat} {t : ByteArray} {en : Nat} (h6 : T.size < 6) (he : en = 2) (hz : FZ kd fr ic o l k z h xs t) : FDecT T kd fr ic o l k z h xs t en :=
  ⟨fun _ => ⟨he, hz⟩, fun h => absurd h6 h, fun h => absurd h6 h, fun h => absurd h6 h⟩
theorem fd_bad {T : ByteArray} {kd fr ic o l k z h : Int} {xs : List Nat} {t : ByteArray} {en : Nat} (h6 : ¬ T.size < 6) (hb : badP T) (he : en = 3) (hz : FZ kd fr ic o l k z h xs t) : FDecT T kd fr ic o l k z h xs t en :=
  ⟨fun h => absurd h h6, fun _ _ => ⟨he, hz⟩, fun _ h => absurd hb h, fun _ h => absurd hb h⟩
theorem fd_hello {T : ByteArray} {kd fr ic o l k z h : Int} {xs : List Nat} {t : ByteArray} {en : Nat} (h6 : ¬ T.size < 6) (hb : ¬ badP T) (h1 : hdK T = 1) (he : en = 0) (hh : HeadP T kd fr ic) (hz : ZeroP o l k z h xs t) : FDecT T kd fr ic o l k z h xs t en :=
  ⟨fun h => absurd h h6, fun _ h => absurd h hb, fun _ _ _ => ⟨he, hh, hz⟩, fun _ _ h => absurd h1 h⟩
theorem fd_data {T : ByteArray} {kd fr ic o l k z h : Int} {xs : List Nat} {t : ByteArray} {en : Nat} (h6 : ¬ T.size < 6) (hb : ¬ badP T) (h1 : hdK T ≠ 1) (hd : DecP (restT T) o l k z h xs t en) (he : en ≠ 0 → kd = 0 ∧ fr = 0 ∧ ic = 0) (hh : en = 0 → HeadP T kd fr ic) : FDecT T kd fr ic o l k z h xs t en :=
  ⟨fun h => absurd h h6, fun _ h => absurd h hb, fun _ _ h => absurd h h1, fun _ _ _ => ⟨hd, he, hh⟩⟩

theorem ZeroP.uniq {o l k z h o' l' k' z' h' : Int} {xs ys : List Nat} {t t' : ByteArray} (h1 : ZeroP o l k z h xs t) (h2 : ZeroP o' l' k' z' h' ys t') : (o = o' ∧ l = l' ∧ k = k' ∧ z = z' ∧ h = h') ∧ xs = ys ∧ t = t' := by
  obtain ⟨p1, p2, p3, p4, p5, p6, p7⟩ := h1
  obtain ⟨q1, q2, q3, q4, q5, q6, q7⟩ := h2
  rw [p1, p2, p3, p4, p5, p6, p7, q1, q2, q3, q4, q5, q6, q7]
  exact ⟨⟨rfl, rfl, rfl, rfl, rfl⟩, rfl, rfl⟩
def FEq (kd fr ic o l k z h : Int) (xs : List Nat) (t : ByteArray) (en : Nat) (kd' fr' ic' o' l' k' z' h' : Int) (ys : List Nat) (t' : ByteArray) (en' : Nat) : Prop :=
  (kd = kd' ∧ fr = fr' ∧ ic = ic') ∧ (o = o' ∧ l = l' ∧ k = k' ∧ z = z' ∧ h = h') ∧ xs = ys ∧ t = t' ∧ en = en'
theorem FZ.uniq {kd fr ic o l k z h kd' fr' ic' o' l' k' z' h' : Int} {xs ys : List Nat} {t t' : ByteArray} {en en' : Nat} (he : en = en') (h1 : FZ kd fr ic o l k z h xs t) (h2 : FZ kd' fr' ic' o' l' k' z' h' ys t') : FEq kd fr ic o l k z h xs t en kd' fr' ic' o' l' k' z' h' ys t' en' := by
  obtain ⟨⟨a, b, c⟩, d⟩ := h1
  obtain ⟨⟨a', b', c'⟩, d'⟩ := h2
  have := d.uniq d'
  exact ⟨⟨a.trans a'.symm, b.trans b'.symm, c.trans c'.symm⟩, this.1, this.2.1, this.2.2, he⟩
theorem FDecP.uniq {s : ByteArray} {kd fr ic o l k z h kd' fr' ic' o' l' k' z' h' : Int} {xs ys : List Nat} {t t' : ByteArray} {en en' : Nat} (h1 : FDecP s kd fr ic o l k z h xs t en) (h2 : FDecP s kd' fr' ic' o' l' k' z' h' ys t' en') :
    FEq kd fr ic o l k z h xs t en kd' fr' ic' o' l' k' z' h' ys t' en' := by
  by_cases c1 : openE s = 0
  · obtain ⟨a1, a2, a3, a4⟩ := h1.2 c1
    obtain ⟨b1, b2, b3, b4⟩ := h2.2 c1
    generalize openT s = T at *
    by_cases c2 : T.size < 6
    · exact FZ.uniq ((a1 c2).1.trans (b1 c2).1.symm) (a1 c2).2 (b1 c2).2
    · by_cases c3 : badP T
      · exact FZ.uniq ((a2 c2 c3).1.trans (b2 c2 c3).1.symm) (a2 c2 c3).2 (b2 c2 c3).2
      · by_cases c4 : hdK T = 1
        · obtain ⟨x1, ⟨x2, x3, x4⟩, x5⟩ := a3 c2 c3 c4
          obtain ⟨y1, ⟨y2, y3, y4⟩, y5⟩ := b3 c2 c3 c4
          have := x5.uniq y5
          exact ⟨⟨x2.trans y2.symm, x3.trans y3.symm, x4.trans y4.symm⟩, this.1, this.2.1, this.2.2, x1.trans y1.symm⟩
        · obtain ⟨x1, x2, x3⟩ := a4 c2 c3 c4
          obtain ⟨y1, y2, y3⟩ := b4 c2 c3 c4
          obtain ⟨u1, u2, u3, u4⟩ := x1.uniq y1
          subst u4
          refine ⟨?_, u1, u2, u3, rfl⟩
          by_cases c5 : en = 0
          · obtain ⟨p1, p2, p3⟩ := x3 c5
            obtain ⟨q1, q2, q3⟩ := y3 c5
            exact ⟨p1.trans q1.symm, p2.trans q2.symm, p3.trans q3.symm⟩
          · obtain ⟨p1, p2, p3⟩ := x2 c5
            obtain ⟨q1, q2, q3⟩ := y2 c5
            exact ⟨p1.trans q1.symm, p2.trans q2.symm, p3.trans q3.symm⟩
  · exact FZ.uniq ((h1.1 c1).1.trans (h2.1 c1).1.symm) (h1.1 c1).2 (h2.1 c1).2

/-- Which frames may be. -/
def NoneP (o l k z h : Int) (xs : List Nat) (s : ByteArray) : Prop := SameP o l k z h xs s 0 0 0 0 0 [] ⟨#[]⟩
def FitP (kd o l k z h : Int) (xs : List Nat) (s : ByteArray) : Prop := (kd = 1 ∧ NoneP o l k z h xs s) ∨ (kd = 2 ∧ CheckP o l k z h xs s.size)
def FChkP (kd fr ic o l k z h : Int) (xs : List Nat) (s : ByteArray) : Prop := (0 ≤ fr ∧ fr ≤ 7) ∧ (0 ≤ ic ∧ ic ≤ 4294967295) ∧ FitP kd o l k z h xs s
/-- A frame's bytes. -/
def bodyS (kd o l k z h : Int) (xs : List Nat) (s : ByteArray) : ByteArray := if kd = 2 then st (encL o l k z h xs (tx s)) else ⟨#[]⟩
def fencL (kd fr ic : Int) (b : List Nat) : List Nat := putL kd 1 ++ putL fr 1 ++ putL ic 4 ++ b
def fencS (kd fr ic o l k z h : Int) (xs : List Nat) (s : ByteArray) : ByteArray := sealS (st (fencL kd fr ic (tx (bodyS kd o l k z h xs s))))
theorem fencL_bytes (kd fr ic : Int) (b : List Nat) (hb : bytes b) : bytes (fencL kd fr ic b) :=
  bytes_append (bytes_append (bytes_append (putL_bytes _ _) (putL_bytes _ _)) (putL_bytes _ _)) hb
theorem fencL_len (kd fr ic : Int) (b : List Nat) : (fencL kd fr ic b).length = 6 + b.length := by
  unfold fencL
  simp only [List.length_append, putL4, putL1, be_length]
theorem fit_not {kd o l k z h : Int} {xs : List Nat} {s : ByteArray} (h0 : FitP kd o l k z h xs s) : kd = 1 ∨ kd = 2 := by
  rcases h0 with h | h
  · exact .inl h.1
  · exact .inr h.1
theorem body_one (o l k z h : Int) (xs : List Nat) (s : ByteArray) : bodyS 1 o l k z h xs s = ⟨#[]⟩ := if_neg (by decide)
theorem body_two (o l k z h : Int) (xs : List Nat) (s : ByteArray) : bodyS 2 o l k z h xs s = st (encL o l k z h xs (tx s)) := if_pos rfl

/-- What stands ahead. -/
theorem fheads {kd fr ic : Int} {b : List Nat} {K F I : Nat} (hb : bytes b) (hk : kd = (K : Int)) (hf : fr = (F : Int)) (hi : ic = (I : Int)) (h1 : K < 256) (h2 : F < 256) (h3 : I < 4294967296) :
    (st (fencL kd fr ic b)).size = 6 + b.length ∧ hdK (st (fencL kd fr ic b)) = K ∧ hdF (st (fencL kd fr ic b)) = F ∧ hdI (st (fencL kd fr ic b)) = I ∧ restT (st (fencL kd fr ic b)) = st b := by
  have hsz : (st (fencL kd fr ic b)).size = 6 + b.length := by rw [st_len, fencL_len]
  have ht := tx_st (fencL_bytes kd fr ic b hb)
  have e : fencL kd fr ic b = K :: F :: (be 4 I ++ b) := by
    unfold fencL
    rw [putL1, putL1, putL4, m64_of hk (by omega), m64_of hf (by omega), m64_of hi (by omega), be1, be1, Nat.mod_eq_of_lt h1, Nat.mod_eq_of_lt h2]
    simp
  have hl4 := be_length 4 I
  refine ⟨hsz, ?_, ?_, ?_, ?_⟩
  · unfold hdK; rw [ht, e]; rfl
  · unfold hdF; rw [ht, e]; rfl
  · unfold hdI
    rw [ht, e, List.drop_succ_cons, List.drop_succ_cons, List.drop_zero, List.take_left' hl4, num_be]
    exact Nat.mod_eq_of_lt (by omega)
  · apply tx_inj
    unfold restT
    rw [tx_cut, ht, hsz, tx_st hb, e, List.drop_succ_cons, List.drop_succ_cons]
    rw [List.drop_left' hl4]
    exact List.take_of_length_le (by omega)
theorem cnt_self (xs : List Nat) : cnt (xorL xs xs) = 0 := cnt_of_zero _ (xorL_self_zero _)
/-- What was encoded is decoded. -/
theorem fdec_enc {kd fr ic o l k z h : Int} {xs : List Nat} {s : ByteArray} (hx : smalls xs) (hc : FChkP kd fr ic o l k z h xs s) {kd' fr' ic' o' l' k' z' h' : Int} {ys : List Nat} {t : ByteArray} {en : Nat}
    (hd : FDecP (fencS kd fr ic o l k z h xs s) kd' fr' ic' o' l' k' z' h' ys t en) : en = 0 ∧ (kd = kd' ∧ fr = fr' ∧ ic = ic') ∧ SameP o l k z h xs s o' l' k' z' h' ys t := by
  have ho := open_seal (st (fencL kd fr ic (tx (bodyS kd o l k z h xs s))))
  have hT := hd.2 ho.1
  unfold fencS at hT
  rw [ho.2] at hT
  obtain ⟨⟨f0, f7⟩, ⟨i0, i1⟩, hfit⟩ := hc
  obtain ⟨F, hF⟩ : ∃ F : Nat, fr = (F : Int) := ⟨fr.toNat, by omega⟩
  obtain ⟨I, hI⟩ : ∃ I : Nat, ic = (I : Int) := ⟨ic.toNat, by omega⟩
  rcases hfit with ⟨hk, hn⟩ | ⟨hk, hn⟩
  · obtain ⟨hs, e1, e2, e3, e4⟩ := fheads (tx_bytes (bodyS kd o l k z h xs s)) (K := 1) hk hF hI (by decide) (by omega) (by omega)
    have hb0 : (tx (bodyS kd o l k z h xs s)).length = 0 := by rw [hk, body_one]; rfl
    rw [hb0] at hs
    generalize st (fencL kd fr ic (tx (bodyS kd o l k z h xs s))) = T at *
    have hnb : ¬ badP T := by
      rintro (h1 | h1 | h1)
      · omega
      · exact h1.1 e1
      · omega
    obtain ⟨x1, ⟨x2, x3, x4⟩, x5⟩ := hT.2.2.1 (by omega) hnb e1
    refine ⟨x1, ⟨by rw [x2, e1, hk]; rfl, by rw [x3, e2, hF], by rw [x4, e3, hI]⟩, ?_⟩
    obtain ⟨p1, p2, p3, p4, p5, p6, p7⟩ := x5
    rw [p1, p2, p3, p4, p5, p6, p7]
    exact hn
  · obtain ⟨hs, e1, e2, e3, e4⟩ := fheads (tx_bytes (bodyS kd o l k z h xs s)) (K := 2) hk hF hI (by decide) (by omega) (by omega)
    have hb0 : bodyS kd o l k z h xs s = st (encL o l k z h xs (tx s)) := by rw [hk, body_two]
    rw [st_tx] at e4
    generalize st (fencL kd fr ic (tx (bodyS kd o l k z h xs s))) = T at *
    rw [hb0] at e4
    have hnb : ¬ badP T := by
      rintro (h1 | h1 | h1)
      · omega
      · exact h1.2 e1
      · omega
    obtain ⟨x1, x2, x3⟩ := hT.2.2.2 (by omega) hnb (by omega)
    rw [e4] at x1
    obtain ⟨d1, d2, d3⟩ := dec_enc (t := s) hx hn
    obtain ⟨u1, u2, u3, u4⟩ := x1.uniq (.inr (.inr ⟨d1, d2, rfl, d3⟩))
    obtain ⟨y2, y3, y4⟩ := x3 u4
    refine ⟨u4, ⟨by rw [y2, e1, hk]; rfl, by rw [y3, e2, hF], by rw [y4, e3, hI]⟩, ?_⟩
    obtain ⟨v1, v2, v3, v4, v5⟩ := u1
    rw [v1, v2, v3, v4, v5, u2, u3]
    exact ⟨⟨⟨rfl, rfl, rfl, rfl, rfl⟩, rfl⟩, cnt_self xs⟩
theorem zero_none {o l k z h : Int} {xs : List Nat} {t : ByteArray} (hz : ZeroP o l k z h xs t) : NoneP o l k z h xs t := by
  obtain ⟨p1, p2, p3, p4, p5, p6, p7⟩ := hz
  rw [p1, p2, p3, p4, p5, p6, p7]
  exact ⟨⟨⟨rfl, rfl, rfl, rfl, rfl⟩, rfl⟩, cnt_self []⟩
theorem head6 {T : ByteArray} (h6 : 6 ≤ T.size) : putL (hdK T) 1 ++ putL (hdF T) 1 ++ putL (hdI T) 4 = (tx T).take 6 := by
  have hb := tx_bytes T
  have hl := tx_length T
  have hbyte : ∀ i, (tx T).getD i 0 < 256 := fun i => hb.get i
  have mi : m64 (hdI T : Int) = hdI T := m64_of rfl (Nat.lt_trans (num_lt_of (bytes_take (bytes_drop hb 2) 4) (k := 4) (by rw [List.length_take]; omega)) (by decide))
  have mk : m64 (hdK T : Int) = hdK T := m64_of rfl (Nat.lt_trans (hbyte 0) (by decide))
  have mf : m64 (hdF T : Int) = hdF T := m64_of rfl (Nat.lt_trans (hbyte 1) (by decide))
  have b1 : ∀ i, i < T.size → be 1 ((tx T).getD i 0) = ((tx T).drop i).take 1 := fun i hi => by
    rw [be1, Nat.mod_eq_of_lt (hbyte i)]
    have : i < (tx T).length := by omega
    rw [List.drop_eq_getElem_cons this, List.take_succ_cons, List.take_zero, List.getD_eq_getElem?_getD, List.getElem?_eq_getElem this]
    rfl
  have w4 : be 4 (hdI T) = ((tx T).drop 2).take 4 := be_num_of (bytes_take (bytes_drop hb 2) 4) (by rw [List.length_take, List.length_drop]; omega)
  rw [putL4, putL1, putL1, mi, mk, mf, w4, show be 1 (hdK T) = ((tx T).drop 0).take 1 from b1 0 (by omega), show be 1 (hdF T) = ((tx T).drop 1).take 1 from b1 1 (by omega)]
  rw [List.drop_zero, ← List.take_add, ← List.take_add]
/-- What is decoded is encoded. -/
theorem fenc_dec {s : ByteArray} {kd fr ic o l k z h : Int} {xs : List Nat} {t : ByteArray} (hd : FDecP s kd fr ic o l k z h xs t 0) :
    FChkP kd fr ic o l k z h xs t ∧ fencS kd fr ic o l k z h xs t = s := by
  have ho : openE s = 0 := by
    by_cases h0 : openE s = 0
    · exact h0
    · have := (hd.1 h0).1
      omega
  have hseal := seal_open s ho
  obtain ⟨a1, a2, a3, a4⟩ := hd.2 ho
  unfold fencS
  generalize openT s = T at *
  have c2 : ¬ T.size < 6 := fun h => by have := (a1 h).1; omega
  have c3 : ¬ badP T := fun h => by have := (a2 c2 h).1; omega
  have hf7 : ¬ 8 ≤ hdF T := fun h => c3 (.inl h)
  have hi : hdI T < 4294967296 := Nat.lt_of_lt_of_le (num_lt_of (bytes_take (bytes_drop (tx_bytes T) 2) 4) (k := 4) (by rw [List.length_take]; omega)) (by decide)
  have h6 := head6 (T := T) (by omega)
  have hl := tx_length T
  suffices hh : HeadP T kd fr ic ∧ FitP kd o l k z h xs t ∧ tx (bodyS kd o l k z h xs t) = (tx T).drop 6 by
    obtain ⟨⟨e1, e2, e3⟩, hfit, hb⟩ := hh
    refine ⟨⟨by omega, by omega, hfit⟩, ?_⟩
    unfold fencL
    rw [hb, e1, e2, e3, h6, List.take_append_drop, st_tx]
    exact hseal
  by_cases c4 : hdK T = 1
  · obtain ⟨_, x1, x2⟩ := a3 c2 c3 c4
    have h66 : ¬ 6 < T.size := fun h => c3 (.inr (.inr ⟨c4, h⟩))
    have hk : kd = 1 := by rw [x1.1, c4]; rfl
    refine ⟨x1, .inl ⟨hk, zero_none x2⟩, ?_⟩
    rw [hk, body_one, List.drop_eq_nil_of_le (by omega)]
    rfl
  · have c5 : hdK T = 2 := by
      by_cases h : hdK T = 2
      · exact h
      · exact absurd (.inr (.inl ⟨c4, h⟩)) c3
    obtain ⟨x1, _, x3⟩ := a4 c2 c3 c4
    have hh := x3 rfl
    have hk : kd = 2 := by rw [hh.1, c5]; rfl
    obtain ⟨_, ns, hg, y1, y2, y3, y4, y5, y6, y7⟩ | ⟨hbad, _⟩ := x1.err
    · obtain ⟨z1, z2⟩ := enc_dec ns hg
      refine ⟨hh, .inr ⟨hk, ?_⟩, ?_⟩
      · unfold goodP at hg
        rw [y1, y2, y3, y4, y5, y6, y7, z1]
        exact hg
      · rw [hk, body_two, y1, y2, y3, y4, y5, y6, y7, z2]
        unfold restT
        rw [tx_cut, List.take_of_length_le (by rw [List.length_drop]; omega)]
    · omega
theorem fz_not {kd fr ic o l k z h : Int} {xs : List Nat} {t : ByteArray} (hz : FZ kd fr ic o l k z h xs t) : ¬ FChkP kd fr ic o l k z h xs t := by
  intro hc
  have h1 := fit_not hc.2.2
  have h2 := hz.1.1
  omega
/-- An error's frame is none. -/
theorem FDecP.none {s : ByteArray} {kd fr ic o l k z h : Int} {xs : List Nat} {t : ByteArray} {en : Nat} (hd : FDecP s kd fr ic o l k z h xs t en) (h0 : en ≠ 0) : FZ kd fr ic o l k z h xs t := by
  by_cases c1 : openE s = 0
  · obtain ⟨a1, a2, a3, a4⟩ := hd.2 c1
    generalize openT s = T at *
    by_cases c2 : T.size < 6
    · exact (a1 c2).2
    · by_cases c3 : badP T
      · exact (a2 c2 c3).2
      · by_cases c4 : hdK T = 1
        · exact absurd (a3 c2 c3 c4).1 h0
        · obtain ⟨x1, x2, _⟩ := a4 c2 c3 c4
          obtain ⟨h, _⟩ | ⟨_, h⟩ := x1.err
          · exact absurd h h0
          · exact ⟨x2 h0, h⟩
  · exact (hd.1 c1).2
end Go.Proofs.YtdiondgkkanamaaDoor
