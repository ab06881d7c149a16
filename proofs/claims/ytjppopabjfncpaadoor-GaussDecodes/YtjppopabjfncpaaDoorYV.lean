/-
  The walk of PeelTrue: for every input it tells true and writes nothing that was there.
-/
import Derived.Test.YtjppopabjfncpaaDoorM8
namespace Go.Proofs.YtjppopabjfncpaaDoor
open Go.RowKit Go.Sort
set_option linter.unusedVariables false
set_option maxRecDepth 4000

/-- The xor of the numbers f at the bits of a row, of the first n. -/
def ofN (f : Nat → Nat) (vs : List Nat) : Nat → Nat
  | 0 => 0
  | n + 1 => if getB vs n then ofN f vs n ^^^ f n else ofN f vs n
theorem ofL_getD (ss : List ByteArray) (vs : List Nat) (i : Nat) : ∀ n, (ofL ss vs n).getD i 0 = ofN (fun b => (tx (ss.getD b ByteArray.empty)).getD i 0) vs n
  | 0 => by simp [ofL, ofN]
  | n + 1 => by
    unfold ofL ofN
    split
    · rw [xorL_getD, ofL_getD ss vs i n]
    · exact ofL_getD ss vs i n
theorem ofN_split {f g : Nat → Nat} {xs kn : List Nat} (h1 : ∀ b, getB kn b = true → g b = f b) (h2 : ∀ b, getB kn b = false → g b = 0) : ∀ n, ofN f xs n ^^^ ofN g xs n = ofN f (dropL xs kn) n
  | 0 => by simp [ofN]
  | n + 1 => by
    have ih := ofN_split (xs := xs) h1 h2 n
    unfold ofN
    rw [dropL_bit]
    cases hx : getB xs n
    · simpa using ih
    · cases hk : getB kn n
      · rw [h2 n hk]
        simp only [Bool.not_false, Bool.and_true, if_true, Nat.xor_zero]
        rw [← ih, Nat.xor_assoc, Nat.xor_comm (f n), ← Nat.xor_assoc]
      · rw [h1 n hk]
        simp only [Bool.not_true, Bool.and_false, if_true, Bool.false_eq_true, if_false]
        rw [← ih, Nat.xor_assoc, Nat.xor_comm (f n), Nat.xor_assoc, Nat.xor_self, Nat.xor_zero]
theorem ofN_one {f : Nat → Nat} {vs : List Nat} {b : Nat} (h : ∀ i, getB vs i = decide (i = b)) : ∀ n, ofN f vs n = if b < n then f b else 0
  | 0 => by simp [ofN]
  | n + 1 => by
    unfold ofN
    rw [ofN_one h n, h n]
    by_cases e : n = b
    · subst e
      rw [decide_eq_true rfl, if_pos rfl, if_neg (by omega), if_pos (by omega)]
      exact Nat.zero_xor _
    · rw [decide_eq_false e, if_neg (by simp)]
      by_cases h1 : b < n
      · rw [if_pos h1, if_pos (by omega)]
      · rw [if_neg h1, if_neg (by omega)]
theorem holdsB_bytes {ss : List ByteArray} {vs : List Nat} {s : ByteArray} : holdsB ss vs s = true ↔ (∀ i, ofN (fun b => (tx (ss.getD b ByteArray.empty)).getD i 0) vs ss.length = (tx s).getD i 0) ∧ ∀ i, ss.length ≤ i → getB vs i = false := by
  rw [holdsB_iff, zeroB_iff]
  refine and_congr_left fun _ => ?_
  constructor
  · intro h i
    have := h i
    rw [tx_xorS, xorL_getD, tx_st (ofL_bytes _ _ _), ofL_getD] at this
    exact Ech.eq_of_xor this
  · intro h i
    rw [tx_xorS, xorL_getD, tx_st (ofL_bytes _ _ _), ofL_getD, h i, Nat.xor_self]
/-- What is known is true. -/
def KTrue (ss : List ByteArray) (kn : List Nat) (bs : List ByteArray) : Prop := ∀ b, getB kn b = true → ∀ i, (tx (bs.getD b ByteArray.empty)).getD i 0 = (tx (ss.getD b ByteArray.empty)).getD i 0
theorem txt_byte {ss : List ByteArray} {j : Nat} {kn : List Nat} {bs : List ByteArray} (hK : Kn (ss.length : Int) j kn bs) (hT : KTrue ss kn bs) {xs : List Nat} {s : ByteArray} (h : holdsB ss xs s = true) (i : Nat) :
    (tx (txtL bs xs s)).getD i 0 = ofN (fun b => (tx (ss.getD b ByteArray.empty)).getD i 0) (dropL xs kn) ss.length := by
  unfold txtL
  have hl := hK.lenb
  rw [Int.toNat_natCast] at hl
  rw [tx_xorS, xorL_getD, tx_st (ofL_bytes _ _ _), ofL_getD, hl, ← (holdsB_bytes.1 h).1 i]
  refine ofN_split (fun b hb => hT b hb i) (fun b hb => ?_) _
  show (tx (bs.getD b ByteArray.empty)).getD i 0 = 0
  rw [hK.none b hb]
  rfl
theorem Run.true {ss : List ByteArray} {rs : List RV} (hz : 0 < sizeOfK (ss.length : Int)) (hg : Good rs) (hh : ∀ r ∈ rs, holdsB ss r.xs r.s = true) : ∀ {j : Nat} {kn : List Nat} {bs : List ByteArray}, Run (ss.length : Int) rs j kn bs → KTrue ss kn bs
  | 0, kn, bs, ⟨h1, h2⟩ => fun b hb => by rw [h1, bit_zeros] at hb; cases hb
  | j + 1, kn, bs, ⟨kn0, bs0, r, h1, h2, h3, h4⟩ => by
    have hK := Run.known hz hg h1
    have hT := Run.true hz hg hh h1
    have hm := List.mem_of_find?_eq_some h2
    obtain ⟨hv, hbits, hk0, hx0, hbk, hfi⟩ := tells_bit (hg r hm).1 (List.find?_some h2)
    have hroom := size_room hz
    rw [Int.toNat_natCast] at hbk hroom
    subst h3 h4
    intro b hb i
    rw [bit_setB _ _ _ _ (by rw [hK.len]; omega)] at hb
    rw [getD_set_tx]
    by_cases e : b = blkOf kn0 r
    · rw [if_pos ⟨e, by rw [hK.lenb, Int.toNat_natCast]; exact hbk⟩, txt_byte hK hT (hh r hm), ofN_one hbits, if_pos hbk, e]
    · rw [if_neg e] at hb
      rw [if_neg (fun h => e h.1)]
      exact hT b hb i
theorem true_told {ss : List ByteArray} {rs : List RV} {kn : List Nat} {bs : List ByteArray} (hP : PeelP (ss.length : Int) rs kn bs) (hg : Good rs) (hh : ∀ r ∈ rs, holdsB ss r.xs r.s = true) : ∀ x ∈ toldTo (ss.length : Int) kn bs (ss.length : Int).toNat, holdsB ss x.1 x.2 = true := by
  intro x hx
  by_cases hz : sizeOfK (ss.length : Int) = 0
  · obtain ⟨p1, p2, _⟩ := peelP_none (rs := rs) hz
    obtain ⟨rfl, rfl⟩ := hP.uniq p1
    rw [p2] at hx; cases hx
  · obtain ⟨⟨j, hj⟩, _⟩ := hP
    have hK := Run.known (by omega) hg hj
    have hT := Run.true (by omega) hg hh hj
    obtain ⟨b, hb, hgb, rfl⟩ := told_mem hK hx
    rw [Int.toNat_natCast] at hb
    refine holdsB_bytes.2 ⟨fun i => ?_, fun i hi => ?_⟩
    · rw [ofN_one (unit_bit hK.size (by omega)), if_pos hb]
      exact (hT b hgb i).symm
    · rw [unit_bit hK.size (by omega), decide_eq_false (by omega)]
theorem true_rest {ss : List ByteArray} {rs : List RV} {kn : List Nat} {bs : List ByteArray} (hP : PeelP (ss.length : Int) rs kn bs) (hg : Good rs) (hh : ∀ r ∈ rs, holdsB ss r.xs r.s = true) : ∀ x ∈ restL (ss.length : Int) rs kn bs, holdsB ss x.1 x.2 = true := by
  intro x hx
  by_cases hz : sizeOfK (ss.length : Int) = 0
  · obtain ⟨p1, _, p3⟩ := peelP_none (rs := rs) hz
    obtain ⟨rfl, rfl⟩ := hP.uniq p1
    rw [p3] at hx; cases hx
  · obtain ⟨⟨j, hj⟩, _⟩ := hP
    have hK := Run.known (by omega) hg hj
    have hT := Run.true (by omega) hg hh hj
    unfold restL at hx
    rw [List.mem_map] at hx
    obtain ⟨r, hr, rfl⟩ := hx
    have hm := (List.mem_filter.1 hr).1
    refine holdsB_bytes.2 ⟨fun i => (txt_byte hK hT (hh r hm) i).symm, fun i hi => ?_⟩
    show getB (dropL r.xs kn) i = false
    rw [dropL_bit, (holdsB_bytes.1 (hh r hm)).2 i hi]
    rfl
theorem mem_core {ts : List RV} {L : List (List Nat × ByteArray)} (h : ts.map core = L) {i : Nat} (hi : i < ts.length) : ((ts.getD i .dflt).xs, (ts.getD i .dflt).s) ∈ L := by
  rw [← h, List.getD_eq_getElem?_getD, List.getElem?_eq_getElem hi]
  exact List.mem_map.2 ⟨_, List.getElem_mem hi, rfl⟩
theorem mem_getD {rs : List RV} {P : RV → Prop} (h : ∀ i, i < rs.length → P (rs.getD i .dflt)) : ∀ r ∈ rs, P r := fun r hr => by
  obtain ⟨i, hi, rfl⟩ := List.mem_iff_getElem.1 hr
  have := h i hi
  rwa [List.getD_eq_getElem?_getD, List.getElem?_eq_getElem hi] at this

end Go.Proofs.YtjppopabjfncpaaDoor
