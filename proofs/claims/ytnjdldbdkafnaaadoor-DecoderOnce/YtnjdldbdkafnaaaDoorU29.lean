/-
  What span.Express tells, on plain lists. Of no program but for the rows' memory; words below 2^64.
  What bucketlineref04.Express tells, on plain lists; 'copy(row, words)' into a new row.
  The walk of PeelTrue: for every input it tells true and writes nothing that was there.
-/
import Derived.Test.YtnjdldbdkafnaaaDoorU27
import Derived.Test.YtnjdldbdkafnaaaDoorU28
import Derived.Test.YtnjdldbdkafnaaaDoorKA
import Derived.Test.YtnjdldbdkafnaaaDoorU7
import Derived.Test.YtnjdldbdkafnaaaDoorU19
namespace Go.Proofs.YtnjdldbdkafnaaaDoor
open Go.RowKit Go.Sort
set_option linter.unusedVariables false
set_option linter.unusedSimpArgs false
set_option maxRecDepth 4000

theorem IntsAt.lt {w : World} {a : Option Addr} {n : Nat} {xs : List Nat} (h : IntsAt w a n xs) : n = 0 ∨ ∀ ad, a = some ad → ad.block < w.heap.size := by
  rcases h.2 with h0 | ⟨b, off, rfl, hc⟩
  · exact .inl h0
  · by_cases h0 : n = 0
    · exact .inl h0
    · right
      intro ad e
      simp only [Option.some.injEq] at e
      subst e
      exact World.block_lt_of_cell? w _ (hc 0 (by omega))
/-- How many words a row with as many marks as bits has. -/
def sizeL (n : Nat) : Nat := (2 * n + 63) / 64
def markRow (rs : List (List Nat)) (ps fs : List Nat) (s i : Nat) : List Nat := setB (pickL (zeros s) (rs.getD (ps.getD i 0) []) fs ps.length) (ps.length + i) true
def marksL (rs : List (List Nat)) (ps fs : List Nat) (s k : Nat) : List (List Nat) := (List.range (ps.length + 1)).map fun i => if i < k then markRow rs ps fs s i else zeros s
theorem marks_len (rs : List (List Nat)) (ps fs : List Nat) (s k : Nat) : (marksL rs ps fs s k).length = ps.length + 1 := by simp [marksL]
theorem marks_get (rs : List (List Nat)) (ps fs : List Nat) (s k i : Nat) (hi : i < ps.length + 1) : (marksL rs ps fs s k).getD i [] = if i < k then markRow rs ps fs s i else zeros s := by
  simp [marksL, List.getD_eq_getElem?_getD, hi]
theorem marks_zero (rs : List (List Nat)) (ps fs : List Nat) (s : Nat) : marksL rs ps fs s 0 = List.replicate (ps.length + 1) (zeros s) := by
  apply List.ext_getElem
  · simp [marksL]
  · intro i h1 h2; simp [marksL]
theorem marks_set (rs : List (List Nat)) (ps fs : List Nat) (s k : Nat) (hk : k < ps.length + 1) : (marksL rs ps fs s k).set k (markRow rs ps fs s k) = marksL rs ps fs s (k + 1) := by
  apply List.ext_getElem
  · simp [marksL]
  · intro i h1 h2
    rw [List.getElem_set]
    by_cases e : k = i
    · subst e; simp [marksL]
    · rw [if_neg e]
      simp only [marksL, List.getElem_map, List.getElem_range]
      by_cases h3 : i < k
      · rw [if_pos h3, if_pos (by omega)]
      · rw [if_neg h3, if_neg (by omega)]
theorem markRow_small (rs : List (List Nat)) (ps fs : List Nat) (s i : Nat) : smalls (markRow rs ps fs s i) := setB_small (pick_small (zeros_small s) _ _ _) _ _
theorem markRow_len (rs : List (List Nat)) (ps fs : List Nat) (s i : Nat) : (markRow rs ps fs s i).length = s := by unfold markRow; rw [setB_length, pick_len, zeros_len]
theorem marks_fit (rs : List (List Nat)) (ps fs : List Nat) (s k j : Nat) (q : List Nat) (hq : smalls q) (hql : q.length = s) (M : Nat) (hs : s ≤ M) : Fit M (((marksL rs ps fs s k).set j q).take k) := by
  intro x hx
  rcases List.mem_or_eq_of_mem_set (List.mem_of_mem_take hx) with hx | rfl
  · obtain ⟨i, _, rfl⟩ := List.mem_map.1 hx
    split
    · exact ⟨markRow_small _ _ _ _ _, by rw [markRow_len]; exact hs⟩
    · exact ⟨zeros_small s, by rw [zeros_len]; exact hs⟩
  · exact ⟨hq, by omega⟩
theorem marks_take (rs : List (List Nat)) (ps fs : List Nat) (s : Nat) (q : List Nat) : ((marksL rs ps fs s ps.length).set ps.length q).take ps.length = (marksL rs ps fs s ps.length).take ps.length := by
  apply List.ext_getElem
  · simp
  · intro i h1 h2
    have hi : i < ps.length := by
      rw [List.length_take] at h2
      omega
    rw [List.getElem_take, List.getElem_take, List.getElem_set, if_neg (by omega)]
/-- What Express tells of a row that is in the span. -/
def exprL (rs : List (List Nat)) (xs : List Nat) : List Nat :=
  chosenL (keepL rs rs.length) (fun i => getB (reduceL (broughtL ((marksL rs (keepL rs rs.length) (firstsL (broughtL rs)) (sizeL (keepL rs rs.length).length) (keepL rs rs.length).length).take (keepL rs rs.length).length))
    (pickL (zeros (sizeL (keepL rs rs.length).length)) xs (firstsL (broughtL rs)) (keepL rs rs.length).length)) ((keepL rs rs.length).length + i)) (keepL rs rs.length).length
theorem size_ok (n : Nat) : 2 * n ≤ 64 * sizeL n := by unfold sizeL; omega
theorem size_le (n : Nat) (h : n ≤ 100000) : sizeL n ≤ 4000 := by unfold sizeL; omega
theorem brought_pos {M : Nat} {rs : List (List Nat)} (h : Fit M rs) (i : Nat) (hi : i < (broughtL rs).length) : 0 ≤ firstI ((broughtL rs).getD i []) := by
  have h1 := (brought_fit h).getD i
  have h2 : val ((broughtL rs).getD i []) ≠ 0 := by
    refine (brought_tri h).1 _ (List.mem_map.2 ⟨_, ?_, rfl⟩)
    simp [List.getD_eq_getElem?_getD, List.getElem?_eq_getElem hi]
  rw [firstI_val h1.1, if_neg h2]
  omega
theorem firsts_low {M : Nat} {rs : List (List Nat)} (h : Fit M rs) : firstsL (broughtL rs) = (broughtL rs).map fun b => Ech.low (val b) := by
  unfold firstsL
  apply List.map_congr_left
  intro b hb
  have h1 := (brought_fit h) b hb
  have h2 : val b ≠ 0 := (brought_tri h).1 _ (List.mem_map.2 ⟨b, hb, rfl⟩)
  rw [firstI_val h1.1, if_neg h2]
  rfl
theorem firsts_small {rs : List (List Nat)} (h : Fit 1048576 rs) (i : Nat) : (firstsL (broughtL rs)).getD i 0 ≤ 1000000000 := by
  by_cases hi : i < (broughtL rs).length
  · rw [firstsL_get _ i hi]
    have h1 := (brought_fit h).getD i
    have := firstI_le h1.1
    omega
  · rw [getD_of_le (by rw [firstsL_len]; omega)]
    omega
theorem brought_count (rs : List (List Nat)) : (broughtL rs).length = (keepL rs rs.length).length := by rw [keep_brought rs _ (Nat.le_refl _), List.take_length]
/-- .. it is the choice. -/
theorem expr_choice {rs : List (List Nat)} (hf : Fit 1048576 rs) (hn : rs.length ≤ 100000) {xs : List Nat} (hx : smalls xs) {c : Nat} (hc : Choice rs xs c) : exprL rs xs = chosenL (keepL rs rs.length) (fun i => c.testBit i) (keepL rs rs.length).length := by
  have hnl := keep_len rs rs.length
  have hs1 := size_ok (keepL rs rs.length).length
  have hs2 := size_le (keepL rs rs.length).length (by omega)
  unfold exprL
  refine chosen_congr _ _ fun i hi => ?_
  refine express_bits hf (M' := 4000) (fs := firstsL (broughtL rs)) (firsts_low hf) ?_ ?_ ?_ (pick_small (zeros_small _) _ _ _) (pick_val hx (by omega)) (by rw [pick_len, zeros_len]; exact hs2) hc i
  · rw [List.length_take, marks_len]; omega
  · rw [← marks_take _ _ _ _ []]
    intro x hx
    have hx' := List.mem_of_mem_take hx
    obtain ⟨j, hj, rfl⟩ := List.getElem_of_mem hx
    rw [List.length_take, List.length_set, marks_len] at hj
    rw [List.getElem_take, List.getElem_set, if_neg (by omega)]
    simp only [marksL, List.getElem_map, List.getElem_range]
    split
    · exact ⟨markRow_small _ _ _ _ _, by rw [markRow_len]; exact hs2⟩
    · exact ⟨zeros_small _, by rw [zeros_len]; exact hs2⟩
  · intro j hj
    rw [List.getD_eq_getElem?_getD, List.getElem?_take_of_lt hj, ← List.getD_eq_getElem?_getD, marks_get _ _ _ _ _ _ (by omega), if_pos hj]
    exact mark_val (hf.getD _).1 (by omega) (by omega)
end Go.Proofs.YtnjdldbdkafnaaaDoor
namespace Go.Proofs.YtnjdldbdkafnaaaDoor
open Go.RowKit Go.Sort
set_option linter.unusedVariables false
set_option linter.unusedSimpArgs false
set_option maxRecDepth 4000

/-- Words written over others, from place o on. -/
def ovr : List Nat → Nat → List Nat → List Nat
  | xs, _, [] => xs
  | xs, o, y :: r => ovr (xs.set o y) (o + 1) r
theorem Own.setCells {B g : Nat} : ∀ (ys : List Nat) (w : World) (xs : List Nat) (o cap : Nat), Own w B (.slice (some ⟨g, 0, none⟩) xs.length cap) xs → smalls ys → Own (w.setCells g o (cellsU ys)) B (.slice (some ⟨g, 0, none⟩) xs.length cap) (ovr xs o ys)
  | [], w, xs, o, cap, h, _ => h
  | y :: r, w, xs, o, cap, h, hs => by
    have h1 := h.stored o y (hs y List.mem_cons_self)
    have h2 := Own.setCells r _ (xs.set o y) (o + 1) cap (by rw [List.length_set]; exact h1) hs.tail
    rw [List.length_set] at h2
    exact h2

/-- .. and span's. -/
def exL (rs : List (List Nat)) (xs : List Nat) : List Nat := if firstI (reduceL (broughtL rs) xs) < 0 then exprL rs xs else []
end Go.Proofs.YtnjdldbdkafnaaaDoor
namespace Go.Proofs.YtnjdldbdkafnaaaDoor
open Go.RowKit Go.Sort
set_option linter.unusedVariables false
set_option linter.unusedSimpArgs false
set_option maxRecDepth 4000

/-- The xor of the numbers f at the bits of a row, of the first n. -/
def ofN (f : Nat → Nat) (vs : List Nat) : Nat → Nat
  | 0 => 0
  | n + 1 => if getB vs n then ofN f vs n ^^^ f n else ofN f vs n
theorem ofL_getD (ss : List ByteArray) (vs : List Nat) (i : Nat) : ∀ n, (ofL ss vs n).getD i 0 = ofN (fun b => (tx (ss.getD b ByteArray.empty)).getD i 0) vs n
  | 0 => by simp [ofL, ofN]
  | n + 1 => by
    unfold ofL ofN
    split
    · rw [xorL_getD, ofL_getD ss vs i n]
    · exact ofL_getD ss vs i n
theorem ofN_split {f g : Nat → Nat} {xs kn : List Nat} (h1 : ∀ b, getB kn b = true → g b = f b) (h2 : ∀ b, getB kn b = false → g b = 0) : ∀ n, ofN f xs n ^^^ ofN g xs n = ofN f (dropL xs kn) n
  | 0 => by simp [ofN]
  | n + 1 => by
    have ih := ofN_split (xs := xs) h1 h2 n
    unfold ofN
    rw [dropL_bit]
    cases hx : getB xs n
    · simpa using ih
    · cases hk : getB kn n
      · rw [h2 n hk]
        simp only [Bool.not_false, Bool.and_true, if_true, Nat.xor_zero]
        rw [← ih, Nat.xor_assoc, Nat.xor_comm (f n), ← Nat.xor_assoc]
      · rw [h1 n hk]
        simp only [Bool.not_true, Bool.and_false, if_true, Bool.false_eq_true, if_false]
        rw [← ih, Nat.xor_assoc, Nat.xor_comm (f n), Nat.xor_assoc, Nat.xor_self, Nat.xor_zero]
theorem ofN_one {f : Nat → Nat} {vs : List Nat} {b : Nat} (h : ∀ i, getB vs i = decide (i = b)) : ∀ n, ofN f vs n = if b < n then f b else 0
  | 0 => by simp [ofN]
  | n + 1 => by
    unfold ofN
    rw [ofN_one h n, h n]
    by_cases e : n = b
    · subst e
      rw [decide_eq_true rfl, if_pos rfl, if_neg (by omega), if_pos (by omega)]
      exact Nat.zero_xor _
    · rw [decide_eq_false e, if_neg (by simp)]
      by_cases h1 : b < n
      · rw [if_pos h1, if_pos (by omega)]
      · rw [if_neg h1, if_neg (by omega)]
theorem holdsB_bytes {ss : List ByteArray} {vs : List Nat} {s : ByteArray} : holdsB ss vs s = true ↔ (∀ i, ofN (fun b => (tx (ss.getD b ByteArray.empty)).getD i 0) vs ss.length = (tx s).getD i 0) ∧ ∀ i, ss.length ≤ i → getB vs i = false := by
  rw [holdsB_iff, zeroB_iff]
  refine and_congr_left fun _ => ?_
  constructor
  · intro h i
    have := h i
    rw [tx_xorS, xorL_getD, tx_st (ofL_bytes _ _ _), ofL_getD] at this
    exact Ech.eq_of_xor this
  · intro h i
    rw [tx_xorS, xorL_getD, tx_st (ofL_bytes _ _ _), ofL_getD, h i, Nat.xor_self]
/-- What is known is true. -/
def KTrue (ss : List ByteArray) (kn : List Nat) (bs : List ByteArray) : Prop := ∀ b, getB kn b = true → ∀ i, (tx (bs.getD b ByteArray.empty)).getD i 0 = (tx (ss.getD b ByteArray.empty)).getD i 0
theorem txt_byte {ss : List ByteArray} {j : Nat} {kn : List Nat} {bs : List ByteArray} (hK : Kn (ss.length : Int) j kn bs) (hT : KTrue ss kn bs) {xs : List Nat} {s : ByteArray} (h : holdsB ss xs s = true) (i : Nat) :
    (tx (txtL bs xs s)).getD i 0 = ofN (fun b => (tx (ss.getD b ByteArray.empty)).getD i 0) (dropL xs kn) ss.length := by
  unfold txtL
  have hl := hK.lenb
  rw [Int.toNat_natCast] at hl
  rw [tx_xorS, xorL_getD, tx_st (ofL_bytes _ _ _), ofL_getD, hl, ← (holdsB_bytes.1 h).1 i]
  refine ofN_split (fun b hb => hT b hb i) (fun b hb => ?_) _
  show (tx (bs.getD b ByteArray.empty)).getD i 0 = 0
  rw [hK.none b hb]
  rfl
theorem Run.true {ss : List ByteArray} {rs : List RV} (hz : 0 < sizeOfK (ss.length : Int)) (hg : Good rs) (hh : ∀ r ∈ rs, holdsB ss r.xs r.s = true) : ∀ {j : Nat} {kn : List Nat} {bs : List ByteArray}, Run (ss.length : Int) rs j kn bs → KTrue ss kn bs
  | 0, kn, bs, ⟨h1, h2⟩ => fun b hb => by rw [h1, bit_zeros] at hb; cases hb
  | j + 1, kn, bs, ⟨kn0, bs0, r, h1, h2, h3, h4⟩ => by
    have hK := Run.known hz hg h1
    have hT := Run.true hz hg hh h1
    have hm := List.mem_of_find?_eq_some h2
    obtain ⟨hv, hbits, hk0, hx0, hbk, hfi⟩ := tells_bit (hg r hm).1 (List.find?_some h2)
    have hroom := size_room hz
    rw [Int.toNat_natCast] at hbk hroom
    subst h3 h4
    intro b hb i
    rw [bit_setB _ _ _ _ (by rw [hK.len]; omega)] at hb
    rw [getD_set_tx]
    by_cases e : b = blkOf kn0 r
    · rw [if_pos ⟨e, by rw [hK.lenb, Int.toNat_natCast]; exact hbk⟩, txt_byte hK hT (hh r hm), ofN_one hbits, if_pos hbk, e]
    · rw [if_neg e] at hb
      rw [if_neg (fun h => e h.1)]
      exact hT b hb i
theorem true_told {ss : List ByteArray} {rs : List RV} {kn : List Nat} {bs : List ByteArray} (hP : PeelP (ss.length : Int) rs kn bs) (hg : Good rs) (hh : ∀ r ∈ rs, holdsB ss r.xs r.s = true) : ∀ x ∈ toldTo (ss.length : Int) kn bs (ss.length : Int).toNat, holdsB ss x.1 x.2 = true := by
  intro x hx
  by_cases hz : sizeOfK (ss.length : Int) = 0
  · obtain ⟨p1, p2, _⟩ := peelP_none (rs := rs) hz
    obtain ⟨rfl, rfl⟩ := hP.uniq p1
    rw [p2] at hx; cases hx
  · obtain ⟨⟨j, hj⟩, _⟩ := hP
    have hK := Run.known (by omega) hg hj
    have hT := Run.true (by omega) hg hh hj
    obtain ⟨b, hb, hgb, rfl⟩ := told_mem hK hx
    rw [Int.toNat_natCast] at hb
    refine holdsB_bytes.2 ⟨fun i => ?_, fun i hi => ?_⟩
    · rw [ofN_one (unit_bit hK.size (by omega)), if_pos hb]
      exact (hT b hgb i).symm
    · rw [unit_bit hK.size (by omega), decide_eq_false (by omega)]
theorem true_rest {ss : List ByteArray} {rs : List RV} {kn : List Nat} {bs : List ByteArray} (hP : PeelP (ss.length : Int) rs kn bs) (hg : Good rs) (hh : ∀ r ∈ rs, holdsB ss r.xs r.s = true) : ∀ x ∈ restL (ss.length : Int) rs kn bs, holdsB ss x.1 x.2 = true := by
  intro x hx
  by_cases hz : sizeOfK (ss.length : Int) = 0
  · obtain ⟨p1, _, p3⟩ := peelP_none (rs := rs) hz
    obtain ⟨rfl, rfl⟩ := hP.uniq p1
    rw [p3] at hx; cases hx
  · obtain ⟨⟨j, hj⟩, _⟩ := hP
    have hK := Run.known (by omega) hg hj
    have hT := Run.true (by omega) hg hh hj
    unfold restL at hx
    rw [List.mem_map] at hx
    obtain ⟨r, hr, rfl⟩ := hx
    have hm := (List.mem_filter.1 hr).1
    refine holdsB_bytes.2 ⟨fun i => (txt_byte hK hT (hh r hm) i).symm, fun i hi => ?_⟩
    show getB (dropL r.xs kn) i = false
    rw [dropL_bit, (holdsB_bytes.1 (hh r hm)).2 i hi]
    rfl

end Go.Proofs.YtnjdldbdkafnaaaDoor
