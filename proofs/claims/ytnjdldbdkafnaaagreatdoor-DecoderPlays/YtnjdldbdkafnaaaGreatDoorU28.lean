/-
  What bucketlineref04.Express tells, on plain lists; 'copy(row, words)' into a new row.
  The walk of PeelTrue: for every input it tells true and writes nothing that was there.
  Plain mathematics of elimination: k rows of k blocks that none of them is made of others make every block; what is told of rows that are true of blocks is these.
  Contracts of gauss.data, gauss.keep, gauss.Rank.
-/
import Derived.Test.YtnjdldbdkafnaaaGreatDoorU27
import Derived.Test.YtnjdldbdkafnaaaGreatDoorU5
import Derived.Test.YtnjdldbdkafnaaaGreatDoorU19
import Derived.Test.YtnjdldbdkafnaaaGreatDoorU22
namespace Go.Proofs.YtnjdldbdkafnaaaGreatDoor
open Go.RowKit Go.Sort
set_option linter.unusedVariables false
set_option linter.unusedSimpArgs false
set_option maxRecDepth 4000

/-- Words written over others, from place o on. -/
def ovr : List Nat → Nat → List Nat → List Nat
  | xs, _, [] => xs
  | xs, o, y :: r => ovr (xs.set o y) (o + 1) r
theorem ovr_len : ∀ (ys xs : List Nat) (o : Nat), (ovr xs o ys).length = xs.length
  | [], xs, o => rfl
  | y :: r, xs, o => by simp only [ovr]; rw [ovr_len r, List.length_set]
theorem ovr_get : ∀ (ys xs : List Nat) (o j : Nat), o + ys.length ≤ xs.length → (ovr xs o ys).getD j 0 = if o ≤ j ∧ j < o + ys.length then ys.getD (j - o) 0 else xs.getD j 0
  | [], xs, o, j, h => by simp only [ovr]; rw [if_neg (by simp only [List.length_nil]; omega)]
  | y :: r, xs, o, j, h => by
    simp only [List.length_cons] at h
    simp only [ovr]
    rw [ovr_get r (xs.set o y) (o + 1) j (by rw [List.length_set]; omega), getD_set]
    by_cases h1 : j = o
    · subst h1
      rw [if_neg (by omega), if_pos ⟨rfl, by omega⟩, if_pos (by simp), Nat.sub_self]
      rfl
    · by_cases h2 : o + 1 ≤ j ∧ j < o + 1 + r.length
      · rw [if_pos h2, if_pos (by simp only [List.length_cons]; omega), show j - o = (j - (o + 1)) + 1 by omega]
        rfl
      · rw [if_neg h2, if_neg (fun k => h1 k.1), if_neg (by simp only [List.length_cons]; omega)]
theorem ovr_zeros (ys : List Nat) (L : Nat) (h : ys.length ≤ L) : ovr (zeros L) 0 ys = ys ++ zeros (L - ys.length) := by
  apply ext_getD
  · rw [ovr_len, List.length_append, zeros_len, zeros_len]; omega
  · intro j hj
    rw [ovr_get _ _ _ _ (by rw [zeros_len]; omega)]
    by_cases h1 : j < ys.length
    · rw [if_pos (by omega), Nat.sub_zero, List.getD_eq_getElem?_getD, List.getD_eq_getElem?_getD, List.getElem?_append_left h1]
    · rw [if_neg (by omega), List.getD_eq_getElem?_getD, List.getD_eq_getElem?_getD, List.getElem?_append_right (by omega)]
      unfold zeros
      rw [List.getElem?_replicate, List.getElem?_replicate]
      split <;> split <;> rfl
theorem Own.setCells {B g : Nat} : ∀ (ys : List Nat) (w : World) (xs : List Nat) (o cap : Nat), Own w B (.slice (some ⟨g, 0, none⟩) xs.length cap) xs → smalls ys → Own (w.setCells g o (cellsU ys)) B (.slice (some ⟨g, 0, none⟩) xs.length cap) (ovr xs o ys)
  | [], w, xs, o, cap, h, _ => h
  | y :: r, w, xs, o, cap, h, hs => by
    have h1 := h.stored o y (hs y List.mem_cons_self)
    have h2 := Own.setCells r _ (xs.set o y) (o + 1) cap (by rw [List.length_set]; exact h1) hs.tail
    rw [List.length_set] at h2
    exact h2
theorem info_u64_one : (Tryz.prog.info? 53).map (·.size) = some 1 := by kernel_rfl
/-- copy(row, words), the row new. -/
theorem wpList_copyU {w : World} {ops : Array Oper} {rest : List Oper} {o : Oper} {act : Act} {Q : Exit → Act → World → Prop} (hgd : o.guard = none) (d s : Operand)
    (ho : o.op = .call { callee := .builtin .copy, args := #[d, s], argTypes := #[27, 27] }) (B g L : Nat) (a' : Option Addr) (m c' : Nat) (ys : List Nat)
    (hd : act.eval d = .slice (some ⟨g, 0, none⟩) L L) (hs : act.eval s = .slice a' m c') (hO : Own w B (.slice (some ⟨g, 0, none⟩) L L) (zeros L)) (h' : RowAt w a' m ys) (hm : m ≤ L) (hB : B ≤ w.heap.size)
    (hK : ∀ u w', Own w' B (.slice (some ⟨g, 0, none⟩) L L) (ys ++ zeros (L - m)) → Below B w w' → wpList Tryz.prog ops Q rest (act.put o.dst u) w') : wpList Tryz.prog ops Q (o :: rest) act w := by
  obtain rfl : m = ys.length := h'.1.symm
  by_cases h0 : ys.length = 0
  · refine copy_list hgd d s 27 ho _ _ hd hs (run_copy_none w 27 27 o.type 53 _ _ _ _ _ _ Tryz.underlying27 info_u64_one (by rw [h0]; exact Nat.min_eq_left (Nat.zero_le _))) (hK _ _ ?_ (Below.refl _ _))
    have e : ys = [] := List.eq_nil_of_length_eq_zero h0
    subst e
    exact hO
  · obtain ⟨b, off, rfl, hc⟩ := h'.at (show 0 < ys.length by omega)
    obtain ⟨g2, cap, e, _, _, hcg, hfg⟩ := hO.at (by rw [zeros_len]; omega)
    rw [zeros_len] at e hcg
    simp only [Value.slice.injEq, Option.some.injEq, Addr.mk.injEq, and_true, true_and] at e
    obtain ⟨rfl, rfl⟩ := e
    have hmin : (cellsU ys).length = Nat.min ys.length L := by rw [cellsU_length]; exact (Nat.min_eq_left hm).symm
    refine copy_list hgd d s 27 ho _ _ hd hs (run_copy_cells w 27 27 o.type 53 g 0 L L ⟨b, off, none⟩ ys.length c' (cellsU ys) Tryz.underlying27 info_u64_one hmin h'.news
      (fun j hj => by rw [cellsU_length] at hj; rw [Nat.zero_add, hcg j (by omega)]; rfl) (fun j hj => by rw [Nat.zero_add]; exact hfg j) (cellsU_one ys)) (hK _ _ ?_ (gb_below (setCells_gb g (cellsU ys) 0 w) hB (fun k hk => by rw [← Option.some.inj hk]; exact (hO.lt rfl).1)))
    have := Own.setCells ys w (zeros L) 0 L (by rw [zeros_len]; exact hO) h'.2.1
    rw [zeros_len, ovr_zeros ys L hm] at this
    exact this

/-- The greatest number of words of the first k rows. -/
def widthL (rs : List (List Nat)) : Nat → Nat
  | 0 => 0
  | k + 1 => max (widthL rs k) (rs.getD k []).length
theorem width_ge (rs : List (List Nat)) : ∀ k i, i < k → (rs.getD i []).length ≤ widthL rs k
  | 0, i, h => by omega
  | k + 1, i, h => by
    simp only [widthL]
    by_cases e : i = k
    · subst e; omega
    · have := width_ge rs k i (by omega); omega
theorem width_le (rs : List (List Nat)) (M : Nat) (h : ∀ i, (rs.getD i []).length ≤ M) : ∀ k, widthL rs k ≤ M
  | 0 => Nat.zero_le _
  | k + 1 => by
    have h1 := width_le rs M h k
    have h2 := h k
    simp only [widthL]
    omega
/-- A kept row with a bit more, behind all of theirs. -/
def extRow (rs : List (List Nat)) (ps : List Nat) (W i : Nat) : List Nat :=
  setB (rs.getD (ps.getD i 0) [] ++ zeros (W + ps.length / 64 + 1 - (rs.getD (ps.getD i 0) []).length)) (64 * W + i) true
def extL (rs : List (List Nat)) (ps : List Nat) (W : Nat) : List (List Nat) := (List.range ps.length).map (extRow rs ps W)
theorem extL_len (rs : List (List Nat)) (ps : List Nat) (W : Nat) : (extL rs ps W).length = ps.length := by simp [extL]
theorem extL_get (rs : List (List Nat)) (ps : List Nat) (W i : Nat) (h : i < ps.length) : (extL rs ps W).getD i [] = extRow rs ps W i := by
  simp [extL, List.getD_eq_getElem?_getD, h]
theorem app_small {xs ys : List Nat} (h : smalls xs) (k : smalls ys) : smalls (xs ++ ys) := fun x hx => (List.mem_append.1 hx).elim (h x) (k x)
theorem getB_app (xs : List Nat) (n j : Nat) : getB (xs ++ zeros n) j = getB xs j := by
  unfold getB
  rw [List.getD_eq_getElem?_getD, List.getD_eq_getElem?_getD]
  by_cases h : j / 64 < xs.length
  · rw [List.getElem?_append_left h]
  · have e : xs[j / 64]? = none := List.getElem?_eq_none (by omega)
    rw [List.getElem?_append_right (by omega), e]
    unfold zeros
    rw [List.getElem?_replicate]
    split <;> rfl
theorem ext_fit {M W : Nat} {rs : List (List Nat)} (hf : Fit W rs) (ps : List Nat) (hM : W + ps.length / 64 + 1 ≤ M) : Fit M (extL rs ps W) := by
  intro x hx
  obtain ⟨i, _, rfl⟩ := List.mem_map.1 hx
  have h1 := hf.getD (ps.getD i 0)
  refine ⟨setB_small (app_small h1.1 (zeros_small _)) _ _, ?_⟩
  unfold extRow
  rw [setB_length, List.length_append, zeros_len]
  omega
theorem ext_val {W : Nat} {rs : List (List Nat)} (hf : Fit W rs) (ps : List Nat) (i : Nat) (hi : i < ps.length) : val (extRow rs ps W i) = val (rs.getD (ps.getD i 0) []) ^^^ 2 ^ (64 * W + i) := by
  have h1 := hf.getD (ps.getD i 0)
  unfold extRow
  apply Nat.eq_of_testBit_eq
  intro j
  rw [val_bit (setB_small (app_small h1.1 (zeros_small _)) _ _), getB_setB _ _ _ (by rw [List.length_append, zeros_len]; omega), getB_app, Nat.testBit_xor, Nat.testBit_two_pow, val_bit h1.1]
  by_cases h2 : j = 64 * W + i
  · rw [h2, getB_out _ _ (by have := h1.2; omega)]; simp
  · have h3 : decide (64 * W + i = j) = false := by simp; omega
    have h4 : decide (j = 64 * W + i) = false := by simpa using h2
    rw [h3, h4]; simp
/-- What the reference's Express tells: the places, and whether there are such. -/
def rexL (ps : List Nat) (W : Nat) (r : List Nat) : List Nat := if 0 ≤ firstI r ∧ firstI r < 64 * (W : Int) then [] else chosenL ps (fun i => getB r (64 * W + i)) ps.length
def rexB (W : Nat) (r : List Nat) : Bool := !decide (0 ≤ firstI r ∧ firstI r < 64 * (W : Int))
/-- .. and span's. -/
def exL (rs : List (List Nat)) (xs : List Nat) : List Nat := if firstI (reduceL (broughtL rs) xs) < 0 then exprL rs xs else []
theorem express_same {W : Nat} {rs : List (List Nat)} (hf : Fit W rs) (hW : W ≤ 1000) (hn : rs.length ≤ 100000) {xs : List Nat} (hx : smalls xs) (hxl : xs.length ≤ W) :
    rexL (keepL rs rs.length) W (reduceL (basisL (extL rs (keepL rs rs.length) W)) xs) = exL rs xs ∧ rexB W (reduceL (basisL (extL rs (keepL rs rs.length) W)) xs) = !freshB rs xs := by
  have hf2 : Fit 1048576 rs := fun b hb => ⟨(hf b hb).1, by have := (hf b hb).2; omega⟩
  have hkl := keep_len rs rs.length
  have hE := ext_fit hf (keepL rs rs.length) (M := 1048576) (by omega)
  obtain ⟨h1, h2⟩ := express_ref hf (v := xs) (E := extL rs (keepL rs rs.length) W) (extL_len _ _ _) hE (fun i hi => by rw [extL_get _ _ _ _ hi]; exact ext_val hf _ i hi) hx hxl (by omega)
  have hin := brought_in hf2 hx (by omega)
  unfold rexL rexB exL freshB
  by_cases hs : Ech.Sp (rs.map val) (val xs)
  · obtain ⟨c, hc⟩ := choice_of hf2 hs
    obtain ⟨h3, h4⟩ := h1 c hc
    have hnot : ¬ (0 ≤ firstI (reduceL (basisL (extL rs (keepL rs rs.length) W)) xs) ∧ firstI (reduceL (basisL (extL rs (keepL rs rs.length) W)) xs) < 64 * (W : Int)) := by omega
    rw [if_neg hnot, decide_eq_false hnot, if_pos (hin.2 hs), decide_eq_true (hin.2 hs), expr_choice hf2 hn hx hc]
    exact ⟨chosen_congr _ _ fun i _ => h4 i, rfl⟩
  · have h5 := h2 hs
    have h6 : ¬ firstI (reduceL (broughtL rs) xs) < 0 := fun e => hs (hin.1 e)
    rw [if_pos h5, decide_eq_true h5, if_neg h6, decide_eq_false h6]
    exact ⟨rfl, rfl⟩
end Go.Proofs.YtnjdldbdkafnaaaGreatDoor
namespace Go.Proofs.YtnjdldbdkafnaaaGreatDoor
open Go.RowKit Go.Sort
set_option linter.unusedVariables false
set_option linter.unusedSimpArgs false
set_option maxRecDepth 4000

/-- The xor of the numbers f at the bits of a row, of the first n. -/
def ofN (f : Nat → Nat) (vs : List Nat) : Nat → Nat
  | 0 => 0
  | n + 1 => if getB vs n then ofN f vs n ^^^ f n else ofN f vs n
theorem ofL_getD (ss : List ByteArray) (vs : List Nat) (i : Nat) : ∀ n, (ofL ss vs n).getD i 0 = ofN (fun b => (tx (ss.getD b ByteArray.empty)).getD i 0) vs n
  | 0 => by simp [ofL, ofN]
  | n + 1 => by
    unfold ofL ofN
    split
    · rw [xorL_getD, ofL_getD ss vs i n]
    · exact ofL_getD ss vs i n
theorem ofN_split {f g : Nat → Nat} {xs kn : List Nat} (h1 : ∀ b, getB kn b = true → g b = f b) (h2 : ∀ b, getB kn b = false → g b = 0) : ∀ n, ofN f xs n ^^^ ofN g xs n = ofN f (dropL xs kn) n
  | 0 => by simp [ofN]
  | n + 1 => by
    have ih := ofN_split (xs := xs) h1 h2 n
    unfold ofN
    rw [dropL_bit]
    cases hx : getB xs n
    · simpa using ih
    · cases hk : getB kn n
      · rw [h2 n hk]
        simp only [Bool.not_false, Bool.and_true, if_true, Nat.xor_zero]
        rw [← ih, Nat.xor_assoc, Nat.xor_comm (f n), ← Nat.xor_assoc]
      · rw [h1 n hk]
        simp only [Bool.not_true, Bool.and_false, if_true, Bool.false_eq_true, if_false]
        rw [← ih, Nat.xor_assoc, Nat.xor_comm (f n), Nat.xor_assoc, Nat.xor_self, Nat.xor_zero]
theorem ofN_one {f : Nat → Nat} {vs : List Nat} {b : Nat} (h : ∀ i, getB vs i = decide (i = b)) : ∀ n, ofN f vs n = if b < n then f b else 0
  | 0 => by simp [ofN]
  | n + 1 => by
    unfold ofN
    rw [ofN_one h n, h n]
    by_cases e : n = b
    · subst e
      rw [decide_eq_true rfl, if_pos rfl, if_neg (by omega), if_pos (by omega)]
      exact Nat.zero_xor _
    · rw [decide_eq_false e, if_neg (by simp)]
      by_cases h1 : b < n
      · rw [if_pos h1, if_pos (by omega)]
      · rw [if_neg h1, if_neg (by omega)]
theorem holdsB_bytes {ss : List ByteArray} {vs : List Nat} {s : ByteArray} : holdsB ss vs s = true ↔ (∀ i, ofN (fun b => (tx (ss.getD b ByteArray.empty)).getD i 0) vs ss.length = (tx s).getD i 0) ∧ ∀ i, ss.length ≤ i → getB vs i = false := by
  rw [holdsB_iff, zeroB_iff]
  refine and_congr_left fun _ => ?_
  constructor
  · intro h i
    have := h i
    rw [tx_xorS, xorL_getD, tx_st (ofL_bytes _ _ _), ofL_getD] at this
    exact Ech.eq_of_xor this
  · intro h i
    rw [tx_xorS, xorL_getD, tx_st (ofL_bytes _ _ _), ofL_getD, h i, Nat.xor_self]
/-- What is known is true. -/
def KTrue (ss : List ByteArray) (kn : List Nat) (bs : List ByteArray) : Prop := ∀ b, getB kn b = true → ∀ i, (tx (bs.getD b ByteArray.empty)).getD i 0 = (tx (ss.getD b ByteArray.empty)).getD i 0
theorem txt_byte {ss : List ByteArray} {j : Nat} {kn : List Nat} {bs : List ByteArray} (hK : Kn (ss.length : Int) j kn bs) (hT : KTrue ss kn bs) {xs : List Nat} {s : ByteArray} (h : holdsB ss xs s = true) (i : Nat) :
    (tx (txtL bs xs s)).getD i 0 = ofN (fun b => (tx (ss.getD b ByteArray.empty)).getD i 0) (dropL xs kn) ss.length := by
  unfold txtL
  have hl := hK.lenb
  rw [Int.toNat_natCast] at hl
  rw [tx_xorS, xorL_getD, tx_st (ofL_bytes _ _ _), ofL_getD, hl, ← (holdsB_bytes.1 h).1 i]
  refine ofN_split (fun b hb => hT b hb i) (fun b hb => ?_) _
  show (tx (bs.getD b ByteArray.empty)).getD i 0 = 0
  rw [hK.none b hb]
  rfl
theorem Run.true {ss : List ByteArray} {rs : List RV} (hz : 0 < sizeOfK (ss.length : Int)) (hg : Good rs) (hh : ∀ r ∈ rs, holdsB ss r.xs r.s = true) : ∀ {j : Nat} {kn : List Nat} {bs : List ByteArray}, Run (ss.length : Int) rs j kn bs → KTrue ss kn bs
  | 0, kn, bs, ⟨h1, h2⟩ => fun b hb => by rw [h1, bit_zeros] at hb; cases hb
  | j + 1, kn, bs, ⟨kn0, bs0, r, h1, h2, h3, h4⟩ => by
    have hK := Run.known hz hg h1
    have hT := Run.true hz hg hh h1
    have hm := List.mem_of_find?_eq_some h2
    obtain ⟨hv, hbits, hk0, hx0, hbk, hfi⟩ := tells_bit (hg r hm).1 (List.find?_some h2)
    have hroom := size_room hz
    rw [Int.toNat_natCast] at hbk hroom
    subst h3 h4
    intro b hb i
    rw [bit_setB _ _ _ _ (by rw [hK.len]; omega)] at hb
    rw [getD_set_tx]
    by_cases e : b = blkOf kn0 r
    · rw [if_pos ⟨e, by rw [hK.lenb, Int.toNat_natCast]; exact hbk⟩, txt_byte hK hT (hh r hm), ofN_one hbits, if_pos hbk, e]
    · rw [if_neg e] at hb
      rw [if_neg (fun h => e h.1)]
      exact hT b hb i
theorem true_told {ss : List ByteArray} {rs : List RV} {kn : List Nat} {bs : List ByteArray} (hP : PeelP (ss.length : Int) rs kn bs) (hg : Good rs) (hh : ∀ r ∈ rs, holdsB ss r.xs r.s = true) : ∀ x ∈ toldTo (ss.length : Int) kn bs (ss.length : Int).toNat, holdsB ss x.1 x.2 = true := by
  intro x hx
  by_cases hz : sizeOfK (ss.length : Int) = 0
  · obtain ⟨p1, p2, _⟩ := peelP_none (rs := rs) hz
    obtain ⟨rfl, rfl⟩ := hP.uniq p1
    rw [p2] at hx; cases hx
  · obtain ⟨⟨j, hj⟩, _⟩ := hP
    have hK := Run.known (by omega) hg hj
    have hT := Run.true (by omega) hg hh hj
    obtain ⟨b, hb, hgb, rfl⟩ := told_mem hK hx
    rw [Int.toNat_natCast] at hb
    refine holdsB_bytes.2 ⟨fun i => ?_, fun i hi => ?_⟩
    · rw [ofN_one (unit_bit hK.size (by omega)), if_pos hb]
      exact (hT b hgb i).symm
    · rw [unit_bit hK.size (by omega), decide_eq_false (by omega)]
theorem true_rest {ss : List ByteArray} {rs : List RV} {kn : List Nat} {bs : List ByteArray} (hP : PeelP (ss.length : Int) rs kn bs) (hg : Good rs) (hh : ∀ r ∈ rs, holdsB ss r.xs r.s = true) : ∀ x ∈ restL (ss.length : Int) rs kn bs, holdsB ss x.1 x.2 = true := by
  intro x hx
  by_cases hz : sizeOfK (ss.length : Int) = 0
  · obtain ⟨p1, _, p3⟩ := peelP_none (rs := rs) hz
    obtain ⟨rfl, rfl⟩ := hP.uniq p1
    rw [p3] at hx; cases hx
  · obtain ⟨⟨j, hj⟩, _⟩ := hP
    have hK := Run.known (by omega) hg hj
    have hT := Run.true (by omega) hg hh hj
    unfold restL at hx
    rw [List.mem_map] at hx
    obtain ⟨r, hr, rfl⟩ := hx
    have hm := (List.mem_filter.1 hr).1
    refine holdsB_bytes.2 ⟨fun i => (txt_byte hK hT (hh r hm) i).symm, fun i hi => ?_⟩
    show getB (dropL r.xs kn) i = false
    rw [dropL_bit, (holdsB_bytes.1 (hh r hm)).2 i hi]
    rfl

end Go.Proofs.YtnjdldbdkafnaaaGreatDoor
namespace Go.Proofs.YtnjdldbdkafnaaaGreatDoor
open Go.RowKit Go.Sort
set_option linter.unusedVariables false
set_option linter.unusedSimpArgs false
set_option maxRecDepth 4000

theorem rise_all : ∀ (l : List Nat) (a n : Nat), l.Pairwise (· < ·) → (∀ x ∈ l, a ≤ x ∧ x < n) → a ≤ n → l.length ≤ n - a ∧ (l.length = n - a → ∀ x, a ≤ x → x < n → x ∈ l)
  | [], a, n, _, _, _ => ⟨Nat.zero_le _, fun h x h1 h2 => by simp at h; omega⟩
  | y :: l, a, n, hp, hb, hn => by
    have h1 := hb y List.mem_cons_self
    obtain ⟨i1, i2⟩ := rise_all l (y + 1) n (List.pairwise_cons.1 hp).2 (fun x hx => ⟨(List.pairwise_cons.1 hp).1 x hx, (hb x (List.mem_cons_of_mem _ hx)).2⟩) (by omega)
    refine ⟨by rw [List.length_cons]; omega, fun h x h2 h3 => ?_⟩
    rw [List.length_cons] at h
    have hy : y = a := by omega
    subst hy
    by_cases e : x = y
    · rw [e]; exact List.mem_cons_self
    · exact List.mem_cons_of_mem _ (i2 (by omega) x (by omega) h3)
/-- A basis of numbers of k bits has at most k rows, and where it has k, each bit alone is one of them. -/
theorem red_full {B : List Nat} {k : Nat} (h : Ech.Red B) (hb : ∀ b ∈ B, b < 2 ^ k) : B.length ≤ k ∧ (B.length = k → ∀ i, i < k → 2 ^ i ∈ B) := by
  have hp : (B.map Ech.low).Pairwise (· < ·) := by
    rw [List.pairwise_map]
    exact h.2.imp fun h => h.1
  have hm : ∀ x ∈ B.map Ech.low, 0 ≤ x ∧ x < k := fun x hx => by
    obtain ⟨b, hb', rfl⟩ := List.mem_map.1 hx
    exact ⟨Nat.zero_le _, Ech.low_lt (h.1 b hb') (hb b hb')⟩
  obtain ⟨h1, h2⟩ := rise_all _ 0 k hp hm (Nat.zero_le _)
  rw [List.length_map] at h1 h2
  refine ⟨by omega, fun e i hi => ?_⟩
  obtain ⟨b, hb1, hb2⟩ := List.mem_map.1 (h2 (by omega) i (Nat.zero_le _) hi)
  suffices b = 2 ^ i by rw [← this]; exact hb1
  apply Nat.eq_of_testBit_eq
  intro j
  rw [Nat.testBit_two_pow]
  by_cases e1 : i = j
  · rw [decide_eq_true e1, ← e1, ← hb2, Ech.low_bit (h.1 b hb1)]
  · rw [decide_eq_false e1]
    by_cases hj : j < k
    · obtain ⟨c, hc1, hc2⟩ := List.mem_map.1 (h2 (by omega) j (Nat.zero_le _) hj)
      have := (h.two hb1 hc1 (fun e2 => e1 (by rw [← hb2, ← hc2, e2]))).2
      rwa [hc2] at this
    · exact Nat.testBit_lt_two_pow (Nat.lt_of_lt_of_le (hb b hb1) (Nat.pow_le_pow_right (by omega) (by omega)))
theorem sp_lt {B : List Nat} {k x : Nat} (h : ∀ b ∈ B, b < 2 ^ k) (hx : Ech.Sp B x) : x < 2 ^ k :=
  Ech.Sp.ind (P := fun x => x < 2 ^ k) (Nat.two_pow_pos k) (fun b x hb hx => Nat.xor_lt_two_pow (h b hb) hx) hx
theorem valid_lt2 {k : Int} {xs : List Nat} (hs : smalls xs) (h : validB k xs = true) : val xs < 2 ^ k.toNat := by
  apply Nat.lt_pow_two_of_testBit
  intro i hi
  rw [val_bit hs]
  cases hg : getB xs i
  · rfl
  · have := (valid_size h).2.2 i hg; omega
/-- Rows of k blocks: their rank is at most k, and where it is k they make every block. -/
theorem rank_full {M : Nat} {k : Int} {V : List (List Nat)} (hf : Fit M V) (hv : ∀ v ∈ V, validB k v = true) : (basisL V).length ≤ k.toNat ∧ ((basisL V).length = k.toNat → ∀ i, i < k.toNat → Ech.Sp (V.map val) (2 ^ i)) := by
  have hb := basis_val hf
  have hlt : ∀ b ∈ Ech.basis (V.map val), b < 2 ^ k.toNat := fun b hb => by
    refine sp_lt (B := V.map val) (fun x hx => ?_) ((Ech.sp_basis _ _).1 (.of_mem hb))
    obtain ⟨v, hv', rfl⟩ := List.mem_map.1 hx
    exact valid_lt2 (hf v hv').1 (hv v hv')
  obtain ⟨h1, h2⟩ := red_full (Ech.red_basis (V.map val)) hlt
  have hl := congrArg List.length hb
  rw [List.length_map] at hl
  rw [hl]
  exact ⟨h1, fun e i hi => (Ech.sp_basis _ _).1 (.of_mem (h2 e i hi))⟩

/-- What elimination tells, of rows as bits and texts. -/
def zC : List Nat × ByteArray := ([], ByteArray.empty)
def vecsC (L : List (List Nat × ByteArray)) : List (List Nat) := L.map Prod.fst
def atC (L : List (List Nat × ByteArray)) (ps : List Nat) : List (List Nat × ByteArray) := ps.map fun i => L.getD i zC
def keptC (L : List (List Nat × ByteArray)) : List (List Nat × ByteArray) := atC L (keepL (vecsC L) L.length)
def textsC (L : List (List Nat × ByteArray)) (ps : List Nat) : List ByteArray := ps.map fun i => (L.getD i zC).2
def blockC (k : Int) (L : List (List Nat × ByteArray)) (b : Nat) : ByteArray := st (sumL (textsC (keptC L) (exL (vecsC (keptC L)) (unitL k (b : Int)))))
def okC (k : Int) (L : List (List Nat × ByteArray)) : Bool := decide (0 < sizeOfK k) && decide (k ≤ ((keepL (vecsC L) L.length).length : Int))
def solveC (k : Int) (L : List (List Nat × ByteArray)) : List ByteArray := if okC k L = true then (List.range k.toNat).map (blockC k L) else []
theorem vecsC_len (L : List (List Nat × ByteArray)) : (vecsC L).length = L.length := by simp [vecsC]
theorem vecsC_get (L : List (List Nat × ByteArray)) (i : Nat) : (vecsC L).getD i [] = (L.getD i zC).1 := by
  unfold vecsC
  rw [List.getD_eq_getElem?_getD, List.getElem?_map, List.getD_eq_getElem?_getD]
  cases L[i]? <;> rfl
theorem vecs_kept (L : List (List Nat × ByteArray)) : vecsC (keptC L) = keptL (vecsC L) := by
  unfold keptC atC keptL rowsAt
  rw [vecsC_len]
  unfold vecsC
  rw [List.map_map]
  refine List.map_congr_left fun i _ => ?_
  show (L.getD i zC).1 = _
  exact (vecsC_get L i).symm
theorem kept_length (L : List (List Nat × ByteArray)) : (keptC L).length = (keepL (vecsC L) L.length).length := by simp [keptC, atC]
theorem kept_mem {L : List (List Nat × ByteArray)} {x : List Nat × ByteArray} (h : x ∈ keptC L) : x ∈ L := by
  obtain ⟨i, hi, rfl⟩ := List.mem_map.1 h
  have hl := keep_lt (vecsC L) _ i hi
  rw [List.getD_eq_getElem?_getD, List.getElem?_eq_getElem hl]
  exact List.getElem_mem hl
def FitC (M : Nat) (L : List (List Nat × ByteArray)) : Prop := Fit M (vecsC L)
theorem FitC.kept {M : Nat} {L : List (List Nat × ByteArray)} (h : FitC M L) : FitC M (keptC L) := by
  unfold FitC
  rw [vecs_kept]
  exact rowsAt_fit h _

theorem ofN_xor (f : Nat → Nat) (a b : List Nat) : ∀ n, ofN f (xorL a b) n = ofN f a n ^^^ ofN f b n
  | 0 => by simp [ofN]
  | n + 1 => by
    unfold ofN
    rw [bit_xorL, ofN_xor f a b n]
    cases getB a n <;> cases getB b n
    · simp
    · simp [Nat.xor_assoc]
    · simp only [Bool.xor_false, if_true, Bool.false_eq_true, if_false]
      rw [Nat.xor_assoc, Nat.xor_comm (ofN f b n), ← Nat.xor_assoc]
    · simp only [Bool.xor_self, if_true, Bool.false_eq_true, if_false]
      rw [Nat.xor_assoc, Nat.xor_comm (f n), Nat.xor_assoc, Nat.xor_self, Nat.xor_zero]
theorem ofN_nil (f : Nat → Nat) : ∀ n, ofN f [] n = 0
  | 0 => rfl
  | n + 1 => by
    unfold ofN
    rw [getB_out [] n (by simp), ofN_nil f n]; rfl
/-- True of the blocks, of their size. -/
def TrueC (ss : List ByteArray) (m : Nat) (x : List Nat × ByteArray) : Prop := holdsB ss x.1 x.2 = true ∧ x.2.size = m
theorem sum_true {ss : List ByteArray} {m : Nat} {L : List (List Nat × ByteArray)} (j : Nat) : ∀ (ps : List Nat) (a x : List Nat), (∀ i ∈ ps, TrueC ss m (L.getD i zC)) → a.getD j 0 = ofN (fun b => (tx (ss.getD b ByteArray.empty)).getD j 0) x ss.length →
    ((textsC L ps).foldl (fun a s => xorL a (tx s)) a).getD j 0 = ofN (fun b => (tx (ss.getD b ByteArray.empty)).getD j 0) (ps.foldl (fun x i => xorL x ((vecsC L).getD i [])) x) ss.length
  | [], a, x, _, h => h
  | i :: ps, a, x, hp, h => by
    unfold textsC
    rw [List.map_cons, List.foldl_cons, List.foldl_cons]
    refine sum_true j ps _ _ (fun q hq => hp q (List.mem_cons_of_mem _ hq)) ?_
    rw [xorL_getD, ofN_xor, h, vecsC_get, (holdsB_bytes.1 (hp i List.mem_cons_self).1).1 j]
theorem sum_size {ss : List ByteArray} {m : Nat} {L : List (List Nat × ByteArray)} : ∀ (ps : List Nat) (a : List Nat), (∀ i ∈ ps, TrueC ss m (L.getD i zC)) → a.length = m ∨ (a.length ≤ m ∧ ps ≠ []) → ((textsC L ps).foldl (fun a s => xorL a (tx s)) a).length = m
  | [], a, _, h => by
    rcases h with h | h
    · exact h
    · exact absurd rfl h.2
  | i :: ps, a, hp, h => by
    unfold textsC
    rw [List.map_cons, List.foldl_cons]
    refine sum_size ps _ (fun q hq => hp q (List.mem_cons_of_mem _ hq)) (.inl ?_)
    have := (hp i List.mem_cons_self).2
    rw [xorL_length, tx_length, this]
    rcases h with h | h <;> omega
/-- A choice of rows whose xor is one block alone: the xor of their texts is that block. -/
theorem text_true {ss : List ByteArray} {m : Nat} {L : List (List Nat × ByteArray)} {ps : List Nat} {b : Nat} (hp : ∀ i ∈ ps, TrueC ss m (L.getD i zC)) (hs : smalls (sumV (vecsC L) ps)) (hv : val (sumV (vecsC L) ps) = 2 ^ b) (hb : b < ss.length) (hm : (ss.getD b ByteArray.empty).size = m) :
    st (sumL (textsC L ps)) = ss.getD b ByteArray.empty := by
  apply tx_inj
  rw [tx_st (sumL_bytes _)]
  have hne : ps ≠ [] := by
    rintro rfl
    have h0 : val (sumV (vecsC L) []) = 0 := by simp [sumV, val]
    rw [h0] at hv
    have := Nat.two_pow_pos b
    omega
  have hlen : (sumL (textsC L ps)).length = m := sum_size ps [] hp (.inr ⟨Nat.zero_le _, hne⟩)
  refine ext_getD (by rw [hlen, tx_length, hm]) fun j _ => ?_
  have h1 := sum_true (ss := ss) (m := m) (L := L) j ps [] [] hp (by rw [ofN_nil]; rfl)
  have h2 : ∀ i, getB (sumV (vecsC L) ps) i = decide (i = b) := fun i => by
    rw [← val_bit hs, hv, Nat.testBit_two_pow]
    by_cases e : i = b
    · simp [e]
    · rw [decide_eq_false e, decide_eq_false (fun h => e h.symm)]
  have h3 := ofN_one (f := fun b => (tx (ss.getD b ByteArray.empty)).getD j 0) h2 ss.length
  rw [if_pos hb] at h3
  exact h1.trans h3

theorem expr_lt {rs : List (List Nat)} (xs : List Nat) (hf : Fit 1048576 rs) (hn : rs.length ≤ 100000) (hx : smalls xs) {c : Nat} (hc : Choice rs xs c) : ∀ i ∈ exprL rs xs, i < rs.length := by
  rw [expr_choice hf hn hx hc]
  exact chosen_lt (Nat.le_refl _)
/-- Of rows that are true of blocks, as many of which none is made of others: each block is told. -/
theorem block_true {ss : List ByteArray} {m : Nat} {L : List (List Nat × ByteArray)} (hz : 0 < sizeOfK (ss.length : Int)) (hf : FitC 1048576 L) (hn : L.length ≤ 100000) (hv : ∀ x ∈ L, validB (ss.length : Int) x.1 = true) (ht : ∀ x ∈ L, TrueC ss m x) (hm : ∀ b, b < ss.length → (ss.getD b ByteArray.empty).size = m)
    (hr : (basisL (vecsC L)).length = ss.length) {b : Nat} (hb : b < ss.length) : blockC (ss.length : Int) L b = ss.getD b ByteArray.empty := by
  have hbk : ((b : Nat) : Int) < (ss.length : Int) := by omega
  have hu : val (unitL (ss.length : Int) (b : Int)) = 2 ^ b := val_one (unit_small hbk) (unit_bit hz hbk)
  have hul : (unitL (ss.length : Int) (b : Int)).length ≤ 1048576 := by rw [unit_len hbk]; have := sizeOfK_le (ss.length : Int); omega
  have hsp : Ech.Sp ((vecsC (keptC L)).map val) (val (unitL (ss.length : Int) (b : Int))) := by
    rw [vecs_kept, kept_sp hf, hu]
    have hvv : ∀ v ∈ vecsC L, validB (ss.length : Int) v = true := fun v hv' => by
      obtain ⟨x, hx, rfl⟩ := List.mem_map.1 hv'
      exact hv x hx
    exact (rank_full hf hvv).2 (by rw [Int.toNat_natCast]; exact hr) b (by rw [Int.toNat_natCast]; exact hb)
  have hfk := hf.kept
  have hkn : (vecsC (keptC L)).length ≤ 100000 := by
    rw [vecsC_len, kept_length]
    have := keep_len (vecsC L) L.length
    omega
  obtain ⟨c, hc⟩ := choice_of hfk hsp
  have hyes : firstI (reduceL (broughtL (vecsC (keptC L))) (unitL (ss.length : Int) (b : Int))) < 0 := (brought_in hfk (unit_small hbk) hul).2 hsp
  have hex : exL (vecsC (keptC L)) (unitL (ss.length : Int) (b : Int)) = exprL (vecsC (keptC L)) (unitL (ss.length : Int) (b : Int)) := by unfold exL; rw [if_pos hyes]
  unfold blockC
  rw [hex]
  have hch := expr_choice hfk hkn (unit_small hbk) hc
  refine text_true (fun i hi => ?_) (sum_small hfk _).1 ?_ hb (hm b hb)
  · have hlt := expr_lt _ hfk hkn (unit_small hbk) hc i hi
    rw [vecsC_len] at hlt
    rw [List.getD_eq_getElem?_getD, List.getElem?_eq_getElem hlt]
    exact ht _ (kept_mem (List.getElem_mem hlt))
  · rw [hch, ← hu]
    exact hc.sum hfk
/-- Elimination of rows that are true of blocks. -/
theorem solve_true {ss : List ByteArray} {m : Nat} {L : List (List Nat × ByteArray)} (hz : 0 < sizeOfK (ss.length : Int)) (hf : FitC 1048576 L) (hn : L.length ≤ 100000) (hv : ∀ x ∈ L, validB (ss.length : Int) x.1 = true) (ht : ∀ x ∈ L, TrueC ss m x) (hm : ∀ b, b < ss.length → (ss.getD b ByteArray.empty).size = m) :
    okC (ss.length : Int) L = decide ((basisL (vecsC L)).length = ss.length) ∧ ((basisL (vecsC L)).length = ss.length → solveC (ss.length : Int) L = ss) ∧ ((basisL (vecsC L)).length ≠ ss.length → solveC (ss.length : Int) L = []) := by
  have hvv : ∀ v ∈ vecsC L, validB (ss.length : Int) v = true := fun v hv' => by
    obtain ⟨x, hx, rfl⟩ := List.mem_map.1 hv'
    exact hv x hx
  have hle := (rank_full hf hvv).1
  rw [Int.toNat_natCast] at hle
  have hkr : (keepL (vecsC L) L.length).length = (basisL (vecsC L)).length := by rw [← vecsC_len]; exact keep_rank hf
  have hok : okC (ss.length : Int) L = decide ((basisL (vecsC L)).length = ss.length) := by
    unfold okC
    rw [decide_eq_true hz, Bool.true_and, hkr]
    exact decide_eq_decide.2 (by omega)
  refine ⟨hok, fun e => ?_, fun e => ?_⟩
  · unfold solveC
    rw [hok, if_pos (decide_eq_true e), Int.toNat_natCast]
    refine List.ext_getElem (by simp) fun i h1 h2 => ?_
    rw [List.getElem_map, List.getElem_range, block_true hz hf hn hv ht hm e h2, List.getD_eq_getElem?_getD, List.getElem?_eq_getElem h2]
    rfl
  · unfold solveC
    rw [hok, if_neg (by simp [e])]
end Go.Proofs.YtnjdldbdkafnaaaGreatDoor
namespace Go.Proofs.YtnjdldbdkafnaaaGreatDoor
open Go.RowKit Go.Sort
set_option linter.unusedVariables false
set_option linter.unusedSimpArgs false
set_option maxRecDepth 4000

def filT (ss : List ByteArray) (k : Nat) : List ByteArray := ss.take k ++ List.replicate (ss.length - k) ByteArray.empty
theorem filT_zero (ss : List ByteArray) : filT ss 0 = List.replicate ss.length ByteArray.empty := by simp [filT]
theorem filT_all (ss : List ByteArray) : filT ss ss.length = ss := by simp [filT]
theorem filT_length (ss : List ByteArray) (k : Nat) (hk : k ≤ ss.length) : (filT ss k).length = ss.length := by simp [filT]; omega
theorem filT_succ (ss : List ByteArray) (k : Nat) (hk : k < ss.length) : (filT ss k).set k (ss.getD k ByteArray.empty) = filT ss (k + 1) := by
  unfold filT
  have hl : (ss.take k).length = k := by simp; omega
  rw [List.set_append_right _ _ (by omega), hl, Nat.sub_self, List.take_succ_eq_append_getElem hk, List.append_assoc, show ss.length - k = (ss.length - (k + 1)) + 1 by omega, List.replicate_succ, List.set_cons_zero]
  simp [List.getD_eq_getElem?_getD, List.getElem?_eq_getElem hk]
/-- The texts of rows. -/
def textsR (us : List RV) : List ByteArray := us.map fun r => r.s
theorem textsR_len (us : List RV) : (textsR us).length = us.length := by simp [textsR]
theorem textsR_get (us : List RV) (k : Nat) (hk : k < us.length) : (textsR us).getD k ByteArray.empty = (us.getD k .dflt).s := by
  unfold textsR
  rw [List.getD_eq_getElem?_getD, List.getElem?_map, List.getElem?_eq_getElem hk, List.getD_eq_getElem?_getD, List.getElem?_eq_getElem hk]
  rfl
theorem short_texts {us : List RV} (h : shortR us) : shorts (textsR us) := fun s hs => by
  obtain ⟨r, hr, rfl⟩ := List.mem_map.1 hs
  obtain ⟨i, hi, rfl⟩ := List.mem_iff_getElem.1 hr
  have := (h i).2
  rw [List.getD_eq_getElem?_getD, List.getElem?_eq_getElem hi] at this
  simp only [Option.getD_some] at this
  omega
theorem short_atR {ts : List RV} (h : shortR ts) (ps : List Nat) : shortR (atR ts ps) := fun i => by
  by_cases hi : i < ps.length
  · rw [atR_get ts ps i hi]; exact h _
  · rw [List.getD_eq_getElem?_getD, List.getElem?_eq_none (by rw [atR_len]; omega)]
    exact short_nil 0

set_option maxHeartbeats 2000000 in
theorem data_any (a : Option Addr) (n c : Nat) (ts : List RV) (ap : Option Addr) (np cp : Nat) (ps : List Nat) (w : World) (h : RowsAt w a n ts) (hr : RowsIn w ts) (hs : shortR ts) (hp : IntsAt w ap np ps) (hl : ∀ i ∈ ps, i < n) (hn : n ≤ 1048576) (hnp : np ≤ 1048576) :
    Calls Tryz.prog 101 #[.slice a n c, .slice ap np cp] w fun e w' => e = .returned (.string (st (sumL (textsR (atR ts ps))))) ∧ Below w.heap.size w w' := by
  obtain rfl := hp.1
  have hmk := make_texts ps.length hnp
  have hM := made_texts w ps.length hnp (filT (textsR (atR ts ps)) 0) (by rw [filT_zero, textsR_len, atR_len])
  have hBM : Below w.heap.size w (w.alloc (.cells (madeCells #[.string ByteArray.empty] ps.length) 9)) := (Below.refl _ _).alloc (Nat.le_refl _) _
  have hsz : (w.alloc (.cells (madeCells #[.string ByteArray.empty] ps.length) 9)).heap.size = w.heap.size + 1 := alloc_size _ _
  have HAT := hide (at_any a n c ts ap ps.length cp ps _ (h.below hBM) (hp.below hBM) hl hn hnp)
  have HUL : Hid ((atR ts ps).length = ps.length) := hide (atR_len ts ps)
  have HSH := hide (short_texts (short_atR hs ps))
  have HM := hide hM
  have HBM := hide hBM
  have HSZ := hide hsz
  clear h hp hl hr hs hM hBM hsz
  generalize atR ts ps = us at *
  go_enter Tryz.func101, Tryz.ntmps101
  go_wp2_with fail
  refine (unhide HAT).mono ?_
  rintro e w1 ⟨v1, rfl, ho1, hb1⟩
  obtain ⟨a1, c1, rfl⟩ := ho1.shape
  rw [unhide HSZ] at ho1
  rw [unhide HUL] at ho1 ⊢
  have HO1 := hide ho1
  have HM1 := hide ((unhide HM).below hb1)
  have HB1 := hide (below0 (unhide HBM) hb1)
  clear ho1 hb1 HAT HM HBM
  go_wp2
  go_loopw [15] (fun i wr => ∃ k : Nat, k ≤ ps.length ∧ i = .int .i64 k ∧ Hid (OwnT wr w.heap.size (.slice (some ⟨w.heap.size, 0, none⟩) ps.length ps.length) (filT (textsR us) k)) ∧ Hid (OwnS wr (w.heap.size + 1) (.slice a1 ps.length c1) us) ∧ Hid (Below w.heap.size w wr)) (fun i _ => ps.length - (intOf i).toNat)
  case atStart => exact ⟨0, Nat.zero_le _, rfl, HM1, HO1, HB1⟩
  case round =>
    obtain ⟨k, hk, rfl, HI, HO, HB⟩ := hrel
    clear HM1 HO1 HB1
    have HUL' := unhide HUL
    by_cases hlt : k < ps.length
    · have hO := unhide HO
      obtain ⟨g, rfl⟩ : ∃ g, a1 = some ⟨g, 0, none⟩ := by
        rcases hO.2 with ⟨e, h0⟩ | ⟨g, cap, cur, e, _⟩
        · omega
        · simp only [Value.slice.injEq] at e; exact ⟨g, e.1⟩
      have hcg := cellsR_get us k (by omega)
      have hc0 := hO.cellAt hcg.1
      have hc1 := hO.cellAt hcg.2
      have hlt' : (k : Int) < (ps.length : Int) := by omega
      have hS := filT_succ (textsR us) k (by rw [textsR_len]; omega)
      rw [textsR_get us k (by omega)] at hS
      generalize us.getD k .dflt = r at *
      have hb1 : Below wr.heap.size wr (wr.alloc (.cells #[.slice r.a r.n r.c, .string r.s] 29)) := (Below.refl _ _).alloc (Nat.le_refl _) _
      have hI := (unhide HI).below hb1
      have hfl : (filT (textsR us) k).length = ps.length := by rw [filT_length _ _ (by rw [textsR_len]; omega), textsR_len, HUL']
      obtain ⟨g2, cap2, e2, _, _, hcg2, hfg2⟩ := hI.at (by omega)
      simp only [Value.slice.injEq, Option.some.injEq, Addr.mk.injEq, and_true] at e2
      obtain ⟨rfl, -, -⟩ := e2
      have hcell := hcg2 k (by omega)
      have hfz := hfg2 k
      have hs2 := hI.stored k r.s
      rw [hS] at hs2
      have hB2 := (below0 (unhide HB) hb1).setCell (p := ⟨w.heap.size, k, none⟩) (Nat.le_refl _) (.string r.s)
      have hO2 := (hO.below hb1).keptB (gb_setCell _ w.heap.size k (.string r.s)) (by omega)
      obtain ⟨hx0, hx1⟩ := box_new wr (.slice r.a r.n r.c) (.string r.s)
      have HS := hide hs2
      have HB2 := hide hB2
      have HO2 := hide hO2
      clear hcg hI hs2 hB2 hb1 hS HI HB HO hO hO2 hfl hcg2 hfg2
      generalize (filT (textsR us) k).getD k ByteArray.empty = z at *
      go_wp2
      go_roundw
      case rel => exact ⟨k + 1, by omega, by go_num, HS, HO2, HB2⟩
      case measure => simp [intOf]; omega
    · obtain rfl : k = ps.length := by omega
      rw [show filT (textsR us) ps.length = textsR us by rw [← HUL', ← textsR_len us]; exact filT_all _] at HI
      obtain ⟨a2, c2, e2, hT⟩ := (unhide HI).texts
      rw [textsR_len, HUL'] at e2 hT
      simp only [Value.slice.injEq] at e2
      obtain ⟨rfl, -, rfl⟩ := e2
      have HSU := hide (sum_any _ ps.length ps.length (textsR us) wr hT (unhide HSH) hnp)
      clear hT HI HO
      go_wp2_with (go_at_call 121; refine (unhide HSU).mono ?_; rintro e w2 ⟨rfl, hb2⟩; have HB2 := hide (below0 (unhide HB) hb2); clear hb2)
      go_ret
      exact ⟨rfl, unhide HB2⟩
end Go.Proofs.YtnjdldbdkafnaaaGreatDoor
