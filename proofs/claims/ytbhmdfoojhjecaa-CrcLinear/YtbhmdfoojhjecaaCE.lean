/-
  Plain mathematics of sealed texts in which four bytes are others: they are not opened. No condition but that what they are xored by is not 0.
-/
import Derived.Test.YtbhmdfoojhjecaaCD
namespace Go.Proofs.Ytbhmdfoojhjecaa
open Go.RowKit
set_option linter.unusedVariables false

theorem tx_append (a b : ByteArray) : tx (a ++ b) = tx a ++ tx b := by
  unfold tx
  rw [ByteArray.toList_data_append, List.map_append]
theorem tx_extract (s : ByteArray) (a b : Nat) : tx (s.extract a b) = ((tx s).take b).drop a := by
  unfold tx
  rw [ByteArray.data_extract, Array.toList_extract, List.extract_eq_take_drop, List.map_take, List.map_drop, List.take_drop]
  by_cases h : a ≤ b
  · rw [show a + (b - a) = b by omega]
  · rw [show b - a = 0 by omega, Nat.add_zero]
    rw [List.drop_eq_nil_of_le (by rw [List.length_take]; omega), List.drop_eq_nil_of_le (by rw [List.length_take]; omega)]
theorem be4_inj {c d : Nat} (hc : c < 4294967296) (hd : d < 4294967296) (h : be4 c = be4 d) : c = d := by
  simp only [be4, List.cons.injEq, and_true] at h
  omega

/-- The bytes of y, the lowest first. -/
def byteOf (y : Nat) : Nat → Nat
  | 0 => y % 256
  | 1 => y / 256 % 256
  | 2 => y / 65536 % 256
  | 3 => y / 16777216 % 256
  | _ => 0
theorem byteOf_lt (y j : Nat) : byteOf y j < 256 := by
  unfold byteOf
  split <;> omega
/-- Bytes from k on, one after another, xored by those of y. -/
def fl (xs : List Nat) (k y : Nat) : Nat → List Nat
  | 0 => xs
  | j + 1 => (fl xs k y j).set (k + j) ((fl xs k y j).getD (k + j) 0 ^^^ byteOf y j)
theorem fl_length (xs : List Nat) (k y j : Nat) : (fl xs k y j).length = xs.length := by
  induction j with
  | zero => rfl
  | succ j ih => unfold fl; rw [List.length_set, ih]
theorem app_get (p r : List Nat) (i : Nat) : (p ++ r).getD (p.length + i) 0 = r.getD i 0 := by
  rw [List.getD_eq_getElem?_getD, List.getD_eq_getElem?_getD, List.getElem?_append_right (by omega), Nat.add_sub_cancel_left]
theorem app_set (p r : List Nat) (i x : Nat) : (p ++ r).set (p.length + i) x = p ++ r.set i x := by
  rw [List.set_append_right _ _ (by omega), Nat.add_sub_cancel_left]
theorem fl_four (p q : List Nat) (a b c d y : Nat) : fl (p ++ a :: b :: c :: d :: q) p.length y 4 = p ++ (zipX [a, b, c, d] (le4 y) ++ q) := by
  have e0 : fl (p ++ a :: b :: c :: d :: q) p.length y 0 = p ++ a :: b :: c :: d :: q := rfl
  have e1 : fl (p ++ a :: b :: c :: d :: q) p.length y 1 = p ++ (a ^^^ y % 256) :: b :: c :: d :: q := by
    rw [fl, e0, app_set, app_get]; rfl
  have e2 : fl (p ++ a :: b :: c :: d :: q) p.length y 2 = p ++ (a ^^^ y % 256) :: (b ^^^ y / 256 % 256) :: c :: d :: q := by
    rw [fl, e1, app_set, app_get]; rfl
  have e3 : fl (p ++ a :: b :: c :: d :: q) p.length y 3 = p ++ (a ^^^ y % 256) :: (b ^^^ y / 256 % 256) :: (c ^^^ y / 65536 % 256) :: d :: q := by
    rw [fl, e2, app_set, app_get]; rfl
  rw [fl, e3, app_set, app_get]
  rfl
theorem fl_bytes {xs : List Nat} (h : bytes xs) (k y j : Nat) : bytes (fl xs k y j) := by
  induction j with
  | zero => exact h
  | succ j ih => exact ih.set _ _ (xorB_lt (ih.get _) (byteOf_lt y j))
theorem cut4 (xs : List Nat) (k : Nat) (h : k + 4 ≤ xs.length) : ∃ p q a b c d, p.length = k ∧ xs = p ++ a :: b :: c :: d :: q := by
  refine ⟨xs.take k, xs.drop (k + 4), xs[k], xs[k + 1], xs[k + 2], xs[k + 3], by rw [List.length_take]; omega, ?_⟩
  conv => lhs; rw [← List.take_append_drop k xs]
  rw [List.drop_eq_getElem_cons (by omega : k < xs.length), List.drop_eq_getElem_cons (by omega : k + 1 < xs.length), List.drop_eq_getElem_cons (by omega : k + 2 < xs.length), List.drop_eq_getElem_cons (by omega : k + 3 < xs.length)]
theorem tx_seal (s : ByteArray) : tx (sealS s) = tx s ++ be4 (sumN (tx s)) := by
  unfold sealS tailS
  rw [tx_append, tx_st (be4_bytes _)]
  rfl
theorem open_not {u : ByteArray} {n : Nat} (hn : u.size = n + 4) (h : ¬ (tx u).drop n = be4 (sumN ((tx u).take n))) : openE u = 4 ∧ openT u = ⟨#[]⟩ := by
  refine open_no (by omega) fun e => h ?_
  have h1 := congrArg tx e
  have e1 : tx (headS u) = (tx u).take n := by unfold headS; rw [tx_extract, hn, Nat.add_sub_cancel]; rfl
  have e2 : tx (lastS u) = (tx u).drop n := by
    unfold lastS
    rw [tx_extract, List.take_of_length_le (by rw [tx_length]; omega), hn, Nat.add_sub_cancel]
  unfold tailS sumS at h1
  rw [tx_st (be4_bytes _), e1, e2] at h1
  exact h1
/-- A sealed text with four other bytes, in the text or in the sum. -/
theorem flip_open (s : ByteArray) (k y : Nat) (hy : y < 4294967296) (h0 : y ≠ 0) (hk : k + 4 ≤ s.size ∨ k = s.size) :
    openE (st (fl (tx (sealS s)) k y 4)) = 4 ∧ openT (st (fl (tx (sealS s)) k y 4)) = ⟨#[]⟩ := by
  have hb := fl_bytes (tx_bytes (sealS s)) k y 4
  have hsz : (st (fl (tx (sealS s)) k y 4)).size = s.size + 4 := by rw [st_len, fl_length, tx_length, sealS_size]
  refine open_not hsz fun e => ?_
  rw [tx_st hb] at e
  rcases hk with hk | hk
  · obtain ⟨p, q, a, b, c, d, hp, hx⟩ := cut4 (tx s) k (by rw [tx_length]; exact hk)
    have hs := tx_seal s
    have hlen := tx_length s
    have hby := tx_bytes s
    rw [hx] at hs hlen hby
    rw [hs, show (p ++ a :: b :: c :: d :: q) ++ be4 (sumN (p ++ a :: b :: c :: d :: q)) = p ++ a :: b :: c :: d :: (q ++ be4 (sumN (p ++ a :: b :: c :: d :: q))) by simp, ← hp, fl_four] at e
    have hz : (p ++ zipX [a, b, c, d] (le4 y) ++ q).length = s.size := by rw [← hlen]; simp [zipX, le4]
    have e2 : p ++ (zipX [a, b, c, d] (le4 y) ++ (q ++ be4 (sumN (p ++ a :: b :: c :: d :: q)))) = (p ++ zipX [a, b, c, d] (le4 y) ++ q) ++ be4 (sumN (p ++ a :: b :: c :: d :: q)) := by simp
    rw [e2, ← hz, List.drop_left, List.take_left] at e
    have hm : ∀ x ∈ [a, b, c, d], x < 256 := fun x hxm => hby x (by
      simp only [List.mem_cons, List.mem_nil_iff, or_false] at hxm
      rcases hxm with rfl | rfl | rfl | rfl <;> simp)
    have hpb : ∀ x ∈ p, x < 256 := fun x hxm => hby x (by simp [hxm])
    have hqb : ∀ x ∈ q, x < 256 := fun x hxm => hby x (by simp [hxm])
    have hzb : ∀ x ∈ p ++ zipX [a, b, c, d] (le4 y) ++ q, x < 256 := by
      have := hb
      rw [hs, show (p ++ a :: b :: c :: d :: q) ++ be4 (sumN (p ++ a :: b :: c :: d :: q)) = p ++ a :: b :: c :: d :: (q ++ be4 (sumN (p ++ a :: b :: c :: d :: q))) by simp, ← hp, fl_four, e2] at this
      exact fun x hxm => this x (List.mem_append_left _ hxm)
    have e3 := be4_inj (sumN_lt hby) (sumN_lt hzb) e
    rw [show p ++ a :: b :: c :: d :: q = p ++ [a, b, c, d] ++ q by simp] at e3
    exact h0 (sum_flip p [a, b, c, d] q y rfl hpb hm hqb hy e3)
  · have hs := tx_seal s
    have hlen := tx_length s
    subst hk
    rw [hs, ← hlen] at e
    have e4 : be4 (sumN (tx s)) = sumN (tx s) / 16777216 % 256 :: sumN (tx s) / 65536 % 256 :: sumN (tx s) / 256 % 256 :: sumN (tx s) % 256 :: [] := rfl
    rw [e4, fl_four, ← e4, List.append_nil, List.drop_left, List.take_left] at e
    exact h0 (zip_flip _ y rfl hy e)
end Go.Proofs.Ytbhmdfoojhjecaa
