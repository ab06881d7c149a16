/-
  Plain mathematics of sealed texts as lists of bytes; one byte of a sealed text that is another one is found. No condition but that what it is xored by is not 0.
-/
import Derived.Test.YtjgckchddllinaaDoorCC
namespace Go.Proofs.YtjgckchddllinaaDoor
open Go.RowKit
set_option linter.unusedVariables false
set_option maxRecDepth 4000

theorem tx_extract (s : ByteArray) (a b : Nat) : tx (s.extract a b) = ((tx s).take b).drop a := by
  unfold tx
  rw [ByteArray.data_extract, Array.toList_extract, List.extract_eq_take_drop, List.map_take, List.map_drop, List.take_drop]
  by_cases h : a ≤ b
  · rw [show a + (b - a) = b by omega]
  · rw [show b - a = 0 by omega, Nat.add_zero]
    rw [List.drop_eq_nil_of_le (by rw [List.length_take]; omega), List.drop_eq_nil_of_le (by rw [List.length_take]; omega)]
theorem be4_inj {c d : Nat} (hc : c < 4294967296) (hd : d < 4294967296) (h : be4 c = be4 d) : c = d := by
  simp only [be4, List.cons.injEq, and_true] at h
  omega
theorem tx_seal (s : ByteArray) : tx (sealS s) = tx s ++ be4 (sumN (tx s)) := by
  unfold sealS tailS
  rw [tx_append, tx_st (be4_bytes _)]
  rfl
theorem open_not {u : ByteArray} {n : Nat} (hn : u.size = n + 4) (h : ¬ (tx u).drop n = be4 (sumN ((tx u).take n))) : openE u = 4 ∧ openT u = ⟨#[]⟩ := by
  refine open_no (by omega) fun e => h ?_
  have h1 := congrArg tx e
  have e1 : tx (headS u) = (tx u).take n := by unfold headS; rw [tx_extract, hn, Nat.add_sub_cancel]; rfl
  have e2 : tx (lastS u) = (tx u).drop n := by
    unfold lastS
    rw [tx_extract, List.take_of_length_le (by rw [tx_length]; omega), hn, Nat.add_sub_cancel]
  unfold tailS sumS at h1
  rw [tx_st (be4_bytes _), e1, e2] at h1
  exact h1

theorem byte_flip {c a y : Nat} (hy : y < 256) (h : byte1 c a = byte1 c (a ^^^ y)) : y = 0 := by
  have h1 := byte1_xor c c a (a ^^^ y)
  rw [xor_eq_zero_of h, Nat.xor_self, ← Nat.xor_assoc, Nat.xor_self, Nat.zero_xor] at h1
  unfold byte1 at h1
  rw [Nat.zero_xor] at h1
  exact stepN_zero (by omega) 8 h1
theorem sum_one {p q : List Nat} {a y : Nat} (hp : bytes p) (hq : bytes q) (ha : a < 256) (hy : y < 256) (h : sumN (p ++ a :: q) = sumN (p ++ (a ^^^ y) :: q)) : y = 0 := by
  unfold sumN at h
  have h1 := congrArg (· ^^^ 4294967295) h
  simp only [xor_twice] at h1
  rw [crcF_append, crcF_append] at h1
  have e : ∀ c b, crcF c (b :: q) = crcF (byte1 c b) q := fun _ _ => rfl
  rw [e, e] at h1
  have hc := crcF_lt (c := 4294967295) (by decide) hp
  exact byte_flip hy (crcF_behind _ _ q hq (byte1_lt hc ha) (byte1_lt hc (xorB_lt ha hy)) h1)
theorem get_mid (p r : List Nat) (a : Nat) : (p ++ a :: r).getD p.length 0 = a := by
  rw [List.getD_eq_getElem?_getD, List.getElem?_append_right (Nat.le_refl _), Nat.sub_self]
  rfl
theorem set_mid (p r : List Nat) (a x : Nat) : (p ++ a :: r).set p.length x = p ++ x :: r := by
  rw [List.set_append_right _ _ (Nat.le_refl _), Nat.sub_self]
  rfl
theorem cut1 (xs : List Nat) (k : Nat) (h : k < xs.length) : ∃ p a q, p.length = k ∧ xs = p ++ a :: q :=
  ⟨xs.take k, xs[k], xs.drop (k + 1), by rw [List.length_take]; omega, by rw [← List.drop_eq_getElem_cons, List.take_append_drop]⟩
theorem xor_id {a y : Nat} (h : a ^^^ y = a) : y = 0 := by
  have h1 := congrArg (a ^^^ ·) h
  simpa [← Nat.xor_assoc] using h1
/-- A sealed text with one other byte, in the text or in the sum. -/
theorem one_open (s : ByteArray) (k y : Nat) (hk : k < s.size + 4) (hy : y < 256) (h0 : y ≠ 0) :
    openE (st ((tx (sealS s)).set k ((tx (sealS s)).getD k 0 ^^^ y))) = 4 ∧ openT (st ((tx (sealS s)).set k ((tx (sealS s)).getD k 0 ^^^ y))) = ⟨#[]⟩ := by
  have hs := tx_seal s
  have hlen := tx_length s
  have hby := tx_bytes s
  have hbs := tx_bytes (sealS s)
  have hb : bytes ((tx (sealS s)).set k ((tx (sealS s)).getD k 0 ^^^ y)) := hbs.set _ _ (xorB_lt (hbs.get _) hy)
  have hsz : (st ((tx (sealS s)).set k ((tx (sealS s)).getD k 0 ^^^ y))).size = s.size + 4 := by rw [st_len, List.length_set, tx_length, sealS_size]
  refine open_not hsz fun e => ?_
  rw [tx_st hb, hs] at e
  have hS := sumN_lt hby
  by_cases h : k < s.size
  · obtain ⟨p, a, q, hp, hx⟩ := cut1 (tx s) k (by omega)
    rw [hx] at e hlen hby hS
    subst hp
    rw [List.append_assoc, List.cons_append, get_mid, set_mid] at e
    have hpb : bytes p := fun x hxm => hby x (by simp [hxm])
    have hqb : bytes q := fun x hxm => hby x (by simp [hxm])
    have hab : a < 256 := hby a (by simp)
    have e2 : ∀ r : List Nat, p ++ (a ^^^ y) :: (q ++ r) = (p ++ (a ^^^ y) :: q) ++ r := fun r => by simp
    have hz : (p ++ (a ^^^ y) :: q).length = s.size := by rw [← hlen]; simp
    rw [e2, ← hz, List.drop_left, List.take_left] at e
    have hzb : bytes (p ++ (a ^^^ y) :: q) := fun x hxm => by
      rcases List.mem_append.1 hxm with hm | hm
      · exact hpb x hm
      · rcases List.mem_cons.1 hm with rfl | hm
        · exact xorB_lt hab hy
        · exact hqb x hm
    exact h0 (sum_one hpb hqb hab hy (be4_inj hS (sumN_lt hzb) e))
  · obtain ⟨i, rfl⟩ : ∃ i, k = (tx s).length + i := ⟨k - s.size, by omega⟩
    have hi : i < (be4 (sumN (tx s))).length := by show i < 4; omega
    obtain ⟨p, a, q, hp, hx⟩ := cut1 _ i hi
    subst hp
    rw [hx, ← List.append_assoc, ← List.length_append, get_mid, set_mid, List.append_assoc, ← hlen, List.drop_left, List.take_left, hx] at e
    have e3 := congrArg (fun l => l.getD p.length 0) e
    simp only [get_mid] at e3
    exact h0 (xor_id e3)
end Go.Proofs.YtjgckchddllinaaDoor
