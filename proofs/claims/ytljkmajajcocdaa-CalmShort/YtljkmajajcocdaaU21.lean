/-
  The way as data ('wayL'); contract of calm.nearer. Condition: the slices can be read.
-/
import Derived.Test.YtljkmajajcocdaaU20
namespace Go.Proofs.Ytljkmajajcocdaa
open Go.RowKit Go.Sort Go.Shelf
set_option linter.unusedVariables false
set_option linter.unusedSimpArgs false
set_option maxRecDepth 4000

/-- The least of the first k that is nearer than m. -/
def nearK (xs : List Int) (F : Nat → Nat) (m n : Nat) : Nat → Int
  | 0 => (n : Int)
  | k + 1 => if F (xs.getD k 0).toNat < m then min (nearK xs F m n k) (xs.getD k 0) else nearK xs F m n k
theorem nearK_least {xs : List Int} {F : Nat → Nat} {m n : Nat} : ∀ k j, j < k → F (xs.getD j 0).toNat < m → nearK xs F m n k ≤ xs.getD j 0
  | k + 1, j, hj, h => by
    unfold nearK
    by_cases e : j = k
    · subst e
      rw [if_pos h]
      omega
    · have := nearK_least (n := n) k j (by omega) h
      split
      · omega
      · exact this
theorem nearK_in {xs : List Int} {F : Nat → Nat} {m n : Nat} : ∀ k, nearK xs F m n k = (n : Int) ∨ ∃ j, j < k ∧ F (xs.getD j 0).toNat < m ∧ nearK xs F m n k = xs.getD j 0
  | 0 => .inl rfl
  | k + 1 => by
    unfold nearK
    have ih := nearK_in (xs := xs) (F := F) (m := m) (n := n) k
    split
    · rename_i h
      by_cases e : nearK xs F m n k ≤ xs.getD k 0
      · rw [show min (nearK xs F m n k) (xs.getD k 0) = nearK xs F m n k by omega]
        rcases ih with ih | ⟨j, h1, h2, h3⟩
        · exact .inl ih
        · exact .inr ⟨j, by omega, h2, h3⟩
      · exact .inr ⟨k, by omega, h, by omega⟩
    · rcases ih with ih | ⟨j, h1, h2, h3⟩
      · exact .inl ih
      · exact .inr ⟨j, by omega, h2, h3⟩
theorem nearK_bound {xs : List Int} {F : Nat → Nat} {m n : Nat} (h : ∀ x, x ∈ xs → 0 ≤ x ∧ x < (n : Int)) : ∀ k, k ≤ xs.length → 0 ≤ nearK xs F m n k ∧ nearK xs F m n k ≤ (n : Int)
  | 0, _ => by unfold nearK; omega
  | k + 1, hk => by
    have := nearK_bound (F := F) (m := m) h k (by omega)
    have hm : xs.getD k 0 ∈ xs := by
      rw [List.getD_eq_getElem?_getD, List.getElem?_eq_getElem (by omega)]
      exact List.getElem_mem _
    have := h _ hm
    unfold nearK
    split <;> omega
/-- The next node of the way. -/
def nxtN (ds : List NDV) (F : Nat → Nat) (n i : Nat) : Nat := (nearK (tosN ds i) F (F i) n (tosN ds i).length).toNat
theorem getD_mem {xs : List Int} {j : Nat} (h : j < xs.length) : xs.getD j 0 ∈ xs := by
  rw [List.getD_eq_getElem?_getD, List.getElem?_eq_getElem h]
  exact List.getElem_mem _
theorem mem_getD {xs : List Int} {x : Int} (h : x ∈ xs) : ∃ j, j < xs.length ∧ xs.getD j 0 = x := (mem_takeZ (Nat.le_refl _) x).1 (by rw [List.take_length]; exact h)
/-- What the next node is. -/
theorem nxt_is {ds : List NDV} {n to i : Nat} {F : Nat → Nat} (hF : FarP ds n to F) (hw : WayP ds n) (hi : i < n) (h0 : F i ≠ 0) (h8 : F i < 8) :
    nearK (tosN ds i) F (F i) n (tosN ds i).length = ((nxtN ds F n i : Nat) : Int) ∧ nxtN ds F n i < n ∧ ((nxtN ds F n i : Nat) : Int) ∈ tosN ds i ∧ F (nxtN ds F n i) + 1 = F i ∧ ∀ x, x ∈ tosN ds i → F x.toNat < F i → ((nxtN ds F n i : Nat) : Int) ≤ x := by
  have hne : i ≠ to := fun e => h0 (by rw [e]; exact hF.zero)
  obtain ⟨x, hx, hx1⟩ := hF.next i hne h8
  obtain ⟨j, hj, hj1⟩ := mem_getD hx
  have hb := nearK_bound (F := F) (m := F i) (hw.2 i hi) (tosN ds i).length (Nat.le_refl _)
  have e : nearK (tosN ds i) F (F i) n (tosN ds i).length = ((nxtN ds F n i : Nat) : Int) := by unfold nxtN; omega
  have hl : ∀ x, x ∈ tosN ds i → F x.toNat < F i → ((nxtN ds F n i : Nat) : Int) ≤ x := fun y hy hlt => by
    obtain ⟨q, hq, hq1⟩ := mem_getD hy
    have := nearK_least (n := n) (tosN ds i).length q hq (by rw [hq1]; exact hlt)
    rw [hq1, e] at this
    exact this
  have hxn := hw.2 i hi x hx
  have h1 := hl x hx (by omega)
  rcases nearK_in (xs := tosN ds i) (F := F) (m := F i) (n := n) (tosN ds i).length with h | ⟨q, hq, hq2, hq3⟩
  · rw [e] at h; omega
  · rw [e] at hq3
    have hm : ((nxtN ds F n i : Nat) : Int) ∈ tosN ds i := by rw [hq3]; exact getD_mem hq
    have he := hF.edge i hi _ hm
    rw [Int.toNat_natCast] at he
    rw [← hq3, Int.toNat_natCast] at hq2
    exact ⟨e, by omega, hm, by omega, hl⟩
/-- The way: so many steps from one node on. -/
def wayK (ds : List NDV) (F : Nat → Nat) (n : Nat) : Nat → Nat → List Nat
  | 0, i => [i]
  | k + 1, i => i :: wayK ds F n k (nxtN ds F n i)
/-- The shortest way. -/
def wayL (ds : List NDV) (n to i : Nat) : List Nat := wayK ds (farN ds n to) n (farN ds n to i) i
theorem wayK_len {ds : List NDV} {F : Nat → Nat} {n : Nat} : ∀ k i, (wayK ds F n k i).length = k + 1
  | 0, _ => rfl
  | k + 1, i => by unfold wayK; rw [List.length_cons, wayK_len k]

set_option maxHeartbeats 1000000 in
theorem nearer_any (a : Option Addr) (q c : Nat) (xs : List Int) (al : Option Addr) (N cl : Nat) (L : List Int) (F : Nat → Nat) (m : Nat) (w : World) (h : IntzAt w a q xs) (hL : IntzAt w al N L) (hF : ∀ i, i < N → L.getD i 0 = ((F i : Nat) : Int)) (hx : ∀ x, x ∈ xs → 0 ≤ x ∧ x < (N : Int)) (hq : q ≤ 1048576) :
    Calls Try.prog 49 #[.slice a q c, .slice al N cl, .int .i64 (m : Int)] w fun e w' => e = .returned (.int .i64 (nearK xs F m N xs.length)) ∧ w' = w := by
  obtain rfl := h.1
  have H := hide h
  have HL := hide hL
  have HF := hide hF
  have HX := hide hx
  clear h hL hF hx
  go_enter Try.func49, Try.ntmps49
  go_wp2
  go_loop [7, 14] (fun s i => ∃ k : Nat, k ≤ xs.length ∧ i = .int .i64 k ∧ s = .int .i64 (nearK xs F m N k)) (fun _ i => xs.length - (intOf i).toNat)
  case atStart => exact ⟨0, Nat.zero_le _, rfl, rfl⟩
  case round =>
    obtain ⟨k, hk, rfl, rfl⟩ := hrel
    by_cases hlt : k < xs.length
    · have hlt' : (k : Int) < (xs.length : Int) := by omega
      obtain ⟨b, off, rfl, hc⟩ := (unhide H).at hlt
      have hck := hc k hlt
      have hxb := (unhide HX) _ (getD_mem hlt)
      obtain ⟨x, hx1⟩ : ∃ x : Nat, xs.getD k 0 = (x : Int) := ⟨(xs.getD k 0).toNat, by omega⟩
      have hxN : x < N := by omega
      have hxN' : (x : Int) < (N : Int) := by omega
      obtain ⟨b', off', rfl, hc'⟩ := (unhide HL).at hxN
      have hcx := hc' x hxN
      rw [(unhide HF) x hxN] at hcx
      have HS := hide (show nearK xs F m N (k + 1) = if F (xs.getD k 0).toNat < m then min (nearK xs F m N k) (xs.getD k 0) else nearK xs F m N k from rfl)
      have hmin := min_runZ (nearK xs F m N k) (x : Int)
      rw [hx1, Int.toNat_natCast] at HS
      rw [hx1] at hck
      clear hc hc' hxb hx1
      by_cases hm : F x < m
      · have hm' : ((F x : Nat) : Int) < (m : Int) := by omega
        have HS' := hide ((unhide HS).trans (if_pos hm))
        clear HS
        go_wp2
        go_round
        case rel => exact ⟨k + 1, hlt, by go_num, by rw [unhide HS']⟩
        case measure => simp [intOf]; omega
      · have hm' : ¬ ((F x : Nat) : Int) < (m : Int) := by omega
        have HS' := hide ((unhide HS).trans (if_neg hm))
        clear HS
        go_wp2
        go_round
        case rel => exact ⟨k + 1, hlt, by go_num, by rw [unhide HS']⟩
        case measure => simp [intOf]; omega
    · obtain rfl : k = xs.length := by omega
      go_wp2
      go_ret
      exact ⟨rfl, rfl⟩
end Go.Proofs.Ytljkmajajcocdaa
