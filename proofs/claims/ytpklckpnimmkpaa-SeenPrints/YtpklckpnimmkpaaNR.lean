/-
  Appending one byte or one word to a row of one's own; contracts of bucketlineref06.Put, PutVec: for every int, rows of at most 2^20 words.
-/
import Derived.Test.YtpklckpnimmkpaaNP
namespace Go.Proofs.Ytpklckpnimmkpaa
open Go.RowKit
set_option linter.unusedVariables false
set_option maxRecDepth 4000

/-- A slice of bytes of the call's own that can grow. -/
def OwnR (w : World) (B : Nat) (v : Value) (xs : List Nat) : Prop := bytes xs ∧ w.ownsRow B 5 1 v xs.length (cellsB xs)
theorem OwnR.nil (w : World) (B : Nat) : OwnR w B (.slice none 0 0) [] := ⟨bytes_nil, World.ownsRow_nil _ _ _ _⟩
theorem ownsRow_under {w w' : World} {B : Nat} {e : TypeId} {v : Value} {n : Nat} {cs : List Value} (h : w.ownsRow B e 1 v n cs) (hb : Below w.heap.size w w') : w'.ownsRow B e 1 v n cs := by
  refine ⟨h.1, ?_⟩
  rcases h.2 with h0 | ⟨g, cap, cur, h1, hg, hgg, r⟩
  · exact .inl h0
  · exact .inr ⟨g, cap, cur, h1, hg, (hb.block g (Array.getElem?_eq_some_iff.1 hgg).1).trans hgg, r⟩
theorem OwnR.slice {w : World} {B : Nat} {v : Value} {xs : List Nat} (h : OwnR w B v xs) : ∃ a c, v = .slice a xs.length c := by
  rcases h.2.2 with ⟨rfl, h0⟩ | ⟨g, cap, cur, rfl, _⟩
  · exact ⟨none, 0, by rw [h0]⟩
  · exact ⟨_, _, rfl⟩
theorem OwnR.toB {w : World} {B : Nat} {v : Value} {xs : List Nat} (h : OwnR w B v xs) : OwnB w B v xs := by
  obtain ⟨hs, ho⟩ := h
  have ho' := ho
  refine ⟨hs, ?_⟩
  rcases ho.2 with ⟨rfl, h0⟩ | ⟨g, cap, cur, rfl, hb, hg, hn, hm, hsz, ht⟩
  · exact .inl ⟨rfl, List.eq_nil_of_length_eq_zero h0⟩
  · refine .inr ⟨g, cap, rfl, hb, (Array.getElem?_eq_some_iff.1 hg).1, fun i hi => ?_, fun i _ => ho'.frozenAt i⟩
    rw [ho'.cellAt i (by omega), cellsB_get xs i hi]
theorem wpList_pushB {w : World} {ops : Array Oper} {rest : List Oper} {o : Oper} {act : Act} {Q : Exit → Act → World → Prop} (hgd : o.guard = none) (s x : Operand)
    (ho : o.op = .call { callee := .builtin .append, args := #[s, x], argTypes := #[72, 72] }) (B : Nat) (v : Value) (xs : List Nat) (y : Nat)
    (hs : act.eval s = v) (hx : act.eval x = .slice (some ⟨w.heap.size, 0, none⟩) 1 1) (h : OwnR w B v xs) (hB : B ≤ w.heap.size) (hn : xs.length ≤ 1073741824) (hy : y < 256) {c : Int} (hc : c = (y : Int))
    (hK : ∀ s' w', OwnR w' B s' (xs ++ [y]) → Below B w w' → wpList Try.prog ops Q rest (act.put o.dst s') w') : wpList Try.prog ops Q (o :: rest) act (w.alloc (.cells #[.int .u8 c] 5)) := by
  subst hc
  obtain ⟨i0, hi, hz0, hz1, hz2⟩ := info_parts info_u8
  have hb : Below w.heap.size w (w.alloc (.cells #[.int .u8 (y : Int)] 5)) := (Below.refl _ _).alloc (Nat.le_refl _) _
  have h1 := ownsRow_under h.2 hb
  refine wpList_append_own _ hgd s x 72 ho B 5 i0 (.int .u8 0) 1 1 Try.underlying72 hi hz0 hz1 hz2 rfl (by decide) v xs.length (cellsB xs) hs h1 ⟨w.heap.size, 0, none⟩ 1 1 [.int .u8 (y : Int)] hx rfl (fun j u hj => ?_)
    (fun u hu => by rw [List.mem_singleton.1 hu]; rfl) (by unfold maxLen; omega) (by omega) (Nat.le_trans hB hb.size) ?_
  · match j with
    | 0 =>
      have hc : (w.alloc (.cells #[.int .u8 (y : Int)] 5)).cell? ⟨w.heap.size, 0, none⟩ = some (.int .u8 (y : Int)) := by rw [World.cell?_alloc_at _ _ _ _ rfl]; rfl
      simpa [Addr.add, hc] using hj
    | j + 1 => simp at hj
  · intro v' w' hown hgrow _
    refine hK v' w' ⟨bytes_append h.1 (fun z hz => by rw [List.mem_singleton.1 hz]; exact hy), ?_⟩ ((hb.mono hB).grown hgrow (Nat.le_trans hB hb.size) fun k hk => (h1.lt k hk).1)
    rw [cellsB_snoc] at hown
    show w'.ownsRow B 5 1 v' (xs ++ [y]).length (cellsB (xs ++ [y]))
    rw [List.length_append]
    exact hown
theorem wpList_pushU {w : World} {ops : Array Oper} {rest : List Oper} {o : Oper} {act : Act} {Q : Exit → Act → World → Prop} (hgd : o.guard = none) (s x : Operand)
    (ho : o.op = .call { callee := .builtin .append, args := #[s, x], argTypes := #[22, 22] }) (B : Nat) (v : Value) (xs : List Nat) (y : Nat)
    (hs : act.eval s = v) (hx : act.eval x = .slice (some ⟨w.heap.size, 0, none⟩) 1 1) (h : Own w B v xs) (hB : B ≤ w.heap.size) (hn : xs.length ≤ 1048576) (hy : y < 18446744073709551616) {c : Int} (hc : c = (y : Int))
    (hK : ∀ s' w', Own w' B s' (xs ++ [y]) → Below B w w' → wpList Try.prog ops Q rest (act.put o.dst s') w') : wpList Try.prog ops Q (o :: rest) act (w.alloc (.cells #[.int .u64 c] 47)) := by
  subst hc
  obtain ⟨i0, hi, hz0, hz1, hz2⟩ := info_parts info_u64
  have hb : Below w.heap.size w (w.alloc (.cells #[.int .u64 (y : Int)] 47)) := (Below.refl _ _).alloc (Nat.le_refl _) _
  have h1 := ownsRow_under h.2 hb
  refine wpList_append_own _ hgd s x 22 ho B 47 i0 (.int .u64 0) 1 8 Try.underlying22 hi hz0 hz1 hz2 rfl (by decide) v xs.length (cellsU xs) hs h1 ⟨w.heap.size, 0, none⟩ 1 1 [.int .u64 (y : Int)] hx rfl (fun j u hj => ?_)
    (fun u hu => by rw [List.mem_singleton.1 hu]; rfl) (by unfold maxLen; omega) (by omega) (Nat.le_trans hB hb.size) ?_
  · match j with
    | 0 =>
      have hc : (w.alloc (.cells #[.int .u64 (y : Int)] 47)).cell? ⟨w.heap.size, 0, none⟩ = some (.int .u64 (y : Int)) := by rw [World.cell?_alloc_at _ _ _ _ rfl]; rfl
      simpa [Addr.add, hc] using hj
    | j + 1 => simp at hj
  · intro v' w' hown hgrow _
    refine hK v' w' ⟨fun z hz => ?_, ?_⟩ ((hb.mono hB).grown hgrow (Nat.le_trans hB hb.size) fun k hk => (h1.lt k hk).1)
    · rcases List.mem_append.1 hz with hz | hz
      · exact h.1 z hz
      · rw [List.mem_singleton.1 hz]; exact hy
    · rw [show cellsU xs ++ [.int .u64 (y : Int)] = cellsU (xs ++ [y]) by simp [cellsU]] at hown
      show w'.ownsRow B 47 1 v' (xs ++ [y]).length (cellsU (xs ++ [y]))
      rw [List.length_append]
      exact hown

theorem byte_int (n : Int) (d : Nat) (hd : d ≤ 3) : n / 2 ^ (8 * d) % 256 = ((m64 n / 256 ^ d % 256 : Nat) : Int) := by
  unfold m64
  match d, hd with
  | 0, _ => simp only [Nat.mul_zero, Int.pow_zero, Nat.pow_zero]; omega
  | 1, _ => simp only [show (2 : Int) ^ (8 * 1) = 256 from rfl, show 256 ^ 1 = 256 from rfl]; omega
  | 2, _ => simp only [show (2 : Int) ^ (8 * 2) = 65536 from rfl, show 256 ^ 2 = 65536 from rfl]; omega
  | 3, _ => simp only [show (2 : Int) ^ (8 * 3) = 16777216 from rfl, show 256 ^ 3 = 16777216 from rfl]; omega

set_option maxRecDepth 4000 in
set_option maxHeartbeats 1000000 in
theorem rput_any (n k : Int) (w : World) :
    Calls Try.prog 38 #[.int .i64 n, .int .i64 k] w fun e w' => e = .returned (.string (st (putL n k))) ∧ Below w.heap.size w w' := by
  by_cases h : isW k
  · rw [putL_yes h]
    have HK := hide (fun wx => rwidth_yes k h wx)
    obtain ⟨W, rfl, hW⟩ := isW_cases h
    rw [Int.toNat_natCast]
    have hW8 : W ≤ 4 := by omega
    have hW0 : 0 < W := by omega
    clear h hW
    go_enter Try.func38, Try.ntmps38
    go_wp2_with (go_at_call 47; refine (unhide HK _).mono ?_; rintro e w' ⟨rfl, hw⟩; obtain rfl := hw.symm)
    go_loopw [5, 6] (fun b i wr => ∃ (j : Nat) (a : Option Addr) (c : Nat), j ≤ W ∧ i = .int .i64 ((W : Int) - 1 - (j : Int)) ∧ b = .slice a j c ∧ Hid (OwnR wr w.heap.size (.slice a j c) ((be W (m64 n)).take j)) ∧ Hid (Below w.heap.size w wr)) (fun _ i _ => (intOf i + 1).toNat)
    case atStart => exact ⟨0, none, 0, Nat.zero_le _, by go_num, rfl, hide (OwnR.nil _ _), hide (Below.refl _ _)⟩
    case round =>
      obtain ⟨j, a, c, hj, rfl, rfl, HO, HB⟩ := hrel
      by_cases hlt : j < W
      · have hpos : (0 : Int) ≤ (W : Int) - 1 - (j : Int) := by omega
        have HBY := hide (byte_int n (W - 1 - j) (by omega))
        have HS := hide (be_take W (m64 n) j hlt)
        have hy : m64 n / 256 ^ (W - 1 - j) % 256 < 256 := Nat.mod_lt _ (by decide)
        have HL := hide (show ((be W (m64 n)).take j).length = j by rw [List.length_take, be_length]; omega)
        generalize m64 n / 256 ^ (W - 1 - j) % 256 = y at *
        obtain ⟨p, hp⟩ : ∃ p, (be W (m64 n)).take j = p := ⟨_, rfl⟩
        have HP := hide hp
        rw [hp] at HO HL HS
        clear hp
        go_wp2_with (first | (at_builtin; refine wpList_pushB rfl _ _ rfl w.heap.size _ p y rfl rfl (unhide HO) (unhide HB).size (by have := unhide HL; omega) hy (unhide HBY) ?_))
        intro s' w' hO' hB'
        obtain ⟨a', c', rfl⟩ := hO'.slice
        have HL' := hide (show (p ++ [y]).length = j + 1 by rw [List.length_append, unhide HL]; rfl)
        rw [unhide HL'] at hO'
        rw [unhide HL']
        have HO' := hide hO'
        have HB' := hide hB'
        clear hO' hB' HBY HO
        go_wp2
        go_roundw
        case rel => exact ⟨j + 1, a', c', by omega, by go_num, rfl, by rw [unhide HS]; exact HO', hide ((unhide HB).trans (unhide HB'))⟩
        case measure => simp [intOf]; omega
      · have hje : j = W := by omega
        subst hje
        rw [List.take_of_length_le (by rw [be_length]; exact Nat.le_refl _)] at HO
        have ht := (unhide HO).toB.text
        go_wp2
        go_ret
        exact ⟨rfl, unhide HB⟩
  · rw [putL_no h, st_nil]
    have HK := hide (fun wx => rwidth_no k h wx)
    clear h
    go_enter Try.func38, Try.ntmps38
    go_wp2_with (go_at_call 47; refine (unhide HK _).mono ?_; rintro e w' ⟨rfl, rfl⟩)
    go_ret
    exact ⟨rfl, Below.refl _ _⟩

set_option maxHeartbeats 2000000 in
theorem rputvec_any (a : Option Addr) (n c : Nat) (xs : List Nat) (w : World) (h : RowAt w a n xs) (hn : n ≤ 1048576) :
    Calls Try.prog 39 #[.slice a n c] w fun e w' => e = .returned (.string (st (beV xs))) ∧ Below w.heap.size w w' := by
  obtain rfl : n = xs.length := h.1.symm
  go_enter Try.func39, Try.ntmps39
  go_wp2
  go_loopw [3, 4] (fun b i wr => ∃ (k : Nat) (p : List Nat) (a : Option Addr) (c : Nat), k ≤ xs.length ∧ i = .int .i64 k ∧ b = .slice a p.length c ∧ Hid (p = beV (xs.take k)) ∧ Hid (OwnR wr w.heap.size (.slice a p.length c) p) ∧ Hid (Below w.heap.size w wr)) (fun _ i _ => xs.length - (intOf i).toNat)
  case atStart => exact ⟨0, [], none, 0, Nat.zero_le _, rfl, rfl, hide (by simp [beV]), hide (OwnR.nil _ _), hide (Below.refl _ _)⟩
  case round =>
    obtain ⟨k, p, a1, c1, hk, rfl, rfl, HP, HO, HB⟩ := hrel
    by_cases hlt : k < xs.length
    · have hpl : p.length ≤ 8388608 := by
        rw [unhide HP, beV_length, List.length_take]
        omega
      have HT := hide (beW_take 8 hlt)
      have hx := h.2.1.get k
      have hR := h
      obtain ⟨x, hxe⟩ : ∃ x, xs.getD k 0 = x := ⟨_, rfl⟩
      have HX := hide hxe
      rw [hxe] at HT hx
      clear hxe
      go_wp2
      go_loopw [3, 5] (fun b i wq => ∃ (j : Nat) (q : List Nat) (a : Option Addr) (c : Nat), j ≤ 8 ∧ i = .int .i64 (7 - (j : Int)) ∧ b = .slice a q.length c ∧ Hid (q = p ++ (be 8 x).take j) ∧ Hid (OwnR wq w.heap.size (.slice a q.length c) q) ∧ Hid (Below w.heap.size w wq)) (fun _ i _ => (intOf i + 1).toNat)
      case atStart => exact ⟨0, p, a1, c1, Nat.zero_le _, by go_num, rfl, hide (by simp), HO, HB⟩
      case round =>
        obtain ⟨j, q, a2, c2, hj, rfl, rfl, HQ, HO2, HB2⟩ := hrel
        by_cases hjt : j < 8
        · have hpos : (0 : Int) ≤ 7 - (j : Int) := by omega
          obtain ⟨b, off, hab, hc⟩ := (hR.below (unhide HB2)).at hlt
          subst hab
          have hcell := hc k hlt
          rw [unhide HX] at hcell
          have HBY := hide (byte_at x (7 - j))
          have HS := hide (be_take 8 x j hjt)
          have hy : x / 256 ^ (7 - j) % 256 < 256 := Nat.mod_lt _ (by decide)
          rw [show 8 - 1 - j = 7 - j by omega] at HS
          generalize x / 256 ^ (7 - j) % 256 = y at *
          have hql : q.length ≤ 8388616 := by
            rw [unhide HQ, List.length_append, List.length_take, be_length]
            omega
          have HQ2 := hide (show q ++ [y] = p ++ (be 8 x).take (j + 1) by rw [unhide HS, ← List.append_assoc, ← unhide HQ])
          clear hc HO HB HT hR h HX
          go_wp2_with (first | (at_builtin; refine wpList_pushB rfl _ _ rfl w.heap.size _ q y rfl rfl (unhide HO2) (unhide HB2).size (by omega) hy (unhide HBY) ?_))
          intro s' w' hO' hB'
          obtain ⟨a', c', rfl⟩ := hO'.slice
          obtain ⟨r, hr⟩ : ∃ r, q ++ [y] = r := ⟨_, rfl⟩
          rw [hr] at hO' HQ2
          rw [hr]
          have HO' := hide hO'
          have HB' := hide hB'
          clear hO' hB' HBY HO2 hr
          go_wp2
          go_roundw
          case rel => exact ⟨j + 1, r, a', c', by omega, by go_num, rfl, HQ2, HO', hide ((unhide HB2).trans (unhide HB'))⟩
          case measure => simp [intOf]; omega
        · have hje : j = 8 := by omega
          subst hje
          have HQ3 := hide (show q = beV (xs.take (k + 1)) by
            rw [unhide HQ, List.take_of_length_le (by rw [be_length]; exact Nat.le_refl _), unhide HP]
            exact (unhide HT).symm)
          clear HQ HP HT HO HB h hR HX
          go_wp2
          go_roundw
          case rel => exact ⟨k + 1, q, a2, c2, by omega, by go_num, rfl, HQ3, HO2, HB2⟩
          case measure => simp [intOf]; omega
    · have hke : k = xs.length := by omega
      subst hke
      rw [List.take_length] at HP
      have ht := (unhide HO).toB.text
      go_wp2
      go_ret
      exact ⟨ret_str (by rw [unhide HP]), unhide HB⟩
end Go.Proofs.Ytpklckpnimmkpaa
