/-
  Contracts of nums.join, Put, PutVec: for every int, rows of at most 2^20 words.
  Appending one byte or one word to a row of one's own; contracts of bucketlineref06.Put, PutVec: for every int, rows of at most 2^20 words.
  Contracts of nums.GetVec and bucketlineref06.GetVec: for every text and every int.
  Plain mathematics of packets: their bytes (encL), what bytes are read as (DecP): there and back, cut, with more behind. No condition.
-/
import Derived.Test.YtpklckpnimmkpaaNC
import Derived.Test.YtpklckpnimmkpaaBld
import Derived.Test.YtpklckpnimmkpaaUA
import Derived.Test.YtpklckpnimmkpaaPC
namespace Go.Proofs.Ytpklckpnimmkpaa
open Go.RowKit
set_option linter.unusedVariables false
set_option maxRecDepth 4000

theorem byte_at (x d : Nat) : (x : Int) / 2 ^ (8 * d) % 256 = ((x / 256 ^ d % 256 : Nat) : Int) := by
  rw [show (2 : Int) ^ (8 * d) = ((256 ^ d : Nat) : Int) by rw [Int.pow_mul]; simp]
  simp

set_option maxHeartbeats 2000000 in
theorem join_any (W : Nat) (hW0 : 0 < W) (hW : W ≤ 8) (a : Option Addr) (n c : Nat) (xs : List Nat) (w : World) (h : RowAt w a n xs) (hn : n ≤ 1048576) :
    Calls Try.prog 46 #[.int .i64 (W : Int), .slice a n c] w fun e w' => e = .returned (.string (st (xs.flatMap (be W)))) ∧ Below w.heap.size w w' := by
  obtain rfl : n = xs.length := h.1.symm
  have hmul : (W : Int) * (xs.length : Int) = ((W * xs.length : Nat) : Int) := by simp
  have hm2 : W * xs.length ≤ 8388608 := Nat.le_trans (Nat.mul_le_mul hW hn) (by decide)
  have HG := hide (bgrow_new w.heap.size w.heap.size (W * xs.length) (w.alloc (.cells #[.pointer none, .slice none 0 0] 77)) (Nat.le_refl _) (heap_alloc_new w _) (by simp) (by omega))
  have hb0 : Below w.heap.size w (w.alloc (.cells #[.pointer none, .slice none 0 0] 77)) := (Below.refl _ _).alloc (Nat.le_refl _) _
  generalize W * xs.length = m at *
  go_enter Try.func46, Try.ntmps46
  go_wp2_with (go_at_call 51; refine (unhide HG).mono ?_; rintro e w1 ⟨rfl, hB1, hb1⟩)
  have hB := hb0.trans hb1
  have HB0 := hide hB1
  have HBB := hide hB
  clear hb0 hb1 hB1 hB HG hm2 hmul
  go_loopw [16] (fun i wr => ∃ k : Nat, k ≤ xs.length ∧ i = .int .i64 k ∧ Hid (Bld wr w.heap.size w.heap.size ((xs.take k).flatMap (be W))) ∧ Hid (Below w.heap.size w wr)) (fun i _ => xs.length - (intOf i).toNat)
  case atStart => exact ⟨0, Nat.zero_le _, rfl, hide (by simpa using unhide HB0), HBB⟩
  case round =>
    obtain ⟨k, hk, rfl, HO, HB⟩ := hrel
    clear HB0 HBB
    by_cases hlt : k < xs.length
    · obtain ⟨b, off, rfl, hc⟩ := (h.below (unhide HB)).at hlt
      have hcell := hc k hlt
      have hx := h.2.1.get k
      have HT := hide (beW_take W hlt)
      have hpl : ((xs.take k).flatMap (be W)).length ≤ 8388608 := by
        rw [beW_length, List.length_take]
        exact Nat.le_trans (Nat.mul_le_mul (show min k xs.length ≤ 1048576 by omega) hW) (by decide)
      generalize xs.getD k 0 = x at *
      generalize (xs.take k).flatMap (be W) = pre at *
      clear hc
      go_wp2
      go_loopw [21] (fun i wq => ∃ j : Nat, j ≤ W ∧ i = .int .i64 j ∧ Hid (Bld wq w.heap.size w.heap.size (pre ++ (be W x).take j)) ∧ Hid (Below w.heap.size w wq)) (fun i _ => W - (intOf i).toNat)
      case atStart => exact ⟨0, Nat.zero_le _, rfl, hide (by simpa using unhide HO), HB⟩
      case round =>
        obtain ⟨j, hj, rfl, HO, HB⟩ := hrel
        by_cases hjt : j < W
        · have hby := byte_at x (W - 1 - j)
          have HS := hide (be_take W x j hjt)
          have hy : x / 256 ^ (W - 1 - j) % 256 < 256 := Nat.mod_lt _ (by decide)
          generalize x / 256 ^ (W - 1 - j) % 256 = y at *
          have hle : (pre ++ (be W x).take j).length ≤ 1073741824 := by
            rw [List.length_append]
            have := List.length_take_le j (be W x)
            omega
          have HC := hide (bbyte_any w.heap.size w.heap.size _ y _ (unhide HO) hy hle (unhide HB).size)
          clear hle
          go_wp2_with (go_at_call 52; refine (unhide HC).mono ?_; rintro e w' ⟨rfl, hO', hB'⟩)
          rw [List.append_assoc, ← unhide HS] at hO'
          go_roundw
          case rel => exact ⟨j + 1, by omega, by go_num, hide hO', hide ((unhide HB).trans hB')⟩
          case measure => simp [intOf]; omega
        · have hje : j = W := by omega
          subst hje
          rw [List.take_of_length_le (by rw [be_length]; exact Nat.le_refl _), ← unhide HT] at HO
          go_wp2
          go_roundw
          case rel => exact ⟨k + 1, by omega, by go_num, HO, HB⟩
          case measure => simp [intOf]; omega
    · have hke : k = xs.length := by omega
      subst hke
      rw [List.take_length] at HO
      have HC := hide (bstr_any w.heap.size w.heap.size _ _ (unhide HO) (unhide HB).size)
      go_wp2_with (go_at_call 53; refine (unhide HC).mono ?_; rintro e w' ⟨rfl, hB'⟩)
      go_ret
      exact ⟨rfl, (unhide HB).trans hB'⟩

/-- An int's bits as a number. -/
def m64 (n : Int) : Nat := (n % 18446744073709551616).toNat
theorem m64_lt (n : Int) : m64 n < 18446744073709551616 := by unfold m64; omega
theorem m64_wrap (n : Int) : IntKind.u64.wrap n = ((m64 n : Nat) : Int) := by rw [IntKind.wrap_u64]; unfold m64; omega
/-- An int's bytes, as many as k tells; none of another width. -/
def putL (n k : Int) : List Nat := if k = 1 ∨ k = 2 ∨ k = 4 then be k.toNat (m64 n) else []
theorem putL_yes {n : Int} {k : Int} (h : isW k) : putL n k = be k.toNat (m64 n) := if_pos h
theorem putL_no {n : Int} {k : Int} (h : ¬ isW k) : putL n k = [] := if_neg h
theorem putL_bytes (n k : Int) : bytes (putL n k) := by
  unfold putL
  split
  · exact be_bytes _ _
  · exact bytes_nil
theorem st_nil : st [] = ⟨#[]⟩ := rfl

set_option maxHeartbeats 1000000 in
theorem put_any (n k : Int) (w : World) :
    Calls Try.prog 35 #[.int .i64 n, .int .i64 k] w fun e w' => e = .returned (.string (st (putL n k))) ∧ Below w.heap.size w w' := by
  by_cases h : isW k
  · rw [putL_yes h]
    have HK := hide (fun wx => known_yes k h wx)
    obtain ⟨W, rfl, hW⟩ := isW_cases h
    have hwr := m64_wrap n
    have hlt := m64_lt n
    rw [Int.toNat_natCast]
    generalize m64 n = m at *
    have HJ := hide (join_any W (by omega) (by omega) _ 1 1 [m] _ (row_new1 w m hlt) (by omega))
    clear h hW hlt
    go_enter Try.func35, Try.ntmps35
    go_wp2_with (first | (go_at_call 45; refine (unhide HK _).mono ?_; rintro e w' ⟨rfl, rfl⟩) | (go_at_call 46; refine (unhide HJ).mono ?_; rintro e w' ⟨rfl, hb⟩))
    go_ret
    exact ⟨rfl, below1 (Below.refl _ _) hb⟩
  · rw [putL_no h, st_nil]
    have HK := hide (fun wx => known_no k h wx)
    clear h
    go_enter Try.func35, Try.ntmps35
    go_wp2_with (go_at_call 45; refine (unhide HK _).mono ?_; rintro e w' ⟨rfl, rfl⟩)
    go_ret
    exact ⟨rfl, Below.refl _ _⟩

set_option maxHeartbeats 400000 in
theorem putvec_any (a : Option Addr) (n c : Nat) (xs : List Nat) (w : World) (h : RowAt w a n xs) (hn : n ≤ 1048576) :
    Calls Try.prog 36 #[.slice a n c] w fun e w' => e = .returned (.string (st (beV xs))) ∧ Below w.heap.size w w' := by
  have HJ := hide (join_any 8 (by omega) (by omega) a n c xs w h hn)
  clear h hn
  go_enter Try.func36, Try.ntmps36
  go_wp2_with (go_at_call 46; refine (unhide HJ).mono ?_; rintro e w' ⟨rfl, hb⟩)
  go_ret
  exact ⟨rfl, hb⟩
end Go.Proofs.Ytpklckpnimmkpaa
namespace Go.Proofs.Ytpklckpnimmkpaa
open Go.RowKit
set_option linter.unusedVariables false
set_option maxRecDepth 4000

/-- A slice of bytes of the call's own that can grow. -/
def OwnR (w : World) (B : Nat) (v : Value) (xs : List Nat) : Prop := bytes xs ∧ w.ownsRow B 5 1 v xs.length (cellsB xs)
theorem OwnR.nil (w : World) (B : Nat) : OwnR w B (.slice none 0 0) [] := ⟨bytes_nil, World.ownsRow_nil _ _ _ _⟩
theorem ownsRow_under {w w' : World} {B : Nat} {e : TypeId} {v : Value} {n : Nat} {cs : List Value} (h : w.ownsRow B e 1 v n cs) (hb : Below w.heap.size w w') : w'.ownsRow B e 1 v n cs := by
  refine ⟨h.1, ?_⟩
  rcases h.2 with h0 | ⟨g, cap, cur, h1, hg, hgg, r⟩
  · exact .inl h0
  · exact .inr ⟨g, cap, cur, h1, hg, (hb.block g (Array.getElem?_eq_some_iff.1 hgg).1).trans hgg, r⟩
theorem OwnR.slice {w : World} {B : Nat} {v : Value} {xs : List Nat} (h : OwnR w B v xs) : ∃ a c, v = .slice a xs.length c := by
  rcases h.2.2 with ⟨rfl, h0⟩ | ⟨g, cap, cur, rfl, _⟩
  · exact ⟨none, 0, by rw [h0]⟩
  · exact ⟨_, _, rfl⟩
theorem OwnR.toB {w : World} {B : Nat} {v : Value} {xs : List Nat} (h : OwnR w B v xs) : OwnB w B v xs := by
  obtain ⟨hs, ho⟩ := h
  have ho' := ho
  refine ⟨hs, ?_⟩
  rcases ho.2 with ⟨rfl, h0⟩ | ⟨g, cap, cur, rfl, hb, hg, hn, hm, hsz, ht⟩
  · exact .inl ⟨rfl, List.eq_nil_of_length_eq_zero h0⟩
  · refine .inr ⟨g, cap, rfl, hb, (Array.getElem?_eq_some_iff.1 hg).1, fun i hi => ?_, fun i _ => ho'.frozenAt i⟩
    rw [ho'.cellAt i (by omega), cellsB_get xs i hi]
theorem wpList_pushB {w : World} {ops : Array Oper} {rest : List Oper} {o : Oper} {act : Act} {Q : Exit → Act → World → Prop} (hgd : o.guard = none) (s x : Operand)
    (ho : o.op = .call { callee := .builtin .append, args := #[s, x], argTypes := #[72, 72] }) (B : Nat) (v : Value) (xs : List Nat) (y : Nat)
    (hs : act.eval s = v) (hx : act.eval x = .slice (some ⟨w.heap.size, 0, none⟩) 1 1) (h : OwnR w B v xs) (hB : B ≤ w.heap.size) (hn : xs.length ≤ 1073741824) (hy : y < 256) {c : Int} (hc : c = (y : Int))
    (hK : ∀ s' w', OwnR w' B s' (xs ++ [y]) → Below B w w' → wpList Try.prog ops Q rest (act.put o.dst s') w') : wpList Try.prog ops Q (o :: rest) act (w.alloc (.cells #[.int .u8 c] 5)) := by
  subst hc
  obtain ⟨i0, hi, hz0, hz1, hz2⟩ := info_parts info_u8
  have hb : Below w.heap.size w (w.alloc (.cells #[.int .u8 (y : Int)] 5)) := (Below.refl _ _).alloc (Nat.le_refl _) _
  have h1 := ownsRow_under h.2 hb
  refine wpList_append_own _ hgd s x 72 ho B 5 i0 (.int .u8 0) 1 1 Try.underlying72 hi hz0 hz1 hz2 rfl (by decide) v xs.length (cellsB xs) hs h1 ⟨w.heap.size, 0, none⟩ 1 1 [.int .u8 (y : Int)] hx rfl (fun j u hj => ?_)
    (fun u hu => by rw [List.mem_singleton.1 hu]; rfl) (by unfold maxLen; omega) (by omega) (Nat.le_trans hB hb.size) ?_
  · match j with
    | 0 =>
      have hc : (w.alloc (.cells #[.int .u8 (y : Int)] 5)).cell? ⟨w.heap.size, 0, none⟩ = some (.int .u8 (y : Int)) := by rw [World.cell?_alloc_at _ _ _ _ rfl]; rfl
      simpa [Addr.add, hc] using hj
    | j + 1 => simp at hj
  · intro v' w' hown hgrow _
    refine hK v' w' ⟨bytes_append h.1 (fun z hz => by rw [List.mem_singleton.1 hz]; exact hy), ?_⟩ ((hb.mono hB).grown hgrow (Nat.le_trans hB hb.size) fun k hk => (h1.lt k hk).1)
    rw [cellsB_snoc] at hown
    show w'.ownsRow B 5 1 v' (xs ++ [y]).length (cellsB (xs ++ [y]))
    rw [List.length_append]
    exact hown
theorem wpList_pushU {w : World} {ops : Array Oper} {rest : List Oper} {o : Oper} {act : Act} {Q : Exit → Act → World → Prop} (hgd : o.guard = none) (s x : Operand)
    (ho : o.op = .call { callee := .builtin .append, args := #[s, x], argTypes := #[22, 22] }) (B : Nat) (v : Value) (xs : List Nat) (y : Nat)
    (hs : act.eval s = v) (hx : act.eval x = .slice (some ⟨w.heap.size, 0, none⟩) 1 1) (h : Own w B v xs) (hB : B ≤ w.heap.size) (hn : xs.length ≤ 1048576) (hy : y < 18446744073709551616) {c : Int} (hc : c = (y : Int))
    (hK : ∀ s' w', Own w' B s' (xs ++ [y]) → Below B w w' → wpList Try.prog ops Q rest (act.put o.dst s') w') : wpList Try.prog ops Q (o :: rest) act (w.alloc (.cells #[.int .u64 c] 47)) := by
  subst hc
  obtain ⟨i0, hi, hz0, hz1, hz2⟩ := info_parts info_u64
  have hb : Below w.heap.size w (w.alloc (.cells #[.int .u64 (y : Int)] 47)) := (Below.refl _ _).alloc (Nat.le_refl _) _
  have h1 := ownsRow_under h.2 hb
  refine wpList_append_own _ hgd s x 22 ho B 47 i0 (.int .u64 0) 1 8 Try.underlying22 hi hz0 hz1 hz2 rfl (by decide) v xs.length (cellsU xs) hs h1 ⟨w.heap.size, 0, none⟩ 1 1 [.int .u64 (y : Int)] hx rfl (fun j u hj => ?_)
    (fun u hu => by rw [List.mem_singleton.1 hu]; rfl) (by unfold maxLen; omega) (by omega) (Nat.le_trans hB hb.size) ?_
  · match j with
    | 0 =>
      have hc : (w.alloc (.cells #[.int .u64 (y : Int)] 47)).cell? ⟨w.heap.size, 0, none⟩ = some (.int .u64 (y : Int)) := by rw [World.cell?_alloc_at _ _ _ _ rfl]; rfl
      simpa [Addr.add, hc] using hj
    | j + 1 => simp at hj
  · intro v' w' hown hgrow _
    refine hK v' w' ⟨fun z hz => ?_, ?_⟩ ((hb.mono hB).grown hgrow (Nat.le_trans hB hb.size) fun k hk => (h1.lt k hk).1)
    · rcases List.mem_append.1 hz with hz | hz
      · exact h.1 z hz
      · rw [List.mem_singleton.1 hz]; exact hy
    · rw [show cellsU xs ++ [.int .u64 (y : Int)] = cellsU (xs ++ [y]) by simp [cellsU]] at hown
      show w'.ownsRow B 47 1 v' (xs ++ [y]).length (cellsU (xs ++ [y]))
      rw [List.length_append]
      exact hown

theorem byte_int (n : Int) (d : Nat) (hd : d ≤ 3) : n / 2 ^ (8 * d) % 256 = ((m64 n / 256 ^ d % 256 : Nat) : Int) := by
  unfold m64
  match d, hd with
  | 0, _ => simp only [Nat.mul_zero, Int.pow_zero, Nat.pow_zero]; omega
  | 1, _ => simp only [show (2 : Int) ^ (8 * 1) = 256 from rfl, show 256 ^ 1 = 256 from rfl]; omega
  | 2, _ => simp only [show (2 : Int) ^ (8 * 2) = 65536 from rfl, show 256 ^ 2 = 65536 from rfl]; omega
  | 3, _ => simp only [show (2 : Int) ^ (8 * 3) = 16777216 from rfl, show 256 ^ 3 = 16777216 from rfl]; omega

set_option maxRecDepth 4000 in
set_option maxHeartbeats 1000000 in
theorem rput_any (n k : Int) (w : World) :
    Calls Try.prog 38 #[.int .i64 n, .int .i64 k] w fun e w' => e = .returned (.string (st (putL n k))) ∧ Below w.heap.size w w' := by
  by_cases h : isW k
  · rw [putL_yes h]
    have HK := hide (fun wx => rwidth_yes k h wx)
    obtain ⟨W, rfl, hW⟩ := isW_cases h
    rw [Int.toNat_natCast]
    have hW8 : W ≤ 4 := by omega
    have hW0 : 0 < W := by omega
    clear h hW
    go_enter Try.func38, Try.ntmps38
    go_wp2_with (go_at_call 47; refine (unhide HK _).mono ?_; rintro e w' ⟨rfl, hw⟩; obtain rfl := hw.symm)
    go_loopw [5, 6] (fun b i wr => ∃ (j : Nat) (a : Option Addr) (c : Nat), j ≤ W ∧ i = .int .i64 ((W : Int) - 1 - (j : Int)) ∧ b = .slice a j c ∧ Hid (OwnR wr w.heap.size (.slice a j c) ((be W (m64 n)).take j)) ∧ Hid (Below w.heap.size w wr)) (fun _ i _ => (intOf i + 1).toNat)
    case atStart => exact ⟨0, none, 0, Nat.zero_le _, by go_num, rfl, hide (OwnR.nil _ _), hide (Below.refl _ _)⟩
    case round =>
      obtain ⟨j, a, c, hj, rfl, rfl, HO, HB⟩ := hrel
      by_cases hlt : j < W
      · have hpos : (0 : Int) ≤ (W : Int) - 1 - (j : Int) := by omega
        have HBY := hide (byte_int n (W - 1 - j) (by omega))
        have HS := hide (be_take W (m64 n) j hlt)
        have hy : m64 n / 256 ^ (W - 1 - j) % 256 < 256 := Nat.mod_lt _ (by decide)
        have HL := hide (show ((be W (m64 n)).take j).length = j by rw [List.length_take, be_length]; omega)
        generalize m64 n / 256 ^ (W - 1 - j) % 256 = y at *
        obtain ⟨p, hp⟩ : ∃ p, (be W (m64 n)).take j = p := ⟨_, rfl⟩
        have HP := hide hp
        rw [hp] at HO HL HS
        clear hp
        go_wp2_with (first | (at_builtin; refine wpList_pushB rfl _ _ rfl w.heap.size _ p y rfl rfl (unhide HO) (unhide HB).size (by have := unhide HL; omega) hy (unhide HBY) ?_))
        intro s' w' hO' hB'
        obtain ⟨a', c', rfl⟩ := hO'.slice
        have HL' := hide (show (p ++ [y]).length = j + 1 by rw [List.length_append, unhide HL]; rfl)
        rw [unhide HL'] at hO'
        rw [unhide HL']
        have HO' := hide hO'
        have HB' := hide hB'
        clear hO' hB' HBY HO
        go_wp2
        go_roundw
        case rel => exact ⟨j + 1, a', c', by omega, by go_num, rfl, by rw [unhide HS]; exact HO', hide ((unhide HB).trans (unhide HB'))⟩
        case measure => simp [intOf]; omega
      · have hje : j = W := by omega
        subst hje
        rw [List.take_of_length_le (by rw [be_length]; exact Nat.le_refl _)] at HO
        have ht := (unhide HO).toB.text
        go_wp2
        go_ret
        exact ⟨rfl, unhide HB⟩
  · rw [putL_no h, st_nil]
    have HK := hide (fun wx => rwidth_no k h wx)
    clear h
    go_enter Try.func38, Try.ntmps38
    go_wp2_with (go_at_call 47; refine (unhide HK _).mono ?_; rintro e w' ⟨rfl, rfl⟩)
    go_ret
    exact ⟨rfl, Below.refl _ _⟩

set_option maxHeartbeats 2000000 in
theorem rputvec_any (a : Option Addr) (n c : Nat) (xs : List Nat) (w : World) (h : RowAt w a n xs) (hn : n ≤ 1048576) :
    Calls Try.prog 39 #[.slice a n c] w fun e w' => e = .returned (.string (st (beV xs))) ∧ Below w.heap.size w w' := by
  obtain rfl : n = xs.length := h.1.symm
  go_enter Try.func39, Try.ntmps39
  go_wp2
  go_loopw [3, 4] (fun b i wr => ∃ (k : Nat) (p : List Nat) (a : Option Addr) (c : Nat), k ≤ xs.length ∧ i = .int .i64 k ∧ b = .slice a p.length c ∧ Hid (p = beV (xs.take k)) ∧ Hid (OwnR wr w.heap.size (.slice a p.length c) p) ∧ Hid (Below w.heap.size w wr)) (fun _ i _ => xs.length - (intOf i).toNat)
  case atStart => exact ⟨0, [], none, 0, Nat.zero_le _, rfl, rfl, hide (by simp [beV]), hide (OwnR.nil _ _), hide (Below.refl _ _)⟩
  case round =>
    obtain ⟨k, p, a1, c1, hk, rfl, rfl, HP, HO, HB⟩ := hrel
    by_cases hlt : k < xs.length
    · have hpl : p.length ≤ 8388608 := by
        rw [unhide HP, beV_length, List.length_take]
        omega
      have HT := hide (beW_take 8 hlt)
      have hx := h.2.1.get k
      have hR := h
      obtain ⟨x, hxe⟩ : ∃ x, xs.getD k 0 = x := ⟨_, rfl⟩
      have HX := hide hxe
      rw [hxe] at HT hx
      clear hxe
      go_wp2
      go_loopw [3, 5] (fun b i wq => ∃ (j : Nat) (q : List Nat) (a : Option Addr) (c : Nat), j ≤ 8 ∧ i = .int .i64 (7 - (j : Int)) ∧ b = .slice a q.length c ∧ Hid (q = p ++ (be 8 x).take j) ∧ Hid (OwnR wq w.heap.size (.slice a q.length c) q) ∧ Hid (Below w.heap.size w wq)) (fun _ i _ => (intOf i + 1).toNat)
      case atStart => exact ⟨0, p, a1, c1, Nat.zero_le _, by go_num, rfl, hide (by simp), HO, HB⟩
      case round =>
        obtain ⟨j, q, a2, c2, hj, rfl, rfl, HQ, HO2, HB2⟩ := hrel
        by_cases hjt : j < 8
        · have hpos : (0 : Int) ≤ 7 - (j : Int) := by omega
          obtain ⟨b, off, hab, hc⟩ := (hR.below (unhide HB2)).at hlt
          subst hab
          have hcell := hc k hlt
          rw [unhide HX] at hcell
          have HBY := hide (byte_at x (7 - j))
          have HS := hide (be_take 8 x j hjt)
          have hy : x / 256 ^ (7 - j) % 256 < 256 := Nat.mod_lt _ (by decide)
          rw [show 8 - 1 - j = 7 - j by omega] at HS
          generalize x / 256 ^ (7 - j) % 256 = y at *
          have hql : q.length ≤ 8388616 := by
            rw [unhide HQ, List.length_append, List.length_take, be_length]
            omega
          have HQ2 := hide (show q ++ [y] = p ++ (be 8 x).take (j + 1) by rw [unhide HS, ← List.append_assoc, ← unhide HQ])
          clear hc HO HB HT hR h HX
          go_wp2_with (first | (at_builtin; refine wpList_pushB rfl _ _ rfl w.heap.size _ q y rfl rfl (unhide HO2) (unhide HB2).size (by omega) hy (unhide HBY) ?_))
          intro s' w' hO' hB'
          obtain ⟨a', c', rfl⟩ := hO'.slice
          obtain ⟨r, hr⟩ : ∃ r, q ++ [y] = r := ⟨_, rfl⟩
          rw [hr] at hO' HQ2
          rw [hr]
          have HO' := hide hO'
          have HB' := hide hB'
          clear hO' hB' HBY HO2 hr
          go_wp2
          go_roundw
          case rel => exact ⟨j + 1, r, a', c', by omega, by go_num, rfl, HQ2, HO', hide ((unhide HB2).trans (unhide HB'))⟩
          case measure => simp [intOf]; omega
        · have hje : j = 8 := by omega
          subst hje
          have HQ3 := hide (show q = beV (xs.take (k + 1)) by
            rw [unhide HQ, List.take_of_length_le (by rw [be_length]; exact Nat.le_refl _), unhide HP]
            exact (unhide HT).symm)
          clear HQ HP HT HO HB h hR HX
          go_wp2
          go_roundw
          case rel => exact ⟨k + 1, q, a2, c2, by omega, by go_num, rfl, HQ3, HO2, HB2⟩
          case measure => simp [intOf]; omega
    · have hke : k = xs.length := by omega
      subst hke
      rw [List.take_length] at HP
      have ht := (unhide HO).toB.text
      go_wp2
      go_ret
      exact ⟨ret_str (by rw [unhide HP]), unhide HB⟩
end Go.Proofs.Ytpklckpnimmkpaa
namespace Go.Proofs.Ytpklckpnimmkpaa
open Go.RowKit
set_option linter.unusedVariables false
set_option maxRecDepth 4000

/-- What is got of a text: a row, or the error. -/
def GotP (s : ByteArray) (k : Int) (xs : List Nat) (e : Nat) : Prop :=
  (sizeOfK k = 0 ∧ e = 1 ∧ xs = []) ∨ (0 < sizeOfK k ∧ s.size < 8 * sizeOfK k ∧ e = 2 ∧ xs = []) ∨
  (0 < sizeOfK k ∧ 8 * sizeOfK k ≤ s.size ∧ ¬ ValidP k (wsL (tx s) (sizeOfK k)) ∧ e = 3 ∧ xs = []) ∨ (0 < sizeOfK k ∧ 8 * sizeOfK k ≤ s.size ∧ ValidP k (wsL (tx s) (sizeOfK k)) ∧ e = 0 ∧ xs = wsL (tx s) (sizeOfK k))
theorem GotP.uniq {s : ByteArray} {k : Int} {xs ys : List Nat} {e f : Nat} (h : GotP s k xs e) (h' : GotP s k ys f) : xs = ys ∧ e = f := by
  rcases h with ⟨a, b, c⟩ | ⟨a, b, c, d⟩ | ⟨a, b, c, d, z⟩ | ⟨a, b, c, d, z⟩ <;> rcases h' with ⟨a', b', c'⟩ | ⟨a', b', c', d'⟩ | ⟨a', b', c', d', z'⟩ | ⟨a', b', c', d', z'⟩
  all_goals first
    | omega
    | (subst_vars; exact ⟨rfl, rfl⟩)
    | exact absurd c' c
    | exact absurd c c'
theorem got_long {s : ByteArray} {k : Int} {xs : List Nat} {e : Nat} (h0 : ¬ sizeOfK k = 0) (h1 : ¬ s.size < 8 * sizeOfK k) :
    GotP s k xs e ↔ (¬ ValidP k (wsL (tx s) (sizeOfK k)) ∧ e = 3 ∧ xs = []) ∨ (ValidP k (wsL (tx s) (sizeOfK k)) ∧ e = 0 ∧ xs = wsL (tx s) (sizeOfK k)) := by
  unfold GotP
  constructor
  · intro h
    rcases h with ⟨a, _⟩ | ⟨a, b, _⟩ | ⟨a, b, c⟩ | ⟨a, b, c⟩
    · omega
    · omega
    · exact .inl c
    · exact .inr c
  · rintro (h | h)
    · exact .inr (.inr (.inl ⟨by omega, by omega, h⟩))
    · exact .inr (.inr (.inr ⟨by omega, by omega, h⟩))
/-- The words so far, the others 0. -/
def part (xs : List Nat) (n j : Nat) : List Nat := wsL xs j ++ List.replicate (n - j) 0
theorem part_length (xs : List Nat) (n j : Nat) (h : j ≤ n) : (part xs n j).length = n := by unfold part; rw [List.length_append, wsL_length, List.length_replicate]; omega
theorem part_zero (xs : List Nat) (n : Nat) : part xs n 0 = List.replicate n 0 := by simp [part, wsL]
theorem part_all (xs : List Nat) (n : Nat) : part xs n n = wsL xs n := by simp [part]
theorem part_set (xs : List Nat) (n j : Nat) (h : j < n) : (part xs n j).set j (num ((xs.drop (8 * j)).take 8)) = part xs n (j + 1) := by
  unfold part
  rw [wsL_succ, List.set_append, if_neg (by rw [wsL_length]; omega), wsL_length, Nat.sub_self, show n - j = (n - (j + 1)) + 1 by omega, List.replicate_succ, List.set_cons_zero, List.append_assoc]
  rfl
theorem tx_word (s : ByteArray) (j : Nat) : tx (s.extract (8 * j) (8 * (j + 1))) = ((tx s).drop (8 * j)).take 8 := by
  rw [tx_cut, show 8 * (j + 1) - 8 * j = 8 by omega]


theorem drop_get (xs : List Nat) (a q : Nat) : (xs.drop a).getD q 0 = xs.getD (a + q) 0 := by
  rw [List.getD_eq_getElem?_getD, List.getElem?_drop, List.getD_eq_getElem?_getD]
end Go.Proofs.Ytpklckpnimmkpaa
namespace Go.Proofs.Ytpklckpnimmkpaa
set_option linter.unusedVariables false
set_option maxRecDepth 4000

/-- A packet's bytes. -/
def encL (o l k z h : Int) (xs ts : List Nat) : List Nat := putL o 4 ++ putL l 4 ++ putL k 1 ++ putL z 1 ++ putL h 1 ++ beV xs ++ ts
theorem encL_bytes (o l k z h : Int) (xs ts : List Nat) (ht : bytes ts) : bytes (encL o l k z h xs ts) :=
  bytes_append (bytes_append (bytes_append (bytes_append (bytes_append (bytes_append (putL_bytes _ _) (putL_bytes _ _)) (putL_bytes _ _)) (putL_bytes _ _)) (putL_bytes _ _)) (beV_bytes _)) ht
theorem putL4 (n : Int) : putL n 4 = be 4 (m64 n) := putL_yes (.inr (.inr rfl))
theorem putL1 (n : Int) : putL n 1 = be 1 (m64 n) := putL_yes (.inl rfl)
theorem be1 (n : Nat) : be 1 n = [n % 256] := by simp [be]
theorem m64_of {n : Int} {m : Nat} (h : n = (m : Int)) (hm : m < 18446744073709551616) : m64 n = m := by
  subst h
  unfold m64
  omega
theorem be_num : ∀ xs : List Nat, bytes xs → be xs.length (num xs) = xs
  | [], _ => rfl
  | x :: r, h => by
    have h1 : x < 256 := h x (List.mem_cons_self ..)
    have h2 : bytes r := fun y hy => h y (List.mem_cons_of_mem _ hy)
    have h3 := num_lt h2
    rw [List.length_cons, be, num_cons]
    have h4 : (x * 256 ^ r.length + num r) / 256 ^ r.length = x := by
      rw [Nat.mul_comm, Nat.mul_add_div (Nat.pow_pos (by decide)), Nat.div_eq_of_lt h3, Nat.add_zero]
    have h5 : be r.length (x * 256 ^ r.length + num r) = be r.length (num r) := be_mod _ _ _ (by rw [Nat.mul_add_mod_self_right])
    rw [h4, h5, be_num r h2, Nat.mod_eq_of_lt h1]
theorem be_num_of {xs : List Nat} {W : Nat} (h : bytes xs) (hl : xs.length = W) : be W (num xs) = xs := by rw [← hl]; exact be_num xs h
theorem beV_wsL {xs : List Nat} (h : bytes xs) : ∀ n, 8 * n ≤ xs.length → beV (wsL xs n) = xs.take (8 * n)
  | 0, _ => by simp [wsL, beV]
  | n + 1, hn => by
    have ih := beV_wsL h n (by omega)
    have e : beV (wsL xs n ++ [num ((xs.drop (8 * n)).take 8)]) = beV (wsL xs n) ++ be 8 (num ((xs.drop (8 * n)).take 8)) := by simp [beV]
    rw [wsL_succ, e, ih, be_num_of (bytes_take (bytes_drop h _) _) (by rw [List.length_take, List.length_drop]; omega), show 8 * (n + 1) = 8 * n + 8 by omega, List.take_add]
end Go.Proofs.Ytpklckpnimmkpaa
