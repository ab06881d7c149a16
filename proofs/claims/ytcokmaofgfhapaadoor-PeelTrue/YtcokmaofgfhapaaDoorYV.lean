/-
  The walk of PeelTrue: for every input it tells true and writes nothing that was there.
-/
import Derived.Test.YtcokmaofgfhapaaDoorM3
namespace Go.Proofs.YtcokmaofgfhapaaDoor
open Go.RowKit Go.Sort
set_option linter.unusedVariables false
set_option maxRecDepth 4000

/-- The xor of the numbers f at the bits of a row, of the first n. -/
def ofN (f : Nat → Nat) (vs : List Nat) : Nat → Nat
  | 0 => 0
  | n + 1 => if getB vs n then ofN f vs n ^^^ f n else ofN f vs n
theorem ofL_getD (ss : List ByteArray) (vs : List Nat) (i : Nat) : ∀ n, (ofL ss vs n).getD i 0 = ofN (fun b => (tx (ss.getD b ByteArray.empty)).getD i 0) vs n
  | 0 => by simp [ofL, ofN]
  | n + 1 => by
    unfold ofL ofN
    split
    · rw [xorL_getD, ofL_getD ss vs i n]
    · exact ofL_getD ss vs i n
theorem ofN_split {f g : Nat → Nat} {xs kn : List Nat} (h1 : ∀ b, getB kn b = true → g b = f b) (h2 : ∀ b, getB kn b = false → g b = 0) : ∀ n, ofN f xs n ^^^ ofN g xs n = ofN f (dropL xs kn) n
  | 0 => by simp [ofN]
  | n + 1 => by
    have ih := ofN_split (xs := xs) h1 h2 n
    unfold ofN
    rw [dropL_bit]
    cases hx : getB xs n
    · simpa using ih
    · cases hk : getB kn n
      · rw [h2 n hk]
        simp only [Bool.not_false, Bool.and_true, if_true, Nat.xor_zero]
        rw [← ih, Nat.xor_assoc, Nat.xor_comm (f n), ← Nat.xor_assoc]
      · rw [h1 n hk]
        simp only [Bool.not_true, Bool.and_false, if_true, Bool.false_eq_true, if_false]
        rw [← ih, Nat.xor_assoc, Nat.xor_comm (f n), Nat.xor_assoc, Nat.xor_self, Nat.xor_zero]
theorem ofN_one {f : Nat → Nat} {vs : List Nat} {b : Nat} (h : ∀ i, getB vs i = decide (i = b)) : ∀ n, ofN f vs n = if b < n then f b else 0
  | 0 => by simp [ofN]
  | n + 1 => by
    unfold ofN
    rw [ofN_one h n, h n]
    by_cases e : n = b
    · subst e
      rw [decide_eq_true rfl, if_pos rfl, if_neg (by omega), if_pos (by omega)]
      exact Nat.zero_xor _
    · rw [decide_eq_false e, if_neg (by simp)]
      by_cases h1 : b < n
      · rw [if_pos h1, if_pos (by omega)]
      · rw [if_neg h1, if_neg (by omega)]
theorem holdsB_bytes {ss : List ByteArray} {vs : List Nat} {s : ByteArray} : holdsB ss vs s = true ↔ (∀ i, ofN (fun b => (tx (ss.getD b ByteArray.empty)).getD i 0) vs ss.length = (tx s).getD i 0) ∧ ∀ i, ss.length ≤ i → getB vs i = false := by
  rw [holdsB_iff, zeroB_iff]
  refine and_congr_left fun _ => ?_
  constructor
  · intro h i
    have := h i
    rw [tx_xorS, xorL_getD, tx_st (ofL_bytes _ _ _), ofL_getD] at this
    exact Ech.eq_of_xor this
  · intro h i
    rw [tx_xorS, xorL_getD, tx_st (ofL_bytes _ _ _), ofL_getD, h i, Nat.xor_self]
/-- What is known is true. -/
def KTrue (ss : List ByteArray) (kn : List Nat) (bs : List ByteArray) : Prop := ∀ b, getB kn b = true → ∀ i, (tx (bs.getD b ByteArray.empty)).getD i 0 = (tx (ss.getD b ByteArray.empty)).getD i 0
theorem txt_byte {ss : List ByteArray} {j : Nat} {kn : List Nat} {bs : List ByteArray} (hK : Kn (ss.length : Int) j kn bs) (hT : KTrue ss kn bs) {xs : List Nat} {s : ByteArray} (h : holdsB ss xs s = true) (i : Nat) :
    (tx (txtL bs xs s)).getD i 0 = ofN (fun b => (tx (ss.getD b ByteArray.empty)).getD i 0) (dropL xs kn) ss.length := by
  unfold txtL
  have hl := hK.lenb
  rw [Int.toNat_natCast] at hl
  rw [tx_xorS, xorL_getD, tx_st (ofL_bytes _ _ _), ofL_getD, hl, ← (holdsB_bytes.1 h).1 i]
  refine ofN_split (fun b hb => hT b hb i) (fun b hb => ?_) _
  show (tx (bs.getD b ByteArray.empty)).getD i 0 = 0
  rw [hK.none b hb]
  rfl
theorem Run.true {ss : List ByteArray} {rs : List RV} (hz : 0 < sizeOfK (ss.length : Int)) (hg : Good rs) (hh : ∀ r ∈ rs, holdsB ss r.xs r.s = true) : ∀ {j : Nat} {kn : List Nat} {bs : List ByteArray}, Run (ss.length : Int) rs j kn bs → KTrue ss kn bs
  | 0, kn, bs, ⟨h1, h2⟩ => fun b hb => by rw [h1, bit_zeros] at hb; cases hb
  | j + 1, kn, bs, ⟨kn0, bs0, r, h1, h2, h3, h4⟩ => by
    have hK := Run.known hz hg h1
    have hT := Run.true hz hg hh h1
    have hm := List.mem_of_find?_eq_some h2
    obtain ⟨hv, hbits, hk0, hx0, hbk, hfi⟩ := tells_bit (hg r hm).1 (List.find?_some h2)
    have hroom := size_room hz
    rw [Int.toNat_natCast] at hbk hroom
    subst h3 h4
    intro b hb i
    rw [bit_setB _ _ _ _ (by rw [hK.len]; omega)] at hb
    rw [getD_set_tx]
    by_cases e : b = blkOf kn0 r
    · rw [if_pos ⟨e, by rw [hK.lenb, Int.toNat_natCast]; exact hbk⟩, txt_byte hK hT (hh r hm), ofN_one hbits, if_pos hbk, e]
    · rw [if_neg e] at hb
      rw [if_neg (fun h => e h.1)]
      exact hT b hb i
theorem true_told {ss : List ByteArray} {rs : List RV} {kn : List Nat} {bs : List ByteArray} (hP : PeelP (ss.length : Int) rs kn bs) (hg : Good rs) (hh : ∀ r ∈ rs, holdsB ss r.xs r.s = true) : ∀ x ∈ toldTo (ss.length : Int) kn bs (ss.length : Int).toNat, holdsB ss x.1 x.2 = true := by
  intro x hx
  by_cases hz : sizeOfK (ss.length : Int) = 0
  · obtain ⟨p1, p2, _⟩ := peelP_none (rs := rs) hz
    obtain ⟨rfl, rfl⟩ := hP.uniq p1
    rw [p2] at hx; cases hx
  · obtain ⟨⟨j, hj⟩, _⟩ := hP
    have hK := Run.known (by omega) hg hj
    have hT := Run.true (by omega) hg hh hj
    obtain ⟨b, hb, hgb, rfl⟩ := told_mem hK hx
    rw [Int.toNat_natCast] at hb
    refine holdsB_bytes.2 ⟨fun i => ?_, fun i hi => ?_⟩
    · rw [ofN_one (unit_bit hK.size (by omega)), if_pos hb]
      exact (hT b hgb i).symm
    · rw [unit_bit hK.size (by omega), decide_eq_false (by omega)]
theorem true_rest {ss : List ByteArray} {rs : List RV} {kn : List Nat} {bs : List ByteArray} (hP : PeelP (ss.length : Int) rs kn bs) (hg : Good rs) (hh : ∀ r ∈ rs, holdsB ss r.xs r.s = true) : ∀ x ∈ restL (ss.length : Int) rs kn bs, holdsB ss x.1 x.2 = true := by
  intro x hx
  by_cases hz : sizeOfK (ss.length : Int) = 0
  · obtain ⟨p1, _, p3⟩ := peelP_none (rs := rs) hz
    obtain ⟨rfl, rfl⟩ := hP.uniq p1
    rw [p3] at hx; cases hx
  · obtain ⟨⟨j, hj⟩, _⟩ := hP
    have hK := Run.known (by omega) hg hj
    have hT := Run.true (by omega) hg hh hj
    unfold restL at hx
    rw [List.mem_map] at hx
    obtain ⟨r, hr, rfl⟩ := hx
    have hm := (List.mem_filter.1 hr).1
    refine holdsB_bytes.2 ⟨fun i => (txt_byte hK hT (hh r hm) i).symm, fun i hi => ?_⟩
    show getB (dropL r.xs kn) i = false
    rw [dropL_bit, (holdsB_bytes.1 (hh r hm)).2 i hi]
    rfl
theorem mem_core {ts : List RV} {L : List (List Nat × ByteArray)} (h : ts.map core = L) {i : Nat} (hi : i < ts.length) : ((ts.getD i .dflt).xs, (ts.getD i .dflt).s) ∈ L := by
  rw [← h, List.getD_eq_getElem?_getD, List.getElem?_eq_getElem hi]
  exact List.mem_map.2 ⟨_, List.getElem_mem hi, rfl⟩
theorem mem_getD {rs : List RV} {P : RV → Prop} (h : ∀ i, i < rs.length → P (rs.getD i .dflt)) : ∀ r ∈ rs, P r := fun r hr => by
  obtain ⟨i, hi, rfl⟩ := List.mem_iff_getElem.1 hr
  have := h i hi
  rwa [List.getD_eq_getElem?_getD, List.getElem?_eq_getElem hi] at this

set_option maxHeartbeats 4000000 in
theorem true_walk (al : Option Addr) (nl cl : Nat) (ss : List ByteArray) (a : Option Addr) (n c : Nat) (rs : List RV) (w : World) (ht : Tab w) (hl : TextsAt w al nl ss) (hnl : nl ≤ 9223372036854775807) (h : RowsAt w a n rs) (hn : n ≤ 9223372036854775807) (hbig : ∀ i, (rs.getD i .dflt).n ≤ 9223372036854775807 ∧ (rs.getD i .dflt).s.size ≤ 9223372036854775807) :
    Calls Tryd.prog 5 #[.slice al nl cl, .slice a n c] w fun e w' => e = .returned (.bool true) ∧ Below w.heap.size w w' := by
  have HL := hide hl
  have Hh := hide h
  have HT := hide ht
  have HF := hide (fewR_any a n c rs w h hn hbig)
  have HNL := hide h.1
  have HLL := hide hl.1
  have HAW := hide (fun (w1 : World) (hb : Below w.heap.size w w1) => awake_any w1 (ht.below hb))
  clear h ht hbig hl
  go_enter Tryd.func5, Tryd.ntmps5
  go_wp2_with fail
  refine (unhide HF).mono ?_
  rintro e w0 ⟨hf, hw⟩
  obtain rfl := hw.symm
  clear hw HF
  rcases hf with ⟨rfl, hf⟩ | ⟨rfl, hf⟩
  rotate_left
  · clear hf
    go_wp2_with (go_at_call 9; refine (unhide HAW _ (Below.refl _ _)).mono ?_; rintro e w1 ⟨rfl, hb1⟩)
    go_ret
    exact ⟨rfl, hb1⟩
  by_cases h1 : 100 < n
  · have hd : decide ((100 : Int) < (n : Int)) = true := by rw [decide_eq_true_iff]; omega
    clear hf
    go_wp2_with (go_at_call 9; refine (unhide HAW _ (Below.refl _ _)).mono ?_; rintro e w1 ⟨rfl, hb1⟩)
    go_ret
    exact ⟨rfl, hb1⟩
  have hd : decide ((100 : Int) < (n : Int)) = false := by rw [decide_eq_false_iff_not]; omega
  by_cases h2 : 100 < nl
  · have hd2 : decide ((100 : Int) < (nl : Int)) = true := by rw [decide_eq_true_iff]; omega
    clear hf
    go_wp2_with (go_at_call 9; refine (unhide HAW _ (Below.refl _ _)).mono ?_; rintro e w1 ⟨rfl, hb1⟩)
    go_ret
    exact ⟨rfl, hb1⟩
  have hd2 : decide ((100 : Int) < (nl : Int)) = false := by rw [decide_eq_false_iff_not]; omega
  have hs := hf.2
  have HG := hide (good_of (unhide Hh) hs)
  have HLN := hide (len_of (unhide Hh) hs)
  have Hs := hide hs
  clear hf hs
  go_wp2
  go_loop [5] (fun i => ∃ k : Nat, k ≤ nl ∧ i = .int .i64 k ∧ Hid (∀ q, q < k → (ss.getD q ByteArray.empty).size ≤ 100)) (fun i => nl - (intOf i).toNat)
  case atStart => exact ⟨0, Nat.zero_le _, rfl, hide (fun q hq => by omega)⟩
  case round =>
    obtain ⟨k, hk, rfl, HZ⟩ := hrel
    by_cases hlt : k < nl
    · obtain ⟨b, off, rfl, hcl⟩ := (unhide HL).at hlt
      have hc0 := hcl k hlt
      have hlt' : (k : Int) < (nl : Int) := by omega
      have HZ2 := hide (fun (h : (ss.getD k ByteArray.empty).size ≤ 100) => show ∀ q, q < k + 1 → (ss.getD q ByteArray.empty).size ≤ 100 from fun q hq => by
        by_cases e : q = k
        · rw [e]; exact h
        · exact unhide HZ q (by omega))
      generalize ss.getD k ByteArray.empty = t at *
      clear hcl
      by_cases h3 : 100 < t.size
      · have hd3 : decide ((100 : Int) < (t.size : Int)) = true := by rw [decide_eq_true_iff]; omega
        go_wp2_with (go_at_call 9; refine (unhide HAW _ (Below.refl _ _)).mono ?_; rintro e w1 ⟨rfl, hb1⟩)
        go_ret
        exact ⟨rfl, hb1⟩
      · have hd3 : decide ((100 : Int) < (t.size : Int)) = false := by rw [decide_eq_false_iff_not]; omega
        have HZ3 := hide (unhide HZ2 (by omega))
        clear HZ HZ2
        go_wp2
        go_round
        case rel => exact ⟨k + 1, by omega, by go_num, HZ3⟩
        case measure => simp [intOf]; omega
    · have hSS := hide (show shorts ss from fun s hs => by
        obtain ⟨i, hi, rfl⟩ := List.mem_iff_getElem.1 hs
        have := unhide HZ i (by have := unhide HLL; omega)
        rw [List.getD_eq_getElem?_getD, List.getElem?_eq_getElem hi] at this
        simp only [Option.getD_some] at this
        omega)
      clear HZ
      have hk9 : ¬ (k : Int) < (nl : Int) := by omega
      go_wp2
      go_loopw [6] (fun i wr => ∃ m : Nat, m ≤ n ∧ i = .int .i64 m ∧ Hid (Below w.heap.size w wr) ∧ Hid (∀ q, q < m → holdsB ss (rs.getD q .dflt).xs (rs.getD q .dflt).s = true)) (fun i _ => n - (intOf i).toNat)
      case atStart => exact ⟨0, Nat.zero_le _, rfl, hide (Below.refl _ _), hide (fun q hq => by omega)⟩
      case round =>
        obtain ⟨m, hm, rfl, HB, HZ⟩ := hrel
        by_cases hlt2 : m < n
        · have hR := (unhide Hh).below (unhide HB)
          obtain ⟨b, off, rfl, hcl⟩ := hR.at hlt2
          obtain ⟨hc0, hc1⟩ := hcl m hlt2
          have hlt2' : (m : Int) < (n : Int) := by omega
          have hsh := unhide Hs m
          have HHO := hide (rholds_any al nl cl ss (rs.getD m .dflt).a (rs.getD m .dflt).n (rs.getD m .dflt).c (rs.getD m .dflt).xs (rs.getD m .dflt).s wr ((unhide HL).below (unhide HB)) (unhide hSS) (by omega) (hR.2.1 m hlt2) (by omega) (by omega))
          have HZ2 := hide (fun (h : holdsB ss (rs.getD m .dflt).xs (rs.getD m .dflt).s = true) => show ∀ q, q < m + 1 → holdsB ss (rs.getD q .dflt).xs (rs.getD q .dflt).s = true from fun q hq => by
            by_cases e : q = m
            · rw [e]; exact h
            · exact unhide HZ q (by omega))
          generalize rs.getD m .dflt = r at *
          clear hcl hR
          cases hho : holdsB ss r.xs r.s
          · rw [hho] at HHO
            clear HZ2
            go_wp2_with (first | (go_at_call 16; refine (unhide HHO).mono ?_; rintro e w1 ⟨rfl, hb1⟩; have HB1 := hide (below0 (unhide HB) hb1); clear hb1) | (go_at_call 9; refine (unhide HAW _ (unhide HB1)).mono ?_; rintro e w2 ⟨rfl, hb2⟩; have HB2 := hide (below0 (unhide HB1) hb2); clear hb2))
            go_ret
            exact ⟨rfl, unhide HB2⟩
          · rw [hho] at HHO
            have HZ3 := hide (unhide HZ2 hho)
            clear HZ2 HZ hho
            go_wp2_with (first | (go_at_call 16; refine (unhide HHO).mono ?_; rintro e w1 ⟨rfl, hb1⟩; have HB1 := hide (below0 (unhide HB) hb1); clear hb1))
            go_roundw
            case rel => exact ⟨m + 1, by omega, by go_num, HB1, HZ3⟩
            case measure => simp [intOf]; omega
        · have hlt2' : ¬ (m : Int) < (n : Int) := by omega
          have HAL := hide (mem_getD (rs := rs) (P := fun r => holdsB ss r.xs r.s = true) (fun q hq => unhide HZ q (by have := unhide HNL; omega)))
          have HPE := hide (peel_any (nl : Int) a n c rs wr ((unhide HT).below (unhide HB)) ((unhide Hh).below (unhide HB)) (unhide Hs) (by omega))
          clear HZ
          obtain ⟨wo, hwo⟩ : ∃ wo, wo = wr := ⟨wr, rfl⟩
          rw [← hwo] at HB HPE ⊢
          clear hwo wr
          go_wp2_with (first | (go_at_call 10; refine (unhide HPE).mono ?_; rintro e w1 ⟨a1, m1, c1, ts1, a2, m2, c2, ts2, rfl, hP⟩; have HS := hide (hP.short (unhide HG) (unhide Hs) (unhide HLN)); have HP := hide hP; clear hP))
          obtain ⟨kn, bs, p1, o1, i1, e1, o2, i2, e2, hb1⟩ := unhide HP
          obtain ⟨s1, s2, l1, l2⟩ := unhide HS
          rw [← unhide HLL] at p1 e1 e2
          have HT1 := hide (fun (i : Nat) (hi : i < ts1.length) => true_told p1 (unhide HG) (unhide HAL) _ (mem_core e1 hi))
          have HT2 := hide (fun (i : Nat) (hi : i < ts2.length) => true_rest p1 (unhide HG) (unhide HAL) _ (mem_core e2 hi))
          obtain ⟨R1, q1, -, -⟩ := o1.at' i1
          obtain ⟨R2, q2, -, -⟩ := o2.at' i2
          have HR1 := hide R1
          have HR2 := hide R2
          have hm1 : m1 ≤ 1048576 := by omega
          have hm2 : m2 ≤ 1048576 := by have := unhide HNL; omega
          have HQ1 := hide q1
          have HQ2 := hide q2
          have HS1 := hide s1
          have HS2 := hide s2
          have HB1 := hide (below0 (unhide HB) hb1)
          clear p1 o1 o2 i1 i2 e1 e2 hb1 s1 s2 l1 l2 R1 R2 q1 q2 HP HS HPE HB
          go_loopw [9] (fun i wr => ∃ m : Nat, m ≤ m1 ∧ i = .int .i64 m ∧ Hid (Below w1.heap.size w1 wr)) (fun i _ => m1 - (intOf i).toNat)
          case atStart => exact ⟨0, Nat.zero_le _, rfl, hide (Below.refl _ _)⟩
          case round =>
            obtain ⟨m, hm, rfl, HB⟩ := hrel
            by_cases hlt3 : m < m1
            · have hR := (unhide HR1).below (unhide HB)
              obtain ⟨b, off, rfl, hcl⟩ := hR.at hlt3
              obtain ⟨hc0, hc1⟩ := hcl m hlt3
              have hlt3' : (m : Int) < (m1 : Int) := by omega
              have hsh := unhide HS1 m
              have HHO := rholds_any al nl cl ss (ts1.getD m .dflt).a (ts1.getD m .dflt).n (ts1.getD m .dflt).c (ts1.getD m .dflt).xs (ts1.getD m .dflt).s wr ((unhide HL).below (below0 (unhide HB1) (unhide HB))) (unhide hSS) (by omega) (hR.2.1 m hlt3) (by omega) (by omega)
              rw [unhide HT1 m (by have := unhide HQ1; omega)] at HHO
              have HHO := hide HHO
              generalize ts1.getD m .dflt = r at *
              clear hcl hR
              go_wp2_with (first | (go_at_call 16; refine (unhide HHO).mono ?_; rintro e w2 ⟨rfl, hb2⟩; have HB2 := hide (below0 (unhide HB) hb2); clear hb2))
              go_roundw
              case rel => exact ⟨m + 1, by omega, by go_num, HB2⟩
              case measure => simp [intOf]; omega
            · have hlt3' : ¬ (m : Int) < (m1 : Int) := by omega
              have HB3 := hide (below0 (unhide HB1) (unhide HB))
              have HR3 := hide ((unhide HR2).below (unhide HB))
              obtain ⟨w3, hw3⟩ : ∃ w3, w3 = wr := ⟨wr, rfl⟩
              rw [← hw3] at HB3 HR3 ⊢
              clear hw3 HB HR1 HR2 wr
              go_wp2
              go_loopw [10] (fun i wr => ∃ m : Nat, m ≤ m2 ∧ i = .int .i64 m ∧ Hid (Below w3.heap.size w3 wr)) (fun i _ => m2 - (intOf i).toNat)
              case atStart => exact ⟨0, Nat.zero_le _, rfl, hide (Below.refl _ _)⟩
              case round =>
                obtain ⟨m, hm, rfl, HB⟩ := hrel
                by_cases hlt4 : m < m2
                · have hR := (unhide HR3).below (unhide HB)
                  obtain ⟨b, off, rfl, hcl⟩ := hR.at hlt4
                  obtain ⟨hc0, hc1⟩ := hcl m hlt4
                  have hlt4' : (m : Int) < (m2 : Int) := by omega
                  have hsh := unhide HS2 m
                  have HHO := rholds_any al nl cl ss (ts2.getD m .dflt).a (ts2.getD m .dflt).n (ts2.getD m .dflt).c (ts2.getD m .dflt).xs (ts2.getD m .dflt).s wr ((unhide HL).below (below0 (unhide HB3) (unhide HB))) (unhide hSS) (by omega) (hR.2.1 m hlt4) (by omega) (by omega)
                  rw [unhide HT2 m (by have := unhide HQ2; omega)] at HHO
                  have HHO := hide HHO
                  generalize ts2.getD m .dflt = r at *
                  clear hcl hR
                  go_wp2_with (first | (go_at_call 16; refine (unhide HHO).mono ?_; rintro e w2 ⟨rfl, hb2⟩; have HB2 := hide (below0 (unhide HB) hb2); clear hb2))
                  go_roundw
                  case rel => exact ⟨m + 1, by omega, by go_num, HB2⟩
                  case measure => simp [intOf]; omega
                · have hlt4' : ¬ (m : Int) < (m2 : Int) := by omega
                  have HB4 := hide (below0 (unhide HB3) (unhide HB))
                  go_wp2_with (go_at_call 9; refine (unhide HAW _ (unhide HB4)).mono ?_; rintro e w5 ⟨rfl, hb5⟩; have HB5 := hide (below0 (unhide HB4) hb5); clear hb5)
                  go_ret
                  exact ⟨rfl, unhide HB5⟩
end Go.Proofs.YtcokmaofgfhapaaDoor
