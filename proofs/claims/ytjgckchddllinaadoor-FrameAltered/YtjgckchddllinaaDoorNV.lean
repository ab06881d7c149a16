/-
  Contracts of nums.GetVec and bucketlineref06.GetVec: for every text and every int.
-/
import Derived.Test.YtjgckchddllinaaDoorNR
import Derived.Test.YtjgckchddllinaaDoorUA
namespace Go.Proofs.YtjgckchddllinaaDoor
open Go.RowKit
set_option linter.unusedVariables false
set_option maxRecDepth 4000

/-- What is got of a text: a row, or the error. -/
def GotP (s : ByteArray) (k : Int) (xs : List Nat) (e : Nat) : Prop :=
  (sizeOfK k = 0 ∧ e = 1 ∧ xs = []) ∨ (0 < sizeOfK k ∧ s.size < 8 * sizeOfK k ∧ e = 2 ∧ xs = []) ∨
  (0 < sizeOfK k ∧ 8 * sizeOfK k ≤ s.size ∧ ¬ ValidP k (wsL (tx s) (sizeOfK k)) ∧ e = 3 ∧ xs = []) ∨ (0 < sizeOfK k ∧ 8 * sizeOfK k ≤ s.size ∧ ValidP k (wsL (tx s) (sizeOfK k)) ∧ e = 0 ∧ xs = wsL (tx s) (sizeOfK k))
theorem GotP.uniq {s : ByteArray} {k : Int} {xs ys : List Nat} {e f : Nat} (h : GotP s k xs e) (h' : GotP s k ys f) : xs = ys ∧ e = f := by
  rcases h with ⟨a, b, c⟩ | ⟨a, b, c, d⟩ | ⟨a, b, c, d, z⟩ | ⟨a, b, c, d, z⟩ <;> rcases h' with ⟨a', b', c'⟩ | ⟨a', b', c', d'⟩ | ⟨a', b', c', d', z'⟩ | ⟨a', b', c', d', z'⟩
  all_goals first
    | omega
    | (subst_vars; exact ⟨rfl, rfl⟩)
    | exact absurd c' c
    | exact absurd c c'
theorem got_long {s : ByteArray} {k : Int} {xs : List Nat} {e : Nat} (h0 : ¬ sizeOfK k = 0) (h1 : ¬ s.size < 8 * sizeOfK k) :
    GotP s k xs e ↔ (¬ ValidP k (wsL (tx s) (sizeOfK k)) ∧ e = 3 ∧ xs = []) ∨ (ValidP k (wsL (tx s) (sizeOfK k)) ∧ e = 0 ∧ xs = wsL (tx s) (sizeOfK k)) := by
  unfold GotP
  constructor
  · intro h
    rcases h with ⟨a, _⟩ | ⟨a, b, _⟩ | ⟨a, b, c⟩ | ⟨a, b, c⟩
    · omega
    · omega
    · exact .inl c
    · exact .inr c
  · rintro (h | h)
    · exact .inr (.inr (.inl ⟨by omega, by omega, h⟩))
    · exact .inr (.inr (.inr ⟨by omega, by omega, h⟩))
/-- The words so far, the others 0. -/
def part (xs : List Nat) (n j : Nat) : List Nat := wsL xs j ++ List.replicate (n - j) 0
theorem part_length (xs : List Nat) (n j : Nat) (h : j ≤ n) : (part xs n j).length = n := by unfold part; rw [List.length_append, wsL_length, List.length_replicate]; omega
theorem part_zero (xs : List Nat) (n : Nat) : part xs n 0 = List.replicate n 0 := by simp [part, wsL]
theorem part_all (xs : List Nat) (n : Nat) : part xs n n = wsL xs n := by simp [part]
theorem part_set (xs : List Nat) (n j : Nat) (h : j < n) : (part xs n j).set j (num ((xs.drop (8 * j)).take 8)) = part xs n (j + 1) := by
  unfold part
  rw [wsL_succ, List.set_append, if_neg (by rw [wsL_length]; omega), wsL_length, Nat.sub_self, show n - j = (n - (j + 1)) + 1 by omega, List.replicate_succ, List.set_cons_zero, List.append_assoc]
  rfl
theorem tx_word (s : ByteArray) (j : Nat) : tx (s.extract (8 * j) (8 * (j + 1))) = ((tx s).drop (8 * j)).take 8 := by
  rw [tx_cut, show 8 * (j + 1) - 8 * j = 8 by omega]

set_option maxHeartbeats 2000000 in
theorem getvec_any (s : ByteArray) (k : Int) (w : World) (hsz : s.size ≤ 9223372036854775807) :
    Calls Tryd.prog 73 #[.string s, .int .i64 k] w fun e w' => ∃ v xs en, e = .returned (.tuple #[v, .int .i64 ((en : Nat) : Int)]) ∧ Own w' w.heap.size v xs ∧ GotP s k xs en ∧ Below w.heap.size w w' := by
  have HZ := hide (size_any k)
  have hle := sizeOfK_le k
  by_cases h0 : sizeOfK k = 0
  · have hb0 : (((sizeOfK k : Nat) : Int) == 0) = true := by rw [h0]; rfl
    have HF := hide (show GotP s k [] 1 from .inl ⟨h0, rfl, rfl⟩)
    clear h0 hle
    go_enter Tryd.func73, Tryd.ntmps73
    go_wp2_with (go_at_call 72; refine (unhide HZ _).mono ?_; rintro e w' ⟨rfl, rfl⟩)
    go_ret2
    exact ⟨_, [], 1, rfl, Own.nil _ _, unhide HF, Below.refl _ _⟩
  · have hb0 : (((sizeOfK k : Nat) : Int) == 0) = false := by simp only [beq_eq_false_iff_ne, ne_eq]; omega
    by_cases h1 : s.size < 8 * sizeOfK k
    · have HF := hide (show GotP s k [] 2 from .inr (.inl ⟨by omega, h1, rfl, rfl⟩))
      have hd : ((s.size : Int) < ((sizeOfK k : Nat) : Int) * 8) := by omega
      clear h0
      go_enter Tryd.func73, Tryd.ntmps73
      go_wp2_with (go_at_call 72; refine (unhide HZ _).mono ?_; rintro e w' ⟨rfl, rfl⟩)
      go_ret2
      exact ⟨_, [], 2, rfl, Own.nil _ _, unhide HF, Below.refl _ _⟩
    · have hd : ¬ ((s.size : Int) < ((sizeOfK k : Nat) : Int) * 8) := by omega
      have HG := hide (fun xs e => got_long (s := s) (k := k) (xs := xs) (e := e) h0 h1)
      obtain ⟨i0, hi0, hz0, hz1, hz2⟩ := info_parts info_u64
      obtain ⟨wm, hrun, hown, hgrow⟩ := run_make_full (P := Tryd.prog) w w.heap.size 22 47 i0 (.int .u64 0) 1 Tryd.underlying22 hi0 hz0 hz1 .i64 .i64 (sizeOfK k) (by rw [hz2]; omega) (by unfold maxLen; omega) (Nat.le_refl _)
      have ho := own_made hown
      have hb : Below w.heap.size w wm := (Below.refl _ _).grown hgrow (Nat.le_refl _) (fun k hk => by cases hk)
      rw [← part_zero (tx s) (sizeOfK k)] at ho
      have HO := hide ho
      have HB := hide hb
      generalize sizeOfK k = n at *
      clear hown hgrow ho hb hi0 hz0 hz1 hz2
      go_enter Tryd.func73, Tryd.ntmps73
      go_wp2_with (go_at_call 72; refine (unhide HZ _).mono ?_; rintro e w' ⟨rfl, hw⟩; obtain rfl := hw.symm)
      go_loopw [22] (fun i wr => ∃ j : Nat, j ≤ n ∧ i = .int .i64 j ∧ Hid (Own wr w.heap.size (.slice (some ⟨w.heap.size, 0, none⟩) n n) (part (tx s) n j)) ∧ Hid (Below w.heap.size w wr)) (fun i _ => n - (intOf i).toNat)
      case atStart => exact ⟨0, Nat.zero_le _, rfl, HO, HB⟩
      case round =>
        obtain ⟨j, hj, rfl, HO, HB⟩ := hrel
        by_cases hlt : j < n
        · have hl := part_length (tx s) n j (by omega)
          have ho := unhide HO
          have hx : num (((tx s).drop (8 * j)).take 8) < 18446744073709551616 := num_lt_of (k := 8) (bytes_take (bytes_drop (tx_bytes s) _) 8) (List.length_take_le ..)
          have hes : (s.extract (j * 8) ((j + 1) * 8)).size = 8 := by rw [ByteArray.size_extract]; omega
          have HN := hide (fun wx => number_any (s.extract (j * 8) ((j + 1) * 8)) (by omega) wx)
          rw [show j * 8 = 8 * j by omega, show (j + 1) * 8 = 8 * (j + 1) by omega, tx_word] at HN
          rw [show 8 * (j + 1) = (j + 1) * 8 by omega] at HN
          rw [show tx s = tx s from rfl] at HN
          have hst := part_set (tx s) n j hlt
          generalize hxe : num (((tx s).drop (8 * j)).take 8) = x at *
          rw [show 8 * j = j * 8 by omega] at HN
          obtain ⟨g', cap', hv, hBg, hgs, hcg, hfg⟩ := ((show Own wr w.heap.size (.slice (some ⟨w.heap.size, 0, none⟩) n n) (part (tx s) n j) from ho)).at (by omega)
          have hcell := hcg j (by omega)
          have hfz := hfg j
          have hs1 := (show Own wr w.heap.size (.slice (some ⟨w.heap.size, 0, none⟩) (part (tx s) n j).length n) (part (tx s) n j) by rw [hl]; exact ho).stored j x hx
          rw [hl, hst] at hs1
          simp only [Value.slice.injEq, Option.some.injEq, Addr.mk.injEq, and_true] at hv
          obtain ⟨rfl, -, -⟩ := hv
          have HS := hide hs1
          have HB2 := hide ((unhide HB).setCell (p := ⟨w.heap.size, j, none⟩) (Nat.le_refl _) (.int .u64 (x : Int)))
          generalize (part (tx s) n j).getD j 0 = z at hcell
          clear hcg hfg hs1 ho hl hst hes HO hxe HG
          go_wp2_with (go_at_call 83; refine (unhide HN _).mono ?_; rintro e w' ⟨rfl, hw⟩; obtain rfl := hw.symm)
          go_roundw
          case rel => exact ⟨j + 1, by omega, by go_num, HS, HB2⟩
          case measure => simp [intOf]; omega
        · have hje : j = n := by omega
          subst hje
          rw [part_all] at HO
          have hl := wsL_length (tx s) j
          obtain ⟨a1, c1, hv, hr⟩ := (unhide HO).row
          rw [hl] at hv hr
          simp only [Value.slice.injEq, true_and] at hv
          obtain ⟨rfl, rfl⟩ := hv
          have HV := hide (valid_any _ j j _ k _ hr)
          clear hr hl
          go_wp2_with fail
          refine (unhide HV).mono ?_
          rintro e w' ⟨⟨b, rfl, hbe⟩, hb'⟩
          have HO' := hide ((unhide HO).below hb')
          have HB' := hide (below0 (unhide HB) hb')
          cases b with
          | true =>
            have HF := hide ((unhide HG _ _).2 (.inr ⟨hbe.1 rfl, rfl, rfl⟩))
            clear hbe hb'
            go_wp2
            go_ret2
            exact ⟨_, _, 0, rfl, unhide HO', unhide HF, unhide HB'⟩
          | false =>
            have HF := hide ((unhide HG _ _).2 (.inl ⟨fun h => by simpa using hbe.2 h, rfl, rfl⟩))
            clear hbe hb'
            go_wp2
            go_ret2
            exact ⟨_, [], 3, rfl, Own.nil _ _, unhide HF, unhide HB'⟩

theorem drop_get (xs : List Nat) (a q : Nat) : (xs.drop a).getD q 0 = xs.getD (a + q) 0 := by
  rw [List.getD_eq_getElem?_getD, List.getElem?_drop, List.getD_eq_getElem?_getD]
set_option maxHeartbeats 2000000 in
theorem rgetvec_any (s : ByteArray) (k : Int) (w : World) (hsz : s.size ≤ 9223372036854775807) :
    Calls Tryd.prog 56 #[.string s, .int .i64 k] w fun e w' => ∃ v xs en, e = .returned (.tuple #[v, .int .i64 ((en : Nat) : Int)]) ∧ Own w' w.heap.size v xs ∧ GotP s k xs en ∧ Below w.heap.size w w' := by
  have HZ := hide (rsize_any k)
  have hle := sizeOfK_le k
  by_cases h0 : sizeOfK k = 0
  · have hb0 : (((sizeOfK k : Nat) : Int) == 0) = true := by rw [h0]; rfl
    have HF := hide (show GotP s k [] 1 from .inl ⟨h0, rfl, rfl⟩)
    clear h0 hle
    go_enter Tryd.func56, Tryd.ntmps56
    go_wp2_with (go_at_call 55; refine (unhide HZ _).mono ?_; rintro e w' ⟨rfl, rfl⟩)
    go_ret2
    exact ⟨_, [], 1, rfl, Own.nil _ _, unhide HF, Below.refl _ _⟩
  · have hb0 : (((sizeOfK k : Nat) : Int) == 0) = false := by simp only [beq_eq_false_iff_ne, ne_eq]; omega
    by_cases h1 : s.size < 8 * sizeOfK k
    · have HF := hide (show GotP s k [] 2 from .inr (.inl ⟨by omega, h1, rfl, rfl⟩))
      have hd : ((s.size : Int) < 8 * ((sizeOfK k : Nat) : Int)) := by omega
      clear h0
      go_enter Tryd.func56, Tryd.ntmps56
      go_wp2_with (go_at_call 55; refine (unhide HZ _).mono ?_; rintro e w' ⟨rfl, rfl⟩)
      go_ret2
      exact ⟨_, [], 2, rfl, Own.nil _ _, unhide HF, Below.refl _ _⟩
    · have hd : ¬ ((s.size : Int) < 8 * ((sizeOfK k : Nat) : Int)) := by omega
      have HG := hide (fun xs e => got_long (s := s) (k := k) (xs := xs) (e := e) h0 h1)
      generalize sizeOfK k = n at *
      go_enter Tryd.func56, Tryd.ntmps56
      go_wp2_with (go_at_call 55; refine (unhide HZ _).mono ?_; rintro e w' ⟨rfl, hw⟩; obtain rfl := hw.symm)
      go_loopw [7, 8] (fun v i wr => ∃ (j : Nat) (a : Option Addr) (c : Nat), j ≤ n ∧ i = .int .i64 j ∧ v = .slice a j c ∧ Hid (Own wr w.heap.size (.slice a j c) (wsL (tx s) j)) ∧ Hid (Below w.heap.size w wr)) (fun _ i _ => n - (intOf i).toNat)
      case atStart => exact ⟨0, none, 0, Nat.zero_le _, rfl, rfl, hide (Own.nil _ _), hide (Below.refl _ _)⟩
      case round =>
        obtain ⟨j, a, c, hj, rfl, rfl, HO, HB⟩ := hrel
        by_cases hlt : j < n
        · have hl := tx_length s
          have hb := tx_bytes s
          go_wp2
          go_loop [9, 10] (fun t i => ∃ q x : Nat, q ≤ 8 ∧ i = .int .i64 q ∧ t = .int .u64 (x : Int) ∧ Hid (x = num (((tx s).drop (8 * j)).take q))) (fun _ i => 8 - (intOf i).toNat)
          case atStart => exact ⟨0, 0, Nat.zero_le _, rfl, rfl, hide (by simp [num])⟩
          case round =>
            obtain ⟨q, x, hq, rfl, rfl, HX⟩ := hrel
            by_cases hqt : q < 8
            · have hix : 8 * j + q < s.size := by omega
              have hget := tx_get s (8 * j + q) hix
              have hb1 := hb.get (8 * j + q)
              have hn2 : x < 72057594037927936 := by
                rw [unhide HX]
                exact Nat.lt_of_lt_of_le (num_take_lt (bytes_drop hb (8 * j)) q) (Nat.pow_le_pow_right (n := 256) (by decide) (show q ≤ 7 by omega))
              have HS := hide (num_take (xs := (tx s).drop (8 * j)) (k := q) (by rw [List.length_drop]; omega))
              rw [drop_get, ← unhide HX] at HS
              have HP := hide (push_num x _ hn2 hb1)
              generalize (tx s).getD (8 * j + q) 0 = b at *
              clear hl hb HG HO HB
              go_wp2
              go_round
              case rel => exact ⟨q + 1, x * 256 + b, by omega, by go_num, by rw [unhide HP], hide (by rw [unhide HS])⟩
              case measure => simp [intOf]; omega
            · have hqe : q = 8 := by omega
              subst hqe
              have hx : x < 18446744073709551616 := by
                rw [unhide HX]
                exact num_take_lt (bytes_drop hb (8 * j)) 8
              have HW := hide (wsL_succ (tx s) j)
              rw [← unhide HX] at HW
              have hwl := wsL_length (tx s) j
              obtain ⟨p, hp⟩ : ∃ p, wsL (tx s) j = p := ⟨_, rfl⟩
              rw [hp] at HO HW hwl
              have HPL := hide hwl
              clear hp hl hb HG hwl
              go_wp2_with (first | (at_builtin; refine wpList_pushU rfl _ _ rfl w.heap.size _ p x rfl rfl (unhide HO) (unhide HB).size (by have := unhide HPL; omega) hx rfl ?_))
              intro s' w' hO' hB'
              obtain ⟨a', c', rfl, -⟩ := hO'.row
              have e1 : (p ++ [x]).length = j + 1 := by rw [List.length_append, unhide HPL]; rfl
              rw [e1] at hO'
              rw [e1]
              have HO' := hide hO'
              have HB' := hide hB'
              clear hO' hB' HO e1
              go_wp2
              go_roundw
              case rel => exact ⟨j + 1, a', c', by omega, by go_num, rfl, by rw [unhide HW]; exact HO', hide ((unhide HB).trans (unhide HB'))⟩
              case measure => simp [intOf]; omega
        · have hje : j = n := by omega
          subst hje
          have hl := wsL_length (tx s) j
          obtain ⟨a1, c1, hv, hr⟩ := (unhide HO).row
          rw [hl] at hv hr
          simp only [Value.slice.injEq, true_and] at hv
          obtain ⟨rfl, rfl⟩ := hv
          have HV := hide (rvalid_any a j c _ k _ hr)
          clear hr hl
          go_wp2_with fail
          refine (unhide HV).mono ?_
          rintro e w' ⟨⟨b, rfl, hbe⟩, hw⟩
          obtain rfl := hw.symm
          cases b with
          | true =>
            have HF := hide ((unhide HG _ _).2 (.inr ⟨hbe.1 rfl, rfl, rfl⟩))
            clear hbe
            go_wp2
            go_ret2
            exact ⟨_, _, 0, rfl, unhide HO, unhide HF, unhide HB⟩
          | false =>
            have HF := hide ((unhide HG _ _).2 (.inl ⟨fun h => by simpa using hbe.2 h, rfl, rfl⟩))
            clear hbe
            go_wp2
            go_ret2
            exact ⟨_, [], 3, rfl, Own.nil _ _, unhide HF, unhide HB⟩
end Go.Proofs.YtjgckchddllinaaDoor
