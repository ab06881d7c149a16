/-
  Contract of frame.Decode: for every text of at most 2^20 bytes.
-/
import Derived.Test.YtjgckchddllinaaDoorQC
namespace Go.Proofs.YtjgckchddllinaaDoor
open Go.RowKit Go.Sort
set_option linter.unusedVariables false
set_option maxRecDepth 4000

/-- What Decode hands back. -/
def DecF (w : World) (s : ByteArray) (e : Ending) (w' : World) : Prop :=
  ∃ (kd fr ic o l k z h : Int) (a : Option Addr) (n c : Nat) (xs : List Nat) (t : ByteArray) (en : Nat), e = .returned (.tuple #[.agg #[.int .i64 kd, .int .i64 fr, .int .i64 ic, .int .i64 o, .int .i64 l, .int .i64 k, .int .i64 z, .int .i64 h, .slice a n c, .string t], .int .i64 ((en : Nat) : Int)]) ∧
    RowAt w' a n xs ∧ FDecP s kd fr ic o l k z h xs t en ∧ Below w.heap.size w w'
theorem fz_zero : FZ 0 0 0 0 0 0 0 0 [] ⟨#[]⟩ := ⟨⟨rfl, rfl, rfl⟩, zero_zero⟩
theorem decf_zero {w w' : World} {s : ByteArray} {en : Nat} (h : FDecP s 0 0 0 0 0 0 0 0 [] ⟨#[]⟩ en) (hb : Below w.heap.size w w') :
    DecF w s (.returned (.tuple #[.agg #[.int .i64 0, .int .i64 0, .int .i64 0, .int .i64 0, .int .i64 0, .int .i64 0, .int .i64 0, .int .i64 0, .slice none 0 0, .string ⟨#[]⟩], .int .i64 ((en : Nat) : Int)])) w' :=
  ⟨0, 0, 0, 0, 0, 0, 0, 0, none, 0, 0, [], ⟨#[]⟩, en, rfl, row_none _, h, hb⟩
theorem fd_opened {s T : ByteArray} {kd fr ic o l k z h : Int} {xs : List Nat} {t : ByteArray} {en : Nat} (h0 : openE s = 0) (hT : openT s = T) (hd : FDecT T kd fr ic o l k z h xs t en) : FDecP s kd fr ic o l k z h xs t en :=
  ⟨fun h => absurd h0 h, fun _ => by rw [hT]; exact hd⟩
theorem open_cases (s : ByteArray) : openE s = 0 ∨ openE s = 2 ∨ openE s = 4 := by
  unfold openE
  split
  · exact .inr (.inl rfl)
  · split
    · exact .inl rfl
    · exact .inr (.inr rfl)
theorem openT_le (s : ByteArray) : (openT s).size ≤ s.size := by
  unfold openT
  split
  · unfold headS
    rw [ByteArray.size_extract]
    omega
  · exact Nat.zero_le _
theorem read_en {kd : Int} {s : ByteArray} {o l k z h : Int} {xs : List Nat} {t : ByteArray} {en : Nat} (hp : ReadP kd s o l k z h xs t en) : en = 0 ∨ en = 2 ∨ en = 3 := by
  by_cases h1 : kd = 1
  · by_cases h0 : s.size = 0
    · exact .inl ((hp.1 h1).2 h0).1
    · exact .inr (.inr ((hp.1 h1).1 h0).1)
  · by_cases h2 : kd = 2
    · rcases hp.2.1 h2 with h | h | h
      · exact .inr (.inl h.2.1)
      · exact .inr (.inr h.2.2.1)
      · exact .inl h.2.2.1
    · exact .inr (.inr (hp.2.2 h1 h2).1)
theorem fd_read {T : ByteArray} (h6 : ¬ T.size < 6) (h8 : ¬ 8 ≤ hdF T) {o l k z h : Int} {xs : List Nat} {t : ByteArray} {en : Nat} (hp : ReadP (hdK T : Int) (restT T) o l k z h xs t en) :
    (en ≠ 0 → FDecT T 0 0 0 0 0 0 0 0 [] ⟨#[]⟩ en) ∧ (en = 0 → FDecT T (hdK T) (hdF T) (hdI T) o l k z h xs t 0) := by
  have hsz : (restT T).size = T.size - 6 := by unfold restT; rw [ByteArray.size_extract]; omega
  by_cases h1 : hdK T = 1
  · by_cases h0 : (restT T).size = 0
    · obtain ⟨e, hz⟩ := (hp.1 (by rw [h1]; rfl)).2 h0
      refine ⟨fun h => absurd e h, fun _ => fd_hello h6 ?_ h1 rfl ⟨rfl, rfl, rfl⟩ hz⟩
      rintro (h | h | h)
      · exact h8 h
      · exact h.1 h1
      · omega
    · obtain ⟨e, hz⟩ := (hp.1 (by rw [h1]; rfl)).1 h0
      exact ⟨fun _ => fd_bad h6 (.inr (.inr ⟨h1, by omega⟩)) e fz_zero, fun h => by omega⟩
  · by_cases h2 : hdK T = 2
    · have hd := hp.2.1 (by rw [h2]; rfl)
      have hb : ¬ badP T := by
        rintro (h | h | h)
        · exact h8 h
        · exact h.2 h2
        · exact h1 h.1
      refine ⟨fun hn => fd_data h6 hb h1 ?_ (fun _ => ⟨rfl, rfl, rfl⟩) (fun h => absurd h hn), fun h0 => fd_data h6 hb h1 (by rw [h0] at hd; exact hd) (fun h => absurd rfl h) (fun _ => ⟨rfl, rfl, rfl⟩)⟩
      rcases hd with h | h | h
      · exact .inl ⟨h.1, h.2.1, zero_zero⟩
      · exact .inr (.inl ⟨h.1, h.2.1, h.2.2.1, zero_zero⟩)
      · exact absurd h.2.2.1 hn
    · obtain ⟨e, hz⟩ := hp.2.2 (by omega) (by omega)
      exact ⟨fun _ => fd_bad h6 (.inr (.inl ⟨h1, h2⟩)) e fz_zero, fun h => by omega⟩

theorem results_fdec {tmps : Array Value} {W : World} {g : Nat} {x : Int} {u0 u1 u2 u3 u4 u5 u6 u7 u8 u9 : Value} (h2 : tmps.getD 2 undef = .pointer (some ⟨g, 0, none⟩)) (h3 : tmps.getD 3 undef = .int .i64 x) (hq : FrB W g u0 u1 u2 u3 u4 u5 u6 u7 u8 u9) :
    (results Tryd.f16 tmps).run Tryd.prog W = .ok (.tuple #[.agg #[u0, u1, u2, u3, u4, u5, u6, u7, u8, u9], .int .i64 x]) W := by
  obtain ⟨⟨k0, k1, k2⟩, k3, k4, k5, k6, k7, k8, k9⟩ := hq.at
  have h2' : tmps[2]?.getD undef = .pointer (some ⟨g, 0, none⟩) := by simpa using h2
  have h3' : tmps[3]?.getD undef = .int .i64 x := by simpa using h3
  simp [results, Tryd.results16, go_sem, h2', h3', k0, k1, k2, k3, k4, k5, k6, k7, k8, k9]
theorem results_rfdec {tmps : Array Value} {W : World} {g : Nat} {x : Int} {u0 u1 u2 u3 u4 u5 u6 u7 u8 u9 : Value} (h2 : tmps.getD 2 undef = .pointer (some ⟨g, 0, none⟩)) (h3 : tmps.getD 3 undef = .int .i64 x) (hq : FrB W g u0 u1 u2 u3 u4 u5 u6 u7 u8 u9) :
    (results Tryd.f17 tmps).run Tryd.prog W = .ok (.tuple #[.agg #[u0, u1, u2, u3, u4, u5, u6, u7, u8, u9], .int .i64 x]) W := by
  obtain ⟨⟨k0, k1, k2⟩, k3, k4, k5, k6, k7, k8, k9⟩ := hq.at
  have h2' : tmps[2]?.getD undef = .pointer (some ⟨g, 0, none⟩) := by simpa using h2
  have h3' : tmps[3]?.getD undef = .int .i64 x := by simpa using h3
  simp [results, Tryd.results17, go_sem, h2', h3', k0, k1, k2, k3, k4, k5, k6, k7, k8, k9]

set_option maxHeartbeats 2000000 in
theorem fdec_open (E : Nat) (hE : E = 2 ∨ E = 4) (s : ByteArray) (w : World) (hs : s.size ≤ 1048576) (ho : openE s = E) : Calls Tryd.prog 16 #[.string s] w (DecF w s) := by
  have hO := fun wx => copen_any s wx hs
  rw [ho] at hO
  have HF := hide (show FDecP s 0 0 0 0 0 0 0 0 [] ⟨#[]⟩ E from fd_open (by omega) ho.symm fz_zero)
  have HO := hide hO
  have X0 := hide (frb_new w (.int .i64 0) (.int .i64 0) (.int .i64 0) (.int .i64 0) (.int .i64 0) (.int .i64 0) (.int .i64 0) (.int .i64 0) (.slice none 0 0) (.string ⟨#[]⟩))
  have B0 := hide (below_new w (.cells #[.int .i64 0, .int .i64 0, .int .i64 0, .int .i64 0, .int .i64 0, .int .i64 0, .int .i64 0, .int .i64 0, .slice none 0 0, .string ⟨#[]⟩] 28))
  generalize openT s = T at *
  clear hs ho hO
  rcases hE with rfl | rfl
  all_goals
    go_enter Tryd.func16, Tryd.ntmps16
    go_wp2_with fail
    refine (unhide HO _).mono ?_
    rintro e w1 ⟨rfl, hb1⟩
    have X1 := hide ((unhide X0).below hb1)
    have B1 := hide (below0 (unhide B0) hb1)
    clear hb1 X0 B0 HO
    obtain ⟨⟨k0, k1, k2⟩, k3, k4, k5, k6, k7, k8, k9⟩ := (unhide X1).at
    have f := (unhide X1).frz
    go_wp2
    have q := hide ((unhide X1).sets (.int .i64 0) (.int .i64 0) (.int .i64 0) (.int .i64 0) (.int .i64 0) (.int .i64 0) (.int .i64 0) (.int .i64 0) (.slice none 0 0) (.string ⟨#[]⟩))
    have b := hide (below10 (unhide B1) (Nat.le_refl _) (.int .i64 0) (.int .i64 0) (.int .i64 0) (.int .i64 0) (.int .i64 0) (.int .i64 0) (.int .i64 0) (.int .i64 0) (.slice none 0 0) (.string ⟨#[]⟩))
    exact bodyPost_ret (results_fdec rfl rfl (unhide q)) rfl (decf_zero (unhide HF) (unhide b))

set_option maxHeartbeats 2000000 in
theorem fdec_short (s T : ByteArray) (w : World) (hO : ∀ wx, Calls Tryd.prog 31 #[.string s] wx fun e w' => e = .returned (.tuple #[.string T, .int .i64 ((0 : Nat) : Int)]) ∧ Below wx.heap.size wx w') (h6 : T.size < 6) (hd : FDecP s 0 0 0 0 0 0 0 0 [] ⟨#[]⟩ 2) :
    Calls Tryd.prog 16 #[.string s] w (DecF w s) := by
  have HO := hide hO
  have X0 := hide (frb_new w (.int .i64 0) (.int .i64 0) (.int .i64 0) (.int .i64 0) (.int .i64 0) (.int .i64 0) (.int .i64 0) (.int .i64 0) (.slice none 0 0) (.string ⟨#[]⟩))
  have B0 := hide (below_new w (.cells #[.int .i64 0, .int .i64 0, .int .i64 0, .int .i64 0, .int .i64 0, .int .i64 0, .int .i64 0, .int .i64 0, .slice none 0 0, .string ⟨#[]⟩] 28))
  have h6' : (T.size : Int) < 6 := by omega
  have HF := hide hd
  clear h6 hO hd
  go_enter Tryd.func16, Tryd.ntmps16
  go_wp2_with fail
  refine (unhide HO _).mono ?_
  rintro e w1 ⟨rfl, hb1⟩
  have X1 := hide ((unhide X0).below hb1)
  have B1 := hide (below0 (unhide B0) hb1)
  clear hb1 X0 B0 HO
  obtain ⟨⟨k0, k1, k2⟩, k3, k4, k5, k6, k7, k8, k9⟩ := (unhide X1).at
  have f := (unhide X1).frz
  go_wp2
  have q := hide ((unhide X1).sets (.int .i64 0) (.int .i64 0) (.int .i64 0) (.int .i64 0) (.int .i64 0) (.int .i64 0) (.int .i64 0) (.int .i64 0) (.slice none 0 0) (.string ⟨#[]⟩))
  have b := hide (below10 (unhide B1) (Nat.le_refl _) (.int .i64 0) (.int .i64 0) (.int .i64 0) (.int .i64 0) (.int .i64 0) (.int .i64 0) (.int .i64 0) (.int .i64 0) (.slice none 0 0) (.string ⟨#[]⟩))
  exact bodyPost_ret (results_fdec rfl rfl (unhide q)) rfl (decf_zero (en := 2) (unhide HF) (unhide b))

set_option maxHeartbeats 4000000 in
theorem fdec_far (s T : ByteArray) (x0 x1 x2 : Nat) (w : World) (hO : ∀ wx, Calls Tryd.prog 31 #[.string s] wx fun e w' => e = .returned (.tuple #[.string T, .int .i64 ((0 : Nat) : Int)]) ∧ Below wx.heap.size wx w') (h6 : ¬ T.size < 6)
    (hH : ∀ wx, Calls Tryd.prog 32 #[.string T] wx fun e w' => e = .returned (.agg #[.int .i64 (x0 : Int), .int .i64 (x1 : Int), .int .i64 (x2 : Int), .int .i64 0, .int .i64 0, .int .i64 0, .int .i64 0, .int .i64 0, .slice none 0 0, .string ⟨#[]⟩]) ∧ Below wx.heap.size wx w') (h8 : 8 ≤ x1) (hd : FDecP s 0 0 0 0 0 0 0 0 [] ⟨#[]⟩ 3) :
    Calls Tryd.prog 16 #[.string s] w (DecF w s) := by
  have HO := hide hO
  have HH := hide hH
  have X0 := hide (frb_new w (.int .i64 0) (.int .i64 0) (.int .i64 0) (.int .i64 0) (.int .i64 0) (.int .i64 0) (.int .i64 0) (.int .i64 0) (.slice none 0 0) (.string ⟨#[]⟩))
  have B0 := hide (below_new w (.cells #[.int .i64 0, .int .i64 0, .int .i64 0, .int .i64 0, .int .i64 0, .int .i64 0, .int .i64 0, .int .i64 0, .slice none 0 0, .string ⟨#[]⟩] 28))
  have h6' : ¬ ((T.size : Int) < 6) := by omega
  have h8' : (8 : Int) ≤ (x1 : Int) := by omega
  have HF := hide hd
  clear h6 h8 hO hH hd
  go_enter Tryd.func16, Tryd.ntmps16
  go_wp2_with fail
  refine (unhide HO _).mono ?_
  rintro e w1 ⟨rfl, hb1⟩
  have X1 := hide ((unhide X0).below hb1)
  have B1 := hide (below0 (unhide B0) hb1)
  clear hb1 X0 B0 HO
  go_wp2_with fail
  refine (unhide HH _).mono ?_
  rintro e w2 ⟨rfl, hb2⟩
  have X2 := hide ((unhide X1).below hb2)
  have B2 := hide (below0 (unhide B1) hb2)
  have hlt := (unhide X2).lt
  clear hb2 X1 B1 HH
  have X3 := hide ((unhide X2).below (below_new w2 (.cells #[.int .i64 (x0 : Int), .int .i64 (x1 : Int), .int .i64 (x2 : Int), .int .i64 0, .int .i64 0, .int .i64 0, .int .i64 0, .int .i64 0, .slice none 0 0, .string ⟨#[]⟩] 28)))
  have B3 := hide (below0 (unhide B2) (below_new w2 (.cells #[.int .i64 (x0 : Int), .int .i64 (x1 : Int), .int .i64 (x2 : Int), .int .i64 0, .int .i64 0, .int .i64 0, .int .i64 0, .int .i64 0, .slice none 0 0, .string ⟨#[]⟩] 28)))
  have Y3 := hide (frb_new w2 (.int .i64 (x0 : Int)) (.int .i64 (x1 : Int)) (.int .i64 (x2 : Int)) (.int .i64 0) (.int .i64 0) (.int .i64 0) (.int .i64 0) (.int .i64 0) (.slice none 0 0) (.string ⟨#[]⟩))
  clear X2 B2
  iterate 7 (first | go_values | go_skip | go_guarded | go_step | go_upon | go_back | go_simp)
  generalize w2.alloc (.cells #[.int .i64 (x0 : Int), .int .i64 (x1 : Int), .int .i64 (x2 : Int), .int .i64 0, .int .i64 0, .int .i64 0, .int .i64 0, .int .i64 0, .slice none 0 0, .string ⟨#[]⟩] 28) = w3 at *
  generalize w2.heap.size = g at *
  have m1 := (unhide Y3).at.1.2.1
  obtain ⟨⟨k0, k1, k2⟩, k3, k4, k5, k6, k7, k8, k9⟩ := (unhide X3).at
  have f := (unhide X3).frz
  go_wp2
  have q := hide ((unhide X3).sets (.int .i64 0) (.int .i64 0) (.int .i64 0) (.int .i64 0) (.int .i64 0) (.int .i64 0) (.int .i64 0) (.int .i64 0) (.slice none 0 0) (.string ⟨#[]⟩))
  have b := hide (below10 (unhide B3) (Nat.le_refl _) (.int .i64 0) (.int .i64 0) (.int .i64 0) (.int .i64 0) (.int .i64 0) (.int .i64 0) (.int .i64 0) (.int .i64 0) (.slice none 0 0) (.string ⟨#[]⟩))
  exact bodyPost_ret (results_fdec rfl rfl (unhide q)) rfl (decf_zero (en := 3) (unhide HF) (unhide b))

set_option maxHeartbeats 4000000 in
theorem fdec_body (s T : ByteArray) (x0 x1 x2 : Nat) (w : World) (hs : T.size ≤ 1048576) (hO : ∀ wx, Calls Tryd.prog 31 #[.string s] wx fun e w' => e = .returned (.tuple #[.string T, .int .i64 ((0 : Nat) : Int)]) ∧ Below wx.heap.size wx w') (h6 : ¬ T.size < 6)
    (hH : ∀ wx, Calls Tryd.prog 32 #[.string T] wx fun e w' => e = .returned (.agg #[.int .i64 (x0 : Int), .int .i64 (x1 : Int), .int .i64 (x2 : Int), .int .i64 0, .int .i64 0, .int .i64 0, .int .i64 0, .int .i64 0, .slice none 0 0, .string ⟨#[]⟩]) ∧ Below wx.heap.size wx w') (h8 : ¬ 8 ≤ x1)
    (hF : ∀ (o l k z h : Int) (xs : List Nat) (t : ByteArray) (en : Nat), ReadP (x0 : Int) (restT T) o l k z h xs t en → (en ≠ 0 → FDecP s 0 0 0 0 0 0 0 0 [] ⟨#[]⟩ en) ∧ (en = 0 → FDecP s (x0 : Int) (x1 : Int) (x2 : Int) o l k z h xs t 0)) :
    Calls Tryd.prog 16 #[.string s] w (DecF w s) := by
  have HO := hide hO
  have HH := hide hH
  have X0 := hide (frb_new w (.int .i64 0) (.int .i64 0) (.int .i64 0) (.int .i64 0) (.int .i64 0) (.int .i64 0) (.int .i64 0) (.int .i64 0) (.slice none 0 0) (.string ⟨#[]⟩))
  have B0 := hide (below_new w (.cells #[.int .i64 0, .int .i64 0, .int .i64 0, .int .i64 0, .int .i64 0, .int .i64 0, .int .i64 0, .int .i64 0, .slice none 0 0, .string ⟨#[]⟩] 28))
  have h6' : ¬ ((T.size : Int) < 6) := by omega
  have h8' : ¬ ((8 : Int) ≤ (x1 : Int)) := by omega
  have hs6 : (6 : Int) ≤ (T.size : Int) := by omega
  have HF := hide hF
  have HB := hide (fun wx => body_any (x0 : Int) (.int .i64 (x1 : Int)) (.int .i64 (x2 : Int)) (.int .i64 0) (.int .i64 0) (.int .i64 0) (.int .i64 0) (.int .i64 0) (.slice none 0 0) (.string ⟨#[]⟩) wx)
  have HR := hide (fun wx => read_any (x0 : Int) (.int .i64 0) (.int .i64 0) (.int .i64 0) (.int .i64 0) (.int .i64 0) (.slice none 0 0) (.string ⟨#[]⟩) (restT T) wx (by unfold restT; rw [ByteArray.size_extract]; omega))
  have hrest : T.extract 6 T.size = restT T := rfl
  clear h6 h8 hH hF hO hs
  generalize restT T = R at *
  generalize bodyV (x0 : Int) (.int .i64 0) (.int .i64 0) (.int .i64 0) (.int .i64 0) (.int .i64 0) (.slice none 0 0) (.string ⟨#[]⟩) = V at *
  go_enter Tryd.func16, Tryd.ntmps16
  go_wp2_with fail
  refine (unhide HO _).mono ?_
  rintro e w1 ⟨rfl, hb1⟩
  have X1 := hide ((unhide X0).below hb1)
  have B1 := hide (below0 (unhide B0) hb1)
  clear hb1 X0 B0 HO
  go_wp2_with fail
  refine (unhide HH _).mono ?_
  rintro e w2 ⟨rfl, hb2⟩
  have X2 := hide ((unhide X1).below hb2)
  have B2 := hide (below0 (unhide B1) hb2)
  have hlt := (unhide X2).lt
  clear hb2 X1 B1 HH
  have X3 := hide ((unhide X2).below (below_new w2 (.cells #[.int .i64 (x0 : Int), .int .i64 (x1 : Int), .int .i64 (x2 : Int), .int .i64 0, .int .i64 0, .int .i64 0, .int .i64 0, .int .i64 0, .slice none 0 0, .string ⟨#[]⟩] 28)))
  have B3 := hide (below0 (unhide B2) (below_new w2 (.cells #[.int .i64 (x0 : Int), .int .i64 (x1 : Int), .int .i64 (x2 : Int), .int .i64 0, .int .i64 0, .int .i64 0, .int .i64 0, .int .i64 0, .slice none 0 0, .string ⟨#[]⟩] 28)))
  have Y3 := hide (frb_new w2 (.int .i64 (x0 : Int)) (.int .i64 (x1 : Int)) (.int .i64 (x2 : Int)) (.int .i64 0) (.int .i64 0) (.int .i64 0) (.int .i64 0) (.int .i64 0) (.slice none 0 0) (.string ⟨#[]⟩))
  clear X2 B2
  iterate 7 (first | go_values | go_skip | go_guarded | go_step | go_upon | go_back | go_simp)
  generalize w2.alloc (.cells #[.int .i64 (x0 : Int), .int .i64 (x1 : Int), .int .i64 (x2 : Int), .int .i64 0, .int .i64 0, .int .i64 0, .int .i64 0, .int .i64 0, .slice none 0 0, .string ⟨#[]⟩] 28) = w3 at *
  generalize w2.heap.size = g at *
  obtain ⟨⟨k0, k1, k2⟩, k3, k4, k5, k6, k7, k8, k9⟩ := (unhide Y3).at
  go_wp2_with fail
  refine wp_region_any (by kernel_rfl) ?_
  change wpAny _ _ _ _ _ _ _ (World.drew _)
  refine wpAny_take (i := 2) (v := ?_) rfl (by kernel_rfl) (by kernel_rfl) (by kernel_rfl) (fun _ _ _ h => h) (Or.inl ⟨by rfl, ?f2⟩) ?_
  case f2 => (intro w; go_simp; try with_reducible rfl)
  refine wpAny_take (i := 3) (v := ?_) rfl (by kernel_rfl) (by kernel_rfl) (by kernel_rfl) (fun _ _ _ h => h) (Or.inl ⟨by rfl, ?f3⟩) ?_
  case f3 => (intro w; go_simp; try with_reducible rfl)
  refine wpAny_ready (rs := [0]) (by kernel_rfl) (by simp) ?_
  refine AllReady.cons rfl (fun K hK => ?_) AllReady.nil
  go_simp
  refine hK _ _ ?_
  clear hK K k0 k1 k2 k3 k4 k5 k6 k7 k8 k9
  refine wpAny_ready (rs := [1]) (by kernel_rfl) (by simp) ?_
  refine AllReady.cons rfl (fun K hK => ?_) AllReady.nil
  go_simp
  refine (unhide HB _).mono ?_
  rintro e w4 ⟨rfl, hb4⟩
  have b34 : Below w3.heap.size w3 w4 := (Below.refl _ _).drew.trans hb4
  have X4 := hide ((unhide X3).below b34)
  have Y4 := hide ((unhide Y3).below b34)
  have B4 := hide (below0 (unhide B3) b34)
  clear hb4 b34 X3 Y3 B3 HB
  refine hK _ _ ?_
  clear hK K
  refine wpAny_ready (rs := [4]) (by kernel_rfl) (by simp) ?_
  refine AllReady.cons rfl (fun K hK => ?_) AllReady.nil
  go_simp
  refine (unhide HR _).mono ?_
  rintro e w5 ⟨o, l, k, z, h, a, n, c, xs, t, en, rfl, hr, hrd, hb5⟩
  have X5 := hide ((unhide X4).below hb5)
  have Y5 := hide ((unhide Y4).below hb5)
  have B5 := hide (below0 (unhide B4) hb5)
  have R5 := hide hr
  have HEN := hide (read_en hrd)
  have HRD := hide (unhide HF _ _ _ _ _ _ _ _ hrd)
  clear hb5 X4 Y4 B4 HR hr hrd HF
  refine hK _ _ ?_
  clear hK K
  refine wpAny_take (i := 5) (v := ?_) rfl (by kernel_rfl) (by kernel_rfl) (by kernel_rfl) (fun _ _ _ h => h) (Or.inl ⟨by rfl, ?f5⟩) ?_
  case f5 => (intro w; go_simp; try with_reducible rfl)
  refine wpAny_take (i := 6) (v := ?_) rfl (by kernel_rfl) (by kernel_rfl) (by kernel_rfl) (fun _ _ _ h => h) (Or.inl ⟨by rfl, ?f6⟩) ?_
  case f6 => (intro w; go_simp; try with_reducible rfl)
  refine wpAny_take (i := 7) (v := ?_) rfl (by kernel_rfl) (by kernel_rfl) (by kernel_rfl) (fun _ _ _ h => h) (Or.inl ⟨by rfl, ?f7⟩) ?_
  case f7 => (intro w; go_simp; try with_reducible rfl)
  refine wpAny_take (i := 8) (v := ?_) rfl (by kernel_rfl) (by kernel_rfl) (by kernel_rfl) (fun _ _ _ h => h) (Or.inl ⟨by rfl, ?f8⟩) ?_
  case f8 => (intro w; go_simp; try with_reducible rfl)
  obtain ⟨⟨m0, m1, m2⟩, m3, m4, m5, m6, m7, m8, m9⟩ := (unhide Y5).at
  have mf := (unhide Y5).frz
  refine wpAny_ready (rs := [9]) (by kernel_rfl) (by simp) ?_
  refine AllReady.cons rfl (fun K hK => ?_) AllReady.nil
  go_simp
  refine hK _ _ ?_
  clear hK K
  refine wpAny_take (i := 10) (v := ?_) rfl (by kernel_rfl) (by kernel_rfl) (by kernel_rfl) (fun _ _ _ h => h) (Or.inl ⟨by rfl, ?f10⟩) ?_
  case f10 => (intro w; go_simp; try with_reducible rfl)
  refine wpAny_done (by kernel_rfl) ?_ _
  clear m0 m1 m2 m3 m4 m5 m6 m7 m8 m9 mf
  have Y6 := hide ((unhide Y5).setp (.int .i64 o) (.int .i64 l) (.int .i64 k) (.int .i64 z) (.int .i64 h) (.slice a n c) (.string t))
  have X6 := hide ((unhide X5).otherp (Nat.ne_of_lt hlt) (.int .i64 o) (.int .i64 l) (.int .i64 k) (.int .i64 z) (.int .i64 h) (.slice a n c) (.string t))
  have B6 := hide (belowP (unhide B5) (Nat.le_of_lt hlt) (.int .i64 o) (.int .i64 l) (.int .i64 k) (.int .i64 z) (.int .i64 h) (.slice a n c) (.string t))
  have R6 := hide ((unhide R5).otherP ((unhide Y5).apart (unhide R5)) (.int .i64 o) (.int .i64 l) (.int .i64 k) (.int .i64 z) (.int .i64 h) (.slice a n c) (.string t))
  clear X5 Y5 B5 R5
  change Exit.then _ _ _ _ (setP w5 g (.int .i64 o) (.int .i64 l) (.int .i64 k) (.int .i64 z) (.int .i64 h) (.slice a n c) (.string t))
  generalize setP w5 g (.int .i64 o) (.int .i64 l) (.int .i64 k) (.int .i64 z) (.int .i64 h) (.slice a n c) (.string t) = w6 at *
  obtain ⟨⟨k0, k1, k2⟩, k3, k4, k5, k6, k7, k8, k9⟩ := (unhide X6).at
  have f := (unhide X6).frz
  rcases (unhide HEN) with rfl | rfl | rfl
  · obtain ⟨⟨m0, m1, m2⟩, m3, m4, m5, m6, m7, m8, m9⟩ := (unhide Y6).at
    have HP := hide ((unhide HRD).2 rfl)
    clear HRD HEN
    go_wp2
    have q := hide ((unhide X6).sets (.int .i64 (x0 : Int)) (.int .i64 (x1 : Int)) (.int .i64 (x2 : Int)) (.int .i64 o) (.int .i64 l) (.int .i64 k) (.int .i64 z) (.int .i64 h) (.slice a n c) (.string t))
    have b := hide (below10 (unhide B6) (Nat.le_refl _) (.int .i64 (x0 : Int)) (.int .i64 (x1 : Int)) (.int .i64 (x2 : Int)) (.int .i64 o) (.int .i64 l) (.int .i64 k) (.int .i64 z) (.int .i64 h) (.slice a n c) (.string t))
    have r := hide ((unhide R6).other10 ((unhide X6).apart (unhide R6)) (.int .i64 (x0 : Int)) (.int .i64 (x1 : Int)) (.int .i64 (x2 : Int)) (.int .i64 o) (.int .i64 l) (.int .i64 k) (.int .i64 z) (.int .i64 h) (.slice a n c) (.string t))
    exact bodyPost_ret (results_fdec rfl rfl (unhide q)) rfl ⟨_, _, _, o, l, k, z, h, a, n, c, xs, t, 0, rfl, unhide r, unhide HP, unhide b⟩
  · have HP := hide ((unhide HRD).1 (by decide))
    clear HRD HEN
    go_wp2
    have q := hide ((unhide X6).sets (.int .i64 0) (.int .i64 0) (.int .i64 0) (.int .i64 0) (.int .i64 0) (.int .i64 0) (.int .i64 0) (.int .i64 0) (.slice none 0 0) (.string ⟨#[]⟩))
    have b := hide (below10 (unhide B6) (Nat.le_refl _) (.int .i64 0) (.int .i64 0) (.int .i64 0) (.int .i64 0) (.int .i64 0) (.int .i64 0) (.int .i64 0) (.int .i64 0) (.slice none 0 0) (.string ⟨#[]⟩))
    exact bodyPost_ret (results_fdec rfl rfl (unhide q)) rfl (decf_zero (en := 2) (unhide HP) (unhide b))
  · have HP := hide ((unhide HRD).1 (by decide))
    clear HRD HEN
    go_wp2
    have q := hide ((unhide X6).sets (.int .i64 0) (.int .i64 0) (.int .i64 0) (.int .i64 0) (.int .i64 0) (.int .i64 0) (.int .i64 0) (.int .i64 0) (.slice none 0 0) (.string ⟨#[]⟩))
    have b := hide (below10 (unhide B6) (Nat.le_refl _) (.int .i64 0) (.int .i64 0) (.int .i64 0) (.int .i64 0) (.int .i64 0) (.int .i64 0) (.int .i64 0) (.int .i64 0) (.slice none 0 0) (.string ⟨#[]⟩))
    exact bodyPost_ret (results_fdec rfl rfl (unhide q)) rfl (decf_zero (en := 3) (unhide HP) (unhide b))

theorem fdec_any (s : ByteArray) (w : World) (hs : s.size ≤ 1048576) : Calls Tryd.prog 16 #[.string s] w (DecF w s) := by
  rcases open_cases s with h0 | h0 | h0
  · have hO := fun wx => copen_any s wx hs
    have hTs := openT_le s
    obtain ⟨T, hT⟩ : ∃ T, openT s = T := ⟨_, rfl⟩
    rw [h0, hT] at hO
    rw [hT] at hTs
    by_cases h6 : T.size < 6
    · exact fdec_short s T w hO h6 (fd_opened h0 hT (fd_short h6 rfl fz_zero))
    · have hH := fun wx => fhead_any T (by omega) wx
      by_cases h8 : 8 ≤ hdF T
      · exact fdec_far s T _ _ _ w hO h6 hH h8 (fd_opened h0 hT (fd_bad h6 (.inl h8) rfl fz_zero))
      · refine fdec_body s T _ _ _ w (by omega) hO h6 hH h8 fun o l k z h xs t en hp => ?_
        have := fd_read h6 h8 hp
        exact ⟨fun h => fd_opened h0 hT (this.1 h), fun h => fd_opened h0 hT (this.2 h)⟩
  · exact fdec_open 2 (.inl rfl) s w hs h0
  · exact fdec_open 4 (.inr rfl) s w hs h0
end Go.Proofs.YtjgckchddllinaaDoor
