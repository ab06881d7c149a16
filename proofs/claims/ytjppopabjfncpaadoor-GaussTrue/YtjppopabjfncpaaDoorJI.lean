/-
  Contract of bucketlineref14.Decode.
-/
import Derived.Test.YtjppopabjfncpaaDoorJH
import Derived.Test.YtjppopabjfncpaaDoorJV
namespace Go.Proofs.YtjppopabjfncpaaDoor
open Go.RowKit Go.Sort
set_option linter.unusedVariables false
set_option maxRecDepth 4000



set_option maxHeartbeats 2000000 in
theorem rdecode_any (k : Int) (a : Option Addr) (n c : Nat) (rs : List RV) (kn : List Nat) (bs : List ByteArray) (hPP : PeelP k rs kn bs) (w : World) (h : RowsAt w a n rs) (hcap : CapR rs) (hs : shortR rs) (hn : n ≤ 300) :
    Calls Tryd.prog 16 #[.int .i64 k, .slice a n c] w fun e w' => ∃ a1 m1 c1, e = .returned (.tuple #[.slice a1 m1 c1, .bool (okC k (peelC k rs kn bs))]) ∧ OwnT w' w.heap.size (.slice a1 m1 c1) (solveC k (peelC k rs kn bs)) ∧ Below w.heap.size w w' := by
  have HP := hide (rpeel_any k a n c rs w h hs hcap (by omega))
  have HG := hide (good_of h hs)
  have HLN := hide (len_of h hs)
  have Hs := hide hs
  have HN := hide h.1
  have HVD := hide (peel_valid hPP (good_of h hs))
  clear h hs hcap
  go_enter Tryd.func16, Tryd.ntmps16
  go_wp2_with fail
  refine (unhide HP).mono ?_
  rintro e w1 ⟨a1, m1, c1, ts1, a2, m2, c2, ts2, rfl, hP⟩
  obtain ⟨s1, s2, l1, l2⟩ := hP.short (unhide HG) (unhide Hs) (unhide HLN)
  obtain ⟨kn', bs', p1, o1, i1, e1, o2, i2, e2, hb1⟩ := hP
  obtain ⟨rfl, rfl⟩ := hPP.uniq p1
  have hN := unhide HN
  have hE : (ts1 ++ ts2).map core = peelC k rs kn bs := by rw [List.map_append, e1, e2]; rfl
  have HVC := hide (valid_all_core hE (unhide HVD))
  have HO1 := hide o1
  have HO2 := hide o2
  have HI := hide (i1.append i2)
  have HSA := hide (short_append s1 s2)
  have hl1 : ts1.length ≤ 1048576 := by omega
  have hlA : ts1.length + ts2.length ≤ 1000 := by omega
  have HB1 := hide hb1
  obtain ⟨A, hA⟩ : ∃ A, A = ts1 ++ ts2 := ⟨_, rfl⟩
  rw [← hA] at HVC HI HSA
  have HAE := hide hA
  have HAL : A.length ≤ 1000 := by rw [hA, List.length_append]; exact hlA
  have HRS := hide (fun (a3 : Option Addr) (m3 c3 : Nat) (w3 : World) (ho : OwnS w3 w1.heap.size (.slice a3 m3 c3) A) (hi : RowsIn w3 A) => rsolve_any k a3 m3 c3 A w3 (ho.at' hi).1 (CapR.of hi) (unhide HSA) (by have := (ho.at' hi).2.1; omega))
  rw [unhide HVC] at HRS
  clear HP p1 o1 i1 e1 o2 i2 e2 hb1 s1 s2 l1 l2 hE hN hPP hA HVC HVD
  go_wp2_with (first | (at_builtin; refine wpList_appendS rfl (.const (.slice none 0 0)) (.tmp 15) rfl w1.heap.size w.heap.size (.slice none 0 0) (.slice a1 m1 c1) [] ts1 rfl rfl (OwnS.nil _ _) (Nat.le_refl _) (unhide HO1) (by simpa using hl1) ?_; intro v2 w2 ho2 hb2; rw [List.nil_append] at ho2; have HX2 := hide ho2; have HL2 := hide ((unhide HO2).below hb2); have HB2 := hide hb2; clear ho2 hb2) | (at_builtin; refine wpList_appendS rfl (.tmp 16) (.tmp 17) rfl w1.heap.size w.heap.size v2 (.slice a2 m2 c2) ts1 ts2 rfl rfl (unhide HX2) (unhide HB2).size (unhide HL2) (by omega) ?_; intro v3 w3 ho3 hb3; rw [← unhide HAE] at ho3; obtain ⟨a3, c3, rfl⟩ := ho3.shape; have hb13 := (unhide HB2).trans hb3; have HK3 := hide (unhide HRS a3 _ c3 w3 ho3 ((unhide HI).below hb13)); have HB3 := hide (below0 (unhide HB1) hb13); clear ho3 hb3 hb13) | (go_at_call 11; refine (unhide HK3).mono ?_; rintro e w4 ⟨a4, m4, c4, rfl, ho4, hb4⟩; have HO4 := hide (ho4.mono (unhide HB3).size); have HB4 := hide (below0 (unhide HB3) hb4); clear ho4 hb4))
  go_ret2
  exact ⟨_, _, _, rfl, unhide HO4, unhide HB4⟩
end Go.Proofs.YtjppopabjfncpaaDoor
