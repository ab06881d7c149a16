/-
  Contracts of bucketlineref03.Same, Add, Basis, Rank and of bucketlinelaw03.Few: for rows of at most 2^20 words.
-/
import Derived.Test.YtobelbmcbgfdhaaDoorED
namespace Go.Proofs.YtobelbmcbgfdhaaDoor
open Go.RowKit Go.Sort
set_option linter.unusedVariables false

/-- A callee in a region that draws its order, in whatever world that region can have come to. -/
theorem quietB {W : World} {f : FuncId} {args : Array Value} {v : Value} (h : ∀ w', Below W.heap.size W w' → Calls Tryd.prog f args w' fun e w'' => e = .returned v ∧ Below w'.heap.size w' w'') (d : Nat) (os : Array Obj) :
    Calls Tryd.prog f args (grow (redrawn W d) os) fun e w'' => e = .returned v ∧ ∃ p : Regrown, w'' = grow (redrawn W p.d) p.os :=
  Calls.regrown_of (h _ (below_regrown W d os))

set_option maxHeartbeats 1000000 in
theorem same3_any (a : Option Addr) (n c : Nat) (rs : List (List Nat)) (a' : Option Addr) (m c' : Nat) (ss : List (List Nat)) (w : World) (h : VecsAt w a n rs) (hf : Fit 1048576 rs) (h' : VecsAt w a' m ss) (hf' : Fit 1048576 ss) (hS : SameR rs ss) (hn : n ≤ 1048576) :
    Calls Tryd.prog 20 #[.slice a n c, .slice a' m c'] w fun e w' => e = .returned (.bool true) ∧ Below w.heap.size w w' := by
  obtain rfl : n = rs.length := h.1.symm
  obtain rfl : m = rs.length := by rw [← h'.1]; exact hS.1.symm
  go_enter Tryd.func20, Tryd.ntmps20
  go_wp2
  go_loopw [5] (fun i wr => ∃ k : Nat, k ≤ rs.length ∧ i = .int .i64 k ∧ Hid (Below w.heap.size w wr)) (fun i _ => rs.length - (intOf i).toNat)
  case atStart => exact ⟨0, Nat.zero_le _, rfl, hide (Below.refl _ _)⟩
  case round =>
    obtain ⟨k, hk, rfl, HB⟩ := hrel
    have hB := unhide HB
    by_cases hlt : k < rs.length
    · obtain ⟨b, off, rfl, hc⟩ := (h.below hB).at hlt
      obtain ⟨ai, ci, hcell, hrow⟩ := hc k hlt
      obtain ⟨b2, off2, rfl, hc2⟩ := (h'.below hB).at hlt
      obtain ⟨ai2, ci2, hcell2, hrow2⟩ := hc2 k hlt
      have k0 := cell_regrown hcell
      have k1 := cell_regrown hcell2
      have hs := hS.2 k hlt
      have cS := quietB (fun wx hbx => rsame_any ai _ ci (rs.getD k []) ai2 _ ci2 (ss.getD k []) wx (hrow.below hbx) (hrow2.below hbx) (hf.getD k).2 (hf'.getD k).2)
      rw [hs] at cS
      clear hc hc2 h h' hrow hrow2 hcell hcell2 hs hS
      generalize rs.getD k [] = x at *
      generalize ss.getD k [] = y at *
      go_wp2_with fail
      refine wp_region_quiet_below (by kernel_rfl) (by kernel_rfl) ?_
      repeat (with_reducible refine wpQuiet_step (fun K hK => ?_); go_simp; first | (with_reducible refine hK _ ?_; clear hK K) | (apply Exists.intro; apply And.intro; (intro _; go_at_call 18; exact cS _ _); with_reducible refine hK _ ?_; clear hK K))
      refine wpQuiet_nil ?_
      intro _ hw'
      obtain ⟨⟨dq, osq⟩, hw''⟩ := hw'
      subst hw''
      have HB2 := hide (below0 hB (below_regrown wr dq osq))
      clear hB HB cS k0 k1
      go_wp2
      go_roundw
      case rel => exact ⟨k + 1, by omega, by go_num, HB2⟩
      case measure => simp [intOf]; omega
    · clear h h' hS
      go_wp2
      go_ret
      exact ⟨rfl, unhide HB⟩

/-- Rows that are not too many and not too wide. -/
def FewP (rs : List (List Nat)) : Prop := rs.length ≤ 150 ∧ ∀ i, i < rs.length → (rs.getD i []).length ≤ 4
theorem few_step (rs : List (List Nat)) (k : Nat) (h : ∀ j, j < k → (rs.getD j []).length ≤ 4) (h0 : (rs.getD k []).length ≤ 4) : ∀ j, j < k + 1 → (rs.getD j []).length ≤ 4 := by
  intro j hj
  by_cases e : j = k
  · rw [e]; exact h0
  · exact h j (by omega)
theorem FewP.fit {w : World} {a : Option Addr} {n : Nat} {rs : List (List Nat)} (h : FewP rs) (hv : VecsAt w a n rs) : Fit 1048576 rs := hv.fit fun i hi => by have := h.2 i (by rw [hv.1]; exact hi); omega
set_option maxHeartbeats 400000 in
theorem few_any (a : Option Addr) (n c : Nat) (rs : List (List Nat)) (w : World) (h : VecsAt w a n rs) :
    Calls Tryd.prog 8 #[.slice a n c] w fun e w' => (e = .returned (.int .i64 0) ∨ FewP rs ∧ e = .returned (.int .i64 1)) ∧ w' = w := by
  by_cases hbig : 150 < n
  · have hd : decide ((150 : Int) < (n : Int)) = true := by simp; omega
    clear h
    go_enter Tryd.func8, Tryd.ntmps8
    go_wp2
    go_ret
    exact ⟨.inl rfl, rfl⟩
  · have hd : decide ((150 : Int) < (n : Int)) = false := by simp; omega
    go_enter Tryd.func8, Tryd.ntmps8
    go_wp2
    go_loop [3] (fun i => ∃ k : Nat, k ≤ n ∧ i = .int .i64 k ∧ Hid (∀ j, j < k → (rs.getD j []).length ≤ 4)) (fun i => n - (intOf i).toNat)
    case atStart => exact ⟨0, Nat.zero_le _, rfl, hide (fun j hj => by omega)⟩
    case round =>
      obtain ⟨k, hk, rfl, HZ⟩ := hrel
      by_cases hlt : k < n
      · obtain ⟨b, off, rfl, hc⟩ := h.at hlt
        obtain ⟨ai, ci, hcell, hrow⟩ := hc k hlt
        by_cases h4 : (rs.getD k []).length ≤ 4
        · have HS := hide (few_step rs k (unhide HZ) h4)
          have hd4 : decide ((4 : Int) < ((rs.getD k []).length : Int)) = false := by rw [decide_eq_false_iff_not]; omega
          clear hc hrow h
          generalize rs.getD k [] = y at *
          go_wp2
          go_round
          case rel => exact ⟨k + 1, by omega, by go_num, HS⟩
          case measure => simp [intOf]; omega
        · have hd4 : decide ((4 : Int) < ((rs.getD k []).length : Int)) = true := by rw [decide_eq_true_iff]; omega
          clear hc hrow h
          generalize rs.getD k [] = y at *
          go_wp2
          go_ret
          exact ⟨.inl rfl, rfl⟩
      · have HF : Hid (FewP rs) := hide ⟨by rw [h.1]; omega, fun i hi => unhide HZ i (by rw [h.1] at hi; omega)⟩
        clear h
        go_wp2
        go_ret
        exact ⟨.inr ⟨unhide HF, rfl⟩, rfl⟩

theorem OwnV.push {w w' : World} {B : Nat} {v s rv : Value} {vs : List Value} {rs : List (List Nat)} {r : List Nat} (h : OwnV w B v vs rs) (hr : Own w B rv r) (hd : ∀ u ∈ vs, Dis u rv)
    (htop : w'.ownsRow B 23 1 s (rs.length + 1) (vs ++ [rv])) (hg : w.grownBy w' v.ownBlock) : OwnV w' B s (vs ++ [rv]) (rs ++ [r]) := by
  have hl := h.len
  have e1 : vs.take rs.length ++ rv :: vs.drop rs.length = vs ++ [rv] := by rw [List.take_of_length_le (by omega), List.drop_of_length_le (by omega)]
  have e2 : insAt r rs.length rs = rs ++ [r] := by unfold insAt; simp
  have := h.insert (p := rs.length) hr hd (Nat.le_refl _) (by rw [e1]; exact htop) hg
  rwa [e1, e2] at this
/-- append(out, row), out and the row the call's own. -/
theorem wpList_push {w : World} {ops : Array Oper} {rest : List Oper} {o : Oper} {act : Act} {Q : Exit → Act → World → Prop} (hgd : o.guard = none) (s x : Operand)
    (ho : o.op = .call { callee := .builtin .append, args := #[s, x], argTypes := #[22, 22] }) (B : Nat) (v : Value) (vs : List Value) (rs : List (List Nat)) (bv : Value) (r : List Nat)
    (hs : act.eval s = v) (hx : act.eval x = .slice (some ⟨w.heap.size, 0, none⟩) 1 1) (h : OwnV w B v vs rs) (hB : B ≤ w.heap.size) (hr : Own w B bv r) (hd : ∀ u ∈ vs, Dis u bv) (hn : rs.length ≤ 1048576)
    (hK : ∀ s' w', OwnV w' B s' (vs ++ [bv]) (rs ++ [r]) → w.grownBy w' v.ownBlock → wpList Tryd.prog ops Q rest (act.put o.dst s') w') : wpList Tryd.prog ops Q (o :: rest) act (w.alloc (.cells #[bv] 23)) := by
  obtain ⟨i0, hi, hz0, hz1, hz2⟩ := info_parts info_u64s
  have hb : Below w.heap.size w (w.alloc (.cells #[bv] 23)) := (Below.refl _ _).alloc (Nat.le_refl _) _
  have h1 := h.below hb
  have hone : bv.oneCell' = true := by
    obtain ⟨a, c, e, _⟩ := hr.row
    rw [e]; rfl
  refine wpList_append_own _ hgd s x 22 ho B 23 i0 (.slice none 0 0) 1 24 Tryd.underlying22 hi hz0 hz1 hz2 rfl (by decide) v rs.length vs hs h1.top ⟨w.heap.size, 0, none⟩ 1 1 [bv] hx rfl (fun j u hj => ?_)
    (fun u hu => by rw [List.mem_singleton.1 hu]; exact hone) (by unfold maxLen; omega) (by omega) (Nat.le_trans hB hb.size) ?_
  · match j with
    | 0 =>
      have hc : (w.alloc (.cells #[bv] 23)).cell? ⟨w.heap.size, 0, none⟩ = some bv := by rw [World.cell?_alloc_at _ _ _ _ rfl]; rfl
      simpa [Addr.add, hc] using hj
    | j + 1 => simp at hj
  · intro v' w' hown hgrow _
    exact hK v' w' (h1.push (hr.below hb) hd hown hgrow) (gb_trans (gb_of_below hb _) hgrow (.inl rfl))
/-- What lies in memory of before and what lies in memory of behind. -/
theorem dis_range {w w' : World} {B : Nat} {u v : Value} {xs ys : List Nat} (h : Own w B u xs) (k : Own w' w.heap.size v ys) : Dis u v := by
  by_cases hu : u.ownBlock = none
  · exact .inl hu
  · right
    intro e
    obtain ⟨b, hb⟩ := Option.ne_none_iff_exists'.1 hu
    have h1 := (h.lt hb).2
    have h2 := (k.lt (by rw [← e]; exact hb)).1
    omega
theorem OwnV.dis_new {w w' : World} {B : Nat} {v bv : Value} {vs : List Value} {rs : List (List Nat)} {ys : List Nat} (h : OwnV w B v vs rs) (k : Own w' w.heap.size bv ys) : ∀ u ∈ vs, Dis u bv := by
  intro u hu
  obtain ⟨i, hi, rfl⟩ := List.getElem_of_mem hu
  exact dis_range (h.rows i _ (List.getElem?_eq_getElem hi)) k
theorem take_snoc (rs : List (List Nat)) (k : Nat) (hk : k < rs.length) : rs.take k ++ [rs.getD k []] = rs.take (k + 1) := by
  rw [List.take_succ_eq_append_getElem hk]
  simp [List.getD_eq_getElem?_getD, List.getElem?_eq_getElem hk]
theorem OwnV.shape {w : World} {B : Nat} {v : Value} {vs : List Value} {rs : List (List Nat)} (h : OwnV w B v vs rs) : ∃ a c, v = .slice a rs.length c := by
  obtain ⟨a, c, e, _⟩ := h.vecs
  exact ⟨a, c, e⟩

set_option maxHeartbeats 2000000 in
theorem radd_no (a : Option Addr) (n c : Nat) (rs : List (List Nat)) (a' : Option Addr) (m c' : Nat) (xs : List Nat) (w : World) (h : VecsAt w a n rs) (hf : Fit 1048576 rs) (h' : RowAt w a' m xs) (hn : n ≤ 100000) (hm : m ≤ 1048576) (hneg : firstI (reduceL rs xs) < 0) :
    Calls Tryd.prog 23 #[.slice a n c, .slice a' m c'] w fun e w' => ∃ v vs, e = .returned (.tuple #[v, .bool false]) ∧ OwnV w' w.heap.size v vs rs ∧ Below w.heap.size w w' := by
  have HR := hide (rreduce_any a n c rs a' m c' xs w h hf h' (by omega) hm)
  obtain ⟨hrs, hrl⟩ := reduce_small hf h'.2.1 (by rw [h'.1]; exact hm)
  have hfl := firstI_le hrs
  generalize reduceL rs xs = r at *
  have HF := hide (fun (w1 : World) (ar : Option Addr) (cr : Nat) (hr : RowAt w1 ar r.length r) => rfirst_any ar r.length cr r w1 hr hrl)
  have hdn : decide (0 ≤ firstI r) = false := by simp; omega
  clear h'
  generalize firstI r = f at *
  go_enter Tryd.func23, Tryd.ntmps23
  go_wp2_with fail
  refine (unhide HR).mono ?_
  rintro e w1 ⟨v, rfl, ho, hb⟩
  obtain ⟨ar, cr, rfl, hr⟩ := ho.row
  have HF1 := hide (unhide HF w1 ar cr hr)
  have HB := hide hb
  clear HF hr ho HR hb
  go_wp2_with fail
  refine (unhide HF1).mono ?_
  rintro e w2 ⟨rfl, hw⟩
  obtain rfl := hw.symm
  clear HF1
  go_wp2
  go_loopw [8, 9, 10] (fun o pl i wr => ∃ k : Nat, k ≤ n ∧ i = .int .i64 k ∧ pl = .bool true ∧ ∃ a1 c1 vs, o = .slice a1 k c1 ∧ Hid (OwnV wr w.heap.size (.slice a1 k c1) vs (rs.take k)) ∧ Hid (Below w.heap.size w wr)) (fun _ _ i _ => n - (intOf i).toNat)
  case atStart => exact ⟨0, Nat.zero_le _, rfl, by simp, none, 0, [], rfl, hide (OwnV.nil _ _), HB⟩
  case round =>
    obtain ⟨k, hk, rfl, rfl, a1, c1, vs, rfl, HV, HB2⟩ := hrel
    by_cases hlt : k < n
    · have hB := unhide HB2
      obtain ⟨b, off, rfl, hc⟩ := (h.below hB).at hlt
      obtain ⟨ai, ci, hcell, hrow⟩ := hc k hlt
      have hlk := (hf.getD k).2
      have HE := hide (take_snoc rs k (by rw [h.1]; exact hlt))
      have HL := hide (show (rs.take k).length = k by rw [List.length_take, h.1]; omega)
      have HL1 := hide (show (rs.take (k + 1)).length = k + 1 by rw [List.length_take, h.1]; omega)
      have HROW := hide hrow
      clear hc hrow h HB
      generalize rs.getD k [] = y at *
      go_wp2_with (first
        | (at_builtin; refine wpList_append_nil rfl _ _ rfl ai y.length ci y rfl rfl (unhide HROW) hlk ?_; intro bv w3 hob hb3; have hV3 := (unhide HV).below hb3; have hbv := hob.mono hB.size; have hd3 := (unhide HV).dis_new hob; have hB3 := below0 hB hb3; obtain ⟨ab, cb, rfl, hrb⟩ := hob.row; clear hob hb3)
        | (at_builtin; refine wpList_push rfl _ _ rfl w.heap.size (.slice a1 k c1) vs (rs.take k) (.slice ab y.length cb) y rfl rfl hV3 hB3.size hbv hd3 (by rw [unhide HL]; omega) ?_; intro s4 w4 hV4 hg4; have hB4 := hB3.trans (gb_below hg4 hB3.size (fun k hk => (hV3.top.lt k hk).1)); rw [unhide HE] at hV4; obtain ⟨a4, c4, rfl⟩ := hV4.shape; rw [unhide HL1] at hV4; rw [unhide HL1]; have HV4 := hide hV4; have HB4 := hide hB4; clear hV4 hg4 hB4 hV3 hbv hd3 hB3))
      go_roundw
      case rel => exact ⟨k + 1, by omega, by go_num, rfl, a4, c4, _, rfl, HV4, HB4⟩
      case measure => simp [intOf]; omega
    · have hke : rs.take k = rs := List.take_of_length_le (by rw [h.1]; omega)
      rw [hke] at HV
      clear h hke HB
      go_wp2
      go_ret2
      exact ⟨_, _, rfl, unhide HV, unhide HB2⟩
end Go.Proofs.YtobelbmcbgfdhaaDoor
