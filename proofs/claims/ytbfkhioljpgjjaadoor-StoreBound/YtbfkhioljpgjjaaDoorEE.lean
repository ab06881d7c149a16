/-
  Contracts of bucketlineref03.Same, Add, Basis, Rank and of bucketlinelaw03.Few: for rows of at most 2^20 words.
-/
import Derived.Test.YtbfkhioljpgjjaaDoorED
namespace Go.Proofs.YtbfkhioljpgjjaaDoor
open Go.RowKit Go.Sort
set_option linter.unusedVariables false
set_option maxRecDepth 4000



/-- Rows that are not too many and not too wide. -/
def FewP (rs : List (List Nat)) : Prop := rs.length ≤ 150 ∧ ∀ i, i < rs.length → (rs.getD i []).length ≤ 4
theorem few_step (rs : List (List Nat)) (k : Nat) (h : ∀ j, j < k → (rs.getD j []).length ≤ 4) (h0 : (rs.getD k []).length ≤ 4) : ∀ j, j < k + 1 → (rs.getD j []).length ≤ 4 := by
  intro j hj
  by_cases e : j = k
  · rw [e]; exact h0
  · exact h j (by omega)
theorem FewP.fit {w : World} {a : Option Addr} {n : Nat} {rs : List (List Nat)} (h : FewP rs) (hv : VecsAt w a n rs) : Fit 1048576 rs := hv.fit fun i hi => by have := h.2 i (by rw [hv.1]; exact hi); omega

theorem OwnV.push {w w' : World} {B : Nat} {v s rv : Value} {vs : List Value} {rs : List (List Nat)} {r : List Nat} (h : OwnV w B v vs rs) (hr : Own w B rv r) (hd : ∀ u ∈ vs, Dis u rv)
    (htop : w'.ownsRow B 34 1 s (rs.length + 1) (vs ++ [rv])) (hg : w.grownBy w' v.ownBlock) : OwnV w' B s (vs ++ [rv]) (rs ++ [r]) := by
  have hl := h.len
  have e1 : vs.take rs.length ++ rv :: vs.drop rs.length = vs ++ [rv] := by rw [List.take_of_length_le (by omega), List.drop_of_length_le (by omega)]
  have e2 : insAt r rs.length rs = rs ++ [r] := by unfold insAt; simp
  have := h.insert (p := rs.length) hr hd (Nat.le_refl _) (by rw [e1]; exact htop) hg
  rwa [e1, e2] at this
/-- append(out, row), out and the row the call's own. -/
theorem wpList_push {w : World} {ops : Array Oper} {rest : List Oper} {o : Oper} {act : Act} {Q : Exit → Act → World → Prop} (hgd : o.guard = none) (s x : Operand)
    (ho : o.op = .call { callee := .builtin .append, args := #[s, x], argTypes := #[55, 55] }) (B : Nat) (v : Value) (vs : List Value) (rs : List (List Nat)) (bv : Value) (r : List Nat)
    (hs : act.eval s = v) (hx : act.eval x = .slice (some ⟨w.heap.size, 0, none⟩) 1 1) (h : OwnV w B v vs rs) (hB : B ≤ w.heap.size) (hr : Own w B bv r) (hd : ∀ u ∈ vs, Dis u bv) (hn : rs.length ≤ 1048576)
    (hK : ∀ s' w', OwnV w' B s' (vs ++ [bv]) (rs ++ [r]) → w.grownBy w' v.ownBlock → wpList Tryd.prog ops Q rest (act.put o.dst s') w') : wpList Tryd.prog ops Q (o :: rest) act (w.alloc (.cells #[bv] 34)) := by
  obtain ⟨i0, hi, hz0, hz1, hz2⟩ := info_parts info_u64s
  have hb : Below w.heap.size w (w.alloc (.cells #[bv] 34)) := (Below.refl _ _).alloc (Nat.le_refl _) _
  have h1 := h.below hb
  have hone : bv.oneCell' = true := by
    obtain ⟨a, c, e, _⟩ := hr.row
    rw [e]; rfl
  refine wpList_append_own _ hgd s x 55 ho B 34 i0 (.slice none 0 0) 1 24 Tryd.underlying55 hi hz0 hz1 hz2 rfl (by decide) v rs.length vs hs h1.top ⟨w.heap.size, 0, none⟩ 1 1 [bv] hx rfl (fun j u hj => ?_)
    (fun u hu => by rw [List.mem_singleton.1 hu]; exact hone) (by unfold maxLen; omega) (by omega) (Nat.le_trans hB hb.size) ?_
  · match j with
    | 0 =>
      have hc : (w.alloc (.cells #[bv] 34)).cell? ⟨w.heap.size, 0, none⟩ = some bv := by rw [World.cell?_alloc_at _ _ _ _ rfl]; rfl
      simpa [Addr.add, hc] using hj
    | j + 1 => simp at hj
  · intro v' w' hown hgrow _
    exact hK v' w' (h1.push (hr.below hb) hd hown hgrow) (gb_trans (gb_of_below hb _) hgrow (.inl rfl))
/-- What lies in memory of before and what lies in memory of behind. -/
theorem dis_range {w w' : World} {B : Nat} {u v : Value} {xs ys : List Nat} (h : Own w B u xs) (k : Own w' w.heap.size v ys) : Dis u v := by
  by_cases hu : u.ownBlock = none
  · exact .inl hu
  · right
    intro e
    obtain ⟨b, hb⟩ := Option.ne_none_iff_exists'.1 hu
    have h1 := (h.lt hb).2
    have h2 := (k.lt (by rw [← e]; exact hb)).1
    omega
theorem OwnV.dis_new {w w' : World} {B : Nat} {v bv : Value} {vs : List Value} {rs : List (List Nat)} {ys : List Nat} (h : OwnV w B v vs rs) (k : Own w' w.heap.size bv ys) : ∀ u ∈ vs, Dis u bv := by
  intro u hu
  obtain ⟨i, hi, rfl⟩ := List.getElem_of_mem hu
  exact dis_range (h.rows i _ (List.getElem?_eq_getElem hi)) k
theorem take_snoc (rs : List (List Nat)) (k : Nat) (hk : k < rs.length) : rs.take k ++ [rs.getD k []] = rs.take (k + 1) := by
  rw [List.take_succ_eq_append_getElem hk]
  simp [List.getD_eq_getElem?_getD, List.getElem?_eq_getElem hk]
theorem OwnV.shape {w : World} {B : Nat} {v : Value} {vs : List Value} {rs : List (List Nat)} (h : OwnV w B v vs rs) : ∃ a c, v = .slice a rs.length c := by
  obtain ⟨a, c, e, _⟩ := h.vecs
  exact ⟨a, c, e⟩

set_option maxHeartbeats 2000000 in
theorem radd_no (a : Option Addr) (n c : Nat) (rs : List (List Nat)) (a' : Option Addr) (m c' : Nat) (xs : List Nat) (w : World) (h : VecsAt w a n rs) (hf : Fit 1048576 rs) (h' : RowAt w a' m xs) (hn : n ≤ 100000) (hm : m ≤ 1048576) (hneg : firstI (reduceL rs xs) < 0) :
    Calls Tryd.prog 46 #[.slice a n c, .slice a' m c'] w fun e w' => ∃ v vs, e = .returned (.tuple #[v, .bool false]) ∧ OwnV w' w.heap.size v vs rs ∧ Below w.heap.size w w' := by
  have HR := hide (rreduce_any a n c rs a' m c' xs w h hf h' (by omega) hm)
  obtain ⟨hrs, hrl⟩ := reduce_small hf h'.2.1 (by rw [h'.1]; exact hm)
  have hfl := firstI_le hrs
  generalize reduceL rs xs = r at *
  have HF := hide (fun (w1 : World) (ar : Option Addr) (cr : Nat) (hr : RowAt w1 ar r.length r) => rfirst_any ar r.length cr r w1 hr hrl)
  have hdn : decide (0 ≤ firstI r) = false := by simp; omega
  clear h'
  generalize firstI r = f at *
  go_enter Tryd.func46, Tryd.ntmps46
  go_wp2_with fail
  refine (unhide HR).mono ?_
  rintro e w1 ⟨v, rfl, ho, hb⟩
  obtain ⟨ar, cr, rfl, hr⟩ := ho.row
  have HF1 := hide (unhide HF w1 ar cr hr)
  have HB := hide hb
  clear HF hr ho HR hb
  go_wp2_with fail
  refine (unhide HF1).mono ?_
  rintro e w2 ⟨rfl, hw⟩
  obtain rfl := hw.symm
  clear HF1
  go_wp2
  go_loopw [8, 9, 10] (fun o pl i wr => ∃ k : Nat, k ≤ n ∧ i = .int .i64 k ∧ pl = .bool true ∧ ∃ a1 c1 vs, o = .slice a1 k c1 ∧ Hid (OwnV wr w.heap.size (.slice a1 k c1) vs (rs.take k)) ∧ Hid (Below w.heap.size w wr)) (fun _ _ i _ => n - (intOf i).toNat)
  case atStart => exact ⟨0, Nat.zero_le _, rfl, by simp, none, 0, [], rfl, hide (OwnV.nil _ _), HB⟩
  case round =>
    obtain ⟨k, hk, rfl, rfl, a1, c1, vs, rfl, HV, HB2⟩ := hrel
    by_cases hlt : k < n
    · have hB := unhide HB2
      obtain ⟨b, off, rfl, hc⟩ := (h.below hB).at hlt
      obtain ⟨ai, ci, hcell, hrow⟩ := hc k hlt
      have hlk := (hf.getD k).2
      have HE := hide (take_snoc rs k (by rw [h.1]; exact hlt))
      have HL := hide (show (rs.take k).length = k by rw [List.length_take, h.1]; omega)
      have HL1 := hide (show (rs.take (k + 1)).length = k + 1 by rw [List.length_take, h.1]; omega)
      have HROW := hide hrow
      clear hc hrow h HB
      generalize rs.getD k [] = y at *
      go_wp2_with (first
        | (at_builtin; refine wpList_append_nil rfl _ _ rfl ai y.length ci y rfl rfl (unhide HROW) hlk ?_; intro bv w3 hob hb3; have hV3 := (unhide HV).below hb3; have hbv := hob.mono hB.size; have hd3 := (unhide HV).dis_new hob; have hB3 := below0 hB hb3; obtain ⟨ab, cb, rfl, hrb⟩ := hob.row; clear hob hb3)
        | (at_builtin; refine wpList_push rfl _ _ rfl w.heap.size (.slice a1 k c1) vs (rs.take k) (.slice ab y.length cb) y rfl rfl hV3 hB3.size hbv hd3 (by rw [unhide HL]; omega) ?_; intro s4 w4 hV4 hg4; have hB4 := hB3.trans (gb_below hg4 hB3.size (fun k hk => (hV3.top.lt k hk).1)); rw [unhide HE] at hV4; obtain ⟨a4, c4, rfl⟩ := hV4.shape; rw [unhide HL1] at hV4; rw [unhide HL1]; have HV4 := hide hV4; have HB4 := hide hB4; clear hV4 hg4 hB4 hV3 hbv hd3 hB3))
      go_roundw
      case rel => exact ⟨k + 1, by omega, by go_num, rfl, a4, c4, _, rfl, HV4, HB4⟩
      case measure => simp [intOf]; omega
    · have hke : rs.take k = rs := List.take_of_length_le (by rw [h.1]; omega)
      rw [hke] at HV
      clear h hke HB
      go_wp2
      go_ret2
      exact ⟨_, _, rfl, unhide HV, unhide HB2⟩
end Go.Proofs.YtbfkhioljpgjjaaDoor
