/-
  Slices of ints in memory: what can be read ('IntsAt'), and what is the call's own ('OwnI'). Contracts of span.sift, Keep, Fresh: for rows of at most 2^20 words, in every world that holds the table of math/bits.
-/
import Derived.Test.YtbcgiodgobmkaaaGreatDoorU14
namespace Go.Proofs.YtbcgiodgobmkaaaGreatDoor
open Go.RowKit Go.Sort
set_option linter.unusedVariables false
set_option linter.unusedSimpArgs false
set_option maxRecDepth 4000

def cellsI (xs : List Nat) : List Value := xs.map fun (x : Nat) => Value.int .i64 (x : Int)
theorem cellsI_get (xs : List Nat) (i : Nat) (h : i < xs.length) : (cellsI xs)[i]? = some (.int .i64 ((xs.getD i 0 : Nat) : Int)) := by
  simp [cellsI, List.getElem?_eq_getElem h, List.getD_eq_getElem?_getD]
/-- A slice of n ints that can be read: they are xs. -/
def IntsAt (w : World) (a : Option Addr) (n : Nat) (xs : List Nat) : Prop :=
  xs.length = n ∧ (n = 0 ∨ ∃ b off, a = some ⟨b, off, none⟩ ∧ ∀ i, i < n → w.cell? ⟨b, off + i, none⟩ = some (.int .i64 ((xs.getD i 0 : Nat) : Int)))
theorem IntsAt.at {w : World} {a : Option Addr} {n : Nat} {xs : List Nat} (h : IntsAt w a n xs) {i : Nat} (hi : i < n) :
    ∃ b off, a = some ⟨b, off, none⟩ ∧ ∀ i, i < n → w.cell? ⟨b, off + i, none⟩ = some (.int .i64 ((xs.getD i 0 : Nat) : Int)) := by
  rcases h.2 with h0 | h0
  · omega
  · exact h0
theorem IntsAt.below {w w' : World} {a : Option Addr} {n : Nat} {xs : List Nat} (h : IntsAt w a n xs) (hb : Below w.heap.size w w') : IntsAt w' a n xs := by
  refine ⟨h.1, ?_⟩
  rcases h.2 with h0 | ⟨b, off, rfl, hc⟩
  · exact .inl h0
  · exact .inr ⟨b, off, rfl, fun i hi => (hb.cell (World.block_lt_of_cell? w _ (hc i hi))).trans (hc i hi)⟩
/-- A slice of ints of the call's own. -/
def OwnI (w : World) (B : Nat) (v : Value) (xs : List Nat) : Prop := w.ownsRow B 3 1 v xs.length (cellsI xs)
theorem OwnI.ints {w : World} {B : Nat} {v : Value} {xs : List Nat} (h : OwnI w B v xs) : ∃ a c, v = .slice a xs.length c ∧ IntsAt w a xs.length xs := by
  have ho' : w.ownsRow B 3 1 v xs.length (cellsI xs) := h
  rcases h.2 with ⟨rfl, h0⟩ | ⟨g, cap, cur, rfl, hb, hg, hn, hm, hsz, ht⟩
  · exact ⟨none, 0, by rw [h0], rfl, .inl h0⟩
  · refine ⟨_, cap, rfl, rfl, .inr ⟨g, 0, rfl, fun i hi => ?_⟩⟩
    rw [Nat.zero_add, ho'.cellAt i (by omega), cellsI_get xs i hi]
theorem OwnI.nil (w : World) (B : Nat) : OwnI w B (.slice none 0 0) [] := World.ownsRow_nil _ _ _ _
theorem OwnI.mono {w : World} {B B' : Nat} {v : Value} {xs : List Nat} (h : OwnI w B v xs) (hB : B' ≤ B) : OwnI w B' v xs := by
  refine ⟨h.1, ?_⟩
  rcases h.2 with h0 | ⟨g, cap, cur, h1, hb, r⟩
  · exact .inl h0
  · exact .inr ⟨g, cap, cur, h1, Nat.le_trans hB hb, r⟩
theorem OwnI.below {w w' : World} {B : Nat} {v : Value} {xs : List Nat} (h : OwnI w B v xs) (hb : Below w.heap.size w w') : OwnI w' B v xs := ownsRow_below h hb
/-- Rows of different types lie in different blocks. -/
theorem dis_any {w : World} {B B' : Nat} {e e' : TypeId} {v u : Value} {n m : Nat} {cs ds : List Value} (hne : e ≠ e') (h : w.ownsRow B e 1 v n cs) (k : w.ownsRow B' e' 1 u m ds) : Dis u v := by
  rcases h.2 with ⟨rfl, _⟩ | ⟨g, cap, cur, rfl, hb, hg, _⟩
  · by_cases e : u.ownBlock = none
    · exact .inl e
    · exact .inr e
  · rcases k.2 with ⟨rfl, _⟩ | ⟨g', cap', cur', rfl, hb', hg', _⟩
    · exact .inl rfl
    · right
      intro e
      simp only [Value.ownBlock, Option.some.injEq] at e
      rw [e] at hg'
      rw [hg] at hg'
      simp at hg'
      exact hne hg'.2
theorem OwnI.keptV {w w' : World} {B B' : Nat} {v u : Value} {xs : List Nat} {vs : List Value} {rs : List (List Nat)} (h : OwnI w B v xs) (k : OwnV w B' u vs rs) (hg : w.grownBy w' u.ownBlock) : OwnI w' B v xs :=
  World.ownsRow.kept h hg (dis_any (by decide) k.top h)
theorem Own.keptI {w w' : World} {B B' : Nat} {v u : Value} {xs ys : List Nat} (h : Own w B v xs) (k : OwnI w B' u ys) (hg : w.grownBy w' u.ownBlock) : Own w' B v xs :=
  h.kept hg (dis_any (by decide) k h.2)
theorem OwnV.keptI {w w' : World} {B B' : Nat} {v u : Value} {ys : List Nat} {vs : List Value} {rs : List (List Nat)} (h : OwnV w B v vs rs) (k : OwnI w B' u ys) (hg : w.grownBy w' u.ownBlock) : OwnV w' B v vs rs :=
  ⟨h.top.kept hg (dis_any (by decide) k h.top), fun i u hu => (h.rows i u hu).keptI k hg, h.apart⟩
theorem info_int : (Tryz.prog.info? 3).map (fun i => (i.zero, i.size, i.bytes)) = some (some (.int .i64 0), 1, 8) := by kernel_rfl
/-- append(own, x). -/
theorem wpList_pushI {w : World} {ops : Array Oper} {rest : List Oper} {o : Oper} {act : Act} {Q : Exit → Act → World → Prop} (hgd : o.guard = none) (s x : Operand)
    (ho : o.op = .call { callee := .builtin .append, args := #[s, x], argTypes := #[72, 72] }) (B : Nat) (v : Value) (xs : List Nat) (y : Nat)
    (hs : act.eval s = v) (hx : act.eval x = .slice (some ⟨w.heap.size, 0, none⟩) 1 1) (h : OwnI w B v xs) (hB : B ≤ w.heap.size) (hn : xs.length ≤ 1048576)
    (hK : ∀ s' w', OwnI w' B s' (xs ++ [y]) → w.grownBy w' v.ownBlock → wpList Tryz.prog ops Q rest (act.put o.dst s') w') : wpList Tryz.prog ops Q (o :: rest) act (w.alloc (.cells #[.int .i64 (y : Int)] 3)) := by
  obtain ⟨i0, hi, hz0, hz1, hz2⟩ := info_parts info_int
  have hb : Below w.heap.size w (w.alloc (.cells #[.int .i64 (y : Int)] 3)) := (Below.refl _ _).alloc (Nat.le_refl _) _
  have h1 := h.below hb
  refine wpList_append_own _ hgd s x 72 ho B 3 i0 (.int .i64 0) 1 8 Tryz.underlying72 hi hz0 hz1 hz2 rfl (by decide) v xs.length (cellsI xs) hs h1 ⟨w.heap.size, 0, none⟩ 1 1 [.int .i64 (y : Int)] hx rfl (fun j u hj => ?_)
    (fun u hu => by rw [List.mem_singleton.1 hu]; rfl) (by unfold maxLen; omega) (by omega) (Nat.le_trans hB hb.size) ?_
  · match j with
    | 0 =>
      have hc : (w.alloc (.cells #[.int .i64 (y : Int)] 3)).cell? ⟨w.heap.size, 0, none⟩ = some (.int .i64 (y : Int)) := by rw [World.cell?_alloc_at _ _ _ _ rfl]; rfl
      simpa [Addr.add, hc] using hj
    | j + 1 => simp at hj
  · intro v' w' hown hgrow _
    refine hK v' w' ?_ (gb_trans (gb_of_below hb _) hgrow (.inl rfl))
    have e : cellsI xs ++ [.int .i64 (y : Int)] = cellsI (xs ++ [y]) := by simp [cellsI]
    rw [e] at hown
    show w'.ownsRow B 3 1 v' (xs ++ [y]).length (cellsI (xs ++ [y]))
    rw [List.length_append]
    exact hown
theorem OwnI.grown {w w' : World} {B : Nat} {v : Value} {xs : List Nat} (h : OwnI w B v xs) (hg : w.grownBy w' v.ownBlock) (hB : B ≤ w.heap.size) : Below B w w' := gb_below hg hB fun k hk => (World.ownsRow.lt h k hk).1
theorem OwnV.grown {w w' : World} {B : Nat} {v : Value} {vs : List Value} {rs : List (List Nat)} (h : OwnV w B v vs rs) (hg : w.grownBy w' v.ownBlock) (hB : B ≤ w.heap.size) : Below B w w' := gb_below hg hB fun k hk => (h.top.lt k hk).1
/-- What one round of sift adds. -/
theorem sift_step (rs : List (List Nat)) (k : Nat) (hk : k < rs.length) : (firstI (reduceL (broughtL (rs.take k)) (rs.getD k [])) < 0 → keepL rs (k + 1) = keepL rs k ∧ broughtL (rs.take (k + 1)) = broughtL (rs.take k)) ∧
    (0 ≤ firstI (reduceL (broughtL (rs.take k)) (rs.getD k [])) → keepL rs (k + 1) = keepL rs k ++ [k] ∧ broughtL (rs.take (k + 1)) = broughtL (rs.take k) ++ [reduceL (broughtL (rs.take k)) (rs.getD k [])]) := by
  rw [brought_take hk]
  unfold addTL
  simp only [keepL]
  constructor
  · intro h
    rw [if_pos h, if_pos h]
    exact ⟨rfl, rfl⟩
  · intro h
    rw [if_neg (by omega), if_neg (by omega)]
    exact ⟨rfl, rfl⟩

set_option maxHeartbeats 2000000 in
theorem sift_any (a : Option Addr) (n c : Nat) (rs : List (List Nat)) (w : World) (ht : Tab w) (h : VecsAt w a n rs) (hf : Fit 1048576 rs) (hn : n ≤ 100000) :
    Calls Tryz.prog 142 #[.slice a n c] w fun e w' => ∃ vk vb vs, e = .returned (.tuple #[vk, vb]) ∧ OwnI w' w.heap.size vk (keepL rs rs.length) ∧ OwnV w' w.heap.size vb vs (broughtL rs) ∧ Below w.heap.size w w' := by
  obtain rfl : n = rs.length := h.1.symm
  go_enter Tryz.func142, Tryz.ntmps142
  go_wp2
  go_loopw [2, 3, 9] (fun kv bv i wr => ∃ k : Nat, k ≤ rs.length ∧ i = .int .i64 k ∧ ∃ ak ck ab cb vs, kv = .slice ak (keepL rs k).length ck ∧ bv = .slice ab (broughtL (rs.take k)).length cb ∧
    Hid (OwnI wr w.heap.size (.slice ak (keepL rs k).length ck) (keepL rs k)) ∧ Hid (OwnV wr w.heap.size (.slice ab (broughtL (rs.take k)).length cb) vs (broughtL (rs.take k))) ∧ Hid (Below w.heap.size w wr)) (fun _ _ i _ => rs.length - (intOf i).toNat)
  case atStart => exact ⟨0, Nat.zero_le _, rfl, none, 0, none, 0, [], rfl, rfl, hide (OwnI.nil _ _), hide (OwnV.nil _ _), hide (Below.refl _ _)⟩
  case round =>
    obtain ⟨k, hk, rfl, ak, ck, ab, cb, vs, rfl, rfl, HI, HV, HB⟩ := hrel
    by_cases hlt : k < rs.length
    · have hB := unhide HB
      obtain ⟨b, off, rfl, hc⟩ := (h.below hB).at hlt
      obtain ⟨ai, ci, hcell, hrow⟩ := hc k hlt
      obtain ⟨_, _, e1, hvec⟩ := (unhide HV).vecs
      simp only [Value.slice.injEq, true_and] at e1
      obtain ⟨rfl, rfl⟩ := e1
      have hfk := brought_fit (hf.take k)
      have hbl := brought_len (hf.take k)
      have htk : (rs.take k).length ≤ k := List.length_take_le _ _
      have hkl := keep_len rs k
      have HR := hide (reduce_any ab _ cb (broughtL (rs.take k)) ai _ ci (rs.getD k []) wr (ht.below hB) hvec hfk hrow (by omega) (hf.getD k).2)
      have hrl := (reduce_small hfk (hf.getD k).1 (hf.getD k).2).2
      have HF := hide (fun (w1 : World) (ar : Option Addr) (cr : Nat) (hb : Below wr.heap.size wr w1) (hr : RowAt w1 ar (reduceL (broughtL (rs.take k)) (rs.getD k [])).length (reduceL (broughtL (rs.take k)) (rs.getD k []))) => first_any ar _ cr (reduceL (broughtL (rs.take k)) (rs.getD k [])) w1 (ht.below (below0 hB hb)) hr hrl)
      obtain ⟨hs1, hs2⟩ := sift_step rs k hlt
      have HS1 := hide hs1
      have HS2 := hide hs2
      clear hc hrow h hfk hvec hs1 hs2
      generalize rs.getD k [] = y at *
      generalize broughtL (rs.take k) = bk at *
      generalize keepL rs k = kk at *
      generalize reduceL bk y = r at *
      have hbk : bk.length ≤ 1048576 := by omega
      have hkk : kk.length ≤ 1048576 := by omega
      by_cases hneg : firstI r < 0
      · obtain ⟨hk1, hk2⟩ := unhide HS1 hneg
        have hdn : decide (0 ≤ firstI r) = false := by rw [decide_eq_false_iff_not]; omega
        have HK1 := hide hk1
        have HK2 := hide hk2
        clear hneg hk1 hk2 HS1 HS2
        generalize firstI r = f at *
        go_wp2_with fail
        refine (unhide HR).mono ?_
        rintro e w1 ⟨v, rfl, ho, hb1⟩
        obtain ⟨ar, cr, rfl, hr⟩ := ho.row
        have HF1 := hide (unhide HF w1 ar cr hb1 hr)
        have hI1 := (unhide HI).below hb1
        have hV1 := (unhide HV).below hb1
        have HB1 := hide (below0 hB hb1)
        clear hb1 ho hr HF HR HB HI HV hB hcell
        go_wp2_with fail
        refine (unhide HF1).mono ?_
        rintro e w2 ⟨rfl, hw⟩
        obtain rfl := hw.symm
        rw [← unhide HK1]
        rw [← unhide HK2]
        rw [← unhide HK1] at hI1
        rw [← unhide HK2] at hV1
        have HI1 := hide hI1
        have HV1 := hide hV1
        clear hI1 hV1 HK1 HK2 HF1
        go_wp2
        go_roundw
        case rel => exact ⟨k + 1, by omega, by go_num, ak, ck, ab, cb, vs, rfl, rfl, HI1, HV1, HB1⟩
        case measure => simp [intOf]; omega
      · obtain ⟨hk1, hk2⟩ := unhide HS2 (by omega)
        have hdn : decide (0 ≤ firstI r) = true := by rw [decide_eq_true_iff]; omega
        have HK1 := hide hk1
        have HK2 := hide hk2
        clear hneg hk1 hk2 HS1 HS2
        generalize firstI r = f at *
        go_wp2_with fail
        refine (unhide HR).mono ?_
        rintro e w1 ⟨v, rfl, ho, hb1⟩
        obtain ⟨ar, cr, rfl, hr⟩ := ho.row
        have HF1 := hide (unhide HF w1 ar cr hb1 hr)
        have HD1 := hide ((unhide HV).dis_new ho)
        have HI1 := hide ((unhide HI).below hb1)
        have HV1 := hide ((unhide HV).below hb1)
        have HB1 := hide (below0 hB hb1)
        have HO1 := hide (ho.mono hB.size)
        clear hb1 ho hr HF HR HB HI HV hB hcell
        go_wp2_with fail
        refine (unhide HF1).mono ?_
        rintro e w2 ⟨rfl, hw⟩
        obtain rfl := hw.symm
        clear HF1
        go_wp2_with (first
          | (at_builtin; refine wpList_pushI rfl _ _ rfl w.heap.size (.slice ak kk.length ck) kk k rfl rfl (unhide HI1) (unhide HB1).size hkk ?_; intro s4 w4 hI4 hg4; have hV4 := (unhide HV1).keptI (unhide HI1) hg4; have hO4 := (unhide HO1).keptI (unhide HI1) hg4; have hB4 := (unhide HB1).trans ((unhide HI1).grown hg4 (unhide HB1).size); rw [← unhide HK1] at hI4; obtain ⟨a4, c4, rfl, _⟩ := hI4.ints; clear hg4)
          | (at_builtin; refine wpList_push rfl _ _ rfl w.heap.size (.slice ab bk.length cb) vs bk (.slice ar r.length cr) r rfl rfl hV4 hB4.size hO4 (unhide HD1) hbk ?_; intro s5 w5 hV5 hg5; have hI5 := hI4.keptV hV4 hg5; have hB5 := hB4.trans (hV4.grown hg5 hB4.size); rw [← unhide HK2] at hV5; obtain ⟨a5, c5, rfl⟩ := hV5.shape; have HV5 := hide hV5; have HI5 := hide hI5; have HB5 := hide hB5; clear hV5 hI5 hB5 hg5 hI4 hV4 hO4 hB4 HI1 HV1 HO1 HD1 HB1 HK1 HK2))
        go_roundw
        case rel => exact ⟨k + 1, by omega, by go_num, a4, c4, a5, c5, _, rfl, rfl, HI5, HV5, HB5⟩
        case measure => simp [intOf]; omega
    · obtain rfl : k = rs.length := by omega
      rw [List.take_length] at HV
      rw [List.take_length]
      clear h
      go_wp2
      go_ret2
      exact ⟨_, _, _, rfl, unhide HI, unhide HV, unhide HB⟩

/-- Whether a row is in no span. -/
def freshB (rs : List (List Nat)) (xs : List Nat) : Bool := !decide (firstI (reduceL (broughtL rs) xs) < 0)
set_option maxHeartbeats 400000 in
theorem fresh_any (a : Option Addr) (n c : Nat) (rs : List (List Nat)) (a' : Option Addr) (m c' : Nat) (xs : List Nat) (w : World) (ht : Tab w) (h : VecsAt w a n rs) (hf : Fit 1048576 rs) (h' : RowAt w a' m xs) (hn : n ≤ 100000) (hm : m ≤ 1048576) :
    Calls Tryz.prog 135 #[.slice a n c, .slice a' m c'] w fun e w' => e = .returned (.bool (freshB rs xs)) ∧ Below w.heap.size w w' := by
  have HX := hide (sift_any a n c rs w ht h hf hn)
  have hbf := brought_fit hf
  have hbl := brought_len hf
  have hrl := h.1
  have hE : freshB rs xs = !decide (firstI (reduceL (broughtL rs) xs) < 0) := rfl
  rw [hE]
  clear h hf hE
  have HY := hide (fun (w1 : World) (a1 : Option Addr) (c1 : Nat) (hb : Below w.heap.size w w1) (hv : VecsAt w1 a1 (broughtL rs).length (broughtL rs)) => in_any a1 _ c1 (broughtL rs) a' m c' xs w1 (ht.below hb) hv hbf (h'.below hb) (by omega) hm)
  generalize keepL rs rs.length = kk at *
  generalize broughtL rs = bb at *
  generalize decide (firstI (reduceL bb xs) < 0) = bo at *
  clear h'
  go_enter Tryz.func135, Tryz.ntmps135
  go_wp2_with fail
  refine (unhide HX).mono ?_
  rintro e w1 ⟨vk, vb, vs, rfl, hI, hV, hb⟩
  obtain ⟨a1, c1, rfl, _⟩ := hI.ints
  obtain ⟨a2, c2, rfl, hvec⟩ := hV.vecs
  have HY1 := hide (unhide HY w1 a2 c2 hb hvec)
  have HB := hide hb
  clear hI hV hb HX HY hvec
  go_wp2_with fail
  refine (unhide HY1).mono ?_
  rintro e w2 ⟨rfl, hb2⟩
  go_wp2
  go_ret
  exact ⟨rfl, below0 (unhide HB) hb2⟩
end Go.Proofs.YtbcgiodgobmkaaaGreatDoor
