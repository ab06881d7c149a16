/-
  Slices of ints in memory: what can be read ('IntsAt'), and what is the call's own ('OwnI'). Contracts of span.sift, Keep, Fresh: for rows of at most 2^20 words, in every world that holds the table of math/bits.
  How many rows bring something anew: contracts of gauss.vecs, gauss.Rank, bucketlineref14.Vecs, Rank; one row more.
  Contracts of span.firsts, cut, set: for rows of at most 2^20 words, at most 100000 of them. Rows that are cut out of one piece ('CutAt').
-/
import Derived.Test.YtnjdldbdkafnaaaGreatDoorU22
import Derived.Test.YtnjdldbdkafnaaaGreatDoorSV
import Derived.Test.YtnjdldbdkafnaaaGreatDoorU8
namespace Go.Proofs.YtnjdldbdkafnaaaGreatDoor
open Go.RowKit Go.Sort
set_option linter.unusedVariables false
set_option linter.unusedSimpArgs false
set_option maxRecDepth 4000

def cellsI (xs : List Nat) : List Value := xs.map fun (x : Nat) => Value.int .i64 (x : Int)
theorem cellsI_get (xs : List Nat) (i : Nat) (h : i < xs.length) : (cellsI xs)[i]? = some (.int .i64 ((xs.getD i 0 : Nat) : Int)) := by
  simp [cellsI, List.getElem?_eq_getElem h, List.getD_eq_getElem?_getD]
theorem cellsI_set (xs : List Nat) (i x : Nat) : (cellsI xs).set i (.int .i64 (x : Int)) = cellsI (xs.set i x) := by
  simp [cellsI, List.map_set]
/-- A slice of n ints that can be read: they are xs. -/
def IntsAt (w : World) (a : Option Addr) (n : Nat) (xs : List Nat) : Prop :=
  xs.length = n ∧ (n = 0 ∨ ∃ b off, a = some ⟨b, off, none⟩ ∧ ∀ i, i < n → w.cell? ⟨b, off + i, none⟩ = some (.int .i64 ((xs.getD i 0 : Nat) : Int)))
theorem IntsAt.at {w : World} {a : Option Addr} {n : Nat} {xs : List Nat} (h : IntsAt w a n xs) {i : Nat} (hi : i < n) :
    ∃ b off, a = some ⟨b, off, none⟩ ∧ ∀ i, i < n → w.cell? ⟨b, off + i, none⟩ = some (.int .i64 ((xs.getD i 0 : Nat) : Int)) := by
  rcases h.2 with h0 | h0
  · omega
  · exact h0
theorem IntsAt.below {w w' : World} {a : Option Addr} {n : Nat} {xs : List Nat} (h : IntsAt w a n xs) (hb : Below w.heap.size w w') : IntsAt w' a n xs := by
  refine ⟨h.1, ?_⟩
  rcases h.2 with h0 | ⟨b, off, rfl, hc⟩
  · exact .inl h0
  · exact .inr ⟨b, off, rfl, fun i hi => (hb.cell (World.block_lt_of_cell? w _ (hc i hi))).trans (hc i hi)⟩
/-- A slice of ints of the call's own. -/
def OwnI (w : World) (B : Nat) (v : Value) (xs : List Nat) : Prop := w.ownsRow B 3 1 v xs.length (cellsI xs)
theorem OwnI.ints {w : World} {B : Nat} {v : Value} {xs : List Nat} (h : OwnI w B v xs) : ∃ a c, v = .slice a xs.length c ∧ IntsAt w a xs.length xs := by
  have ho' : w.ownsRow B 3 1 v xs.length (cellsI xs) := h
  rcases h.2 with ⟨rfl, h0⟩ | ⟨g, cap, cur, rfl, hb, hg, hn, hm, hsz, ht⟩
  · exact ⟨none, 0, by rw [h0], rfl, .inl h0⟩
  · refine ⟨_, cap, rfl, rfl, .inr ⟨g, 0, rfl, fun i hi => ?_⟩⟩
    rw [Nat.zero_add, ho'.cellAt i (by omega), cellsI_get xs i hi]
theorem OwnI.nil (w : World) (B : Nat) : OwnI w B (.slice none 0 0) [] := World.ownsRow_nil _ _ _ _
theorem OwnI.mono {w : World} {B B' : Nat} {v : Value} {xs : List Nat} (h : OwnI w B v xs) (hB : B' ≤ B) : OwnI w B' v xs := by
  refine ⟨h.1, ?_⟩
  rcases h.2 with h0 | ⟨g, cap, cur, h1, hb, r⟩
  · exact .inl h0
  · exact .inr ⟨g, cap, cur, h1, Nat.le_trans hB hb, r⟩
theorem OwnI.below {w w' : World} {B : Nat} {v : Value} {xs : List Nat} (h : OwnI w B v xs) (hb : Below w.heap.size w w') : OwnI w' B v xs := ownsRow_below h hb
/-- Rows of different types lie in different blocks. -/
theorem dis_any {w : World} {B B' : Nat} {e e' : TypeId} {v u : Value} {n m : Nat} {cs ds : List Value} (hne : e ≠ e') (h : w.ownsRow B e 1 v n cs) (k : w.ownsRow B' e' 1 u m ds) : Dis u v := by
  rcases h.2 with ⟨rfl, _⟩ | ⟨g, cap, cur, rfl, hb, hg, _⟩
  · by_cases e : u.ownBlock = none
    · exact .inl e
    · exact .inr e
  · rcases k.2 with ⟨rfl, _⟩ | ⟨g', cap', cur', rfl, hb', hg', _⟩
    · exact .inl rfl
    · right
      intro e
      simp only [Value.ownBlock, Option.some.injEq] at e
      rw [e] at hg'
      rw [hg] at hg'
      simp at hg'
      exact hne hg'.2
theorem OwnI.keptV {w w' : World} {B B' : Nat} {v u : Value} {xs : List Nat} {vs : List Value} {rs : List (List Nat)} (h : OwnI w B v xs) (k : OwnV w B' u vs rs) (hg : w.grownBy w' u.ownBlock) : OwnI w' B v xs :=
  World.ownsRow.kept h hg (dis_any (by decide) k.top h)
theorem Own.keptI {w w' : World} {B B' : Nat} {v u : Value} {xs ys : List Nat} (h : Own w B v xs) (k : OwnI w B' u ys) (hg : w.grownBy w' u.ownBlock) : Own w' B v xs :=
  h.kept hg (dis_any (by decide) k h.2)
theorem OwnV.keptI {w w' : World} {B B' : Nat} {v u : Value} {ys : List Nat} {vs : List Value} {rs : List (List Nat)} (h : OwnV w B v vs rs) (k : OwnI w B' u ys) (hg : w.grownBy w' u.ownBlock) : OwnV w' B v vs rs :=
  ⟨h.top.kept hg (dis_any (by decide) k h.top), fun i u hu => (h.rows i u hu).keptI k hg, h.apart⟩
theorem info_int : (Tryz.prog.info? 3).map (fun i => (i.zero, i.size, i.bytes)) = some (some (.int .i64 0), 1, 8) := by kernel_rfl
/-- append(own, x). -/
theorem wpList_pushI {w : World} {ops : Array Oper} {rest : List Oper} {o : Oper} {act : Act} {Q : Exit → Act → World → Prop} (hgd : o.guard = none) (s x : Operand)
    (ho : o.op = .call { callee := .builtin .append, args := #[s, x], argTypes := #[93, 93] }) (B : Nat) (v : Value) (xs : List Nat) (y : Nat)
    (hs : act.eval s = v) (hx : act.eval x = .slice (some ⟨w.heap.size, 0, none⟩) 1 1) (h : OwnI w B v xs) (hB : B ≤ w.heap.size) (hn : xs.length ≤ 1048576)
    (hK : ∀ s' w', OwnI w' B s' (xs ++ [y]) → w.grownBy w' v.ownBlock → wpList Tryz.prog ops Q rest (act.put o.dst s') w') : wpList Tryz.prog ops Q (o :: rest) act (w.alloc (.cells #[.int .i64 (y : Int)] 3)) := by
  obtain ⟨i0, hi, hz0, hz1, hz2⟩ := info_parts info_int
  have hb : Below w.heap.size w (w.alloc (.cells #[.int .i64 (y : Int)] 3)) := (Below.refl _ _).alloc (Nat.le_refl _) _
  have h1 := h.below hb
  refine wpList_append_own _ hgd s x 93 ho B 3 i0 (.int .i64 0) 1 8 Tryz.underlying93 hi hz0 hz1 hz2 rfl (by decide) v xs.length (cellsI xs) hs h1 ⟨w.heap.size, 0, none⟩ 1 1 [.int .i64 (y : Int)] hx rfl (fun j u hj => ?_)
    (fun u hu => by rw [List.mem_singleton.1 hu]; rfl) (by unfold maxLen; omega) (by omega) (Nat.le_trans hB hb.size) ?_
  · match j with
    | 0 =>
      have hc : (w.alloc (.cells #[.int .i64 (y : Int)] 3)).cell? ⟨w.heap.size, 0, none⟩ = some (.int .i64 (y : Int)) := by rw [World.cell?_alloc_at _ _ _ _ rfl]; rfl
      simpa [Addr.add, hc] using hj
    | j + 1 => simp at hj
  · intro v' w' hown hgrow _
    refine hK v' w' ?_ (gb_trans (gb_of_below hb _) hgrow (.inl rfl))
    have e : cellsI xs ++ [.int .i64 (y : Int)] = cellsI (xs ++ [y]) := by simp [cellsI]
    rw [e] at hown
    show w'.ownsRow B 3 1 v' (xs ++ [y]).length (cellsI (xs ++ [y]))
    rw [List.length_append]
    exact hown
theorem OwnI.grown {w w' : World} {B : Nat} {v : Value} {xs : List Nat} (h : OwnI w B v xs) (hg : w.grownBy w' v.ownBlock) (hB : B ≤ w.heap.size) : Below B w w' := gb_below hg hB fun k hk => (World.ownsRow.lt h k hk).1
theorem OwnV.grown {w w' : World} {B : Nat} {v : Value} {vs : List Value} {rs : List (List Nat)} (h : OwnV w B v vs rs) (hg : w.grownBy w' v.ownBlock) (hB : B ≤ w.heap.size) : Below B w w' := gb_below hg hB fun k hk => (h.top.lt k hk).1
/-- What one round of sift adds. -/
theorem sift_step (rs : List (List Nat)) (k : Nat) (hk : k < rs.length) : (firstI (reduceL (broughtL (rs.take k)) (rs.getD k [])) < 0 → keepL rs (k + 1) = keepL rs k ∧ broughtL (rs.take (k + 1)) = broughtL (rs.take k)) ∧
    (0 ≤ firstI (reduceL (broughtL (rs.take k)) (rs.getD k [])) → keepL rs (k + 1) = keepL rs k ++ [k] ∧ broughtL (rs.take (k + 1)) = broughtL (rs.take k) ++ [reduceL (broughtL (rs.take k)) (rs.getD k [])]) := by
  rw [brought_take hk]
  unfold addTL
  simp only [keepL]
  constructor
  · intro h
    rw [if_pos h, if_pos h]
    exact ⟨rfl, rfl⟩
  · intro h
    rw [if_neg (by omega), if_neg (by omega)]
    exact ⟨rfl, rfl⟩

set_option maxHeartbeats 2000000 in
theorem sift_any (a : Option Addr) (n c : Nat) (rs : List (List Nat)) (w : World) (ht : Tab w) (h : VecsAt w a n rs) (hf : Fit 1048576 rs) (hn : n ≤ 100000) :
    Calls Tryz.prog 91 #[.slice a n c] w fun e w' => ∃ vk vb vs, e = .returned (.tuple #[vk, vb]) ∧ OwnI w' w.heap.size vk (keepL rs rs.length) ∧ OwnV w' w.heap.size vb vs (broughtL rs) ∧ Below w.heap.size w w' := by
  obtain rfl : n = rs.length := h.1.symm
  go_enter Tryz.func91, Tryz.ntmps91
  go_wp2
  go_loopw [2, 3, 9] (fun kv bv i wr => ∃ k : Nat, k ≤ rs.length ∧ i = .int .i64 k ∧ ∃ ak ck ab cb vs, kv = .slice ak (keepL rs k).length ck ∧ bv = .slice ab (broughtL (rs.take k)).length cb ∧
    Hid (OwnI wr w.heap.size (.slice ak (keepL rs k).length ck) (keepL rs k)) ∧ Hid (OwnV wr w.heap.size (.slice ab (broughtL (rs.take k)).length cb) vs (broughtL (rs.take k))) ∧ Hid (Below w.heap.size w wr)) (fun _ _ i _ => rs.length - (intOf i).toNat)
  case atStart => exact ⟨0, Nat.zero_le _, rfl, none, 0, none, 0, [], rfl, rfl, hide (OwnI.nil _ _), hide (OwnV.nil _ _), hide (Below.refl _ _)⟩
  case round =>
    obtain ⟨k, hk, rfl, ak, ck, ab, cb, vs, rfl, rfl, HI, HV, HB⟩ := hrel
    by_cases hlt : k < rs.length
    · have hB := unhide HB
      obtain ⟨b, off, rfl, hc⟩ := (h.below hB).at hlt
      obtain ⟨ai, ci, hcell, hrow⟩ := hc k hlt
      obtain ⟨_, _, e1, hvec⟩ := (unhide HV).vecs
      simp only [Value.slice.injEq, true_and] at e1
      obtain ⟨rfl, rfl⟩ := e1
      have hfk := brought_fit (hf.take k)
      have hbl := brought_len (hf.take k)
      have htk : (rs.take k).length ≤ k := List.length_take_le _ _
      have hkl := keep_len rs k
      have HR := hide (reduce_any ab _ cb (broughtL (rs.take k)) ai _ ci (rs.getD k []) wr (ht.below hB) hvec hfk hrow (by omega) (hf.getD k).2)
      have hrl := (reduce_small hfk (hf.getD k).1 (hf.getD k).2).2
      have HF := hide (fun (w1 : World) (ar : Option Addr) (cr : Nat) (hb : Below wr.heap.size wr w1) (hr : RowAt w1 ar (reduceL (broughtL (rs.take k)) (rs.getD k [])).length (reduceL (broughtL (rs.take k)) (rs.getD k []))) => first_any ar _ cr (reduceL (broughtL (rs.take k)) (rs.getD k [])) w1 (ht.below (below0 hB hb)) hr hrl)
      obtain ⟨hs1, hs2⟩ := sift_step rs k hlt
      have HS1 := hide hs1
      have HS2 := hide hs2
      clear hc hrow h hfk hvec hs1 hs2
      generalize rs.getD k [] = y at *
      generalize broughtL (rs.take k) = bk at *
      generalize keepL rs k = kk at *
      generalize reduceL bk y = r at *
      have hbk : bk.length ≤ 1048576 := by omega
      have hkk : kk.length ≤ 1048576 := by omega
      by_cases hneg : firstI r < 0
      · obtain ⟨hk1, hk2⟩ := unhide HS1 hneg
        have hdn : decide (0 ≤ firstI r) = false := by rw [decide_eq_false_iff_not]; omega
        have HK1 := hide hk1
        have HK2 := hide hk2
        clear hneg hk1 hk2 HS1 HS2
        generalize firstI r = f at *
        go_wp2_with fail
        refine (unhide HR).mono ?_
        rintro e w1 ⟨v, rfl, ho, hb1⟩
        obtain ⟨ar, cr, rfl, hr⟩ := ho.row
        have HF1 := hide (unhide HF w1 ar cr hb1 hr)
        have hI1 := (unhide HI).below hb1
        have hV1 := (unhide HV).below hb1
        have HB1 := hide (below0 hB hb1)
        clear hb1 ho hr HF HR HB HI HV hB hcell
        go_wp2_with fail
        refine (unhide HF1).mono ?_
        rintro e w2 ⟨rfl, hw⟩
        obtain rfl := hw.symm
        rw [← unhide HK1]
        rw [← unhide HK2]
        rw [← unhide HK1] at hI1
        rw [← unhide HK2] at hV1
        have HI1 := hide hI1
        have HV1 := hide hV1
        clear hI1 hV1 HK1 HK2 HF1
        go_wp2
        go_roundw
        case rel => exact ⟨k + 1, by omega, by go_num, ak, ck, ab, cb, vs, rfl, rfl, HI1, HV1, HB1⟩
        case measure => simp [intOf]; omega
      · obtain ⟨hk1, hk2⟩ := unhide HS2 (by omega)
        have hdn : decide (0 ≤ firstI r) = true := by rw [decide_eq_true_iff]; omega
        have HK1 := hide hk1
        have HK2 := hide hk2
        clear hneg hk1 hk2 HS1 HS2
        generalize firstI r = f at *
        go_wp2_with fail
        refine (unhide HR).mono ?_
        rintro e w1 ⟨v, rfl, ho, hb1⟩
        obtain ⟨ar, cr, rfl, hr⟩ := ho.row
        have HF1 := hide (unhide HF w1 ar cr hb1 hr)
        have HD1 := hide ((unhide HV).dis_new ho)
        have HI1 := hide ((unhide HI).below hb1)
        have HV1 := hide ((unhide HV).below hb1)
        have HB1 := hide (below0 hB hb1)
        have HO1 := hide (ho.mono hB.size)
        clear hb1 ho hr HF HR HB HI HV hB hcell
        go_wp2_with fail
        refine (unhide HF1).mono ?_
        rintro e w2 ⟨rfl, hw⟩
        obtain rfl := hw.symm
        clear HF1
        go_wp2_with (first
          | (at_builtin; refine wpList_pushI rfl _ _ rfl w.heap.size (.slice ak kk.length ck) kk k rfl rfl (unhide HI1) (unhide HB1).size hkk ?_; intro s4 w4 hI4 hg4; have hV4 := (unhide HV1).keptI (unhide HI1) hg4; have hO4 := (unhide HO1).keptI (unhide HI1) hg4; have hB4 := (unhide HB1).trans ((unhide HI1).grown hg4 (unhide HB1).size); rw [← unhide HK1] at hI4; obtain ⟨a4, c4, rfl, _⟩ := hI4.ints; clear hg4)
          | (at_builtin; refine wpList_push rfl _ _ rfl w.heap.size (.slice ab bk.length cb) vs bk (.slice ar r.length cr) r rfl rfl hV4 hB4.size hO4 (unhide HD1) hbk ?_; intro s5 w5 hV5 hg5; have hI5 := hI4.keptV hV4 hg5; have hB5 := hB4.trans (hV4.grown hg5 hB4.size); rw [← unhide HK2] at hV5; obtain ⟨a5, c5, rfl⟩ := hV5.shape; have HV5 := hide hV5; have HI5 := hide hI5; have HB5 := hide hB5; clear hV5 hI5 hB5 hg5 hI4 hV4 hO4 hB4 HI1 HV1 HO1 HD1 HB1 HK1 HK2))
        go_roundw
        case rel => exact ⟨k + 1, by omega, by go_num, a4, c4, a5, c5, _, rfl, rfl, HI5, HV5, HB5⟩
        case measure => simp [intOf]; omega
    · obtain rfl : k = rs.length := by omega
      rw [List.take_length] at HV
      rw [List.take_length]
      clear h
      go_wp2
      go_ret2
      exact ⟨_, _, _, rfl, unhide HI, unhide HV, unhide HB⟩

set_option maxHeartbeats 400000 in
theorem keep_any (a : Option Addr) (n c : Nat) (rs : List (List Nat)) (w : World) (ht : Tab w) (h : VecsAt w a n rs) (hf : Fit 1048576 rs) (hn : n ≤ 100000) :
    Calls Tryz.prog 68 #[.slice a n c] w fun e w' => ∃ vk, e = .returned vk ∧ OwnI w' w.heap.size vk (keepL rs rs.length) ∧ Below w.heap.size w w' := by
  have HX := hide (sift_any a n c rs w ht h hf hn)
  clear h hf
  generalize keepL rs rs.length = kk at *
  generalize broughtL rs = bb at *
  go_enter Tryz.func68, Tryz.ntmps68
  go_wp2_with fail
  refine (unhide HX).mono ?_
  rintro e w1 ⟨vk, vb, vs, rfl, hI, hV, hb⟩
  obtain ⟨a1, c1, rfl, _⟩ := hI.ints
  obtain ⟨a2, c2, rfl⟩ := hV.shape
  have HI := hide hI
  have HB := hide hb
  clear hI hV hb HX
  go_wp2
  go_ret
  exact ⟨_, rfl, unhide HI, unhide HB⟩

/-- Whether a row is in no span. -/
def freshB (rs : List (List Nat)) (xs : List Nat) : Bool := !decide (firstI (reduceL (broughtL rs) xs) < 0)
end Go.Proofs.YtnjdldbdkafnaaaGreatDoor
namespace Go.Proofs.YtnjdldbdkafnaaaGreatDoor
open Go.RowKit Go.Sort
set_option linter.unusedVariables false
set_option linter.unusedSimpArgs false
set_option maxRecDepth 4000

set_option maxHeartbeats 1000000 in
theorem gvecs_any (a : Option Addr) (n c : Nat) (ts : List RV) (w : World) (h : RowsAt w a n ts) (hn : n ≤ 1048576) :
    Calls Tryz.prog 69 #[.slice a n c] w fun e w' => ∃ v, e = .returned v ∧ OwnW w' w.heap.size v ts ∧ Below w.heap.size w w' := by
  obtain rfl := h.1
  have Hh := hide h
  have hmk := make_v ts.length hn
  have HM := made_v w ts.length hn
  rw [← fillW_zero] at HM
  have HM := hide HM
  have HBM : Hid (Below w.heap.size w (w.alloc (.cells (madeCells #[.slice none 0 0] ts.length) 27))) := hide ((Below.refl _ _).alloc (Nat.le_refl _) _)
  clear h
  go_enter Tryz.func69, Tryz.ntmps69
  go_wp2
  go_loopw [11] (fun i wr => ∃ k : Nat, k ≤ ts.length ∧ i = .int .i64 k ∧ Hid (wr.ownsRow w.heap.size 27 1 (.slice (some ⟨w.heap.size, 0, none⟩) ts.length ts.length) ts.length (fillW ts k)) ∧ Hid (Below w.heap.size w wr)) (fun i _ => ts.length - (intOf i).toNat)
  case atStart => exact ⟨0, Nat.zero_le _, rfl, HM, HBM⟩
  case round =>
    obtain ⟨k, hk, rfl, HI, HB⟩ := hrel
    clear HM HBM
    by_cases hlt : k < ts.length
    · obtain ⟨b, off, rfl, hcl⟩ := ((unhide Hh).below (unhide HB)).at hlt
      obtain ⟨hc0, hc1⟩ := hcl k hlt
      have hlt' : (k : Int) < (ts.length : Int) := by omega
      have hS := fillW_succ ts k hlt
      have hfk : (fillW ts k)[k]? = some (.slice none 0 0) := by
        unfold fillW
        have hl : ((ts.take k).map fun r => Value.slice r.a r.n r.c).length = k := by simp; omega
        rw [List.getElem?_append_right (by omega), hl, Nat.sub_self, List.getElem?_replicate, if_pos (by omega)]
      generalize ts.getD k .dflt = r at *
      have hb1 : Below wr.heap.size wr (wr.alloc (.cells #[.slice r.a r.n r.c, .string r.s] 29)) := (Below.refl _ _).alloc (Nat.le_refl _) _
      have hI := ownsRow_below (unhide HI) hb1
      have hcell := hI.cellAt k (by omega)
      rw [hfk] at hcell
      have hfz := hI.frozenAt k
      have hs2 := (hI.stored k (.slice r.a r.n r.c)).1
      rw [hS] at hs2
      have hB2 := (below0 (unhide HB) hb1).setCell (p := ⟨w.heap.size, k, none⟩) (Nat.le_refl _) (.slice r.a r.n r.c)
      obtain ⟨hx0, hx1⟩ := box_new wr (.slice r.a r.n r.c) (.string r.s)
      have HS := hide hs2
      have HB2 := hide hB2
      clear hcl hI hs2 hB2 hb1 hS hfk HI HB
      go_wp2
      go_roundw
      case rel => exact ⟨k + 1, by omega, by go_num, HS, HB2⟩
      case measure => simp [intOf]; omega
    · obtain rfl : k = ts.length := by omega
      rw [fillW_all] at HI
      go_wp2
      go_ret
      exact ⟨_, rfl, unhide HI, unhide HB⟩
set_option maxHeartbeats 2000000 in
theorem rvecs_any (a : Option Addr) (n c : Nat) (ts : List RV) (w : World) (h : RowsAt w a n ts) (hn : n ≤ 1048576) :
    Calls Tryz.prog 34 #[.slice a n c] w fun e w' => ∃ v, e = .returned v ∧ OwnW w' w.heap.size v ts ∧ Below w.heap.size w w' := by
  obtain rfl := h.1
  have Hh := hide h
  clear h
  go_enter Tryz.func34, Tryz.ntmps34
  go_wp2
  go_loopw [3, 4] (fun o i wr => ∃ (k : Nat) (a1 : Option Addr) (m1 c1 : Nat), k ≤ ts.length ∧ i = .int .i64 k ∧ o = .slice a1 m1 c1 ∧ Hid (OwnW wr w.heap.size (.slice a1 m1 c1) (ts.take k)) ∧ Hid (Below w.heap.size w wr)) (fun _ i _ => ts.length - (intOf i).toNat)
  case atStart => exact ⟨0, none, 0, 0, Nat.zero_le _, rfl, rfl, hide (OwnW.nil _ _), hide (Below.refl _ _)⟩
  case round =>
    obtain ⟨k, a1, m1, c1, hk, rfl, rfl, HO, HB⟩ := hrel
    by_cases hlt : k < ts.length
    · obtain ⟨b, off, rfl, hcl⟩ := ((unhide Hh).below (unhide HB)).at hlt
      obtain ⟨hc0, hc1⟩ := hcl k hlt
      have hlt' : (k : Int) < (ts.length : Int) := by omega
      have HE := hide (take_snocR ts k hlt)
      have htl : (ts.take k).length ≤ 1048576 := by have := List.length_take_le k ts; omega
      generalize ts.getD k .dflt = r at *
      obtain ⟨us, hus⟩ : ∃ us, us = ts.take k := ⟨_, rfl⟩
      rw [← hus] at HO HE htl
      clear hcl hus
      go_wp2_with (first | (at_builtin; refine wpList_pushW rfl (.tmp 11) (.tmp 17) rfl w.heap.size (.slice a1 m1 c1) us r rfl rfl (unhide HO) (unhide HB).size htl ?_; intro v3 w3 ho3 hb3; obtain ⟨a3, m3, c3, rfl⟩ : ∃ a3 m3 c3, v3 = Value.slice a3 m3 c3 := (by rcases ho3.2 with ⟨e3, _⟩ | ⟨g3, cap3, _, e3, _⟩; exact ⟨none, 0, 0, e3⟩; exact ⟨_, _, _, e3⟩); have HO3 := hide ho3; have HB3 := hide ((unhide HB).trans hb3); clear ho3 hb3))
      go_roundw
      case rel => exact ⟨k + 1, a3, m3, c3, by omega, by go_num, rfl, hide (by rw [← unhide HE]; exact unhide HO3), HB3⟩
      case measure => simp [intOf]; omega
    · have hke : ts.take k = ts := List.take_of_length_le (by omega)
      rw [hke] at HO
      go_wp2
      go_ret
      exact ⟨_, rfl, unhide HO, unhide HB⟩
theorem vecsL_len (ts : List RV) : (vecsL ts).length = ts.length := by simp [vecsL]
set_option maxHeartbeats 1000000 in
theorem grank_any (a : Option Addr) (n c : Nat) (ts : List RV) (w : World) (ht : Tab w) (h : RowsAt w a n ts) (hr : RowsIn w ts) (hs : shortR ts) (hn : n ≤ 100000) :
    Calls Tryz.prog 51 #[.slice a n c] w fun e w' => e = .returned (.int .i64 ((keepL (vecsL ts) ts.length).length : Int)) ∧ Below w.heap.size w w' := by
  obtain rfl := h.1
  have HV := hide (gvecs_any a ts.length c ts w h (by omega))
  have HK := hide (fun (w1 : World) (a1 : Option Addr) (c1 : Nat) (hb : Below w.heap.size w w1) (hv : VecsAt w1 a1 ts.length (vecsL ts)) => keep_any a1 ts.length c1 (vecsL ts) w1 (ht.below hb) hv (fit_of hr hs) hn)
  have HR := hide hr
  clear h hr hs ht
  go_enter Tryz.func51, Tryz.ntmps51
  go_wp2_with fail
  refine (unhide HV).mono ?_
  rintro e w1 ⟨v1, rfl, ho1, hb1⟩
  obtain ⟨a1, c1, rfl, hv1⟩ := ho1.vecs ((unhide HR).below hb1)
  have HK1 := unhide HK w1 a1 c1 hb1 hv1
  rw [vecsL_len] at HK1
  have HK1 := hide HK1
  have HB1 := hide hb1
  clear ho1 hb1 hv1 HV HK
  go_wp2_with fail
  refine (unhide HK1).mono ?_
  rintro e w2 ⟨v2, rfl, ho2, hb2⟩
  obtain ⟨a2, c2, rfl, hi2⟩ := ho2.ints
  have HB2 := hide (below0 (unhide HB1) hb2)
  clear ho2 hb2 hi2 HK1 HB1
  go_wp2
  go_ret
  exact ⟨rfl, unhide HB2⟩
set_option maxHeartbeats 1000000 in
theorem rgrank_any (a : Option Addr) (n c : Nat) (ts : List RV) (w : World) (h : RowsAt w a n ts) (hr : RowsIn w ts) (hs : shortR ts) (hn : n ≤ 100000) :
    Calls Tryz.prog 17 #[.slice a n c] w fun e w' => e = .returned (.int .i64 ((basisL (vecsL ts)).length : Int)) ∧ Below w.heap.size w w' := by
  obtain rfl := h.1
  have HV := hide (rvecs_any a ts.length c ts w h (by omega))
  have HK := hide (fun (w1 : World) (a1 : Option Addr) (c1 : Nat) (hb : Below w.heap.size w w1) (hv : VecsAt w1 a1 ts.length (vecsL ts)) => rrank_any a1 ts.length c1 (vecsL ts) w1 hv (fit_of hr hs) hn)
  have HR := hide hr
  clear h hr hs
  go_enter Tryz.func17, Tryz.ntmps17
  go_wp2_with fail
  refine (unhide HV).mono ?_
  rintro e w1 ⟨v1, rfl, ho1, hb1⟩
  obtain ⟨a1, c1, rfl, hv1⟩ := ho1.vecs ((unhide HR).below hb1)
  have HK1 := hide (unhide HK w1 a1 c1 hb1 hv1)
  have HB1 := hide hb1
  clear ho1 hb1 hv1 HV HK
  go_wp2_with fail
  refine (unhide HK1).mono ?_
  rintro e w2 ⟨rfl, hb2⟩
  have HB2 := hide (below0 (unhide HB1) hb2)
  clear hb2 HK1 HB1
  go_wp2
  go_ret
  exact ⟨rfl, unhide HB2⟩
end Go.Proofs.YtnjdldbdkafnaaaGreatDoor
namespace Go.Proofs.YtnjdldbdkafnaaaGreatDoor
open Go.RowKit Go.Sort
set_option linter.unusedVariables false
set_option linter.unusedSimpArgs false
set_option maxRecDepth 4000

/-- A word of a slice of ints of one's own is written. -/
theorem OwnI.at {w : World} {B : Nat} {v : Value} {xs : List Nat} (h : OwnI w B v xs) (hn : 0 < xs.length) :
    ∃ g cap, v = .slice (some ⟨g, 0, none⟩) xs.length cap ∧ B ≤ g ∧ g < w.heap.size ∧ (∀ i, i < xs.length → w.cell? ⟨g, i, none⟩ = some (.int .i64 ((xs.getD i 0 : Nat) : Int))) ∧ ∀ i, w.frozen? ⟨g, i, none⟩ = false := by
  have ho' : w.ownsRow B 3 1 v xs.length (cellsI xs) := h
  rcases h.2 with ⟨rfl, h0⟩ | ⟨g, cap, cur, rfl, hb, hg, hn, hm, hsz, ht⟩
  · omega
  · refine ⟨g, cap, rfl, hb, (Array.getElem?_eq_some_iff.1 hg).1, fun i hi => ?_, fun i => ho'.frozenAt i⟩
    rw [ho'.cellAt i (by omega), cellsI_get xs i hi]
theorem OwnI.stored {w : World} {B g cap n : Nat} {xs : List Nat} (h : OwnI w B (.slice (some ⟨g, 0, none⟩) n cap) xs) (i x : Nat) :
    OwnI (w.setCell ⟨g, i, none⟩ (.int .i64 (x : Int))) B (.slice (some ⟨g, 0, none⟩) n cap) (xs.set i x) := by
  obtain rfl : n = xs.length := by
    obtain ⟨a, c, e, _⟩ := h.ints
    simp only [Value.slice.injEq] at e
    exact e.2.1
  have ho : w.ownsRow B 3 1 (.slice (some ⟨g, 0, none⟩) xs.length cap) xs.length (cellsI xs) := h
  have := (ho.stored i (.int .i64 (x : Int))).1
  rw [cellsI_set] at this
  show World.ownsRow _ B 3 1 _ (xs.set i x).length _
  rw [List.length_set]
  exact this
theorem made_ints (w : World) (n : Nat) (hn : n ≤ 1048576) (xs : List Nat) (hxs : xs = List.replicate n 0) :
    OwnI (w.alloc (.cells (madeCells #[.int .i64 0] n) 3)) w.heap.size (.slice (some ⟨w.heap.size, 0, none⟩) n n) xs := by
  subst hxs
  refine ⟨by simp [cellsI], .inr ⟨w.heap.size, n, madeCells #[.int .i64 0] n, by simp, Nat.le_refl _, heap_alloc_new w _, by simp, by unfold maxLen; omega, by simp [size_madeCells], ?_⟩⟩
  rw [toList_madeCells_one, List.take_of_length_le (by simp)]
  simp [cellsI]
def filledN (fs : List Nat) (k : Nat) : List Nat := fs.take k ++ List.replicate (fs.length - k) 0
theorem filledN_zero (fs : List Nat) : filledN fs 0 = List.replicate fs.length 0 := by simp [filledN]
theorem filledN_all (fs : List Nat) : filledN fs fs.length = fs := by simp [filledN]
theorem filledN_length (fs : List Nat) (k : Nat) (hk : k ≤ fs.length) : (filledN fs k).length = fs.length := by simp [filledN]; omega
theorem filledN_succ (fs : List Nat) (k : Nat) (hk : k < fs.length) : (filledN fs k).set k (fs.getD k 0) = filledN fs (k + 1) := by
  unfold filledN
  have hl : (fs.take k).length = k := by simp; omega
  rw [List.set_append_right _ _ (by omega), hl, Nat.sub_self, List.take_succ_eq_append_getElem hk, List.append_assoc, show fs.length - k = (fs.length - (k + 1)) + 1 by omega, List.replicate_succ, List.set_cons_zero]
  simp [List.getD_eq_getElem?_getD, List.getElem?_eq_getElem hk]
/-- The lowest bits. -/
def firstsL (rs : List (List Nat)) : List Nat := rs.map fun b => (firstI b).toNat
theorem firstsL_len (rs : List (List Nat)) : (firstsL rs).length = rs.length := by simp [firstsL]
theorem firstsL_get (rs : List (List Nat)) (i : Nat) (h : i < rs.length) : (firstsL rs).getD i 0 = (firstI (rs.getD i [])).toNat := by
  simp [firstsL, List.getD_eq_getElem?_getD, List.getElem?_eq_getElem h]

set_option maxHeartbeats 1000000 in
theorem firsts_any (a : Option Addr) (n c : Nat) (rs : List (List Nat)) (w : World) (ht : Tab w) (h : VecsAt w a n rs) (hf : Fit 1048576 rs) (hn : n ≤ 100000) (hp : ∀ i, i < n → 0 ≤ firstI (rs.getD i [])) :
    Calls Tryz.prog 115 #[.slice a n c] w fun e w' => ∃ v, e = .returned v ∧ OwnI w' w.heap.size v (firstsL rs) ∧ Below w.heap.size w w' := by
  obtain rfl : n = rs.length := h.1.symm
  obtain ⟨i0, hi0, hz0, hzs, hzb⟩ := info_parts info_int
  have hmk : ∀ wx : World, (Instr.makeSlice 93 (.int .i64 (rs.length : Int)) (.int .i64 (rs.length : Int))).run Tryz.prog wx = .ok (.slice (some ⟨wx.heap.size, 0, none⟩) rs.length rs.length) (wx.alloc (.cells (madeCells #[.int .i64 0] rs.length) 3)) := fun wx => by
    have := run_make (P := Tryz.prog) wx 93 3 i0 (.int .i64 0) Tryz.underlying93 hi0 hz0 .i64 .i64 (rs.length : Int) (rs.length : Int) (by omega) (Int.le_refl _) (by rw [hzb]; omega) (by omega)
    rw [hzs] at this
    simpa [Value.cells] using this
  have HM := hide (made_ints w rs.length (by omega) (filledN (firstsL rs) 0) (by rw [filledN_zero, firstsL_len]))
  have HBM : Hid (Below w.heap.size w (w.alloc (.cells (madeCells #[.int .i64 0] rs.length) 3))) := hide ((Below.refl _ _).alloc (Nat.le_refl _) _)
  clear hi0 hz0 hzs hzb
  go_enter Tryz.func115, Tryz.ntmps115
  go_wp2
  go_loopw [11] (fun i wr => ∃ k : Nat, k ≤ rs.length ∧ i = .int .i64 k ∧ Hid (OwnI wr w.heap.size (.slice (some ⟨w.heap.size, 0, none⟩) rs.length rs.length) (filledN (firstsL rs) k)) ∧ Hid (Below w.heap.size w wr)) (fun i _ => rs.length - (intOf i).toNat)
  case atStart => exact ⟨0, Nat.zero_le _, rfl, HM, HBM⟩
  case round =>
    obtain ⟨k, hk, rfl, HI, HB⟩ := hrel
    have hB := unhide HB
    by_cases hlt : k < rs.length
    · obtain ⟨b, off, rfl, hc⟩ := (h.below hB).at hlt
      obtain ⟨ai, ci, hcell, hrow⟩ := hc k hlt
      have hI := unhide HI
      have hfl : (filledN (firstsL rs) k).length = rs.length := by rw [filledN_length _ _ (by rw [firstsL_len]; exact hk), firstsL_len]
      obtain ⟨g, cap, e1, _, _, hcg, hfg⟩ := hI.at (by omega)
      simp only [Value.slice.injEq, Option.some.injEq, Addr.mk.injEq, and_true] at e1
      obtain ⟨rfl, -, -⟩ := e1
      have hcell2 := hcg k (by omega)
      have hfz := hfg k
      obtain ⟨f, hfe⟩ : ∃ f : Nat, firstI (rs.getD k []) = (f : Int) := ⟨_, (Int.toNat_of_nonneg (hp k hlt)).symm⟩
      have hF := first_any ai _ ci (rs.getD k []) wr (ht.below hB) hrow (hf.getD k).2
      rw [hfe] at hF
      have HF := hide hF
      have hs := hI.stored k f
      rw [show f = (firstsL rs).getD k 0 by rw [firstsL_get rs k hlt, hfe]; rfl, filledN_succ _ _ (by rw [firstsL_len]; exact hlt), show (firstsL rs).getD k 0 = f by rw [firstsL_get rs k hlt, hfe]; rfl] at hs
      have HS := hide hs
      have HB2 := hide (hB.setCell (p := ⟨w.heap.size, k, none⟩) (by exact Nat.le_refl _) (.int .i64 (f : Int)))
      clear hc hrow h hI hfl hcg hfg hF hs hfe hB HB HI HM HBM hp
      generalize rs.getD k [] = y at *
      go_wp2_with fail
      refine (unhide HF).mono ?_
      rintro e w1 ⟨rfl, hw⟩
      obtain rfl := hw.symm
      go_wp2
      go_roundw
      case rel => exact ⟨k + 1, by omega, by go_num, HS, HB2⟩
      case measure => simp [intOf]; omega
    · obtain rfl : k = rs.length := by omega
      rw [show rs.length = (firstsL rs).length from (firstsL_len rs).symm, filledN_all, firstsL_len] at HI
      clear h HM HBM
      go_wp2
      go_ret
      exact ⟨_, rfl, unhide HI, unhide HB⟩

/-- Rows of s words each, one behind the other in pc. -/
def Flat (pc : List Nat) (s N : Nat) (rs : List (List Nat)) : Prop := pc.length = N * s ∧ rs.length = N ∧ ∀ i, i < N → (rs.getD i []).length = s ∧ ∀ j, j < s → pc.getD (i * s + j) 0 = (rs.getD i []).getD j 0
theorem flat_lt {i j s N : Nat} (hi : i < N) (hj : j < s) : i * s + j < N * s := by
  have h : (i + 1) * s ≤ N * s := Nat.mul_le_mul_right s hi
  rw [Nat.add_mul, Nat.one_mul] at h
  omega
theorem flat_inj {i j i' j' s : Nat} (hj : j < s) (hj' : j' < s) (h : i * s + j = i' * s + j') : i = i' ∧ j = j' := by
  rcases Nat.lt_trichotomy i i' with h1 | h1 | h1
  · have h2 : (i + 1) * s ≤ i' * s := Nat.mul_le_mul_right s h1
    rw [Nat.add_mul, Nat.one_mul] at h2
    omega
  · subst h1; exact ⟨rfl, by omega⟩
  · have h2 : (i' + 1) * s ≤ i * s := Nat.mul_le_mul_right s h1
    rw [Nat.add_mul, Nat.one_mul] at h2
    omega
theorem getD_setR (rs : List (List Nat)) (i j : Nat) (r : List Nat) (hi : i < rs.length) : (rs.set i r).getD j [] = if j = i then r else rs.getD j [] := by
  rw [List.getD_eq_getElem?_getD]
  by_cases h : j = i
  · subst h; rw [List.getElem?_set_self hi, if_pos rfl]; rfl
  · rw [List.getElem?_set_ne (Ne.symm h), if_neg h, ← List.getD_eq_getElem?_getD]
theorem Flat.set {pc : List Nat} {s N : Nat} {rs : List (List Nat)} (h : Flat pc s N rs) {i q : Nat} (hi : i < N) (hq : q < s) (y : Nat) : Flat (pc.set (i * s + q) y) s N (rs.set i ((rs.getD i []).set q y)) := by
  have hl := flat_lt hi hq
  refine ⟨by rw [List.length_set]; exact h.1, by rw [List.length_set]; exact h.2.1, fun i' hi' => ?_⟩
  rw [getD_setR rs i i' _ (by rw [h.2.1]; exact hi)]
  obtain ⟨h1, h2⟩ := h.2.2 i' hi'
  by_cases e : i' = i
  · subst e
    rw [if_pos rfl]
    refine ⟨by rw [List.length_set]; exact h1, fun j hj => ?_⟩
    rw [getD_set, getD_set]
    by_cases e2 : j = q
    · subst e2; rw [if_pos ⟨rfl, by rw [h.1]; exact hl⟩, if_pos ⟨rfl, by omega⟩]
    · rw [if_neg (fun k => e2 (by have := k.1; omega)), if_neg (fun k => e2 k.1)]
      exact h2 j hj
  · rw [if_neg e]
    refine ⟨h1, fun j hj => ?_⟩
    rw [getD_set, if_neg (fun k => e (flat_inj hj hq k.1).1)]
    exact h2 j hj
/-- Rows that are cut out of one piece P of the call's own; R holds where each of them lies. -/
def CutAt (w : World) (B P R s N : Nat) (rs : List (List Nat)) : Prop :=
  ∃ pc, Flat pc s N rs ∧ Own w B (.slice (some ⟨P, 0, none⟩) pc.length pc.length) pc ∧ (∀ i, i < N → w.cell? ⟨R, i, none⟩ = some (.slice (some ⟨P, i * s, none⟩) s s)) ∧ R ≠ P
theorem CutAt.below {w w' : World} {B P R s N : Nat} {rs : List (List Nat)} (h : CutAt w B P R s N rs) (hb : Below w.heap.size w w') : CutAt w' B P R s N rs := by
  obtain ⟨pc, h1, h2, h3, h4⟩ := h
  exact ⟨pc, h1, h2.below hb, fun i hi => (hb.cell (World.block_lt_of_cell? w _ (h3 i hi))).trans (h3 i hi), h4⟩
theorem CutAt.len {w : World} {B P R s N : Nat} {rs : List (List Nat)} (h : CutAt w B P R s N rs) : rs.length = N ∧ ∀ i, i < N → (rs.getD i []).length = s := by
  obtain ⟨pc, h1, _⟩ := h
  exact ⟨h1.2.1, fun i hi => (h1.2.2 i hi).1⟩
theorem CutAt.row {w : World} {B P R s N : Nat} {rs : List (List Nat)} (h : CutAt w B P R s N rs) {i : Nat} (hi : i < N) : RowAt w (some ⟨P, i * s, none⟩) s (rs.getD i []) ∧ w.cell? ⟨R, i, none⟩ = some (.slice (some ⟨P, i * s, none⟩) s s) ∧
    ∀ j, j < s → w.frozen? ⟨P, i * s + j, none⟩ = false := by
  obtain ⟨pc, h1, h2, h3, h4⟩ := h
  obtain ⟨k1, k2⟩ := h1.2.2 i hi
  refine ⟨⟨k1, fun x hx => ?_, ?_⟩, h3 i hi, fun j hj => ?_⟩
  · obtain ⟨j, hj, rfl⟩ := List.getElem_of_mem hx
    have := k2 j (by omega)
    rw [List.getD_eq_getElem?_getD (l := rs.getD i []), List.getElem?_eq_getElem hj, Option.getD_some] at this
    rw [← this]
    exact h2.1.get _
  · by_cases h0 : s = 0
    · exact .inl h0
    · refine .inr ⟨P, i * s, rfl, fun j hj => ?_⟩
      have hl := flat_lt hi hj
      obtain ⟨g, cap, e, _, _, hc, _⟩ := h2.at (by rw [h1.1]; omega)
      simp only [Value.slice.injEq, Option.some.injEq, Addr.mk.injEq, and_true] at e
      obtain ⟨rfl, _⟩ := e
      rw [hc _ (by rw [h1.1]; exact hl), k2 j hj]
  · have hl := flat_lt hi hj
    obtain ⟨g, cap, e, _, _, _, hf⟩ := h2.at (by rw [h1.1]; omega)
    simp only [Value.slice.injEq, Option.some.injEq, Addr.mk.injEq, and_true] at e
    obtain ⟨rfl, _⟩ := e
    exact hf _
theorem CutAt.stored {w : World} {B P R s N : Nat} {rs : List (List Nat)} (h : CutAt w B P R s N rs) {i q : Nat} (hi : i < N) (hq : q < s) (y : Nat) (hy : y < 18446744073709551616) :
    CutAt (w.setCell ⟨P, i * s + q, none⟩ (.int .u64 (y : Int))) B P R s N (rs.set i ((rs.getD i []).set q y)) := by
  obtain ⟨pc, h1, h2, h3, h4⟩ := h
  refine ⟨pc.set (i * s + q) y, h1.set hi hq y, ?_, fun i hi => (gb_setCell w P _ _).cell (h3 i hi) (fun e => h4 (Option.some.inj e)), h4⟩
  rw [List.length_set]
  exact h2.stored _ y hy
theorem CutAt.vecs {w : World} {B P R s N : Nat} {rs : List (List Nat)} (h : CutAt w B P R s N rs) {k : Nat} (hk : k ≤ N) : VecsAt w (some ⟨R, 0, none⟩) k (rs.take k) := by
  have hl := h.len
  have hg : ∀ i, i < k → (rs.take k).getD i [] = rs.getD i [] := fun i hi => by rw [List.getD_eq_getElem?_getD, List.getElem?_take_of_lt hi, ← List.getD_eq_getElem?_getD]
  refine ⟨by rw [List.length_take, hl.1]; omega, .inr ⟨R, 0, rfl, fun i hi => ?_⟩, fun b off i ai n ci e hi hc => ?_⟩
  · obtain ⟨h1, h2, _⟩ := h.row (show i < N by omega)
    rw [hg i hi, Nat.zero_add, hl.2 i (by omega)]
    exact ⟨_, s, h2, h1⟩
  · simp only [Option.some.injEq, Addr.mk.injEq, and_true] at e
    obtain ⟨rfl, rfl⟩ := e
    rw [Nat.zero_add, (h.row (show i < N by omega)).2.1] at hc
    simp only [Option.some.injEq, Value.slice.injEq] at hc
    omega
theorem CutAt.low {w : World} {B P R s N : Nat} {rs : List (List Nat)} (h : CutAt w B P R s N rs) : B ≤ P ∧ P < w.heap.size := by
  obtain ⟨pc, h1, h2, _⟩ := h
  exact h2.lt rfl

theorem sor_num (x k : Nat) (hx : x < 18446744073709551616) (hk : k < 64) : bits .or .u64 (x : Int) ((2 ^ k : Nat) : Int) = ((setW x k true : Nat) : Int) := by
  have h2 : 2 ^ k < 2 ^ 64 := Nat.pow_lt_pow_right (by decide) hk
  rw [u64_or_nat x _ hx (by omega), or_setW]
set_option maxHeartbeats 1000000 in
theorem sset_any (P off s c i x : Nat) (w : World) (hi : i < 64 * s) (hs : s ≤ 1048576) (hc : w.cell? ⟨P, off + i / 64, none⟩ = some (.int .u64 (x : Int))) (hx : x < 18446744073709551616) (hfz : w.frozen? ⟨P, off + i / 64, none⟩ = false) :
    Calls Tryz.prog 118 #[.slice (some ⟨P, off, none⟩) s c, .int .i64 (i : Int)] w fun e w' => e = .returned (.tuple #[]) ∧ w' = w.setCell ⟨P, off + i / 64, none⟩ (.int .u64 ((setW x (i % 64) true : Nat) : Int)) := by
  obtain ⟨q, hq⟩ : ∃ q, i / 64 = q := ⟨_, rfl⟩
  have hqs : q < s := by omega
  have hqw : IntKind.i64.wrap ((i : Int).tdiv 64) = (q : Int) := by
    rw [Int.tdiv_eq_ediv_of_nonneg (by omega)]
    simp [IntKind.wrap, IntKind.bits, IntKind.signed]
    omega
  have hmk := mask_num (i : Int)
  have hor := sor_num x (i % 64) hx (by omega)
  rw [show ((i : Int) % 64).toNat = i % 64 by omega] at hmk
  rw [hq] at hc hfz ⊢
  generalize setW x (i % 64) true = y at *
  rw [← hmk] at hor
  clear hmk
  go_enter Tryz.func118, Tryz.ntmps118
  go_wp2
  go_end0
  exact ⟨rfl, rfl⟩
end Go.Proofs.YtnjdldbdkafnaaaGreatDoor
