/-
  Slices of ints in memory: what can be read ('IntsAt'), and what is the call's own ('OwnI'). Contracts of span.sift, Keep, Fresh: for rows of at most 2^20 words, in every world that holds the table of math/bits.
  Plain mathematics of a buffer: packets as data ('PD'), what a put makes of them ('bput'), which one goes ('goesTo'), what always holds ('BInv'), that none is made by the others ('FreeD'). No condition.
  From 0 to 256 ('capN'); contract of bucketlineref15.Cap.
  Slices of the rows' vectors, of one's own.
-/
import Derived.Test.YtmdmipojbeppiaaGreatDoorM8
import Derived.Test.YtmdmipojbeppiaaGreatDoorM9
import Derived.Test.YtmdmipojbeppiaaGreatDoorM5
import Derived.Test.YtmdmipojbeppiaaGreatDoorM6
import Derived.Test.YtmdmipojbeppiaaGreatDoorM1
import Derived.BigQuiet
import Derived.Test.YtmdmipojbeppiaaGreatDoorM2
namespace Go.Proofs.YtmdmipojbeppiaaGreatDoor
open Go.RowKit Go.Sort
set_option linter.unusedVariables false
set_option maxRecDepth 4000

def cellsI (xs : List Nat) : List Value := xs.map fun (x : Nat) => Value.int .i64 (x : Int)
theorem cellsI_length (xs : List Nat) : (cellsI xs).length = xs.length := by simp [cellsI]
theorem cellsI_get (xs : List Nat) (i : Nat) (h : i < xs.length) : (cellsI xs)[i]? = some (.int .i64 ((xs.getD i 0 : Nat) : Int)) := by
  simp [cellsI, List.getElem?_eq_getElem h, List.getD_eq_getElem?_getD]
theorem cellsI_set (xs : List Nat) (i x : Nat) : (cellsI xs).set i (.int .i64 (x : Int)) = cellsI (xs.set i x) := by
  simp [cellsI, List.map_set]
/-- A slice of n ints that can be read: they are xs. -/
def IntsAt (w : World) (a : Option Addr) (n : Nat) (xs : List Nat) : Prop :=
  xs.length = n ∧ (n = 0 ∨ ∃ b off, a = some ⟨b, off, none⟩ ∧ ∀ i, i < n → w.cell? ⟨b, off + i, none⟩ = some (.int .i64 ((xs.getD i 0 : Nat) : Int)))
theorem IntsAt.at {w : World} {a : Option Addr} {n : Nat} {xs : List Nat} (h : IntsAt w a n xs) {i : Nat} (hi : i < n) :
    ∃ b off, a = some ⟨b, off, none⟩ ∧ ∀ i, i < n → w.cell? ⟨b, off + i, none⟩ = some (.int .i64 ((xs.getD i 0 : Nat) : Int)) := by
  rcases h.2 with h0 | h0
  · omega
  · exact h0
theorem IntsAt.below {w w' : World} {a : Option Addr} {n : Nat} {xs : List Nat} (h : IntsAt w a n xs) (hb : Below w.heap.size w w') : IntsAt w' a n xs := by
  refine ⟨h.1, ?_⟩
  rcases h.2 with h0 | ⟨b, off, rfl, hc⟩
  · exact .inl h0
  · exact .inr ⟨b, off, rfl, fun i hi => (hb.cell (World.block_lt_of_cell? w _ (hc i hi))).trans (hc i hi)⟩
/-- A slice of ints of the call's own. -/
def OwnI (w : World) (B : Nat) (v : Value) (xs : List Nat) : Prop := w.ownsRow B 3 1 v xs.length (cellsI xs)
theorem OwnI.ints {w : World} {B : Nat} {v : Value} {xs : List Nat} (h : OwnI w B v xs) : ∃ a c, v = .slice a xs.length c ∧ IntsAt w a xs.length xs := by
  have ho' : w.ownsRow B 3 1 v xs.length (cellsI xs) := h
  rcases h.2 with ⟨rfl, h0⟩ | ⟨g, cap, cur, rfl, hb, hg, hn, hm, hsz, ht⟩
  · exact ⟨none, 0, by rw [h0], rfl, .inl h0⟩
  · refine ⟨_, cap, rfl, rfl, .inr ⟨g, 0, rfl, fun i hi => ?_⟩⟩
    rw [Nat.zero_add, ho'.cellAt i (by omega), cellsI_get xs i hi]
theorem OwnI.nil (w : World) (B : Nat) : OwnI w B (.slice none 0 0) [] := World.ownsRow_nil _ _ _ _
theorem OwnI.mono {w : World} {B B' : Nat} {v : Value} {xs : List Nat} (h : OwnI w B v xs) (hB : B' ≤ B) : OwnI w B' v xs := by
  refine ⟨h.1, ?_⟩
  rcases h.2 with h0 | ⟨g, cap, cur, h1, hb, r⟩
  · exact .inl h0
  · exact .inr ⟨g, cap, cur, h1, Nat.le_trans hB hb, r⟩
theorem OwnI.below {w w' : World} {B : Nat} {v : Value} {xs : List Nat} (h : OwnI w B v xs) (hb : Below w.heap.size w w') : OwnI w' B v xs := ownsRow_below h hb
/-- Rows of different types lie in different blocks. -/
theorem dis_any {w : World} {B B' : Nat} {e e' : TypeId} {v u : Value} {n m : Nat} {cs ds : List Value} (hne : e ≠ e') (h : w.ownsRow B e 1 v n cs) (k : w.ownsRow B' e' 1 u m ds) : Dis u v := by
  rcases h.2 with ⟨rfl, _⟩ | ⟨g, cap, cur, rfl, hb, hg, _⟩
  · by_cases e : u.ownBlock = none
    · exact .inl e
    · exact .inr e
  · rcases k.2 with ⟨rfl, _⟩ | ⟨g', cap', cur', rfl, hb', hg', _⟩
    · exact .inl rfl
    · right
      intro e
      simp only [Value.ownBlock, Option.some.injEq] at e
      rw [e] at hg'
      rw [hg] at hg'
      simp at hg'
      exact hne hg'.2
theorem OwnI.keptV {w w' : World} {B B' : Nat} {v u : Value} {xs : List Nat} {vs : List Value} {rs : List (List Nat)} (h : OwnI w B v xs) (k : OwnV w B' u vs rs) (hg : w.grownBy w' u.ownBlock) : OwnI w' B v xs :=
  World.ownsRow.kept h hg (dis_any (by decide) k.top h)
theorem Own.keptI {w w' : World} {B B' : Nat} {v u : Value} {xs ys : List Nat} (h : Own w B v xs) (k : OwnI w B' u ys) (hg : w.grownBy w' u.ownBlock) : Own w' B v xs :=
  h.kept hg (dis_any (by decide) k h.2)
theorem OwnV.keptI {w w' : World} {B B' : Nat} {v u : Value} {ys : List Nat} {vs : List Value} {rs : List (List Nat)} (h : OwnV w B v vs rs) (k : OwnI w B' u ys) (hg : w.grownBy w' u.ownBlock) : OwnV w' B v vs rs :=
  ⟨h.top.kept hg (dis_any (by decide) k h.top), fun i u hu => (h.rows i u hu).keptI k hg, h.apart⟩
theorem info_int : (Tryz.prog.info? 3).map (fun i => (i.zero, i.size, i.bytes)) = some (some (.int .i64 0), 1, 8) := by kernel_rfl
/-- append(own, x). -/
theorem wpList_pushI {w : World} {ops : Array Oper} {rest : List Oper} {o : Oper} {act : Act} {Q : Exit → Act → World → Prop} (hgd : o.guard = none) (s x : Operand)
    (ho : o.op = .call { callee := .builtin .append, args := #[s, x], argTypes := #[78, 78] }) (B : Nat) (v : Value) (xs : List Nat) (y : Nat)
    (hs : act.eval s = v) (hx : act.eval x = .slice (some ⟨w.heap.size, 0, none⟩) 1 1) (h : OwnI w B v xs) (hB : B ≤ w.heap.size) (hn : xs.length ≤ 1048576)
    (hK : ∀ s' w', OwnI w' B s' (xs ++ [y]) → w.grownBy w' v.ownBlock → wpList Tryz.prog ops Q rest (act.put o.dst s') w') : wpList Tryz.prog ops Q (o :: rest) act (w.alloc (.cells #[.int .i64 (y : Int)] 3)) := by
  obtain ⟨i0, hi, hz0, hz1, hz2⟩ := info_parts info_int
  have hb : Below w.heap.size w (w.alloc (.cells #[.int .i64 (y : Int)] 3)) := (Below.refl _ _).alloc (Nat.le_refl _) _
  have h1 := h.below hb
  refine wpList_append_own _ hgd s x 78 ho B 3 i0 (.int .i64 0) 1 8 Tryz.underlying78 hi hz0 hz1 hz2 rfl (by decide) v xs.length (cellsI xs) hs h1 ⟨w.heap.size, 0, none⟩ 1 1 [.int .i64 (y : Int)] hx rfl (fun j u hj => ?_)
    (fun u hu => by rw [List.mem_singleton.1 hu]; rfl) (by unfold maxLen; omega) (by omega) (Nat.le_trans hB hb.size) ?_
  · match j with
    | 0 =>
      have hc : (w.alloc (.cells #[.int .i64 (y : Int)] 3)).cell? ⟨w.heap.size, 0, none⟩ = some (.int .i64 (y : Int)) := by rw [World.cell?_alloc_at _ _ _ _ rfl]; rfl
      simpa [Addr.add, hc] using hj
    | j + 1 => simp at hj
  · intro v' w' hown hgrow _
    refine hK v' w' ?_ (gb_trans (gb_of_below hb _) hgrow (.inl rfl))
    have e : cellsI xs ++ [.int .i64 (y : Int)] = cellsI (xs ++ [y]) := by simp [cellsI]
    rw [e] at hown
    show w'.ownsRow B 3 1 v' (xs ++ [y]).length (cellsI (xs ++ [y]))
    rw [List.length_append]
    exact hown
theorem OwnI.grown {w w' : World} {B : Nat} {v : Value} {xs : List Nat} (h : OwnI w B v xs) (hg : w.grownBy w' v.ownBlock) (hB : B ≤ w.heap.size) : Below B w w' := gb_below hg hB fun k hk => (World.ownsRow.lt h k hk).1
theorem OwnV.grown {w w' : World} {B : Nat} {v : Value} {vs : List Value} {rs : List (List Nat)} (h : OwnV w B v vs rs) (hg : w.grownBy w' v.ownBlock) (hB : B ≤ w.heap.size) : Below B w w' := gb_below hg hB fun k hk => (h.top.lt k hk).1
/-- What one round of sift adds. -/
theorem sift_step (rs : List (List Nat)) (k : Nat) (hk : k < rs.length) : (firstI (reduceL (broughtL (rs.take k)) (rs.getD k [])) < 0 → keepL rs (k + 1) = keepL rs k ∧ broughtL (rs.take (k + 1)) = broughtL (rs.take k)) ∧
    (0 ≤ firstI (reduceL (broughtL (rs.take k)) (rs.getD k [])) → keepL rs (k + 1) = keepL rs k ++ [k] ∧ broughtL (rs.take (k + 1)) = broughtL (rs.take k) ++ [reduceL (broughtL (rs.take k)) (rs.getD k [])]) := by
  rw [brought_take hk]
  unfold addTL
  simp only [keepL]
  constructor
  · intro h
    rw [if_pos h, if_pos h]
    exact ⟨rfl, rfl⟩
  · intro h
    rw [if_neg (by omega), if_neg (by omega)]
    exact ⟨rfl, rfl⟩

set_option maxHeartbeats 2000000 in
theorem sift_any (a : Option Addr) (n c : Nat) (rs : List (List Nat)) (w : World) (ht : Tab w) (h : VecsAt w a n rs) (hf : Fit 1048576 rs) (hn : n ≤ 100000) :
    Calls Tryz.prog 145 #[.slice a n c] w fun e w' => ∃ vk vb vs, e = .returned (.tuple #[vk, vb]) ∧ OwnI w' w.heap.size vk (keepL rs rs.length) ∧ OwnV w' w.heap.size vb vs (broughtL rs) ∧ Below w.heap.size w w' := by
  obtain rfl : n = rs.length := h.1.symm
  go_enter Tryz.func145, Tryz.ntmps145
  go_wp2
  go_loopw [2, 3, 9] (fun kv bv i wr => ∃ k : Nat, k ≤ rs.length ∧ i = .int .i64 k ∧ ∃ ak ck ab cb vs, kv = .slice ak (keepL rs k).length ck ∧ bv = .slice ab (broughtL (rs.take k)).length cb ∧
    Hid (OwnI wr w.heap.size (.slice ak (keepL rs k).length ck) (keepL rs k)) ∧ Hid (OwnV wr w.heap.size (.slice ab (broughtL (rs.take k)).length cb) vs (broughtL (rs.take k))) ∧ Hid (Below w.heap.size w wr)) (fun _ _ i _ => rs.length - (intOf i).toNat)
  case atStart => exact ⟨0, Nat.zero_le _, rfl, none, 0, none, 0, [], rfl, rfl, hide (OwnI.nil _ _), hide (OwnV.nil _ _), hide (Below.refl _ _)⟩
  case round =>
    obtain ⟨k, hk, rfl, ak, ck, ab, cb, vs, rfl, rfl, HI, HV, HB⟩ := hrel
    by_cases hlt : k < rs.length
    · have hB := unhide HB
      obtain ⟨b, off, rfl, hc⟩ := (h.below hB).at hlt
      obtain ⟨ai, ci, hcell, hrow⟩ := hc k hlt
      obtain ⟨_, _, e1, hvec⟩ := (unhide HV).vecs
      simp only [Value.slice.injEq, true_and] at e1
      obtain ⟨rfl, rfl⟩ := e1
      have hfk := brought_fit (hf.take k)
      have hbl := brought_len (hf.take k)
      have htk : (rs.take k).length ≤ k := List.length_take_le _ _
      have hkl := keep_len rs k
      have HR := hide (reduce_any ab _ cb (broughtL (rs.take k)) ai _ ci (rs.getD k []) wr (ht.below hB) hvec hfk hrow (by omega) (hf.getD k).2)
      have hrl := (reduce_small hfk (hf.getD k).1 (hf.getD k).2).2
      have HF := hide (fun (w1 : World) (ar : Option Addr) (cr : Nat) (hb : Below wr.heap.size wr w1) (hr : RowAt w1 ar (reduceL (broughtL (rs.take k)) (rs.getD k [])).length (reduceL (broughtL (rs.take k)) (rs.getD k []))) => first_any ar _ cr (reduceL (broughtL (rs.take k)) (rs.getD k [])) w1 (ht.below (below0 hB hb)) hr hrl)
      obtain ⟨hs1, hs2⟩ := sift_step rs k hlt
      have HS1 := hide hs1
      have HS2 := hide hs2
      clear hc hrow h hfk hvec hs1 hs2
      generalize rs.getD k [] = y at *
      generalize broughtL (rs.take k) = bk at *
      generalize keepL rs k = kk at *
      generalize reduceL bk y = r at *
      have hbk : bk.length ≤ 1048576 := by omega
      have hkk : kk.length ≤ 1048576 := by omega
      by_cases hneg : firstI r < 0
      · obtain ⟨hk1, hk2⟩ := unhide HS1 hneg
        have hdn : decide (0 ≤ firstI r) = false := by rw [decide_eq_false_iff_not]; omega
        have HK1 := hide hk1
        have HK2 := hide hk2
        clear hneg hk1 hk2 HS1 HS2
        generalize firstI r = f at *
        go_wp2_with fail
        refine (unhide HR).mono ?_
        rintro e w1 ⟨v, rfl, ho, hb1⟩
        obtain ⟨ar, cr, rfl, hr⟩ := ho.row
        have HF1 := hide (unhide HF w1 ar cr hb1 hr)
        have hI1 := (unhide HI).below hb1
        have hV1 := (unhide HV).below hb1
        have HB1 := hide (below0 hB hb1)
        clear hb1 ho hr HF HR HB HI HV hB hcell
        go_wp2_with fail
        refine (unhide HF1).mono ?_
        rintro e w2 ⟨rfl, hw⟩
        obtain rfl := hw.symm
        rw [← unhide HK1]
        rw [← unhide HK2]
        rw [← unhide HK1] at hI1
        rw [← unhide HK2] at hV1
        have HI1 := hide hI1
        have HV1 := hide hV1
        clear hI1 hV1 HK1 HK2 HF1
        go_wp2
        go_roundw
        case rel => exact ⟨k + 1, by omega, by go_num, ak, ck, ab, cb, vs, rfl, rfl, HI1, HV1, HB1⟩
        case measure => simp [intOf]; omega
      · obtain ⟨hk1, hk2⟩ := unhide HS2 (by omega)
        have hdn : decide (0 ≤ firstI r) = true := by rw [decide_eq_true_iff]; omega
        have HK1 := hide hk1
        have HK2 := hide hk2
        clear hneg hk1 hk2 HS1 HS2
        generalize firstI r = f at *
        go_wp2_with fail
        refine (unhide HR).mono ?_
        rintro e w1 ⟨v, rfl, ho, hb1⟩
        obtain ⟨ar, cr, rfl, hr⟩ := ho.row
        have HF1 := hide (unhide HF w1 ar cr hb1 hr)
        have HD1 := hide ((unhide HV).dis_new ho)
        have HI1 := hide ((unhide HI).below hb1)
        have HV1 := hide ((unhide HV).below hb1)
        have HB1 := hide (below0 hB hb1)
        have HO1 := hide (ho.mono hB.size)
        clear hb1 ho hr HF HR HB HI HV hB hcell
        go_wp2_with fail
        refine (unhide HF1).mono ?_
        rintro e w2 ⟨rfl, hw⟩
        obtain rfl := hw.symm
        clear HF1
        go_wp2_with (first
          | (at_builtin; refine wpList_pushI rfl _ _ rfl w.heap.size (.slice ak kk.length ck) kk k rfl rfl (unhide HI1) (unhide HB1).size hkk ?_; intro s4 w4 hI4 hg4; have hV4 := (unhide HV1).keptI (unhide HI1) hg4; have hO4 := (unhide HO1).keptI (unhide HI1) hg4; have hB4 := (unhide HB1).trans ((unhide HI1).grown hg4 (unhide HB1).size); rw [← unhide HK1] at hI4; obtain ⟨a4, c4, rfl, _⟩ := hI4.ints; clear hg4)
          | (at_builtin; refine wpList_push rfl _ _ rfl w.heap.size (.slice ab bk.length cb) vs bk (.slice ar r.length cr) r rfl rfl hV4 hB4.size hO4 (unhide HD1) hbk ?_; intro s5 w5 hV5 hg5; have hI5 := hI4.keptV hV4 hg5; have hB5 := hB4.trans (hV4.grown hg5 hB4.size); rw [← unhide HK2] at hV5; obtain ⟨a5, c5, rfl⟩ := hV5.shape; have HV5 := hide hV5; have HI5 := hide hI5; have HB5 := hide hB5; clear hV5 hI5 hB5 hg5 hI4 hV4 hO4 hB4 HI1 HV1 HO1 HD1 HB1 HK1 HK2))
        go_roundw
        case rel => exact ⟨k + 1, by omega, by go_num, a4, c4, a5, c5, _, rfl, rfl, HI5, HV5, HB5⟩
        case measure => simp [intOf]; omega
    · obtain rfl : k = rs.length := by omega
      rw [List.take_length] at HV
      rw [List.take_length]
      clear h
      go_wp2
      go_ret2
      exact ⟨_, _, _, rfl, unhide HI, unhide HV, unhide HB⟩


/-- Whether a row is in no span. -/
def freshB (rs : List (List Nat)) (xs : List Nat) : Bool := !decide (firstI (reduceL (broughtL rs) xs) < 0)
set_option maxHeartbeats 400000 in
theorem fresh_any (a : Option Addr) (n c : Nat) (rs : List (List Nat)) (a' : Option Addr) (m c' : Nat) (xs : List Nat) (w : World) (ht : Tab w) (h : VecsAt w a n rs) (hf : Fit 1048576 rs) (h' : RowAt w a' m xs) (hn : n ≤ 100000) (hm : m ≤ 1048576) :
    Calls Tryz.prog 138 #[.slice a n c, .slice a' m c'] w fun e w' => e = .returned (.bool (freshB rs xs)) ∧ Below w.heap.size w w' := by
  have HX := hide (sift_any a n c rs w ht h hf hn)
  have hbf := brought_fit hf
  have hbl := brought_len hf
  have hrl := h.1
  have hE : freshB rs xs = !decide (firstI (reduceL (broughtL rs) xs) < 0) := rfl
  rw [hE]
  clear h hf hE
  have HY := hide (fun (w1 : World) (a1 : Option Addr) (c1 : Nat) (hb : Below w.heap.size w w1) (hv : VecsAt w1 a1 (broughtL rs).length (broughtL rs)) => in_any a1 _ c1 (broughtL rs) a' m c' xs w1 (ht.below hb) hv hbf (h'.below hb) (by omega) hm)
  generalize keepL rs rs.length = kk at *
  generalize broughtL rs = bb at *
  generalize decide (firstI (reduceL bb xs) < 0) = bo at *
  clear h'
  go_enter Tryz.func138, Tryz.ntmps138
  go_wp2_with fail
  refine (unhide HX).mono ?_
  rintro e w1 ⟨vk, vb, vs, rfl, hI, hV, hb⟩
  obtain ⟨a1, c1, rfl, _⟩ := hI.ints
  obtain ⟨a2, c2, rfl, hvec⟩ := hV.vecs
  have HY1 := hide (unhide HY w1 a2 c2 hb hvec)
  have HB := hide hb
  clear hI hV hb HX HY hvec
  go_wp2_with fail
  refine (unhide HY1).mono ?_
  rintro e w2 ⟨rfl, hb2⟩
  go_wp2
  go_ret
  exact ⟨rfl, below0 (unhide HB) hb2⟩
end Go.Proofs.YtmdmipojbeppiaaGreatDoor
namespace Go.Proofs.YtmdmipojbeppiaaGreatDoor
open Go.RowKit Go.Sort
set_option linter.unusedVariables false
set_option maxRecDepth 4000

def alkH : List PD → PD → Bool
  | [], _ => true
  | q :: _, p => alkD q p
/-- Is it taken? -/
def takeD (m : Nat) (L : List PD) (p : PD) : Bool := decide (0 < m) && okD p && alkH L p && freshB (vecsD L) p.xs
/-- How many blocks it is made of. -/
def degD (L : List PD) (i : Nat) : Nat := cnt (L.getD i .dflt).xs
/-- The one to go, of the first i. -/
def goesTo (L : List PD) : Nat → Nat
  | 0 => 0
  | i + 1 => if degD L (goesTo L i) < degD L i then i else goesTo L i
theorem goesTo_succ (L : List PD) (i : Nat) : goesTo L (i + 1) = if degD L (goesTo L i) < degD L i then i else goesTo L i := rfl
theorem goesTo_spec (L : List PD) : ∀ n, 0 < n → goesTo L n < n ∧ (∀ j, j < n → degD L j ≤ degD L (goesTo L n)) ∧ ∀ j, j < goesTo L n → degD L j < degD L (goesTo L n)
  | 0, h => by omega
  | 1, _ => by
    have h : goesTo L 1 = 0 := by rw [goesTo_succ]; exact if_neg (Nat.lt_irrefl _)
    rw [h]
    exact ⟨by omega, fun j hj => by rw [show j = 0 by omega]; exact Nat.le_refl _, fun j hj => by omega⟩
  | n + 2, _ => by
    obtain ⟨h1, h2, h3⟩ := goesTo_spec L (n + 1) (by omega)
    rw [goesTo_succ L (n + 1)]
    by_cases h : degD L (goesTo L (n + 1)) < degD L (n + 1)
    · rw [if_pos h]
      refine ⟨by omega, fun j hj => ?_, fun j hj => Nat.lt_of_le_of_lt (h2 j hj) h⟩
      rcases Nat.lt_or_ge j (n + 1) with e | e
      · exact Nat.le_of_lt (Nat.lt_of_le_of_lt (h2 j e) h)
      · rw [show j = n + 1 by omega]; exact Nat.le_refl _
    · rw [if_neg h]
      refine ⟨by omega, fun j hj => ?_, h3⟩
      rcases Nat.lt_or_ge j (n + 1) with e | e
      · exact h2 j e
      · rw [show j = n + 1 by omega]; omega
theorem goesTo_uniq {L : List PD} {n g : Nat} (hg : g < n) (h1 : ∀ j, j < n → degD L j ≤ degD L g) (h2 : ∀ j, j < g → degD L j < degD L g) : goesTo L n = g := by
  obtain ⟨k1, k2, k3⟩ := goesTo_spec L n (by omega)
  have a1 := h1 _ k1
  have a2 := k2 g hg
  rcases Nat.lt_trichotomy (goesTo L n) g with e | e | e
  · have := h2 _ e; omega
  · exact e
  · have := k3 _ e; omega
/-- What is kept behind a put. -/
def leftD (m : Nat) (L : List PD) : List PD := if m ≤ L.length then L.eraseIdx (goesTo L L.length) else L
def bput (m : Nat) (L : List PD) (p : PD) : List PD := if takeD m L p = true then leftD m L ++ [p] else L
/-- What always holds of what is kept. -/
structure BInv (m : Nat) (L : List PD) : Prop where
  le : L.length ≤ m
  ok : ∀ p ∈ L, okD p = true
  alk : ∀ p ∈ L, ∀ q ∈ L, alkD p q = true
  sm : ∀ p ∈ L, smalls p.xs
theorem BInv.nil (m : Nat) : BInv m [] := ⟨Nat.zero_le _, (fun _ h => by cases h), (fun _ h => by cases h), (fun _ h => by cases h)⟩
theorem BInv.fit {m : Nat} {L : List PD} (h : BInv m L) : Fit 1048576 (vecsD L) := fun v hv => by
  obtain ⟨p, hp, rfl⟩ := List.mem_map.1 hv
  exact ⟨h.sm p hp, by have := okD_len (h.ok p hp); omega⟩
theorem left_sub {m : Nat} {L : List PD} : ∀ p ∈ leftD m L, p ∈ L := fun p hp => by
  unfold leftD at hp
  split at hp
  · exact List.mem_of_mem_eraseIdx hp
  · exact hp
theorem left_len {m : Nat} {L : List PD} (h : L.length ≤ m) (hm : 0 < m) : (leftD m L).length + 1 ≤ m ∧ (leftD m L).length ≤ L.length ∧ L.length ≤ (leftD m L).length + 1 := by
  unfold leftD
  by_cases e : m ≤ L.length
  · rw [if_pos e, List.length_eraseIdx_of_lt (goesTo_spec L L.length (by omega)).1]
    omega
  · rw [if_neg e]; omega
theorem take_parts {m : Nat} {L : List PD} {p : PD} (h : takeD m L p = true) : 0 < m ∧ okD p = true ∧ alkH L p = true ∧ freshB (vecsD L) p.xs = true := by
  unfold takeD at h
  rw [Bool.and_eq_true, Bool.and_eq_true, Bool.and_eq_true, decide_eq_true_eq] at h
  exact ⟨h.1.1.1, h.1.1.2, h.1.2, h.2⟩
theorem BInv.alkH {m : Nat} {L : List PD} (h : BInv m L) {p : PD} (hp : alkH L p = true) : ∀ q ∈ L, alkD q p = true := fun q hq => by
  cases L with
  | nil => cases hq
  | cons a L => exact alk_trans (h.alk q hq a List.mem_cons_self) hp
theorem BInv.put {m : Nat} {L : List PD} (h : BInv m L) {p : PD} (hs : smalls p.xs) : BInv m (bput m L p) := by
  unfold bput
  by_cases ht : takeD m L p = true
  · rw [if_pos ht]
    obtain ⟨hm, ho, ha, _⟩ := take_parts ht
    have hal := h.alkH ha
    refine ⟨by rw [List.length_append, List.length_singleton]; exact (left_len h.le hm).1, fun q hq => ?_, fun q hq r hr => ?_, fun q hq => ?_⟩
    · rcases List.mem_append.1 hq with hq | hq
      · exact h.ok q (left_sub q hq)
      · rw [List.mem_singleton.1 hq]; exact ho
    · rcases List.mem_append.1 hq with hq | hq <;> rcases List.mem_append.1 hr with hr | hr
      · exact h.alk q (left_sub q hq) r (left_sub r hr)
      · rw [List.mem_singleton.1 hr]; exact hal q (left_sub q hq)
      · rw [List.mem_singleton.1 hq]; exact alk_symm (hal r (left_sub r hr))
      · rw [List.mem_singleton.1 hq, List.mem_singleton.1 hr]; exact alk_refl p
    · rcases List.mem_append.1 hq with hq | hq
      · exact h.sm q (left_sub q hq)
      · rw [List.mem_singleton.1 hq]; exact hs
  · rw [if_neg ht]; exact h
theorem BInv.get {m : Nat} {L : List PD} (h : BInv m L) {i : Nat} (hi : i < L.length) : okD (L.getD i .dflt) = true ∧ alkD (L.getD 0 .dflt) (L.getD i .dflt) = true := by
  have hm : L.getD i .dflt ∈ L := by rw [List.getD_eq_getElem?_getD, List.getElem?_eq_getElem hi]; exact List.getElem_mem hi
  have h0 : L.getD 0 .dflt ∈ L := by rw [List.getD_eq_getElem?_getD, List.getElem?_eq_getElem (show 0 < L.length by omega)]; exact List.getElem_mem _
  exact ⟨h.ok _ hm, h.alk _ h0 _ hm⟩
/-- No degree is greater than the number of blocks. -/
theorem BInv.deg {m : Nat} {L : List PD} (h : BInv m L) {i : Nat} (hi : i < L.length) : (degD L i : Int) ≤ (L.getD 0 .dflt).k ∧ (L.getD 0 .dflt).k ≤ 128 := by
  obtain ⟨h1, h2⟩ := h.get hi
  unfold alkD at h2
  rw [decide_eq_true_eq] at h2
  have h3 := okD_cnt h1
  have h4 := (okD_valid h1).2.2.2.2.1
  unfold degD
  rw [h2.2.2.1]
  exact ⟨h3, h4⟩

/-- None is made by the others. -/
def FreeD (L : List PD) : Prop := (basisL (vecsD L)).length = L.length
theorem FreeD.nil : FreeD [] := rfl
theorem len_basis {V : List (List Nat)} (h : Fit 1048576 V) : (basisL V).length = (Ech.basis (V.map val)).length := by rw [← basis_val h, List.length_map]
theorem basis_snoc (l : List Nat) (v : Nat) : Ech.basis (l ++ [v]) = Ech.ins (Ech.basis l) v := by unfold Ech.basis; rw [List.foldl_append]; rfl
theorem erase_map {α β : Type} (f : α → β) : ∀ (l : List α) (i : Nat), (l.eraseIdx i).map f = (l.map f).eraseIdx i
  | [], _ => rfl
  | a :: l, 0 => rfl
  | a :: l, i + 1 => by simp only [List.eraseIdx_cons_succ, List.map_cons]; rw [erase_map f l i]
theorem mem_erase {l : List Nat} {i : Nat} (hi : i < l.length) (x : Nat) : x ∈ l ↔ x ∈ l.eraseIdx i ++ [l[i]] := by
  constructor
  · intro h
    rw [List.mem_append, List.mem_singleton]
    obtain ⟨j, hj, rfl⟩ := List.getElem_of_mem h
    by_cases e : j = i
    · subst e; exact .inr rfl
    · refine .inl (List.mem_eraseIdx_iff_getElem.2 ⟨j, hj, e, rfl⟩)
  · intro h
    rcases List.mem_append.1 h with h | h
    · exact List.mem_of_mem_eraseIdx h
    · rw [List.mem_singleton.1 h]; exact List.getElem_mem hi
theorem free_erase {l : List Nat} (h : (Ech.basis l).length = l.length) {i : Nat} (hi : i < l.length) : (Ech.basis (l.eraseIdx i)).length = (l.eraseIdx i).length := by
  have h1 := Ech.basis_same (mem_erase hi)
  rw [basis_snoc] at h1
  have h2 := Ech.ins_length (Ech.basis (l.eraseIdx i)) l[i]
  have h3 := Ech.basis_length (l.eraseIdx i)
  have h4 := List.length_eraseIdx_of_lt hi
  rw [← h1] at h2
  omega
theorem free_snoc {l : List Nat} (h : (Ech.basis l).length = l.length) {v : Nat} (hv : ¬ Ech.Sp l v) : (Ech.basis (l ++ [v])).length = (l ++ [v]).length := by
  rw [basis_snoc]
  unfold Ech.ins
  rw [if_neg (fun e => hv ((Ech.sp_basis l v).1 ((Ech.red_zero (Ech.red_basis l) v).1 e))), Ech.put_length, List.length_map, h, List.length_append]
  rfl
theorem FreeD.put {m : Nat} {L : List PD} (hi : BInv m L) (h : FreeD L) {p : PD} (hs : smalls p.xs) : FreeD (bput m L p) := by
  have hI := hi.put hs
  unfold FreeD at *
  rw [len_basis hI.fit]
  rw [len_basis hi.fit] at h
  unfold bput
  by_cases ht : takeD m L p = true
  · rw [if_pos ht]
    obtain ⟨hm, ho, ha, hf⟩ := take_parts ht
    have hn : ¬ Ech.Sp ((vecsD L).map val) (val p.xs) := fun hsp => by
      have := (brought_in hi.fit hs (by have := okD_len ho; omega)).2 hsp
      unfold freshB at hf
      rw [decide_eq_true this] at hf
      cases hf
    have e : (vecsD (leftD m L ++ [p])).map val = (vecsD (leftD m L)).map val ++ [val p.xs] := by simp [vecsD]
    have hl : ∀ M : List PD, ((vecsD M).map val).length = M.length := fun M => by simp [vecsD]
    have hk : (Ech.basis ((vecsD (leftD m L)).map val)).length = ((vecsD (leftD m L)).map val).length := by
      unfold leftD
      by_cases hc : m ≤ L.length
      · rw [if_pos hc]
        have hg := (goesTo_spec L L.length (by omega)).1
        have e2 : (vecsD (L.eraseIdx (goesTo L L.length))).map val = ((vecsD L).map val).eraseIdx (goesTo L L.length) := by
          unfold vecsD
          rw [erase_map, erase_map]
        rw [e2]
        exact free_erase (h.trans (hl L).symm) (by rw [hl]; exact hg)
      · rw [if_neg hc]; exact h.trans (hl L).symm
    rw [e, free_snoc hk (fun hsp => hn (hsp.mono fun a ha => ?_)), ← e, hl]
    obtain ⟨v, hv, rfl⟩ := List.mem_map.1 ha
    obtain ⟨q, hq, rfl⟩ := List.mem_map.1 hv
    exact List.mem_map.2 ⟨q.xs, List.mem_map.2 ⟨q, left_sub q hq, rfl⟩, rfl⟩
  · rw [if_neg ht]; exact h
end Go.Proofs.YtmdmipojbeppiaaGreatDoor
namespace Go.Proofs.YtmdmipojbeppiaaGreatDoor
open Go.RowKit
set_option linter.unusedVariables false
set_option maxRecDepth 4000

/-- From 0 to 256. -/
def capN (n : Int) : Nat := min (max n 0).toNat 256
theorem capN_le (n : Int) : capN n ≤ 256 := Nat.min_le_right _ _
theorem cap_min (n : Int) : min (max n 0) 256 = (capN n : Int) := by unfold capN; omega
theorem max_run (n : Int) (ts : Array TypeId) (t : TypeId) (w : World) : (Builtin.max_ ts t #[.int .i64 n, .int .i64 0]).run Tryz.prog w = .ok (.int .i64 (max n 0)) w := by
  rw [run_max_int2]
  congr 2
  split <;> omega
theorem cap_run (n : Int) (ts : Array TypeId) (t : TypeId) (w : World) : (Builtin.min_ ts t #[.int .i64 (max n 0), .int .i64 256]).run Tryz.prog w = .ok (.int .i64 (capN n : Int)) w := by
  rw [run_min_int2, ← cap_min]
  congr 2
  split <;> omega
theorem rcap_any (n : Int) (w : World) : Calls Tryz.prog 30 #[.int .i64 n] w fun e w' => e = .returned (.int .i64 (capN n : Int)) ∧ w' = w := by
  have h1 := max_run n
  have h2 := cap_run n
  go_enter Tryz.func30, Tryz.ntmps30
  go_wp2
  go_ret
  exact ⟨rfl, rfl⟩
end Go.Proofs.YtmdmipojbeppiaaGreatDoor
namespace Go.Proofs.YtmdmipojbeppiaaGreatDoor
open Go.RowKit Go.Sort
set_option linter.unusedVariables false
set_option maxRecDepth 4000

/-- The rows' vectors. -/
def vecsL (rs : List RV) : List (List Nat) := rs.map fun r => r.xs
/-- A slice of the rows' vectors, of one's own. -/
def OwnW (w : World) (B : Nat) (v : Value) (ts : List RV) : Prop := w.ownsRow B 25 1 v ts.length (ts.map fun r => .slice r.a r.n r.c)
theorem OwnW.nil (w : World) (B : Nat) : OwnW w B (.slice none 0 0) [] := World.ownsRow_nil _ _ _ _
theorem OwnW.vecs {w : World} {B : Nat} {v : Value} {ts : List RV} (h : OwnW w B v ts) (hr : RowsIn w ts) : ∃ a c, v = .slice a ts.length c ∧ VecsAt w a ts.length (vecsL ts) := by
  have h' : w.ownsRow B 25 1 v ts.length (ts.map fun r => .slice r.a r.n r.c) := h
  rcases h.2 with ⟨rfl, h0⟩ | ⟨g, cap, cur, rfl, hb, hg, hn, hm, hsz, ht⟩
  · exact ⟨none, 0, by rw [h0], by simp [vecsL], .inl h0, fun b off i ai k ci e => by cases e⟩
  · have hcell : ∀ i, i < ts.length → w.cell? ⟨g, 0 + i, none⟩ = some (.slice (ts.getD i .dflt).a (ts.getD i .dflt).n (ts.getD i .dflt).c) := fun i hi => by
      rw [Nat.zero_add, h'.cellAt i (by omega), List.getElem?_map, List.getElem?_eq_getElem hi, List.getD_eq_getElem?_getD, List.getElem?_eq_getElem hi]
      rfl
    have hxs : ∀ i, i < ts.length → (vecsL ts).getD i [] = (ts.getD i .dflt).xs := fun i hi => by
      unfold vecsL
      rw [List.getD_eq_getElem?_getD, List.getElem?_map, List.getElem?_eq_getElem hi, List.getD_eq_getElem?_getD, List.getElem?_eq_getElem hi]
      rfl
    refine ⟨_, cap, rfl, by simp [vecsL], .inr ⟨g, 0, rfl, fun i hi => ?_⟩, fun b off i ai k ci e hi hc => ?_⟩
    · have hri := hr.get hi
      rw [hxs i hi]
      refine ⟨(ts.getD i .dflt).a, (ts.getD i .dflt).c, ?_, ?_⟩
      · rw [hri.1.1]; exact hcell i hi
      · rw [hri.1.1]; exact hri.1
    · simp only [Option.some.injEq, Addr.mk.injEq, and_true] at e
      obtain ⟨rfl, rfl⟩ := e
      rw [hcell i hi] at hc
      simp only [Option.some.injEq, Value.slice.injEq] at hc
      have := (hr.get hi).2
      omega
theorem wpList_pushW {w : World} {ops : Array Oper} {rest : List Oper} {o : Oper} {act : Act} {Q : Exit → Act → World → Prop} (hgd : o.guard = none) (s x : Operand)
    (ho : o.op = .call { callee := .builtin .append, args := #[s, x], argTypes := #[56, 56] }) (B : Nat) (v : Value) (ts : List RV) (r : RV)
    (hs : act.eval s = v) (hx : act.eval x = .slice (some ⟨w.heap.size, 0, none⟩) 1 1) (h : OwnW w B v ts) (hB : B ≤ w.heap.size) (hn : ts.length ≤ 1048576)
    (hK : ∀ s' w', OwnW w' B s' (ts ++ [r]) → Below B w w' → wpList Tryz.prog ops Q rest (act.put o.dst s') w') : wpList Tryz.prog ops Q (o :: rest) act (w.alloc (.cells #[.slice r.a r.n r.c] 25)) := by
  obtain ⟨i0, hi, hz0, hz1, hz2⟩ := info_parts info_u64s
  have hb : Below w.heap.size w (w.alloc (.cells #[.slice r.a r.n r.c] 25)) := (Below.refl _ _).alloc (Nat.le_refl _) _
  have h1 := ownsRow_below h hb
  refine wpList_append_own _ hgd s x 56 ho B 25 i0 (.slice none 0 0) 1 24 Tryz.underlying56 hi hz0 hz1 hz2 rfl (by decide) v ts.length _ hs h1 ⟨w.heap.size, 0, none⟩ 1 1 [.slice r.a r.n r.c] hx rfl (fun j u hj => ?_)
    (fun u hu => by rw [List.mem_singleton.1 hu]; rfl) (by unfold maxLen; omega) (by omega) (Nat.le_trans hB hb.size) ?_
  · match j with
    | 0 =>
      have hc : (w.alloc (.cells #[.slice r.a r.n r.c] 25)).cell? ⟨w.heap.size, 0, none⟩ = some (.slice r.a r.n r.c) := by rw [World.cell?_alloc_at _ _ _ _ rfl]; rfl
      simpa [Addr.add, hc] using hj
    | j + 1 => simp at hj
  · intro v' w' hown hgrow _
    refine hK v' w' ?_ ((hb.mono hB).grown hgrow (Nat.le_trans hB hb.size) fun k hk => (h1.lt k hk).1)
    show w'.ownsRow B 25 1 v' (ts ++ [r]).length ((ts ++ [r]).map fun r => .slice r.a r.n r.c)
    rw [List.length_append, List.map_append]
    exact hown
theorem fit_of {w : World} {ts : List RV} (hr : RowsIn w ts) (hs : shortR ts) : Fit 1048576 (vecsL ts) := fun b hb => by
  obtain ⟨r, hm, rfl⟩ := List.mem_map.1 hb
  obtain ⟨i, hi, rfl⟩ := List.mem_iff_getElem.1 hm
  have h1 := hr _ (List.getElem_mem hi)
  have h2 := hs i
  rw [List.getD_eq_getElem?_getD, List.getElem?_eq_getElem hi] at h2
  simp only [Option.getD_some] at h2
  exact ⟨h1.1.2.1, by rw [h1.1.1]; omega⟩
theorem OwnW.below {w w' : World} {B : Nat} {v : Value} {ts : List RV} (h : OwnW w B v ts) (hb : Below w.heap.size w w') : OwnW w' B v ts := ownsRow_below h hb
/-- The rows' vectors, of the first k; the others none yet. -/
def fillW (ts : List RV) (k : Nat) : List Value := (ts.take k).map (fun r => Value.slice r.a r.n r.c) ++ List.replicate (ts.length - k) (.slice none 0 0)
theorem fillW_zero (ts : List RV) : fillW ts 0 = List.replicate ts.length (.slice none 0 0) := by simp [fillW]
theorem fillW_all (ts : List RV) : fillW ts ts.length = ts.map fun r => Value.slice r.a r.n r.c := by simp [fillW]
theorem fillW_length (ts : List RV) (k : Nat) (hk : k ≤ ts.length) : (fillW ts k).length = ts.length := by simp [fillW]; omega
theorem fillW_succ (ts : List RV) (k : Nat) (hk : k < ts.length) : (fillW ts k).set k (.slice (ts.getD k .dflt).a (ts.getD k .dflt).n (ts.getD k .dflt).c) = fillW ts (k + 1) := by
  unfold fillW
  have hl : ((ts.take k).map fun r => Value.slice r.a r.n r.c).length = k := by simp; omega
  rw [List.set_append_right _ _ (by omega), hl, Nat.sub_self, List.take_succ_eq_append_getElem hk, List.map_append, List.append_assoc, show ts.length - k = (ts.length - (k + 1)) + 1 by omega, List.replicate_succ, List.set_cons_zero]
  simp [List.getD_eq_getElem?_getD, List.getElem?_eq_getElem hk]
theorem make_v (n : Nat) (hn : n ≤ 1048576) (wx : World) : (Instr.makeSlice 56 (.int .i64 (n : Int)) (.int .i64 (n : Int))).run Tryz.prog wx = .ok (.slice (some ⟨wx.heap.size, 0, none⟩) n n) (wx.alloc (.cells (madeCells #[.slice none 0 0] n) 25)) := by
  obtain ⟨i0, hi0, hz0, hzs, hzb⟩ := info_parts info_u64s
  have := run_make (P := Tryz.prog) wx 56 25 i0 (.slice none 0 0) Tryz.underlying56 hi0 hz0 .i64 .i64 (n : Int) (n : Int) (by omega) (Int.le_refl _) (by rw [hzb]; omega) (by omega)
  rw [hzs] at this
  simpa [Value.cells] using this
theorem made_v (w : World) (n : Nat) (hn : n ≤ 1048576) :
    (w.alloc (.cells (madeCells #[.slice none 0 0] n) 25)).ownsRow w.heap.size 25 1 (.slice (some ⟨w.heap.size, 0, none⟩) n n) n (List.replicate n (.slice none 0 0)) := by
  refine ⟨by simp, .inr ⟨w.heap.size, n, madeCells #[.slice none 0 0] n, by simp, Nat.le_refl _, heap_alloc_new w _, by simp, by unfold maxLen; omega, by simp [size_madeCells], ?_⟩⟩
  rw [toList_madeCells_one, List.take_of_length_le (by simp)]
end Go.Proofs.YtmdmipojbeppiaaGreatDoor
