/-
  Contracts of relay.rowsOf and Relay.Emit. Conditions: at most 2^40 draws used.
  Contracts of Relay.Emit. Conditions: at most 2^40 draws used.
  Contracts of bucketlineref01.Ints, bucketlineref03.In, bucketlineref04.Keep, Fresh: for rows of at most 2^20 words.
-/
import Derived.Test.YtbcgiodgobmkaaaGreatDoorU35
import Derived.Test.YtbcgiodgobmkaaaGreatDoorU37
import Derived.Test.YtbcgiodgobmkaaaGreatDoorVK
import Derived.Test.YtbcgiodgobmkaaaGreatDoorKA
namespace Go.Proofs.YtbcgiodgobmkaaaGreatDoor
open Go.RowKit Go.Sort
set_option linter.unusedVariables false
set_option linter.unusedSimpArgs false
set_option maxRecDepth 4000

/-- What a relay that keeps L emits, by draws D of which N were used; how many are used then. -/
def emitO (L : List PD) (D : List Nat) (N : Nat) (t : Int) : Option PD := if L.length = 0 then none else emitD L (drawN D (N + 1) % L.length) t
def usedO (L : List PD) (N : Nat) : Nat := if L.length = 0 then N else N + 1
set_option maxHeartbeats 2000000 in
theorem rlrows_any (a : Option Addr) (n c : Nat) (ps : List PKV) (w : World) (h : PksAt w a n ps) (hn : n ≤ 1048576) :
    Calls Tryz.prog 26 #[.slice a n c] w fun e w' => ∃ v, e = .returned v ∧ OwnS w' w.heap.size v (rowsK ps) ∧ Below w.heap.size w w' := by
  obtain rfl := h.1
  have Hh := hide h
  have hmk := make_r ps.length hn
  have HM := hide (made_r w ps.length hn (filR (rowsK ps) 0) (by rw [filR_zero, rowsK_len]))
  have HBM : Hid (Below w.heap.size w (w.alloc (.cells (madeCells #[.slice none 0 0, .string ⟨#[]⟩] (ps.length * 2)) 40))) := hide ((Below.refl _ _).alloc (Nat.le_refl _) _)
  clear h
  go_enter Tryz.func26, Tryz.ntmps26
  go_wp2
  go_loopw [11] (fun i wr => ∃ k : Nat, k ≤ ps.length ∧ i = .int .i64 k ∧ Hid (OwnS wr w.heap.size (.slice (some ⟨w.heap.size, 0, none⟩) ps.length ps.length) (filR (rowsK ps) k)) ∧ Hid (Below w.heap.size w wr)) (fun i _ => ps.length - (intOf i).toNat)
  case atStart => exact ⟨0, Nat.zero_le _, rfl, HM, HBM⟩
  case round =>
    obtain ⟨k, hk, rfl, HI, HB⟩ := hrel
    clear HM HBM
    by_cases hlt : k < ps.length
    · obtain ⟨b, off, rfl, hcl⟩ := ((unhide Hh).below (unhide HB)).at hlt
      obtain ⟨hc0, hc1, hc2, hc3, hc4, hc5, hc6⟩ := hcl k hlt
      have hlt' : (k : Int) < (ps.length : Int) := by omega
      have hS := filR_succ (rowsK ps) k (by rw [rowsK_len]; exact hlt)
      rw [rowsK_get hlt] at hS
      generalize ps.getD k .dflt = p at *
      have hb1 := pk_low wr p
      have hI := (unhide HI).below hb1
      obtain ⟨hx0, hx1, hx2, hx3, hx4, hx5, hx6⟩ := pk_new wr (.int .i64 p.o) (.int .i64 p.l) (.int .i64 p.k) (.int .i64 p.z) (.int .i64 p.h) (.slice p.r.a p.r.n p.r.c) (.string p.r.s)
      have hB1 := below0 (unhide HB) hb1
      generalize hW1 : wr.alloc (.cells #[.int .i64 p.o, .int .i64 p.l, .int .i64 p.k, .int .i64 p.z, .int .i64 p.h, .slice p.r.a p.r.n p.r.c, .string p.r.s] 42) = w1 at *
      have hfl : (filR (rowsK ps) k).length = ps.length := by rw [filR_length _ _ (by rw [rowsK_len]; exact hk), rowsK_len]
      have hcg := cellsR_get (filR (rowsK ps) k) k (by omega)
      have hcell0 := hI.cellAt hcg.1
      have hcell1 := hI.cellAt hcg.2
      have hI' : w1.ownsRow w.heap.size 40 2 (.slice (some ⟨w.heap.size, 0, none⟩) ps.length ps.length) ps.length (cellsR (filR (rowsK ps) k)) := by
        have : w1.ownsRow w.heap.size 40 2 (.slice (some ⟨w.heap.size, 0, none⟩) ps.length ps.length) (filR (rowsK ps) k).length (cellsR (filR (rowsK ps) k)) := hI
        rwa [hfl] at this
      have hfz0 := hI'.frozenAt (k * 2)
      have hfz1 := hI'.frozenAt (k * 2 + 1)
      have hs2 := hI.stored k p.r
      rw [hS] at hs2
      have HS := hide hs2
      have HB2 := hide ((hB1.setCell (p := ⟨w.heap.size, k * 2, none⟩) (Nat.le_refl _) (.slice p.r.a p.r.n p.r.c)).setCell (p := ⟨w.heap.size, k * 2 + 1, none⟩) (Nat.le_refl _) (.string p.r.s))
      clear hcl hI hI' hs2 hS hcg hfl HI HB hb1 hB1
      generalize (filR (rowsK ps) k).getD k .dflt = z at *
      go_wp2
      go_roundw
      case rel => exact ⟨k + 1, by omega, by go_num, HS, HB2⟩
      case measure => simp [intOf]; omega
    · obtain rfl : k = ps.length := by omega
      rw [show ps.length = (rowsK ps).length from (rowsK_len ps).symm, filR_all, rowsK_len] at HI
      go_wp2
      go_ret
      exact ⟨_, rfl, unhide HI, unhide HB⟩
/-- What both a Mix and an Emit give, in one form. -/
theorem MixR.own {w w' : World} {o : Option PD} {e : Ending} (h : MixR w w' o e) : Below w.heap.size w w' ∧ ∃ q : PKV, e = .returned (.tuple #[q.val, .bool o.isSome]) ∧ q.pd = o.getD zPK.pd ∧ Own w' w.heap.size (.slice q.r.a q.r.n q.r.c) q.r.xs := by
  cases o with
  | none => exact ⟨h.1, zPK, h.2, rfl, Own.nil _ _⟩
  | some d =>
    obtain ⟨hb, q, hq, he, ho⟩ := h
    exact ⟨hb, q, he, hq, ho⟩
theorem Bk2.not {T T' : TypeId} {w : World} {g j : Nat} {u0 u1 : Value} {cur : Array Value} {fz : Nat × Nat} (h : Bk2 T w g u0 u1) (hj : w.heap[j]? = some (.cells cur T' fz)) (hT : T ≠ T') : j ≠ g := fun e => by
  subst e
  unfold Bk2 at h
  rw [hj] at h
  simp only [Option.some.injEq, Obj.cells.injEq] at h
  exact hT h.2.1.symm
theorem DrAt.bk {w : World} {g B : Nat} {L : List Nat} {N : Nat} (h : DrAt w g B L N) : ∃ a n c, Bk2 70 w g (.slice a n c) (.int .i64 (N : Int)) := by
  obtain ⟨h1, h2, a, n, c, h3, h4⟩ := h
  exact ⟨a, n, c, h3⟩
theorem cell_same {w w' : World} {b : Nat} (h : w'.heap[b]? = w.heap[b]?) (i : Nat) : w'.cell? ⟨b, i, none⟩ = w.cell? ⟨b, i, none⟩ := by
  simp only [World.cell?, h]
theorem RowAt.same {w w' : World} {a : Option Addr} {n : Nat} {xs : List Nat} (h : RowAt w a n xs) (hb : n = 0 ∨ ∀ ad, a = some ad → w'.heap[ad.block]? = w.heap[ad.block]?) : RowAt w' a n xs := by
  refine ⟨h.1, h.2.1, ?_⟩
  rcases h.2.2 with h0 | ⟨b, off, rfl, hc⟩
  · exact .inl h0
  · rcases hb with h0 | hb
    · exact .inl h0
    · exact .inr ⟨b, off, rfl, fun i hi => (cell_same (hb _ rfl) _).trans (hc i hi)⟩
/-- Draws stand where blocks turn that are neither theirs nor of words. -/
theorem DrAt.tu {F : Nat → Prop} {w w' : World} {g B : Nat} {L : List Nat} {N : Nat} (h : DrAt w g B L N) (ht : Tu F w w') (hg : ¬ F g) (hw : ∀ j cur, w.heap[j]? = some (.cells cur 59 (0, 0)) → ¬ F j) : DrAt w' g B L N := by
  obtain ⟨h1, h2, a, n, c, h3, h4, h5, h6, h7⟩ := h
  have hs : n = 0 ∨ ∀ ad, a = some ad → w'.heap[ad.block]? = w.heap[ad.block]? := h7.imp id fun k ad e => by
    obtain ⟨cur, hc⟩ := (k ad e).2
    exact ht.block ad.block (Array.getElem?_eq_some_iff.1 hc).1 (hw _ cur hc)
  refine ⟨h1, h2, a, n, c, (ht.block g h3.lt hg).trans h3, h4, h5, h6.same hs, ?_⟩
  rcases h7 with h0 | h7
  · exact .inl h0
  · rcases hs with h0 | hs
    · exact .inl h0
    · exact .inr fun ad e => ⟨(h7 ad e).1, (h7 ad e).2.imp fun cur hc => (hs ad e).trans hc⟩
/-- Draws stand where a relay turns. -/
theorem RlAt.draws {w w' : World} {g gb B m : Nat} {t i : Int} {v : Value} {ps : List PKV} {gd Bd : Nat} {D : List Nat} {N : Nat} (h : RlAt w g gb B m t i v ps) (hd : DrAt w gd Bd D N) (ht : Tu (rlF g gb v) w w') : DrAt w' gd Bd D N := by
  obtain ⟨a, n, c, hk⟩ := hd.bk
  exact hd.tu ht (h.apart hk (by decide) (by decide) (by decide)) h.words
theorem Tab.drawn {w w' : World} {T : TypeId} {g : Nat} {a : Option Addr} {n c : Nat} {u : Value} (h : Tab w) (hd : Bk2 T w g (.slice a n c) u) (hg : w.grownBy w' (some g)) : Tab w' := fun i hi => by
  refine hg.cell (h i hi) fun e => ?_
  have h0 := h 0 (by decide)
  have h1 := hd.at0
  rw [← Option.some.inj e, h0] at h1
  cases h1
theorem gb_set7 (w : World) (g : Nat) (u0 u1 u2 u3 u4 u5 u6 : Value) : w.grownBy (set7 w g u0 u1 u2 u3 u4 u5 u6) (some g) :=
  gb_trans (gb_trans (gb_trans (gb_trans (gb_trans (gb_trans (gb_setCell _ _ _ _) (gb_setCell _ _ _ _) (.inl rfl)) (gb_setCell _ _ _ _) (.inl rfl)) (gb_setCell _ _ _ _) (.inl rfl)) (gb_setCell _ _ _ _) (.inl rfl)) (gb_setCell _ _ _ _) (.inl rfl)) (gb_setCell _ _ _ _) (.inl rfl)
/-- Within an Emit: the relay, the draws, what the buffer handed out, the packet to be returned. -/
structure EmQ (w wx : World) (g gb B m : Nat) (t i : Int) (v : Value) (ps : List PKV) (gd Bd : Nat) (D : List Nat) (N : Nat) (va : Value) (us : List PKV) : Prop where
  r : RlAt wx g gb B m t i v ps
  d : DrAt wx gd Bd D N
  bd : Bd ≤ wx.heap.size
  k : OwnP wx (w.heap.size + 1) va us
  u : OwnKs wx (w.heap.size + 1) us
  tab : Tab wx
  pz : PkB wx w.heap.size (.int .i64 0) (.int .i64 0) (.int .i64 0) (.int .i64 0) (.int .i64 0) (.slice none 0 0) (.string ⟨#[]⟩)
  gr : w.grownBy wx (some gd)
theorem EmQ.below {w wx wy : World} {g gb B m : Nat} {t i : Int} {v : Value} {ps : List PKV} {gd Bd : Nat} {D : List Nat} {N : Nat} {va : Value} {us : List PKV} (h : EmQ w wx g gb B m t i v ps gd Bd D N va us) (hb : Below wx.heap.size wx wy) : EmQ w wy g gb B m t i v ps gd Bd D N va us :=
  ⟨h.r.below hb, h.d.below (hb.mono h.bd), Nat.le_trans h.bd hb.size, h.k.below hb, h.u.below hb, h.tab.below hb, h.pz.below hb, gb_trans h.gr (gb_of_below hb (some gd)) (.inl rfl)⟩
theorem EmQ.drawn {w wx wy : World} {g gb B m : Nat} {t i : Int} {v : Value} {ps : List PKV} {gd Bd : Nat} {D : List Nat} {N N' : Nat} {va : Value} {us : List PKV} (h : EmQ w wx g gb B m t i v ps gd Bd D N va us) (hd : DrAt wy gd Bd D N') (hg : wx.grownBy wy (some gd)) : EmQ w wy g gb B m t i v ps gd Bd D N' va us := by
  obtain ⟨a, n, c, hk⟩ := h.d.bk
  have ht : Tu (fun j => j = gd) wx wy := Tu.of_gb hg fun j _ e => (Option.some.inj e).symm
  refine ⟨h.r.drawn hk (by decide) (by decide) (by decide) (by decide) hg, hd, Nat.le_trans h.bd hg.size, h.k.tu ht (fun j hj => ?_), h.u.tu ht (fun j cur hc => hk.not hc (by decide)), h.tab.drawn hk hg, ?_, gb_trans h.gr hg (.inl rfl)⟩
  · obtain ⟨cur, hc⟩ := h.k.blk hj
    exact hk.not hc (by decide)
  · exact (hg.block _ h.pz.lt fun e => hk.not h.pz (by decide) (Option.some.inj e)).trans h.pz
theorem EmQ.pks {w wx : World} {g gb B m : Nat} {t i : Int} {v : Value} {ps : List PKV} {gd Bd : Nat} {D : List Nat} {N : Nat} {a : Option Addr} {n c : Nat} {us : List PKV} (h : EmQ w wx g gb B m t i v ps gd Bd D N (.slice a n c) us) : PksAt wx a n us := (h.k.at' h.u.ks).1
theorem choose_len {rs : List RV} {b t : Int} (h : rs.length ≤ 300) : (chooseL rs b t).length ≤ 300 := by
  unfold chooseL
  split
  · exact Nat.zero_le _
  · have := places_le (chTo (vecsR rs) t (placeN b rs.length) 31).ch rs.length
    unfold castZ
    rw [List.length_map]
    omega
/-- Packets that a buffer keeps are short. -/
theorem short_kept {w : World} {us : List PKV} {m : Nat} (hk : KsIn w us) (hi : BInv m (us.map PKV.pd)) : shortP us := fun i => by
  by_cases hlt : i < us.length
  · have h1 := (hi.get (i := i) (by rw [List.length_map]; exact hlt)).1
    rw [pdGet hlt] at h1
    have h2 := okD_len h1
    have h3 := (hk.get hlt).1.1
    have h4 : (us.getD i .dflt).r.xs.length ≤ 2 := h2
    have h5 := okD_valid h1
    have h6 : ((us.getD i .dflt).r.s.size : Int) = (us.getD i .dflt).z := h5.2.2.1
    have h7 : (us.getD i .dflt).z ≤ 64 := h5.2.2.2.2.2
    omega
  · rw [List.getD_eq_getElem?_getD, List.getElem?_eq_none (by omega)]
    exact ⟨Nat.zero_le _, Nat.zero_le _⟩
end Go.Proofs.YtbcgiodgobmkaaaGreatDoor
namespace Go.Proofs.YtbcgiodgobmkaaaGreatDoor
open Go.RowKit Go.Sort
set_option linter.unusedVariables false
set_option linter.unusedSimpArgs false
set_option maxRecDepth 4000

theorem rlem_res {X : World} {tmps : Array Value} {g : Nat} {o l k z h : Int} {a : Option Addr} {n c : Nat} {s : ByteArray} {b : Bool} (ht : tmps.getD 4 undef = .pointer (some ⟨g, 0, none⟩)) (h5 : tmps.getD 5 undef = .bool b) (hk : PkB X g (.int .i64 o) (.int .i64 l) (.int .i64 k) (.int .i64 z) (.int .i64 h) (.slice a n c) (.string s)) :
    (results Tryz.f10 tmps).run Tryz.prog X = .ok (.tuple #[.agg #[.int .i64 o, .int .i64 l, .int .i64 k, .int .i64 z, .int .i64 h, .slice a n c, .string s], .bool b]) X := by
  obtain ⟨r0, r1, r2, r3, r4, r5, r6⟩ := hk.at
  have ht' : tmps[4]?.getD undef = .pointer (some ⟨g, 0, none⟩) := by simpa using ht
  have h5' : tmps[5]?.getD undef = .bool b := by simpa using h5
  simp [results, Tryz.results10, go_sem, ht', h5', r0, r1, r2, r3, r4, r5, r6]
/-- What an Emit gives: a packet and whether there is one. -/
def EmitR (w w' : World) (o : Option PD) (e : Ending) : Prop := ∃ q : PKV, e = .returned (.tuple #[q.val, .bool o.isSome]) ∧ q.pd = o.getD zPK.pd ∧ Own w' w.heap.size (.slice q.r.a q.r.n q.r.c) q.r.xs

set_option maxHeartbeats 2000000 in
theorem rlemit_kept0 (vr : Value) (d : Value) (w : World) (hK : ∀ wx, Below w.heap.size w wx → Calls Tryz.prog 16 #[vr] wx fun e w' => e = .returned (.int .i64 0) ∧ w' = wx) :
    Calls Tryz.prog 10 #[vr, d] w fun e w' => EmitR w w' none e ∧ Below w.heap.size w w' := by
  have hb0 : Below w.heap.size w (w.alloc (.cells #[.int .i64 0, .int .i64 0, .int .i64 0, .int .i64 0, .int .i64 0, .slice none 0 0, .string ⟨#[]⟩] 42)) := (Below.refl _ _).alloc (Nat.le_refl _) _
  have hz := pkb_new w (.int .i64 0) (.int .i64 0) (.int .i64 0) (.int .i64 0) (.int .i64 0) (.slice none 0 0) (.string ⟨#[]⟩)
  have HK := hide (hK _ hb0)
  have HZ := hide hz
  have HB0 := hide hb0
  obtain ⟨x0, x1, x2, x3, x4, x5, x6⟩ := hz.at
  have xf := hz.frz
  clear hz hb0 hK
  go_enter Tryz.func10, Tryz.ntmps10
  generalize hWW : w.alloc (.cells #[.int .i64 0, .int .i64 0, .int .i64 0, .int .i64 0, .int .i64 0, .slice none 0 0, .string ⟨#[]⟩] 42) = W at *
  go_wp2_with (go_at_call 16; refine (unhide HK).mono ?_; rintro e w1 ⟨rfl, hw1⟩; obtain rfl := hw1.symm; clear hw1)
  exact bodyPost_ret (rlem_res (X := set7 W w.heap.size (.int .i64 0) (.int .i64 0) (.int .i64 0) (.int .i64 0) (.int .i64 0) (.slice none 0 0) (.string ⟨#[]⟩)) rfl rfl ((unhide HZ).sets (.int .i64 0) (.int .i64 0) (.int .i64 0) (.int .i64 0) (.int .i64 0) (.slice none 0 0) (.string ⟨#[]⟩))) rfl ⟨⟨zPK, rfl, rfl, Own.nil _ _⟩, below7 (unhide HB0) (Nat.le_refl _) _ _ _ _ _ _ _⟩
theorem rlemit_no (g gb B m : Nat) (t i : Int) (v : Value) (d : Value) (w : World) (h : RlAt w g gb B m t i v []) : Calls Tryz.prog 10 #[.pointer (some ⟨g, 0, none⟩), d] w fun e w' => EmitR w w' none e ∧ Below w.heap.size w w' :=
  rlemit_kept0 _ d w fun wx hb => rlkept_any g gb B m t i v [] wx (h.below hb)
/-- The end of an Emit: the packet is written and returned. -/
theorem emit_end {w w4 w5 : World} {g gb B m : Nat} {t i : Int} {v : Value} {ps : List PKV} {gd Bd : Nat} {D : List Nat} {N : Nat} {va : Value} {us : List PKV} {q : PKV} (h : EmQ w w4 g gb B m t i v ps gd Bd D N va us) (hb : Below w4.heap.size w4 w5) (ho : Own w5 w4.heap.size (.slice q.r.a q.r.n q.r.c) q.r.xs) :
    Own (set7 w5 w.heap.size (.int .i64 q.o) (.int .i64 q.l) (.int .i64 q.k) (.int .i64 q.z) (.int .i64 q.h) (.slice q.r.a q.r.n q.r.c) (.string q.r.s)) w.heap.size (.slice q.r.a q.r.n q.r.c) q.r.xs ∧ (Bd ≤ w.heap.size → DrAt (set7 w5 w.heap.size (.int .i64 q.o) (.int .i64 q.l) (.int .i64 q.k) (.int .i64 q.z) (.int .i64 q.h) (.slice q.r.a q.r.n q.r.c) (.string q.r.s)) gd Bd D N) ∧ w.grownBy (set7 w5 w.heap.size (.int .i64 q.o) (.int .i64 q.l) (.int .i64 q.k) (.int .i64 q.z) (.int .i64 q.h) (.slice q.r.a q.r.n q.r.c) (.string q.r.s)) (some gd) := by
  have h5 := h.below hb
  have hlt := h.pz.lt
  refine ⟨(ho.all7 hlt _ _ _ _ _ _ _).mono (Nat.le_of_lt hlt), fun hB => h5.d.below (below7 (Below.refl _ _) hB _ _ _ _ _ _ _), gb_trans h5.gr (gb_set7 _ _ _ _ _ _ _ _ _) (.inr fun j hj => Nat.le_of_eq (Option.some.inj hj))⟩

set_option maxHeartbeats 8000000 in
theorem rlemit_at (g gb B m : Nat) (t i : Int) (v : Value) (ps : List PKV) (gd Bd : Nat) (D : List Nat) (N : Nat) (w : World) (ht : Tab w) (h : RlAt w g gb B m t i v ps) (hd : DrAt w gd Bd D N) (hB : Bd ≤ w.heap.size) (hN : N ≤ 1099511627776) (htt : -1099511627776 ≤ t ∧ t ≤ 1099511627776) (h0 : 0 < ps.length) :
    Calls Tryz.prog 10 #[.pointer (some ⟨g, 0, none⟩), .pointer (some ⟨gd, 0, none⟩)] w fun e w' => EmitR w w' (emitD (ps.map PKV.pd) (drawN D (N + 1) % ps.length) t) e ∧ DrAt w' gd Bd D (N + 1) ∧ w.grownBy w' (some gd) := by
  have hb0 : Below w.heap.size w (w.alloc (.cells #[.int .i64 0, .int .i64 0, .int .i64 0, .int .i64 0, .int .i64 0, .slice none 0 0, .string ⟨#[]⟩] 42)) := (Below.refl _ _).alloc (Nat.le_refl _) _
  have hz := pkb_new w (.int .i64 0) (.int .i64 0) (.int .i64 0) (.int .i64 0) (.int .i64 0) (.slice none 0 0) (.string ⟨#[]⟩)
  have hsz : (w.alloc (.cells #[.int .i64 0, .int .i64 0, .int .i64 0, .int .i64 0, .int .i64 0, .slice none 0 0, .string ⟨#[]⟩] 42)).heap.size = w.heap.size + 1 := alloc_size _ _
  have hlen := h.buf.len.2
  generalize hWW : w.alloc (.cells #[.int .i64 0, .int .i64 0, .int .i64 0, .int .i64 0, .int .i64 0, .slice none 0 0, .string ⟨#[]⟩] 42) = W at *
  have HDW := hide (hd.below (hb0.mono hB))
  have HKE0 := rlkept_any g gb B m t i v ps W (h.below hb0)
  have HR0 := hide (h.below hb0)
  have HINV := hide h.buf.inv
  have HT0 := hide (ht.below hb0)
  have HZ := hide hz
  have HB0 := hide hb0
  have HSZ := hide hsz
  have hal := meth_all ⟨gb, 0, none⟩
  obtain ⟨n, hnn⟩ : ∃ n, ps.length = n := ⟨_, rfl⟩
  rw [hnn] at HKE0 h0 hlen ⊢
  have HKE := hide HKE0
  have HNN := hide hnn
  have hn0 : ¬ ((n : Int) = 0) := by omega
  have hn1 : ((n : Int) == 0) = false := by rw [beq_eq_false_iff_ne]; exact hn0
  obtain ⟨c0, -, -⟩ := (h.below hb0).cells
  clear h ht hz hb0 hsz hnn HKE0 hd
  go_enter Tryz.func10, Tryz.ntmps10
  go_wp2_with (go_at_call 16; refine (unhide HKE).mono ?_; rintro e w1 ⟨rfl, hw1⟩; obtain rfl := hw1.symm; clear hw1 HKE)
  refine (buall_any gb B m v ps _ (unhide HR0).buf).mono ?_
  rintro e w2 ⟨b2, c2, us, rfl, ho2, hk2, hp2, hb2⟩
  have hB2 := hb2
  have HQ2 : Hid (EmQ w w2 g gb B m t i v ps gd Bd D N (.slice (some ⟨b2, 0, none⟩) ps.length c2) us) := hide ⟨(unhide HR0).below hb2, (unhide HDW).below (hb2.mono (Nat.le_trans hB (unhide HB0).size)), (Nat.le_trans hB (Nat.le_trans (unhide HB0).size hB2.size)), ho2.mono (by rw [← unhide HSZ]; exact Nat.le_refl _), hk2.mono (by rw [← unhide HSZ]; exact Nat.le_refl _), (unhide HT0).below hb2, (unhide HZ).below hb2, gb_of_below (below0 (unhide HB0) hb2) _⟩
  have hul : us.length = n := by rw [← unhide HNN]; have := congrArg List.length hp2; simpa using this
  have HUL := hide hul
  have HIV : Hid (BInv m (us.map PKV.pd)) := hide (by rw [hp2]; exact unhide HINV)
  have HPD := hide hp2
  rw [unhide HNN] at HQ2 ⊢
  clear ho2 hk2 hp2 hb2 hB2 hul HINV HR0 HDW
  obtain ⟨f0, f1, -⟩ := (unhide HQ2).r.cells
  have HRO := hide (fun wx (hq : EmQ w wx g gb B m t i v ps gd Bd D N (.slice (some ⟨b2, 0, none⟩) n c2) us) => rlrows_any (some ⟨b2, 0, none⟩) n c2 us wx hq.pks (by omega))
  have HBE := hide (fun wx (hq : EmQ w wx g gb B m t i v ps gd Bd D N (.slice (some ⟨b2, 0, none⟩) n c2) us) => below_any gd Bd D N n wx hq.d hN (by omega) (by omega))
  have HMO := hide (show drawN D (N + 1) % n < n from Nat.mod_lt _ h0)
  generalize hbb : drawN D (N + 1) % n = bb at *
  go_wp2_with fail
  go_region_held3 (fun w' => w'.cell? ⟨g, 1, none⟩ = some (.int .i64 t)) (go_keep) (first
    | (go_at_call 26; refine (unhide HRO _ ((unhide HQ2).below (Below.refl _ _).drew)).mono ?_; rintro e w3 ⟨v3, rfl, ho3, hb3⟩; have hq3 := ((unhide HQ2).below (Below.refl _ _).drew).below hb3; have HQ3 := hide hq3; obtain ⟨a3, d3, rfl⟩ := ho3.shape; rw [rowsK_len, unhide HUL] at ho3 ⊢; have HO3 := hide ho3; have HG3 := hide ((unhide HQ2).below (Below.refl _ _).drew).d.lt; obtain ⟨-, k1, -⟩ := hq3.r.cells; clear ho3 hb3 hq3)
    | (go_at_call 27; refine (unhide HBE _ (unhide HQ3)).mono ?_; rintro e w4 ⟨rfl, hd4, hg4⟩; have hq4 := (unhide HQ3).drawn hd4 hg4; have HQ4 := hide hq4; have HO4 := hide ((unhide HO3).keptB hg4 (unhide HG3)); obtain ⟨-, l1, -⟩ := hq4.r.cells; clear hd4 hg4 hq4)
    | (go_at_call 25; refine (choose_any a3 n d3 (rowsK us) (bb : Int) t w4 (((unhide HO4).at' (KsIn.rows (unhide HQ4).u.ks)).1) (shortP_rows fun p hp => shortP_mem (short_kept (unhide HQ4).u.ks (unhide HIV)) hp) (by omega) (by have := unhide HMO; omega) htt).mono ?_; rintro e w5 ⟨v5, rfl, ho5, hb5⟩; have hq5 := (unhide HQ4).below hb5; have HQ5 := hide hq5; obtain ⟨a5, d5, rfl, hz5⟩ := ho5.ints; have HZ5 := hide hz5; obtain ⟨-, m1, -⟩ := hq5.r.cells; clear ho5 hb5 hq5 hz5))
  have HMX0 := mix18_any (some ⟨b2, 0, none⟩) n c2 us a5 (chooseL (rowsK us) (bb : Int) t).length d5 (chooseL (rowsK us) (bb : Int) t) w5 (unhide HQ5).tab (unhide HQ5).pks (unhide HQ5).u.ks (short_kept (unhide HQ5).u.ks (unhide HIV)) (unhide HZ5) (by omega) (choose_len (by rw [rowsK_len, unhide HUL]; omega))
  rw [emit_is (by rw [unhide HUL]; exact unhide HMO), unhide HPD] at HMX0
  have HMX := hide HMX0
  clear HMX0
  obtain ⟨O, hO⟩ : ∃ O, emitD (ps.map PKV.pd) bb t = O := ⟨_, rfl⟩
  have HOO : Hid (emitD (ps.map PKV.pd) (drawN D (N + 1) % n) t = O) := hide (by rw [show drawN D (N + 1) % n = bb from hbb]; exact hO)
  rw [hO] at HMX
  clear hO
  go_wp2_with (go_at_call 28; refine (unhide HMX).mono ?_; rintro e w6 hM; obtain ⟨hb6, q, rfl, hq6, ho6⟩ := hM.own; have HE6 := hide (emit_end (unhide HQ5) hb6 ho6); have HQ6 := hide hq6; have hz6 := (unhide HQ5).pz.below hb6; obtain ⟨x0, x1, x2, x3, x4, x5, x6⟩ := hz6.at; have xf := hz6.frz; have HZ6 := hide hz6; unfold PKV.val; clear hb6 hq6 ho6 hM hz6)
  obtain ⟨y1, y2, y3⟩ := unhide HE6
  exact bodyPost_ret (rlem_res (X := set7 w6 w.heap.size (.int .i64 q.o) (.int .i64 q.l) (.int .i64 q.k) (.int .i64 q.z) (.int .i64 q.h) (.slice q.r.a q.r.n q.r.c) (.string q.r.s)) rfl rfl ((unhide HZ6).sets (.int .i64 q.o) (.int .i64 q.l) (.int .i64 q.k) (.int .i64 q.z) (.int .i64 q.h) (.slice q.r.a q.r.n q.r.c) (.string q.r.s))) rfl ⟨⟨q, by rw [unhide HOO]; rfl, by rw [unhide HOO]; exact unhide HQ6, y1⟩, y2 hB, y3⟩

end Go.Proofs.YtbcgiodgobmkaaaGreatDoor
namespace Go.Proofs.YtbcgiodgobmkaaaGreatDoor
open Go.RowKit Go.Sort
set_option linter.unusedVariables false
set_option linter.unusedSimpArgs false
set_option maxRecDepth 4000

theorem cnt_first {r : List Nat} (hr : smalls r) : (cnt r = 0) ↔ firstI r < 0 := by
  rw [firstI_nonneg_iff]
  exact ⟨zero_of_cnt r hr, cnt_of_zero r⟩
theorem cnt_first_dec {r : List Nat} (hr : smalls r) : (((cnt r : Nat) : Int) == 0) = decide (firstI r < 0) := by
  by_cases h : firstI r < 0
  · rw [(cnt_first hr).2 h, decide_eq_true h]; rfl
  · rw [decide_eq_false h]
    have := fun e => h ((cnt_first hr).1 e)
    simpa using this
set_option maxHeartbeats 400000 in
theorem rin_any (a : Option Addr) (n c : Nat) (rs : List (List Nat)) (a' : Option Addr) (m c' : Nat) (xs : List Nat) (w : World) (h : VecsAt w a n rs) (hf : Fit 1048576 rs) (h' : RowAt w a' m xs) (hn : n ≤ 1048576) (hm : m ≤ 1048576) :
    Calls Tryz.prog 73 #[.slice a n c, .slice a' m c'] w fun e w' => e = .returned (.bool (decide (firstI (reduceL rs xs) < 0))) ∧ Below w.heap.size w w' := by
  have HR := hide (rreduce_any a n c rs a' m c' xs w h hf h' hn hm)
  have hl := reduce_small hf h'.2.1 (by rw [h'.1]; exact hm)
  have HD := hide (cnt_first_dec hl.1)
  clear h h' hf
  generalize reduceL rs xs = r at *
  generalize hbo : decide (firstI r < 0) = bo at *
  have hcd := unhide HD
  clear HD hbo
  have HC := hide (fun (w1 : World) (ar : Option Addr) (cr : Nat) (hr : RowAt w1 ar r.length r) => rcount_any ar r.length cr r w1 hr hl.2)
  generalize cnt r = cn at *
  go_enter Tryz.func73, Tryz.ntmps73
  go_wp2_with fail
  refine (unhide HR).mono ?_
  rintro e w1 ⟨v, rfl, ho, hb⟩
  obtain ⟨a1, c1, rfl, hr⟩ := ho.row
  have HC1 := hide (unhide HC w1 a1 c1 hr)
  clear ho hr HR HC
  go_wp2_with fail
  refine (unhide HC1).mono ?_
  rintro e w2 ⟨rfl, hw⟩
  obtain rfl := hw.symm
  go_wp2
  go_ret
  exact ⟨rfl, hb⟩

set_option maxHeartbeats 400000 in
theorem rfresh_any (a : Option Addr) (n c : Nat) (rs : List (List Nat)) (a' : Option Addr) (m c' : Nat) (xs : List Nat) (w : World) (h : VecsAt w a n rs) (hf : Fit 1048576 rs) (h' : RowAt w a' m xs) (hn : n ≤ 100000) (hm : m ≤ 1048576) :
    Calls Tryz.prog 59 #[.slice a n c, .slice a' m c'] w fun e w' => e = .returned (.bool (freshB rs xs)) ∧ Below w.heap.size w w' := by
  have HX := hide (rbasis_any a n c rs w h hf hn)
  have hbf := basis_fit hf
  have hbl := basis_len hf
  have hrl := h.1
  have hE : freshB rs xs = !decide (firstI (reduceL (basisL rs) xs) < 0) := by
    unfold freshB
    have h1 := brought_in hf h'.2.1 (by rw [h'.1]; exact hm)
    have h2 := basis_in_iff hf h'.2.1 (by rw [h'.1]; exact hm)
    rw [decide_eq_decide.2 (h1.trans h2.symm)]
  rw [hE]
  clear h hf hE
  have HY := hide (fun (w1 : World) (a1 : Option Addr) (c1 : Nat) (hb : Below w.heap.size w w1) (hv : VecsAt w1 a1 (basisL rs).length (basisL rs)) => rin_any a1 _ c1 (basisL rs) a' m c' xs w1 hv hbf (h'.below hb) (by omega) hm)
  generalize basisL rs = bb at *
  generalize decide (firstI (reduceL bb xs) < 0) = bo at *
  clear h'
  go_enter Tryz.func59, Tryz.ntmps59
  go_wp2_with fail
  refine (unhide HX).mono ?_
  rintro e w1 ⟨vb, vs, rfl, hV, hb⟩
  obtain ⟨a2, c2, rfl, hvec⟩ := hV.vecs
  have HY1 := hide (unhide HY w1 a2 c2 hb hvec)
  have HB := hide hb
  clear hV hb HX HY hvec
  go_wp2_with fail
  refine (unhide HY1).mono ?_
  rintro e w2 ⟨rfl, hb2⟩
  go_wp2
  go_ret
  exact ⟨rfl, below0 (unhide HB) hb2⟩
end Go.Proofs.YtbcgiodgobmkaaaGreatDoor
