/-
  What a Mix gives, in one form. No condition.
  Contract of bucketlineref18.Choose. Conditions: at most 300 rows of at most 10 words, a target from -2^40 to 2^40.
  Contracts of relay.rowsOf and Relay.Emit. Conditions: at most 2^40 draws used.
-/
import Derived.Test.YtbcgiodgobmkaaaGreatDoorVN
import Derived.Test.YtbcgiodgobmkaaaGreatDoorU13
import Derived.Test.YtbcgiodgobmkaaaGreatDoorU27
import Derived.BigQuiet
import Derived.Test.YtbcgiodgobmkaaaGreatDoorVJ
import Derived.Test.YtbcgiodgobmkaaaGreatDoorU6
import Derived.OwnWalk
import Derived.Laws.MakeOwn
import Derived.Test.YtbcgiodgobmkaaaGreatDoorU3
import Derived.Test.YtbcgiodgobmkaaaGreatDoorU41
namespace Go.Proofs.YtbcgiodgobmkaaaGreatDoor
open Go.RowKit Go.Sort
set_option linter.unusedVariables false
set_option linter.unusedSimpArgs false
set_option maxRecDepth 4000

theorem retI_yes {e : Ending} {P : Prop} (h : RetI e P) (hp : P) : e = .returned (.int .i64 1) := h.elim (fun h => h.1) fun h => absurd hp h.2
theorem retI_no {e : Ending} {P : Prop} (h : RetI e P) (hp : ¬ P) : e = .returned (.int .i64 0) := h.elim (fun h => absurd h.2 hp) fun h => h.1
/-- No packet. -/
def zPK : PKV := ⟨0, 0, 0, 0, 0, ⟨none, 0, 0, [], ⟨#[]⟩⟩⟩
/-- What both give, in one form. -/
theorem MixR.pk {w w' : World} {o : Option PD} {e : Ending} (h : MixR w w' o e) : Below w.heap.size w w' ∧ ∃ q : PKV, e = .returned (.tuple #[q.val, .bool o.isSome]) ∧ q.pd = o.getD zPK.pd ∧ RowAt w' q.r.a q.r.n q.r.xs := by
  cases o with
  | none => exact ⟨h.1, zPK, h.2, rfl, row_none _⟩
  | some d =>
    obtain ⟨hb, q, hq, he, ho⟩ := h
    refine ⟨hb, q, he, hq, ?_⟩
    obtain ⟨_, _, e2, hr⟩ := ho.row
    simp only [Value.slice.injEq] at e2
    obtain ⟨rfl, h2, rfl⟩ := e2
    rw [h2]
    exact hr
end Go.Proofs.YtbcgiodgobmkaaaGreatDoor
namespace Go.Proofs.YtbcgiodgobmkaaaGreatDoor
open Go.RowKit Go.Sort
set_option linter.unusedVariables false
set_option linter.unusedSimpArgs false
set_option maxRecDepth 4000

theorem places_le (ch : List Bool) (n : Nat) : (placesCh ch n).length ≤ n := by
  have := List.length_filter_le (fun i => ch.getD i false) (List.range n)
  rwa [List.length_range] at this

end Go.Proofs.YtbcgiodgobmkaaaGreatDoor
namespace Go.Proofs.YtbcgiodgobmkaaaGreatDoor
open Go.RowKit Go.Sort
set_option linter.unusedVariables false
set_option linter.unusedSimpArgs false
set_option maxRecDepth 4000

/-- What a relay that keeps L emits, by draws D of which N were used; how many are used then. -/
def emitO (L : List PD) (D : List Nat) (N : Nat) (t : Int) : Option PD := if L.length = 0 then none else emitD L (drawN D (N + 1) % L.length) t
def usedO (L : List PD) (N : Nat) : Nat := if L.length = 0 then N else N + 1
set_option maxHeartbeats 2000000 in
theorem rlrows_any (a : Option Addr) (n c : Nat) (ps : List PKV) (w : World) (h : PksAt w a n ps) (hn : n ≤ 1048576) :
    Calls Tryz.prog 26 #[.slice a n c] w fun e w' => ∃ v, e = .returned v ∧ OwnS w' w.heap.size v (rowsK ps) ∧ Below w.heap.size w w' := by
  obtain rfl := h.1
  have Hh := hide h
  have hmk := make_r ps.length hn
  have HM := hide (made_r w ps.length hn (filR (rowsK ps) 0) (by rw [filR_zero, rowsK_len]))
  have HBM : Hid (Below w.heap.size w (w.alloc (.cells (madeCells #[.slice none 0 0, .string ⟨#[]⟩] (ps.length * 2)) 40))) := hide ((Below.refl _ _).alloc (Nat.le_refl _) _)
  clear h
  go_enter Tryz.func26, Tryz.ntmps26
  go_wp2
  go_loopw [11] (fun i wr => ∃ k : Nat, k ≤ ps.length ∧ i = .int .i64 k ∧ Hid (OwnS wr w.heap.size (.slice (some ⟨w.heap.size, 0, none⟩) ps.length ps.length) (filR (rowsK ps) k)) ∧ Hid (Below w.heap.size w wr)) (fun i _ => ps.length - (intOf i).toNat)
  case atStart => exact ⟨0, Nat.zero_le _, rfl, HM, HBM⟩
  case round =>
    obtain ⟨k, hk, rfl, HI, HB⟩ := hrel
    clear HM HBM
    by_cases hlt : k < ps.length
    · obtain ⟨b, off, rfl, hcl⟩ := ((unhide Hh).below (unhide HB)).at hlt
      obtain ⟨hc0, hc1, hc2, hc3, hc4, hc5, hc6⟩ := hcl k hlt
      have hlt' : (k : Int) < (ps.length : Int) := by omega
      have hS := filR_succ (rowsK ps) k (by rw [rowsK_len]; exact hlt)
      rw [rowsK_get hlt] at hS
      generalize ps.getD k .dflt = p at *
      have hb1 := pk_low wr p
      have hI := (unhide HI).below hb1
      obtain ⟨hx0, hx1, hx2, hx3, hx4, hx5, hx6⟩ := pk_new wr (.int .i64 p.o) (.int .i64 p.l) (.int .i64 p.k) (.int .i64 p.z) (.int .i64 p.h) (.slice p.r.a p.r.n p.r.c) (.string p.r.s)
      have hB1 := below0 (unhide HB) hb1
      generalize hW1 : wr.alloc (.cells #[.int .i64 p.o, .int .i64 p.l, .int .i64 p.k, .int .i64 p.z, .int .i64 p.h, .slice p.r.a p.r.n p.r.c, .string p.r.s] 42) = w1 at *
      have hfl : (filR (rowsK ps) k).length = ps.length := by rw [filR_length _ _ (by rw [rowsK_len]; exact hk), rowsK_len]
      have hcg := cellsR_get (filR (rowsK ps) k) k (by omega)
      have hcell0 := hI.cellAt hcg.1
      have hcell1 := hI.cellAt hcg.2
      have hI' : w1.ownsRow w.heap.size 40 2 (.slice (some ⟨w.heap.size, 0, none⟩) ps.length ps.length) ps.length (cellsR (filR (rowsK ps) k)) := by
        have : w1.ownsRow w.heap.size 40 2 (.slice (some ⟨w.heap.size, 0, none⟩) ps.length ps.length) (filR (rowsK ps) k).length (cellsR (filR (rowsK ps) k)) := hI
        rwa [hfl] at this
      have hfz0 := hI'.frozenAt (k * 2)
      have hfz1 := hI'.frozenAt (k * 2 + 1)
      have hs2 := hI.stored k p.r
      rw [hS] at hs2
      have HS := hide hs2
      have HB2 := hide ((hB1.setCell (p := ⟨w.heap.size, k * 2, none⟩) (Nat.le_refl _) (.slice p.r.a p.r.n p.r.c)).setCell (p := ⟨w.heap.size, k * 2 + 1, none⟩) (Nat.le_refl _) (.string p.r.s))
      clear hcl hI hI' hs2 hS hcg hfl HI HB hb1 hB1
      generalize (filR (rowsK ps) k).getD k .dflt = z at *
      go_wp2
      go_roundw
      case rel => exact ⟨k + 1, by omega, by go_num, HS, HB2⟩
      case measure => simp [intOf]; omega
    · obtain rfl : k = ps.length := by omega
      rw [show ps.length = (rowsK ps).length from (rowsK_len ps).symm, filR_all, rowsK_len] at HI
      go_wp2
      go_ret
      exact ⟨_, rfl, unhide HI, unhide HB⟩
/-- What both a Mix and an Emit give, in one form. -/
theorem MixR.own {w w' : World} {o : Option PD} {e : Ending} (h : MixR w w' o e) : Below w.heap.size w w' ∧ ∃ q : PKV, e = .returned (.tuple #[q.val, .bool o.isSome]) ∧ q.pd = o.getD zPK.pd ∧ Own w' w.heap.size (.slice q.r.a q.r.n q.r.c) q.r.xs := by
  cases o with
  | none => exact ⟨h.1, zPK, h.2, rfl, Own.nil _ _⟩
  | some d =>
    obtain ⟨hb, q, hq, he, ho⟩ := h
    exact ⟨hb, q, he, hq, ho⟩
theorem Bk2.not {T T' : TypeId} {w : World} {g j : Nat} {u0 u1 : Value} {cur : Array Value} {fz : Nat × Nat} (h : Bk2 T w g u0 u1) (hj : w.heap[j]? = some (.cells cur T' fz)) (hT : T ≠ T') : j ≠ g := fun e => by
  subst e
  unfold Bk2 at h
  rw [hj] at h
  simp only [Option.some.injEq, Obj.cells.injEq] at h
  exact hT h.2.1.symm
theorem DrAt.bk {w : World} {g B : Nat} {L : List Nat} {N : Nat} (h : DrAt w g B L N) : ∃ a n c, Bk2 70 w g (.slice a n c) (.int .i64 (N : Int)) := by
  obtain ⟨h1, h2, a, n, c, h3, h4⟩ := h
  exact ⟨a, n, c, h3⟩
theorem cell_same {w w' : World} {b : Nat} (h : w'.heap[b]? = w.heap[b]?) (i : Nat) : w'.cell? ⟨b, i, none⟩ = w.cell? ⟨b, i, none⟩ := by
  simp only [World.cell?, h]
theorem RowAt.same {w w' : World} {a : Option Addr} {n : Nat} {xs : List Nat} (h : RowAt w a n xs) (hb : n = 0 ∨ ∀ ad, a = some ad → w'.heap[ad.block]? = w.heap[ad.block]?) : RowAt w' a n xs := by
  refine ⟨h.1, h.2.1, ?_⟩
  rcases h.2.2 with h0 | ⟨b, off, rfl, hc⟩
  · exact .inl h0
  · rcases hb with h0 | hb
    · exact .inl h0
    · exact .inr ⟨b, off, rfl, fun i hi => (cell_same (hb _ rfl) _).trans (hc i hi)⟩
/-- Draws stand where blocks turn that are neither theirs nor of words. -/
theorem DrAt.tu {F : Nat → Prop} {w w' : World} {g B : Nat} {L : List Nat} {N : Nat} (h : DrAt w g B L N) (ht : Tu F w w') (hg : ¬ F g) (hw : ∀ j cur, w.heap[j]? = some (.cells cur 59 (0, 0)) → ¬ F j) : DrAt w' g B L N := by
  obtain ⟨h1, h2, a, n, c, h3, h4, h5, h6, h7⟩ := h
  have hs : n = 0 ∨ ∀ ad, a = some ad → w'.heap[ad.block]? = w.heap[ad.block]? := h7.imp id fun k ad e => by
    obtain ⟨cur, hc⟩ := (k ad e).2
    exact ht.block ad.block (Array.getElem?_eq_some_iff.1 hc).1 (hw _ cur hc)
  refine ⟨h1, h2, a, n, c, (ht.block g h3.lt hg).trans h3, h4, h5, h6.same hs, ?_⟩
  rcases h7 with h0 | h7
  · exact .inl h0
  · rcases hs with h0 | hs
    · exact .inl h0
    · exact .inr fun ad e => ⟨(h7 ad e).1, (h7 ad e).2.imp fun cur hc => (hs ad e).trans hc⟩
/-- Draws stand where a relay turns. -/
theorem RlAt.draws {w w' : World} {g gb B m : Nat} {t i : Int} {v : Value} {ps : List PKV} {gd Bd : Nat} {D : List Nat} {N : Nat} (h : RlAt w g gb B m t i v ps) (hd : DrAt w gd Bd D N) (ht : Tu (rlF g gb v) w w') : DrAt w' gd Bd D N := by
  obtain ⟨a, n, c, hk⟩ := hd.bk
  exact hd.tu ht (h.apart hk (by decide) (by decide) (by decide)) h.words
theorem Tab.drawn {w w' : World} {T : TypeId} {g : Nat} {a : Option Addr} {n c : Nat} {u : Value} (h : Tab w) (hd : Bk2 T w g (.slice a n c) u) (hg : w.grownBy w' (some g)) : Tab w' := fun i hi => by
  refine hg.cell (h i hi) fun e => ?_
  have h0 := h 0 (by decide)
  have h1 := hd.at0
  rw [← Option.some.inj e, h0] at h1
  cases h1
theorem gb_set7 (w : World) (g : Nat) (u0 u1 u2 u3 u4 u5 u6 : Value) : w.grownBy (set7 w g u0 u1 u2 u3 u4 u5 u6) (some g) :=
  gb_trans (gb_trans (gb_trans (gb_trans (gb_trans (gb_trans (gb_setCell _ _ _ _) (gb_setCell _ _ _ _) (.inl rfl)) (gb_setCell _ _ _ _) (.inl rfl)) (gb_setCell _ _ _ _) (.inl rfl)) (gb_setCell _ _ _ _) (.inl rfl)) (gb_setCell _ _ _ _) (.inl rfl)) (gb_setCell _ _ _ _) (.inl rfl)
/-- Within an Emit: the relay, the draws, what the buffer handed out, the packet to be returned. -/
structure EmQ (w wx : World) (g gb B m : Nat) (t i : Int) (v : Value) (ps : List PKV) (gd Bd : Nat) (D : List Nat) (N : Nat) (va : Value) (us : List PKV) : Prop where
  r : RlAt wx g gb B m t i v ps
  d : DrAt wx gd Bd D N
  bd : Bd ≤ wx.heap.size
  k : OwnP wx (w.heap.size + 1) va us
  u : OwnKs wx (w.heap.size + 1) us
  tab : Tab wx
  pz : PkB wx w.heap.size (.int .i64 0) (.int .i64 0) (.int .i64 0) (.int .i64 0) (.int .i64 0) (.slice none 0 0) (.string ⟨#[]⟩)
  gr : w.grownBy wx (some gd)
theorem EmQ.below {w wx wy : World} {g gb B m : Nat} {t i : Int} {v : Value} {ps : List PKV} {gd Bd : Nat} {D : List Nat} {N : Nat} {va : Value} {us : List PKV} (h : EmQ w wx g gb B m t i v ps gd Bd D N va us) (hb : Below wx.heap.size wx wy) : EmQ w wy g gb B m t i v ps gd Bd D N va us :=
  ⟨h.r.below hb, h.d.below (hb.mono h.bd), Nat.le_trans h.bd hb.size, h.k.below hb, h.u.below hb, h.tab.below hb, h.pz.below hb, gb_trans h.gr (gb_of_below hb (some gd)) (.inl rfl)⟩
theorem EmQ.drawn {w wx wy : World} {g gb B m : Nat} {t i : Int} {v : Value} {ps : List PKV} {gd Bd : Nat} {D : List Nat} {N N' : Nat} {va : Value} {us : List PKV} (h : EmQ w wx g gb B m t i v ps gd Bd D N va us) (hd : DrAt wy gd Bd D N') (hg : wx.grownBy wy (some gd)) : EmQ w wy g gb B m t i v ps gd Bd D N' va us := by
  obtain ⟨a, n, c, hk⟩ := h.d.bk
  have ht : Tu (fun j => j = gd) wx wy := Tu.of_gb hg fun j _ e => (Option.some.inj e).symm
  refine ⟨h.r.drawn hk (by decide) (by decide) (by decide) (by decide) hg, hd, Nat.le_trans h.bd hg.size, h.k.tu ht (fun j hj => ?_), h.u.tu ht (fun j cur hc => hk.not hc (by decide)), h.tab.drawn hk hg, ?_, gb_trans h.gr hg (.inl rfl)⟩
  · obtain ⟨cur, hc⟩ := h.k.blk hj
    exact hk.not hc (by decide)
  · exact (hg.block _ h.pz.lt fun e => hk.not h.pz (by decide) (Option.some.inj e)).trans h.pz
theorem EmQ.pks {w wx : World} {g gb B m : Nat} {t i : Int} {v : Value} {ps : List PKV} {gd Bd : Nat} {D : List Nat} {N : Nat} {a : Option Addr} {n c : Nat} {us : List PKV} (h : EmQ w wx g gb B m t i v ps gd Bd D N (.slice a n c) us) : PksAt wx a n us := (h.k.at' h.u.ks).1
theorem choose_len {rs : List RV} {b t : Int} (h : rs.length ≤ 300) : (chooseL rs b t).length ≤ 300 := by
  unfold chooseL
  split
  · exact Nat.zero_le _
  · have := places_le (chTo (vecsR rs) t (placeN b rs.length) 31).ch rs.length
    unfold castZ
    rw [List.length_map]
    omega
/-- Packets that a buffer keeps are short. -/
theorem short_kept {w : World} {us : List PKV} {m : Nat} (hk : KsIn w us) (hi : BInv m (us.map PKV.pd)) : shortP us := fun i => by
  by_cases hlt : i < us.length
  · have h1 := (hi.get (i := i) (by rw [List.length_map]; exact hlt)).1
    rw [pdGet hlt] at h1
    have h2 := okD_len h1
    have h3 := (hk.get hlt).1.1
    have h4 : (us.getD i .dflt).r.xs.length ≤ 2 := h2
    have h5 := okD_valid h1
    have h6 : ((us.getD i .dflt).r.s.size : Int) = (us.getD i .dflt).z := h5.2.2.1
    have h7 : (us.getD i .dflt).z ≤ 64 := h5.2.2.2.2.2
    omega
  · rw [List.getD_eq_getElem?_getD, List.getElem?_eq_none (by omega)]
    exact ⟨Nat.zero_le _, Nat.zero_le _⟩
end Go.Proofs.YtbcgiodgobmkaaaGreatDoor
