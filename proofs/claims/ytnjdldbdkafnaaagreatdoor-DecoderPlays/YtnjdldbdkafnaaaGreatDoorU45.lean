/-
  The decoder and the reference's, side by side ('PlE'). No condition.
  Contracts of Decoder.Rank, Done, Object, Kept, Over: of a decoder, and of none.
  Rows that are true of blocks of one size, of full rank, tell these. No condition.
  The example of the chapter: bucketlinelaw16.awake tells true.
  The walks of DecoderNone and DecoderOnce: for every input each tells true and writes nothing that was there.
  Contract of bucketlineref16.New.
-/
import Derived.Test.YtnjdldbdkafnaaaGreatDoorOW
import Derived.Test.YtnjdldbdkafnaaaGreatDoorU36
import Derived.Test.YtnjdldbdkafnaaaGreatDoorU32
import Derived.Test.YtnjdldbdkafnaaaGreatDoorOM
import Derived.Test.YtnjdldbdkafnaaaGreatDoorU39
import Derived.Test.YtnjdldbdkafnaaaGreatDoorU42
namespace Go.Proofs.YtnjdldbdkafnaaaGreatDoor
open Go.RowKit Go.Sort
set_option linter.unusedVariables false
set_option linter.unusedSimpArgs false
set_option maxRecDepth 4000

/-- What is told is one. -/
theorem dput_uniq {M : Int} {s : DS} {p : PKV} {a b : ByteArray} (ha : admB s p = true → TellsP M (begS s p) (p.r.xs, p.r.s) a) (hb : admB s p = true → TellsP M (begS s p) (p.r.xs, p.r.s) b) : dput M s p a = dput M s p b := by
  cases h : admB s p
  · rw [(dput_no h).1, (dput_no h).1]
  · rw [(dput_yes h).1, (dput_yes h).1]; exact (ha h).uniq (hb h)
/-- The decoder keeps s, the reference's, in block c, s'. -/
structure PlE (W w : World) (g c : Nat) (M : Int) (s : DS) (gs : Nat) (v : Value) (rs : List RV) (s' : DS) (f : PKV) (v2 : Value) (ts : List RV) : Prop where
  dc : DcAt w g W.heap.size M s gs v rs
  cb : BkA 36 w c (rdC M s' f v2)
  lo : W.heap.size ≤ c
  rf : RfD w W.heap.size M s' f v2 ts
  src : RowsIn W ts
  sep : ∀ j, v.ownBlock = some j → v2.ownBlock ≠ some j
  low : Below W.heap.size W w
theorem PlE.below {W w w' : World} {g c : Nat} {M : Int} {s s' : DS} {gs : Nat} {v : Value} {rs : List RV} {f : PKV} {v2 : Value} {ts : List RV} (h : PlE W w g c M s gs v rs s' f v2 ts) (hb : Below w.heap.size w w') : PlE W w' g c M s gs v rs s' f v2 ts :=
  ⟨h.dc.below hb, h.cb.below hb, h.lo, h.rf.below hb, h.src, h.sep, below0 h.low hb⟩
/-- The reference has put: its new decoder is written to c. -/
theorem PlE.refd {W w w1 w2 : World} {g c : Nat} {M : Int} {s s1 : DS} {gs : Nat} {v : Value} {rs : List RV} {f f1 : PKV} {v2 v3 : Value} {ts t1 : List RV} {p : PKV} (h : PlE W w g c M s gs v rs s f v2 ts) (hb : Below w.heap.size w w1) (hrf : RfD w1 W.heap.size M s1 f1 v3 t1) (hv : v3 = v2 ∨ ∀ j, v3.ownBlock = some j → w.heap.size ≤ j) (hts : t1 = ts ∨ t1 = ts ++ [p.r]) (hr : RowAt W p.r.a p.r.n p.r.xs) (hc : p.r.n ≤ p.r.c)
    (hc2 : BkA 36 w2 c (rdC M s1 f1 v3)) (ht : Tu (fun j => j = c) w1 w2) : PlE W w2 g c M s gs v rs s1 f1 v3 t1 := by
  have h1 := h.below hb
  have hsrc : RowsIn W t1 := by
    rcases hts with rfl | rfl
    · exact h.src
    · exact h.src.append (RowsIn.one hr hc)
  have hlow : Below W.heap.size W w2 := h1.low.trans (ht.below h1.dc.lob fun j hj e => by have := h.lo; omega)
  refine ⟨h1.dc.sets h1.cb ht (by decide) (by decide) (by decide) (by decide), hc2, h.lo, ⟨hrf.al, hrf.inv, hrf.z, hrf.nil, hrf.own.tu ht (fun j hj e => h1.cb.neS hrf.own (by decide) (e ▸ hj)), hsrc.below hlow, hrf.short, hrf.co, hrf.le⟩, hsrc, fun j hj e => ?_, hlow⟩
  rcases hv with rfl | hv
  · exact h.sep j hj e
  · have h2 := hv j e
    cases hb : s.bg
    · obtain ⟨_, rfl, _⟩ := h.dc.fresh hb; cases hj
    · have := (World.ownsRow.lt (h.dc.begun hb).1.own j hj).2; omega
/-- The reference's rows are none of the decoder's blocks. -/
theorem PlE.out {W w : World} {g c : Nat} {M : Int} {s s' : DS} {gs : Nat} {v : Value} {rs : List RV} {f : PKV} {v2 : Value} {ts : List RV} (h : PlE W w g c M s gs v rs s' f v2 ts) {j : Nat} (hj : v2.ownBlock = some j) : ¬ dcF g gs v j := fun hf => by
  obtain ⟨cur, hc⟩ := h.rf.own.blk5 hj
  rcases hf with rfl | hf
  · exact h.dc.blk.ne hc (by decide) rfl
  · cases hb : s.bg
    · obtain ⟨_, rfl, rfl⟩ := h.dc.fresh hb
      rcases hf with rfl | hf
      · exact h.dc.blk.ne hc (by decide) rfl
      · cases hf
    · rcases hf with rfl | hf
      · have h2 := (h.dc.begun hb).1.blk
        unfold Bk5 at h2
        rw [h2] at hc
        simp only [Option.some.injEq, Obj.cells.injEq] at hc
        exact absurd hc.2.1 (by decide)
      · exact h.sep j hf hj
/-- The decoder has put, too. -/
theorem PlE.put {W w w' : World} {g c : Nat} {M : Int} {s s1 s' : DS} {gs gs' : Nat} {v v' : Value} {rs rs' : List RV} {f : PKV} {v2 : Value} {ts : List RV} (h : PlE W w g c M s gs v rs s' f v2 ts) (hd : DcAt w' g W.heap.size M s1 gs' v' rs') (ht : Tu (dcF g gs v) w w') (hm : Mv w gs v gs' v') : PlE W w' g c M s1 gs' v' rs' s' f v2 ts := by
  have hlow := h.dc.step h.low ht
  refine ⟨hd, h.cb.tu ht (h.dc.out h.cb (by decide) (by decide) (by decide)), h.lo, ⟨h.rf.al, h.rf.inv, h.rf.z, h.rf.nil, h.rf.own.tu ht (fun j hj => h.out hj), h.src.below hlow, h.rf.short, h.rf.co, h.rf.le⟩, h.src, fun j hj e => ?_, hlow⟩
  rcases hm.2 with q | q
  · exact h.sep j (q ▸ hj) e
  · have h1 := q j hj
    have h2 := (World.ownsRow.lt h.rf.own j e).2
    omega
theorem ple_start {W w : World} {g c : Nat} {M : Int} (hd : DcAt w g W.heap.size M zDS g (.slice none 0 0) []) (hc : BkA 36 w c (rdC M zDS zPK (.slice none 0 0))) (lo : W.heap.size ≤ c) (low : Below W.heap.size W w) : PlE W w g c M zDS g (.slice none 0 0) [] zDS zPK (.slice none 0 0) [] :=
  ⟨hd, hc, lo, ⟨(fun e => by cases e), (fun e => by cases e), (fun _ => ⟨rfl, rfl, rfl⟩), .inl ⟨rfl, rfl⟩, OwnS.nil _ _, RowsIn.nil _, short_nil, rfl, Nat.zero_le _⟩, RowsIn.nil _, (fun j hj => by cases hj), low⟩
/-- A store of the whole, as a step of a region that draws its order. -/
theorem rd_step {ops : Array Oper} {dst : Option Tmp} {typ : TypeId} {pos : String} {aft : Array Edge} {a : Act} {w : World} {K : Act → World → Prop} {Q : Exit → Act → World → Prop} {E : Prop} (x y : Tmp) (R : Nat) (cs us : List Value) (hx : a.eval (.tmp x) = .pointer (some ⟨R, 0, none⟩)) (hy : a.eval (.tmp y) = .agg us.toArray) (hb : BkA 36 w R cs) (hc : cs.length = 17) (hl : us.length = 17) (h1 : ∀ u ∈ us, u.oneCell' = true)
    (h : ∀ w', BkA 36 w' R us → Tu (fun j => j = R) w w' → K (a.put dst undef) w') :
    if Region.wanted { dst := dst, op := .store 36 (.tmp x) (.tmp y), type := typ, pos := pos, after := aft, guard := none } (yielded ops a.tmps) = true then Oper.wp Tryz.prog { dst := dst, op := .store 36 (.tmp x) (.tmp y), type := typ, pos := pos, after := aft, guard := none } a w K Q else E := by
  have hw : Region.wanted { dst := dst, op := .store 36 (.tmp x) (.tmp y), type := typ, pos := pos, after := aft, guard := none } (yielded ops a.tmps) = true := by simp [Region.wanted]
  rw [if_pos hw]
  refine wp_store_mid 36 (.tmp x) (.tmp y) rfl R 0 us.toArray hx hy (fun j hj => ?_) (by rw [List.size_toArray, hl]; exact info_rd) (all_oneCell_toArray h1) (h _ (hb.setAll (by show us.length = cs.length; omega)) (Tu.of_gb (setCells_gb R us 0 w) fun j _ e => (Option.some.inj e).symm))
  rw [List.size_toArray] at hj
  obtain ⟨u, hu⟩ : ∃ u, cs[j]? = some u := ⟨cs[j]'(by omega), List.getElem?_eq_getElem (by omega)⟩
  rw [Nat.zero_add]
  exact ⟨by rw [hb.at j hu]; rfl, hb.frz j⟩
end Go.Proofs.YtnjdldbdkafnaaaGreatDoor
namespace Go.Proofs.YtnjdldbdkafnaaaGreatDoor
open Go.RowKit Go.Sort
set_option linter.unusedVariables false
set_option linter.unusedSimpArgs false
set_option maxRecDepth 4000

theorem DcAt.nobs {w : World} {g B : Nat} {M : Int} {s : DS} {gs : Nat} {v : Value} {rs : List RV} (h : DcAt w g B M s gs v rs) : s.ob.size ≤ 8192 := by
  cases hb : s.bg
  · rw [(h.fresh hb).1]; exact Nat.zero_le _
  · exact (h.begun hb).2.obs
theorem DcAt.len {w : World} {g B : Nat} {M : Int} {s : DS} {gs : Nat} {v : Value} {rs : List RV} (h : DcAt w g B M s gs v rs) : s.L.length = rs.length ∧ rs.length ≤ 256 := by
  refine ⟨by rw [← h.co, List.length_map], ?_⟩
  cases hb : s.bg
  · have h1 := h.co
    rw [(h.fresh hb).1] at h1
    rw [List.map_eq_nil_iff.1 h1]; exact Nat.zero_le _
  · have h1 := (h.begun hb).1
    exact Nat.le_trans h1.le h1.most
theorem dedone_any (g B : Nat) (M : Int) (s : DS) (gs : Nat) (v : Value) (rs : List RV) (w : World) (h : DcAt w g B M s gs v rs) :
    Calls Tryz.prog 13 #[.pointer (some ⟨g, 0, none⟩)] w fun e w' => e = .returned (.bool s.dn) ∧ w' = w := by
  obtain ⟨-, -, -, -, -, -, h6, -⟩ := h.cells
  clear h
  go_enter Tryz.func13, Tryz.ntmps13
  go_wp2
  go_ret
  exact ⟨rfl, rfl⟩
theorem deobj_any (g B : Nat) (M : Int) (s : DS) (gs : Nat) (v : Value) (rs : List RV) (w : World) (h : DcAt w g B M s gs v rs) :
    Calls Tryz.prog 14 #[.pointer (some ⟨g, 0, none⟩)] w fun e w' => e = .returned (.string s.ob) ∧ Below w.heap.size w w' := by
  obtain ⟨-, -, -, -, -, -, -, h7⟩ := h.cells
  have HC := hide (sclone_any s.ob w (by have := h.nobs; omega))
  clear h
  go_enter Tryz.func14, Tryz.ntmps14
  go_wp2_with (go_at_call 30; refine (unhide HC).mono ?_; rintro e w1 ⟨rfl, hb1⟩)
  go_ret
  exact ⟨rfl, hb1⟩
theorem dekept_any (g B : Nat) (M : Int) (s : DS) (gs : Nat) (v : Value) (rs : List RV) (w : World) (h : DcAt w g B M s gs v rs) :
    Calls Tryz.prog 15 #[.pointer (some ⟨g, 0, none⟩)] w fun e w' => e = .returned (.int .i64 (s.L.length : Int)) ∧ w' = w := by
  obtain ⟨-, -, -, -, -, h5, -, -⟩ := h.cells
  rw [h.len.1]
  cases hb : s.bg
  · rw [hb, show ptrD false gs = none from rfl] at h5
    obtain rfl : rs = [] := by have h1 := h.co; rw [(h.fresh hb).1] at h1; exact List.map_eq_nil_iff.1 h1
    clear h
    go_enter Tryz.func15, Tryz.ntmps15
    go_wp2_with (go_at_call 31; refine (len_nil _).mono ?_; rintro e w1 ⟨rfl, hw⟩; obtain rfl := hw.symm; clear hw)
    go_ret
    exact ⟨rfl, rfl⟩
  · rw [hb, show ptrD true gs = some ⟨gs, 0, none⟩ from rfl] at h5
    have HL := hide (len_any gs B s.k s.z (capN M) v rs s.ov w (h.begun hb).1)
    clear h
    go_enter Tryz.func15, Tryz.ntmps15
    go_wp2_with (go_at_call 31; refine (unhide HL).mono ?_; rintro e w1 ⟨rfl, hw⟩; obtain rfl := hw.symm; clear hw)
    go_ret
    exact ⟨rfl, rfl⟩
theorem derank_any (g B : Nat) (M : Int) (s : DS) (gs : Nat) (v : Value) (rs : List RV) (w : World) (ht : Tab w) (h : DcAt w g B M s gs v rs) :
    Calls Tryz.prog 12 #[.pointer (some ⟨g, 0, none⟩)] w fun e w' => e = .returned (.int .i64 (rankC s.L : Int)) ∧ Below w.heap.size w w' := by
  obtain ⟨-, -, -, -, -, h5, -, -⟩ := h.cells
  rw [← h.co, ← rankN_core]
  cases hb : s.bg
  · rw [hb, show ptrD false gs = none from rfl] at h5
    obtain rfl : rs = [] := by have h1 := h.co; rw [(h.fresh hb).1] at h1; exact List.map_eq_nil_iff.1 h1
    clear h
    go_enter Tryz.func12, Tryz.ntmps12
    go_wp2_with (go_at_call 29; refine (rank_nil _).mono ?_; rintro e w1 ⟨rfl, hw⟩; obtain rfl := hw.symm; clear hw)
    go_ret
    exact ⟨rfl, Below.refl _ _⟩
  · rw [hb, show ptrD true gs = some ⟨gs, 0, none⟩ from rfl] at h5
    have HL := hide (rank_any gs B s.k s.z (capN M) v rs s.ov w ht (h.begun hb).1)
    clear h
    generalize rankN rs = R at *
    go_enter Tryz.func12, Tryz.ntmps12
    go_wp2_with (go_at_call 29; refine (unhide HL).mono ?_; rintro e w1 ⟨rfl, hb1⟩)
    go_ret
    exact ⟨rfl, hb1⟩
theorem deover_any (g B : Nat) (M : Int) (s : DS) (gs : Nat) (v : Value) (rs : List RV) (w : World) (h : DcAt w g B M s gs v rs) :
    Calls Tryz.prog 16 #[.pointer (some ⟨g, 0, none⟩)] w fun e w' => e = .returned (.bool s.ov) ∧ w' = w := by
  obtain ⟨-, -, -, -, -, h5, -, -⟩ := h.cells
  cases hb : s.bg
  · rw [hb, show ptrD false gs = none from rfl] at h5
    have ho : s.ov = false := by rw [(h.fresh hb).1]; rfl
    rw [ho]
    clear h
    go_enter Tryz.func16, Tryz.ntmps16
    go_wp2_with (go_at_call 32; refine (over_nil _).mono ?_; rintro e w1 ⟨rfl, hw⟩; obtain rfl := hw.symm; clear hw)
    go_ret
    exact ⟨rfl, rfl⟩
  · rw [hb, show ptrD true gs = some ⟨gs, 0, none⟩ from rfl] at h5
    have HL := hide (over_any gs B s.k s.z (capN M) v rs s.ov w (h.begun hb).1)
    clear h
    generalize s.ov = ov at *
    go_enter Tryz.func16, Tryz.ntmps16
    go_wp2_with (go_at_call 32; refine (unhide HL).mono ?_; rintro e w1 ⟨rfl, hw⟩; obtain rfl := hw.symm; clear hw)
    go_ret
    exact ⟨rfl, rfl⟩
end Go.Proofs.YtnjdldbdkafnaaaGreatDoor
namespace Go.Proofs.YtnjdldbdkafnaaaGreatDoor
open Go.RowKit Go.Sort
set_option linter.unusedVariables false
set_option linter.unusedSimpArgs false
set_option maxRecDepth 4000

/-- Rows that are true of blocks of one size, of full rank: they tell these. -/
theorem obj_true {ss : List ByteArray} {m : Nat} {l : Int} {L : List (List Nat × ByteArray)} {ob : ByteArray} (h : ObjP (ss.length : Int) l L ob) (hz : 0 < sizeOfK (ss.length : Int)) (hg : ∀ x ∈ L, smalls x.1 ∧ x.2.size ≤ 1000 ∧ x.1.length ≤ 10) (hn : L.length ≤ 300) (hv : ∀ x ∈ L, validB (ss.length : Int) x.1 = true)
    (hh : ∀ x ∈ L, holdsB ss x.1 x.2 = true) (hm : ∀ x ∈ L, x.2.size = m) (hms : ∀ b, b < ss.length → (ss.getD b ByteArray.empty).size = m) (hk : rankC L = ss.length) : ob = st ((joinL ss).take l.toNat) := by
  obtain ⟨rs, kn, bs, hc, hP, ho⟩ := h
  have hmem : ∀ r ∈ rs, core r ∈ L := fun r hr => by rw [← hc]; exact List.mem_map.2 ⟨r, hr, rfl⟩
  have hgd : Good rs := fun r hr => ⟨(hg _ (hmem r hr)).1, (hg _ (hmem r hr)).2.1⟩
  have hl : ∀ r ∈ rs, r.xs.length ≤ 10 := fun r hr => (hg _ (hmem r hr)).2.2
  have hn2 : rs.length ≤ 300 := by
    have e : rs.length = L.length := by rw [← hc, List.length_map]
    exact e ▸ hn
  have hfr : Fit 1048576 (vecsL rs) := by
    have := fit_filter hgd hl (fun _ => true)
    rwa [List.filter_eq_self.2 (fun _ _ => rfl)] at this
  have hfl : (rs.filter fun r => validB (ss.length : Int) r.xs) = rs := List.filter_eq_self.2 fun r hr => hv _ (hmem r hr)
  have hrk : rankN rs = ss.length := by rw [rankN_core, hc]; exact hk
  have hr : rankV (ss.length : Int) rs = ss.length := by
    have h1 : rankV (ss.length : Int) rs = (basisL (vecsL rs)).length := by unfold rankV; rw [hfl]
    rw [h1, ← keep_rank hfr, vecsL_len]
    exact hrk
  have h2 := (dec_true hP hgd hl hn2 hz (fun r hr => hh (core r) (hmem r hr)) (fun r hr => hm (core r) (hmem r hr)) hms).2
  rw [if_pos hr] at h2
  rw [ho, h2]
end Go.Proofs.YtnjdldbdkafnaaaGreatDoor
namespace Go.Proofs.YtnjdldbdkafnaaaGreatDoor
open Go.RowKit Go.Sort
set_option linter.unusedVariables false
set_option linter.unusedSimpArgs false
set_option maxRecDepth 4000

theorem BkA.row1 {w : World} {b x : Nat} (h : BkA 53 w b [.int .u64 (x : Int)]) (hx : x < 2 ^ 64) : RowAt w (some ⟨b, 0, none⟩) 1 [x] := by
  refine ⟨rfl, fun y hy => by rw [List.mem_singleton.1 hy]; exact hx, .inr ⟨b, 0, rfl, fun i hi => ?_⟩⟩
  obtain rfl : i = 0 := by omega
  exact h.at 0 rfl
theorem BkA.rowD {w wx : World} {b x : Nat} {g B : Nat} {M : Int} {s : DS} {gs : Nat} {v : Value} {rs : List RV} (h : BkA 53 w b [.int .u64 (x : Int)]) (hx : x < 2 ^ 64) (hd : DcAt w g B M s gs v rs) (ht : Tu (dcF g gs v) w wx) : RowAt wx (some ⟨b, 0, none⟩) 1 [x] :=
  (h.tu ht (hd.words b _ h)).row1 hx
def awP (a : Option Addr) : PKV := ⟨0, 2, 2, 1, 0, ⟨a, 1, 1, [1], ⟨#[97]⟩⟩⟩
def awX (a : Option Addr) : PKV := ⟨5, 2, 2, 1, 0, ⟨a, 1, 1, [1], ⟨#[97]⟩⟩⟩
def awQ (a : Option Addr) : PKV := ⟨0, 2, 2, 1, 0, ⟨a, 1, 1, [3], ⟨#[3]⟩⟩⟩
def awS : DS := ⟨true, 0, 2, 2, 1, [([1], ⟨#[97]⟩)], false, false, ⟨#[]⟩⟩
theorem aw_r1 : rankC [([1], ⟨#[97]⟩)] = 1 := by decide
theorem aw_r2 : rankC [([1], ⟨#[97]⟩), ([3], ⟨#[3]⟩)] = 2 := by decide
theorem aw_a1 (a : Option Addr) : admB zDS (awP a) = true := show admB zDS (awP none) = true by decide
theorem aw_a2 (a : Option Addr) : admB awS (awX a) = false := show admB awS (awX none) = false by decide
theorem aw_a3 (a : Option Addr) : admB awS (awQ a) = true := show admB awS (awQ none) = true by decide
theorem aw_p1 (a : Option Addr) (ob : ByteArray) : dput 9 zDS (awP a) ob = awS ∧ dputE 9 zDS (awP a) = 0 := by
  rw [(dput_yes (aw_a1 a)).1, (dput_yes (ob := ob) (aw_a1 a)).2]
  have h := keepS_in (M := 9) (s := begS zDS (awP a)) (x := ([1], ⟨#[97]⟩)) (ob := ob) rfl (by show 0 < capN 9; decide) (by
    show ¬ (rankC [([1], ⟨#[97]⟩)] : Int) = 2
    rw [aw_r1]; decide)
  exact ⟨h.1, h.2.1⟩
theorem aw_p3 (a : Option Addr) (ob : ByteArray) : dput 9 awS (awQ a) ob = ⟨true, 0, 2, 2, 1, [([1], ⟨#[97]⟩), ([3], ⟨#[3]⟩)], false, true, ob⟩ ∧ dputE 9 awS (awQ a) = 0 ∧ newlyB 9 (begS awS (awQ a)) ([3], ⟨#[3]⟩) = true := by
  rw [(dput_yes (aw_a3 a)).1, (dput_yes (ob := ob) (aw_a3 a)).2]
  have h := keepS_new (M := 9) (s := begS awS (awQ a)) (x := ([3], ⟨#[3]⟩)) (ob := ob) rfl (by show 1 < capN 9; decide) (by
    show (rankC [([1], ⟨#[97]⟩), ([3], ⟨#[3]⟩)] : Int) = 2
    rw [aw_r2]; rfl)
  exact ⟨h.1, h.2.1, h.2.2⟩
theorem sm_one {x : Nat} (h : x < 2 ^ 64) : smalls [x] := fun y hy => by rw [List.mem_singleton.1 hy]; exact h
theorem aw_sm : ∀ x ∈ [(([1] : List Nat), (⟨#[97]⟩ : ByteArray)), ([3], ⟨#[3]⟩)], smalls x.1 ∧ x.2.size ≤ 1000 ∧ x.1.length ≤ 10 := fun x hx => by
  rcases List.mem_cons.1 hx with rfl | hx
  · exact ⟨sm_one (by decide), by decide, by decide⟩
  · rw [List.mem_singleton.1 hx]; exact ⟨sm_one (by decide), by decide, by decide⟩
theorem aw_ob {ob : ByteArray} (h : ObjP 2 2 [([1], ⟨#[97]⟩), ([3], ⟨#[3]⟩)] ob) : ob = ⟨#[97, 98]⟩ := by
  have := obj_true (ss := [⟨#[97]⟩, ⟨#[98]⟩]) (m := 1) h (by decide) aw_sm (by decide) (by decide) (by decide) (by decide) (by decide) aw_r2
  rw [this]
  decide
theorem aw_lit (w : World) : ∃ W, W = (((((w.alloc (.cells #[.int .u64 1] 53)).alloc (.cells #[.int .i64 0, .int .i64 2, .int .i64 2, .int .i64 1, .int .i64 0, .slice (some ⟨w.heap.size, 0, none⟩) 1 1, .string ⟨#[97]⟩] 31)).alloc (.cells #[.int .i64 0, .int .i64 2, .int .i64 2, .int .i64 1, .int .i64 0, .slice (some ⟨w.heap.size + 1 + 1 + 1, 0, none⟩) 1 1, .string ⟨#[3]⟩] 31)).alloc (.cells #[.int .u64 3] 53)).alloc (.cells #[.int .i64 5, .int .i64 2, .int .i64 2, .int .i64 1, .int .i64 0, .slice (some ⟨w.heap.size, 0, none⟩) 1 1, .string ⟨#[97]⟩] 31)) ∧
    BkA 53 W w.heap.size [.int .u64 ((1 : Nat) : Int)] ∧ BkA 31 W (w.heap.size + 1) [.int .i64 0, .int .i64 2, .int .i64 2, .int .i64 1, .int .i64 0, .slice (some ⟨w.heap.size, 0, none⟩) 1 1, .string ⟨#[97]⟩] ∧
      BkA 31 W (w.heap.size + 1 + 1) [.int .i64 0, .int .i64 2, .int .i64 2, .int .i64 1, .int .i64 0, .slice (some ⟨w.heap.size + 1 + 1 + 1, 0, none⟩) 1 1, .string ⟨#[3]⟩] ∧ BkA 53 W (w.heap.size + 1 + 1 + 1) [.int .u64 ((3 : Nat) : Int)] ∧
        BkA 31 W (w.heap.size + 1 + 1 + 1 + 1) [.int .i64 5, .int .i64 2, .int .i64 2, .int .i64 1, .int .i64 0, .slice (some ⟨w.heap.size, 0, none⟩) 1 1, .string ⟨#[97]⟩] ∧ Below w.heap.size w W := by
  have l1 := alloc_low w (.cells #[.int .u64 1] 53)
  have b1 : BkA 53 (w.alloc (.cells #[.int .u64 1] 53)) w.heap.size [.int .u64 ((1 : Nat) : Int)] := bkA_new 53 w [.int .u64 1]
  have z1 := alloc_size w (.cells #[.int .u64 1] 53)
  generalize w.alloc (.cells #[.int .u64 1] 53) = w1 at *
  have l2 := alloc_low w1 (.cells #[.int .i64 0, .int .i64 2, .int .i64 2, .int .i64 1, .int .i64 0, .slice (some ⟨w.heap.size, 0, none⟩) 1 1, .string ⟨#[97]⟩] 31)
  have b2 : BkA 31 (w1.alloc (.cells #[.int .i64 0, .int .i64 2, .int .i64 2, .int .i64 1, .int .i64 0, .slice (some ⟨w.heap.size, 0, none⟩) 1 1, .string ⟨#[97]⟩] 31)) w1.heap.size _ := bkA_new 31 w1 [.int .i64 0, .int .i64 2, .int .i64 2, .int .i64 1, .int .i64 0, .slice (some ⟨w.heap.size, 0, none⟩) 1 1, .string ⟨#[97]⟩]
  have z2 := alloc_size w1 (.cells #[.int .i64 0, .int .i64 2, .int .i64 2, .int .i64 1, .int .i64 0, .slice (some ⟨w.heap.size, 0, none⟩) 1 1, .string ⟨#[97]⟩] 31)
  generalize w1.alloc (.cells #[.int .i64 0, .int .i64 2, .int .i64 2, .int .i64 1, .int .i64 0, .slice (some ⟨w.heap.size, 0, none⟩) 1 1, .string ⟨#[97]⟩] 31) = w2 at *
  have l3 := alloc_low w2 (.cells #[.int .i64 0, .int .i64 2, .int .i64 2, .int .i64 1, .int .i64 0, .slice (some ⟨w.heap.size + 1 + 1 + 1, 0, none⟩) 1 1, .string ⟨#[3]⟩] 31)
  have b3 : BkA 31 (w2.alloc (.cells #[.int .i64 0, .int .i64 2, .int .i64 2, .int .i64 1, .int .i64 0, .slice (some ⟨w.heap.size + 1 + 1 + 1, 0, none⟩) 1 1, .string ⟨#[3]⟩] 31)) w2.heap.size _ := bkA_new 31 w2 [.int .i64 0, .int .i64 2, .int .i64 2, .int .i64 1, .int .i64 0, .slice (some ⟨w.heap.size + 1 + 1 + 1, 0, none⟩) 1 1, .string ⟨#[3]⟩]
  have z3 := alloc_size w2 (.cells #[.int .i64 0, .int .i64 2, .int .i64 2, .int .i64 1, .int .i64 0, .slice (some ⟨w.heap.size + 1 + 1 + 1, 0, none⟩) 1 1, .string ⟨#[3]⟩] 31)
  generalize w2.alloc (.cells #[.int .i64 0, .int .i64 2, .int .i64 2, .int .i64 1, .int .i64 0, .slice (some ⟨w.heap.size + 1 + 1 + 1, 0, none⟩) 1 1, .string ⟨#[3]⟩] 31) = w3 at *
  have l4 := alloc_low w3 (.cells #[.int .u64 3] 53)
  have b4 : BkA 53 (w3.alloc (.cells #[.int .u64 3] 53)) w3.heap.size [.int .u64 ((3 : Nat) : Int)] := bkA_new 53 w3 [.int .u64 3]
  have z4 := alloc_size w3 (.cells #[.int .u64 3] 53)
  generalize w3.alloc (.cells #[.int .u64 3] 53) = w4 at *
  have l5 := alloc_low w4 (.cells #[.int .i64 5, .int .i64 2, .int .i64 2, .int .i64 1, .int .i64 0, .slice (some ⟨w.heap.size, 0, none⟩) 1 1, .string ⟨#[97]⟩] 31)
  have b5 : BkA 31 (w4.alloc (.cells #[.int .i64 5, .int .i64 2, .int .i64 2, .int .i64 1, .int .i64 0, .slice (some ⟨w.heap.size, 0, none⟩) 1 1, .string ⟨#[97]⟩] 31)) w4.heap.size _ := bkA_new 31 w4 [.int .i64 5, .int .i64 2, .int .i64 2, .int .i64 1, .int .i64 0, .slice (some ⟨w.heap.size, 0, none⟩) 1 1, .string ⟨#[97]⟩]
  refine ⟨_, rfl, (((b1.below l2).below l3).below l4).below l5, ?_, ?_, ?_, ?_, below0 (below0 (below0 (below0 l1 l2) l3) l4) l5⟩
  · have := ((b2.below l3).below l4).below l5
    rwa [z1] at this
  · have := (b3.below l4).below l5
    rwa [z2, z1] at this
  · have := b4.below l5
    rwa [z3, z2, z1] at this
  · rwa [z4, z3, z2, z1] at b5

set_option maxHeartbeats 4000000 in
theorem awake_any (w : World) (ht : Tab w) : Calls Tryz.prog 7 #[] w fun e w' => e = .returned (.bool true) ∧ Below w.heap.size w w' := by
  have HT := hide ht
  clear ht
  go_enter Tryz.func7, Tryz.ntmps7
  go_wp2_with fail
  refine (denew_any 9 w).mono ?_
  rintro e w1 ⟨rfl, hd1, hb1⟩
  have HD1 := hide hd1
  have HB1 := hide hb1
  clear hd1 hb1
  go_wp2_with fail
  obtain ⟨W, hW, k1, kp, kq, k3, kx, hbW⟩ := aw_lit w1
  rw [← hW]
  clear hW
  have hdW := (unhide HD1).below hbW
  have hbw := below0 (unhide HB1) hbW
  clear HD1 HB1 hbW
  generalize w1.heap.size + 1 + 1 + 1 + 1 = X at *
  generalize w1.heap.size + 1 + 1 + 1 = U at *
  generalize w1.heap.size + 1 + 1 = Q at *
  generalize w1.heap.size + 1 = P at *
  generalize w1.heap.size = H at *
  have HTA := hide (fun wx (hb : Below w.heap.size W wx) => (unhide HT).below (hbw.trans hb))
  refine (dput_any w.heap.size w.heap.size 9 zDS w.heap.size (.slice none 0 0) [] (awP (some ⟨H, 0, none⟩)) W (unhide HTA) hdW (fun wx ht => k1.rowD (by decide) hdW ht) (show 1 ≤ 10 by decide) (show 1 ≤ 1000 by decide)).mono ?_
  rintro e w2 ⟨gs2, v2, rs2, ob2, he, -, hd2, ht2, -⟩
  rw [(aw_p1 _ ob2).2] at he
  rw [(aw_p1 _ ob2).1] at hd2
  obtain rfl := he
  have hb2 := hdW.step hbw ht2
  have k1 := k1.tu ht2 (hdW.words _ _ k1)
  have k3 := k3.tu ht2 (hdW.words _ _ k3)
  have kq := kq.tu ht2 (hdW.out kq (by decide) (by decide) (by decide))
  have kx := kx.tu ht2 (hdW.out kx (by decide) (by decide) (by decide))
  clear hdW ht2 hbw HTA kp
  have x0 := kx.at 0 rfl
  have x1 := kx.at 1 rfl
  have x2 := kx.at 2 rfl
  have x3 := kx.at 3 rfl
  have x4 := kx.at 4 rfl
  have x5 := kx.at 5 rfl
  have x6 := kx.at 6 rfl
  have HDN := hide (dedone_any _ _ _ _ _ _ _ _ hd2)
  have HTA := hide (fun wx (hb : Below w.heap.size w2 wx) => (unhide HT).below (hb2.trans hb))
  have HPX := hide (dput_any w.heap.size w.heap.size 9 awS gs2 v2 rs2 (awX (some ⟨H, 0, none⟩)) w2 (unhide HTA) hd2 (fun wx ht => k1.rowD (by decide) hd2 ht) (show 1 ≤ 10 by decide) (show 1 ≤ 1000 by decide))
  have HD2 := hide hd2
  have HB2 := hide hb2
  have HK3 := hide k3
  have HKQ := hide kq
  clear hd2 hb2 k1 k3 kq kx
  go_wp2_with fail
  refine (unhide HDN).mono ?_
  rintro e w3 ⟨rfl, hw⟩
  obtain rfl := hw.symm
  clear hw HDN
  go_wp2_with fail
  refine (unhide HPX).mono ?_
  rintro e w3 ⟨gs3, v3, rs3, ob3, he, -, hd3, ht3, -⟩
  have hno := dput_no (M := 9) (ob := ob3) (aw_a2 (some ⟨H, 0, none⟩))
  rw [hno.2] at he
  rw [hno.1] at hd3
  obtain rfl := he
  have hb3 := (unhide HD2).step (unhide HB2) ht3
  have k3 := (unhide HK3).tu ht3 ((unhide HD2).words _ _ (unhide HK3))
  have kq := (unhide HKQ).tu ht3 ((unhide HD2).out (unhide HKQ) (by decide) (by decide) (by decide))
  clear ht3 hno HPX HTA HD2 HB2 HK3 HKQ x0 x1 x2 x3 x4 x5 x6
  have x0 := kq.at 0 rfl
  have x1 := kq.at 1 rfl
  have x2 := kq.at 2 rfl
  have x3 := kq.at 3 rfl
  have x4 := kq.at 4 rfl
  have x5 := kq.at 5 rfl
  have x6 := kq.at 6 rfl
  have HTA := hide (fun wx (hb : Below w.heap.size w3 wx) => (unhide HT).below (hb3.trans hb))
  have HPQ := hide (dput_any w.heap.size w.heap.size 9 awS gs3 v3 rs3 (awQ (some ⟨U, 0, none⟩)) w3 (unhide HTA) hd3 (fun wx ht => k3.rowD (by decide) hd3 ht) (show 1 ≤ 10 by decide) (show 1 ≤ 1000 by decide))
  have HD3 := hide hd3
  have HB3 := hide hb3
  clear hd3 hb3 k3 kq
  go_wp2_with fail
  refine (unhide HPQ).mono ?_
  rintro e w4 ⟨gs4, v4, rs4, ob4, he, hT4, hd4, ht4, -⟩
  have hp3 := aw_p3 (some ⟨U, 0, none⟩) ob4
  have hob := aw_ob (hT4 (aw_a3 _) hp3.2.2)
  rw [hp3.2.1] at he
  rw [hp3.1] at hd4
  obtain rfl := hob
  obtain rfl := he
  have hb4 := (unhide HD3).step (unhide HB3) ht4
  have HTB := hide ((unhide HT).below hb4)
  have HDN := hide (dedone_any _ _ _ _ _ _ _ _ hd4)
  have HOB := hide (deobj_any _ _ _ _ _ _ _ _ hd4)
  have hRK := fun wx (hb : Below w4.heap.size w4 wx) => derank_any _ _ _ _ _ _ _ wx ((unhide HTB).below hb) (hd4.below hb)
  have HKP := hide (fun wx (hb : Below w4.heap.size w4 wx) => dekept_any _ _ _ _ _ _ _ wx (hd4.below hb))
  have HOV := hide (fun wx (hb : Below w4.heap.size w4 wx) => deover_any _ _ _ _ _ _ _ wx (hd4.below hb))
  rw [aw_r2] at hRK
  have HRK := hide hRK
  have HB4 := hide hb4
  clear hd4 hb4 ht4 hT4 hp3 hRK HPQ HTA HD3 HB3 HTB x0 x1 x2 x3 x4 x5 x6
  go_wp2_with (first
    | (go_at_call 13; refine (unhide HDN).mono ?_; rintro e w5 ⟨rfl, hw⟩; obtain rfl := hw.symm; clear hw)
    | (go_at_call 14; refine (unhide HOB).mono ?_; rintro e w5 ⟨rfl, hb5⟩; have HB5 := hide hb5; clear hb5)
    | (go_at_call 12; refine (unhide HRK _ (unhide HB5)).mono ?_; rintro e w6 ⟨rfl, hb6⟩; have HB6 := hide (below0 (unhide HB5) hb6); clear hb6)
    | (go_at_call 15; refine (unhide HKP _ (unhide HB6)).mono ?_; rintro e w7 ⟨rfl, hw⟩; obtain rfl := hw.symm; clear hw)
    | (go_at_call 16; refine (unhide HOV _ (unhide HB6)).mono ?_; rintro e w7 ⟨rfl, hw⟩; obtain rfl := hw.symm; clear hw))
  go_ret
  exact ⟨rfl, below0 (unhide HB4) (unhide HB6)⟩
end Go.Proofs.YtnjdldbdkafnaaaGreatDoor
namespace Go.Proofs.YtnjdldbdkafnaaaGreatDoor
open Go.RowKit Go.Sort
set_option linter.unusedVariables false
set_option linter.unusedSimpArgs false
set_option maxRecDepth 4000

/-- A packet of a slice that came in, put into a decoder behind it. -/
theorem dput_of {W w : World} {g : Nat} {M : Int} {s : DS} {gs : Nat} {v : Value} {rs : List RV} {a : Option Addr} {n : Nat} {ps : List PKV} (ht : Tab W) (hb : Below W.heap.size W w) (hd : DcAt w g W.heap.size M s gs v rs) (h : PksAt W a n ps) (hs : shortP ps) {j : Nat} (hj : j < n) :
    Calls Tryz.prog 11 #[.pointer (some ⟨g, 0, none⟩), .agg #[.int .i64 (ps.getD j .dflt).o, .int .i64 (ps.getD j .dflt).l, .int .i64 (ps.getD j .dflt).k, .int .i64 (ps.getD j .dflt).z, .int .i64 (ps.getD j .dflt).h, .slice (ps.getD j .dflt).r.a (ps.getD j .dflt).r.n (ps.getD j .dflt).r.c, .string (ps.getD j .dflt).r.s]] w
      fun e w' => DputR w w' g W.heap.size M s gs v (ps.getD j .dflt) e :=
  dput_any g W.heap.size M s gs v rs (ps.getD j .dflt) w (fun wx hx => ht.below (hb.trans hx)) hd (fun wx hx => (h.2.1 j hj).below (hd.step hb hx)) (hs j).1 (hs j).2

end Go.Proofs.YtnjdldbdkafnaaaGreatDoor
namespace Go.Proofs.YtnjdldbdkafnaaaGreatDoor
open Go.RowKit Go.Sort
set_option linter.unusedVariables false
set_option linter.unusedSimpArgs false
set_option maxRecDepth 4000

theorem rnew16_any (M : Int) (w : World) : Calls Tryz.prog 9 #[.int .i64 M] w fun e w' => e = .returned (.agg (rdC M zDS zPK (.slice none 0 0)).toArray) ∧ Below w.heap.size w w' := by
  go_enter Tryz.func9, Tryz.ntmps9
  go_wp2
  exact bodyPost_ret (v := .agg (rdC M zDS zPK (.slice none 0 0)).toArray) (by simp [results, Tryz.results9, go_sem, rdC, zDS, zPK, m2N, rankC_nil]) rfl ⟨rfl, (Below.refl _ _).alloc (Nat.le_refl _) _⟩
end Go.Proofs.YtnjdldbdkafnaaaGreatDoor
