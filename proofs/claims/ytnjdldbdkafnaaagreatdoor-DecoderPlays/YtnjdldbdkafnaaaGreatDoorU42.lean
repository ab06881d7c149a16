/-
  Contract of bucketlineref14.Decode.
  The reference's decoder: loads and stores of it as a whole; contracts of bucketlineref16.New, Put.
  Contract of bucketlineref16.Put where the packet may not be put, and where the decoder has begun. (Written by gen_ou.py.)
-/
import Derived.Test.YtnjdldbdkafnaaaGreatDoorU41
import Derived.Test.YtnjdldbdkafnaaaGreatDoorU32
import Derived.Test.YtnjdldbdkafnaaaGreatDoorU39
import Derived.Test.YtnjdldbdkafnaaaGreatDoorIE
import Derived.Deep.MidRow
import Derived.Deep.CutRange
import Derived.Test.YtnjdldbdkafnaaaGreatDoorU38
namespace Go.Proofs.YtnjdldbdkafnaaaGreatDoor
open Go.RowKit Go.Sort
set_option linter.unusedVariables false
set_option linter.unusedSimpArgs false
set_option maxRecDepth 4000

set_option maxHeartbeats 2000000 in
theorem rdecode_any (k : Int) (a : Option Addr) (n c : Nat) (rs : List RV) (kn : List Nat) (bs : List ByteArray) (hPP : PeelP k rs kn bs) (w : World) (h : RowsAt w a n rs) (hcap : CapR rs) (hs : shortR rs) (hn : n ≤ 300) :
    Calls Tryz.prog 24 #[.int .i64 k, .slice a n c] w fun e w' => ∃ a1 m1 c1, e = .returned (.tuple #[.slice a1 m1 c1, .bool (okC k (peelC k rs kn bs))]) ∧ OwnT w' w.heap.size (.slice a1 m1 c1) (solveC k (peelC k rs kn bs)) ∧ Below w.heap.size w w' := by
  have HP := hide (rpeel_any k a n c rs w h hs hcap (by omega))
  have HG := hide (good_of h hs)
  have HLN := hide (len_of h hs)
  have Hs := hide hs
  have HN := hide h.1
  have HVD := hide (peel_valid hPP (good_of h hs))
  clear h hs hcap
  go_enter Tryz.func24, Tryz.ntmps24
  go_wp2_with fail
  refine (unhide HP).mono ?_
  rintro e w1 ⟨a1, m1, c1, ts1, a2, m2, c2, ts2, rfl, hP⟩
  obtain ⟨s1, s2, l1, l2⟩ := hP.short (unhide HG) (unhide Hs) (unhide HLN)
  obtain ⟨kn', bs', p1, o1, i1, e1, o2, i2, e2, hb1⟩ := hP
  obtain ⟨rfl, rfl⟩ := hPP.uniq p1
  have hN := unhide HN
  have hE : (ts1 ++ ts2).map core = peelC k rs kn bs := by rw [List.map_append, e1, e2]; rfl
  have HVC := hide (valid_all_core hE (unhide HVD))
  have HO1 := hide o1
  have HO2 := hide o2
  have HI := hide (i1.append i2)
  have HSA := hide (short_append s1 s2)
  have hl1 : ts1.length ≤ 1048576 := by omega
  have hlA : ts1.length + ts2.length ≤ 1000 := by omega
  have HB1 := hide hb1
  obtain ⟨A, hA⟩ : ∃ A, A = ts1 ++ ts2 := ⟨_, rfl⟩
  rw [← hA] at HVC HI HSA
  have HAE := hide hA
  have HAL : A.length ≤ 1000 := by rw [hA, List.length_append]; exact hlA
  have HRS := hide (fun (a3 : Option Addr) (m3 c3 : Nat) (w3 : World) (ho : OwnS w3 w1.heap.size (.slice a3 m3 c3) A) (hi : RowsIn w3 A) => rsolve_any k a3 m3 c3 A w3 (ho.at' hi).1 (CapR.of hi) (unhide HSA) (by have := (ho.at' hi).2.1; omega))
  rw [unhide HVC] at HRS
  clear HP p1 o1 i1 e1 o2 i2 e2 hb1 s1 s2 l1 l2 hE hN hPP hA HVC HVD
  go_wp2_with (first | (at_builtin; refine wpList_appendS rfl (.const (.slice none 0 0)) (.tmp 15) rfl w1.heap.size w.heap.size (.slice none 0 0) (.slice a1 m1 c1) [] ts1 rfl rfl (OwnS.nil _ _) (Nat.le_refl _) (unhide HO1) (by simpa using hl1) ?_; intro v2 w2 ho2 hb2; rw [List.nil_append] at ho2; have HX2 := hide ho2; have HL2 := hide ((unhide HO2).below hb2); have HB2 := hide hb2; clear ho2 hb2) | (at_builtin; refine wpList_appendS rfl (.tmp 16) (.tmp 17) rfl w1.heap.size w.heap.size v2 (.slice a2 m2 c2) ts1 ts2 rfl rfl (unhide HX2) (unhide HB2).size (unhide HL2) (by omega) ?_; intro v3 w3 ho3 hb3; rw [← unhide HAE] at ho3; obtain ⟨a3, c3, rfl⟩ := ho3.shape; have hb13 := (unhide HB2).trans hb3; have HK3 := hide (unhide HRS a3 _ c3 w3 ho3 ((unhide HI).below hb13)); have HB3 := hide (below0 (unhide HB1) hb13); clear ho3 hb3 hb13) | (go_at_call 44; refine (unhide HK3).mono ?_; rintro e w4 ⟨a4, m4, c4, rfl, ho4, hb4⟩; have HO4 := hide (ho4.mono (unhide HB3).size); have HB4 := hide (below0 (unhide HB3) hb4); clear ho4 hb4))
  go_ret2
  exact ⟨_, _, _, rfl, unhide HO4, unhide HB4⟩
end Go.Proofs.YtnjdldbdkafnaaaGreatDoor
namespace Go.Proofs.YtnjdldbdkafnaaaGreatDoor
open Go.RowKit Go.Sort
set_option linter.unusedVariables false
set_option linter.unusedSimpArgs false
set_option maxRecDepth 4000

def zPK : PKV := ⟨0, 0, 0, 0, 0, ⟨none, 0, 0, [], ⟨#[]⟩⟩⟩
def m2N (b : Bool) (M : Int) : Int := if b = true then (capN M : Int) else 0
/-- The cells of the reference's decoder. -/
def rdC (M : Int) (s : DS) (f : PKV) (v : Value) : List Value := [.int .i64 M, .int .i64 (rankC s.L : Int), .bool s.bg, .bool s.dn, .int .i64 f.o, .int .i64 f.l, .int .i64 f.k, .int .i64 f.z, .int .i64 f.h, .slice f.r.a f.r.n f.r.c, .string f.r.s, .int .i64 s.k, .int .i64 s.z, .int .i64 (m2N s.bg M), v, .bool s.ov, .string s.ob]
theorem rdC_one (M : Int) (s : DS) (f : PKV) (a : Option Addr) (n c : Nat) : ∀ u ∈ rdC M s f (.slice a n c), u.oneCell' = true := fun u hu => by
  unfold rdC at hu
  simp only [List.mem_cons, List.not_mem_nil, or_false] at hu
  rcases hu with h | h | h | h | h | h | h | h | h | h | h | h | h | h | h | h | h <;> (rw [h]; rfl)
theorem info_rd : (Tryz.prog.info? 36).map (·.size) = some 17 := by kernel_rfl
/-- The whole of it is read. -/
theorem rd_load {ops : Array Oper} {rest : List Oper} {dst : Option Tmp} {typ : TypeId} {pos : String} {aft : Array Edge} {a : Act} {w : World} {Q : Exit → Act → World → Prop} (x : Tmp) (D : Nat) (cs : List Value) (hx : a.eval (.tmp x) = .pointer (some ⟨D, 0, none⟩)) (hb : BkA 36 w D cs) (hl : cs.length = 17)
    (h : wpList Tryz.prog ops Q rest (a.put dst (.agg cs.toArray)) w) : wpList Tryz.prog ops Q ({ dst := dst, op := .load 36 (.tmp x), type := typ, pos := pos, after := aft, guard := none } :: rest) a w :=
  wpList_load_mid rfl 36 (.tmp x) rfl D 0 hx cs _ (fun j v hv => by rw [Nat.zero_add]; exact hb.at j hv) Tryz.underlying36 rfl (by rw [hl]; exact info_rd) h
/-- The whole of it is written. -/
theorem rd_store {ops : Array Oper} {rest : List Oper} {dst : Option Tmp} {typ : TypeId} {pos : String} {aft : Array Edge} {a : Act} {w : World} {Q : Exit → Act → World → Prop} (x y : Tmp) (R : Nat) (cs us : List Value) (hx : a.eval (.tmp x) = .pointer (some ⟨R, 0, none⟩)) (hy : a.eval (.tmp y) = .agg us.toArray) (hb : BkA 36 w R cs) (hc : cs.length = 17) (hl : us.length = 17) (h1 : ∀ u ∈ us, u.oneCell' = true)
    (h : ∀ w', BkA 36 w' R us → Tu (fun j => j = R) w w' → wpList Tryz.prog ops Q rest (a.put dst undef) w') : wpList Tryz.prog ops Q ({ dst := dst, op := .store 36 (.tmp x) (.tmp y), type := typ, pos := pos, after := aft, guard := none } :: rest) a w := by
  refine wpList_store_mid rfl 36 (.tmp x) (.tmp y) rfl R 0 us.toArray hx hy (fun j hj => ?_) (by rw [List.size_toArray, hl]; exact info_rd) (all_oneCell_toArray h1) (h _ (hb.setAll (by show us.length = cs.length; omega)) (Tu.of_gb (setCells_gb R us 0 w) fun j _ e => (Option.some.inj e).symm))
  rw [List.size_toArray] at hj
  obtain ⟨u, hu⟩ : ∃ u, cs[j]? = some u := ⟨cs[j]'(by omega), List.getElem?_eq_getElem (by omega)⟩
  rw [Nat.zero_add]
  exact ⟨by rw [hb.at j hu]; rfl, hb.frz j⟩
theorem results_rdA {tmps : Array Value} {W : World} {g : Nat} {x : Int} {cs : List Value} (h2 : tmps.getD 4 undef = .pointer (some ⟨g, 0, none⟩)) (h3 : tmps.getD 5 undef = .int .i64 x) (hq : BkA 36 W g cs) (hl : cs.length = 17) :
    (results Tryz.f10 tmps).run Tryz.prog W = .ok (.tuple #[.agg cs.toArray, .int .i64 x]) W := by
  have hld := run_loadVar_mid (P := Tryz.prog) W g 0 36 cs _ (fun j v hv => by rw [Nat.zero_add]; exact hq.at j hv) Tryz.underlying36 rfl (by rw [hl]; exact info_rd)
  have h2' : tmps[4]?.getD undef = .pointer (some ⟨g, 0, none⟩) := by simpa using h2
  have h3' : tmps[5]?.getD undef = .int .i64 x := by simpa using h3
  simp [results, Tryz.results10, asAddr, h2', h3', hld]

/-- What the reference's decoder leans on in memory. -/
structure RfD (w : World) (B : Nat) (M : Int) (s : DS) (f : PKV) (v : Value) (ts : List RV) : Prop where
  al : s.bg = true → f.o = s.o ∧ f.l = s.l ∧ f.k = s.k ∧ f.z = s.z
  inv : s.bg = true → DInv s
  z : s.bg = false → s = zDS ∧ f = zPK ∧ v = .slice none 0 0
  nil : NilS v ts
  own : OwnS w B v ts
  src : RowsIn w ts
  short : shortR ts
  co : ts.map core = s.L
  le : s.L.length ≤ 256
theorem RfD.below {w w' : World} {B : Nat} {M : Int} {s : DS} {f : PKV} {v : Value} {ts : List RV} (h : RfD w B M s f v ts) (hb : Below w.heap.size w w') : RfD w' B M s f v ts :=
  ⟨h.al, h.inv, h.z, h.nil, h.own.below hb, h.src.below hb, h.short, h.co, h.le⟩
/-- What the reference's Put leaves. -/
def RdP (w w' : World) (B : Nat) (M : Int) (s : DS) (f : PKV) (v : Value) (ts : List RV) (p : PKV) (e : Ending) : Prop :=
  ∃ ob f' v' ts', e = .returned (.tuple #[.agg (rdC M (dput M s p ob) f' v').toArray, .int .i64 (dputE M s p)]) ∧ (admB s p = true → TellsP M (begS s p) (p.r.xs, p.r.s) ob) ∧ RfD w' B M (dput M s p ob) f' v' ts' ∧ Below w.heap.size w w' ∧ (v' = v ∨ ∀ j, v'.ownBlock = some j → w.heap.size ≤ j) ∧ (ts' = ts ∨ ts' = ts ++ [p.r])
end Go.Proofs.YtnjdldbdkafnaaaGreatDoor
namespace Go.Proofs.YtnjdldbdkafnaaaGreatDoor
open Go.RowKit Go.Sort
set_option linter.unusedVariables false
set_option linter.unusedSimpArgs false
set_option maxRecDepth 4000

theorem rd_boxes (p : PKV) (cs : List Value) (w : World) : BkA 36 (((w.alloc (.cells (cs).toArray 36)).alloc (.cells #[.int .i64 p.o, .int .i64 p.l, .int .i64 p.k, .int .i64 p.z, .int .i64 p.h, .slice p.r.a p.r.n p.r.c, .string p.r.s] 31)).alloc (.cells #[.int .i64 0, .int .i64 0, .bool false, .bool false, .int .i64 0, .int .i64 0, .int .i64 0, .int .i64 0, .int .i64 0, .slice none 0 0, .string ⟨#[]⟩, .int .i64 0, .int .i64 0, .int .i64 0, .slice none 0 0, .bool false, .string ⟨#[]⟩] 36)) w.heap.size cs ∧ BkA 31 (((w.alloc (.cells (cs).toArray 36)).alloc (.cells #[.int .i64 p.o, .int .i64 p.l, .int .i64 p.k, .int .i64 p.z, .int .i64 p.h, .slice p.r.a p.r.n p.r.c, .string p.r.s] 31)).alloc (.cells #[.int .i64 0, .int .i64 0, .bool false, .bool false, .int .i64 0, .int .i64 0, .int .i64 0, .int .i64 0, .int .i64 0, .slice none 0 0, .string ⟨#[]⟩, .int .i64 0, .int .i64 0, .int .i64 0, .slice none 0 0, .bool false, .string ⟨#[]⟩] 36)) (w.heap.size + 1) [.int .i64 p.o, .int .i64 p.l, .int .i64 p.k, .int .i64 p.z, .int .i64 p.h, .slice p.r.a p.r.n p.r.c, .string p.r.s] ∧ BkA 36 (((w.alloc (.cells (cs).toArray 36)).alloc (.cells #[.int .i64 p.o, .int .i64 p.l, .int .i64 p.k, .int .i64 p.z, .int .i64 p.h, .slice p.r.a p.r.n p.r.c, .string p.r.s] 31)).alloc (.cells #[.int .i64 0, .int .i64 0, .bool false, .bool false, .int .i64 0, .int .i64 0, .int .i64 0, .int .i64 0, .int .i64 0, .slice none 0 0, .string ⟨#[]⟩, .int .i64 0, .int .i64 0, .int .i64 0, .slice none 0 0, .bool false, .string ⟨#[]⟩] 36)) (w.heap.size + 1 + 1) [.int .i64 0, .int .i64 0, .bool false, .bool false, .int .i64 0, .int .i64 0, .int .i64 0, .int .i64 0, .int .i64 0, .slice none 0 0, .string ⟨#[]⟩, .int .i64 0, .int .i64 0, .int .i64 0, .slice none 0 0, .bool false, .string ⟨#[]⟩] ∧ Below w.heap.size w (((w.alloc (.cells (cs).toArray 36)).alloc (.cells #[.int .i64 p.o, .int .i64 p.l, .int .i64 p.k, .int .i64 p.z, .int .i64 p.h, .slice p.r.a p.r.n p.r.c, .string p.r.s] 31)).alloc (.cells #[.int .i64 0, .int .i64 0, .bool false, .bool false, .int .i64 0, .int .i64 0, .int .i64 0, .int .i64 0, .int .i64 0, .slice none 0 0, .string ⟨#[]⟩, .int .i64 0, .int .i64 0, .int .i64 0, .slice none 0 0, .bool false, .string ⟨#[]⟩] 36)) := by
  have l1 := alloc_low w (.cells cs.toArray 36)
  have b1 : BkA 36 (w.alloc (.cells cs.toArray 36)) w.heap.size cs := bkA_new 36 w cs
  have z1 := alloc_size w (.cells cs.toArray 36)
  generalize w.alloc (.cells cs.toArray 36) = w1 at *
  have l2 := alloc_low w1 (.cells #[.int .i64 p.o, .int .i64 p.l, .int .i64 p.k, .int .i64 p.z, .int .i64 p.h, .slice p.r.a p.r.n p.r.c, .string p.r.s] 31)
  have b2 : BkA 31 (w1.alloc (.cells #[.int .i64 p.o, .int .i64 p.l, .int .i64 p.k, .int .i64 p.z, .int .i64 p.h, .slice p.r.a p.r.n p.r.c, .string p.r.s] 31)) w1.heap.size [.int .i64 p.o, .int .i64 p.l, .int .i64 p.k, .int .i64 p.z, .int .i64 p.h, .slice p.r.a p.r.n p.r.c, .string p.r.s] := bkA_new 31 w1 [.int .i64 p.o, .int .i64 p.l, .int .i64 p.k, .int .i64 p.z, .int .i64 p.h, .slice p.r.a p.r.n p.r.c, .string p.r.s]
  have z2 := alloc_size w1 (.cells #[.int .i64 p.o, .int .i64 p.l, .int .i64 p.k, .int .i64 p.z, .int .i64 p.h, .slice p.r.a p.r.n p.r.c, .string p.r.s] 31)
  generalize w1.alloc (.cells #[.int .i64 p.o, .int .i64 p.l, .int .i64 p.k, .int .i64 p.z, .int .i64 p.h, .slice p.r.a p.r.n p.r.c, .string p.r.s] 31) = w2 at *
  have l3 := alloc_low w2 (.cells #[.int .i64 0, .int .i64 0, .bool false, .bool false, .int .i64 0, .int .i64 0, .int .i64 0, .int .i64 0, .int .i64 0, .slice none 0 0, .string ⟨#[]⟩, .int .i64 0, .int .i64 0, .int .i64 0, .slice none 0 0, .bool false, .string ⟨#[]⟩] 36)
  have b3 : BkA 36 (w2.alloc (.cells #[.int .i64 0, .int .i64 0, .bool false, .bool false, .int .i64 0, .int .i64 0, .int .i64 0, .int .i64 0, .int .i64 0, .slice none 0 0, .string ⟨#[]⟩, .int .i64 0, .int .i64 0, .int .i64 0, .slice none 0 0, .bool false, .string ⟨#[]⟩] 36)) w2.heap.size [.int .i64 0, .int .i64 0, .bool false, .bool false, .int .i64 0, .int .i64 0, .int .i64 0, .int .i64 0, .int .i64 0, .slice none 0 0, .string ⟨#[]⟩, .int .i64 0, .int .i64 0, .int .i64 0, .slice none 0 0, .bool false, .string ⟨#[]⟩] := bkA_new 36 w2 [.int .i64 0, .int .i64 0, .bool false, .bool false, .int .i64 0, .int .i64 0, .int .i64 0, .int .i64 0, .int .i64 0, .slice none 0 0, .string ⟨#[]⟩, .int .i64 0, .int .i64 0, .int .i64 0, .slice none 0 0, .bool false, .string ⟨#[]⟩]
  refine ⟨(b1.below l2).below l3, ?_, ?_, below0 (below0 l1 l2) l3⟩
  · have := b2.below l3
    rwa [z1] at this
  · rwa [z2, z1] at b3
/-- Nothing is kept. -/
theorem RfD.no {w w' : World} {B : Nat} {M : Int} {s : DS} {f : PKV} {v : Value} {ts : List RV} {p : PKV} (h : RfD w B M s f v ts) (hb : Below w.heap.size w w') (ha : admB s p = false) : RdP w w' B M s f v ts p (.returned (.tuple #[.agg (rdC M s f v).toArray, .int .i64 1])) := by
  refine ⟨⟨#[]⟩, f, v, ts, ?_, (fun e => by rw [ha] at e; cases e), ?_, hb, .inl rfl, .inl rfl⟩
  · rw [(dput_no ha).1, (dput_no (ob := ⟨#[]⟩) ha).2]
  · rw [(dput_no ha).1]; exact h.below hb
/-- Something is kept, or nothing. -/
theorem RfD.yes {w w' : World} {B : Nat} {M : Int} {s s' : DS} {f f' : PKV} {v v' : Value} {ts ts' : List RV} {p : PKV} {E : Int} {ob : ByteArray} (ha : admB s p = true) (hs : s' = keepS M (begS s p) (p.r.xs, p.r.s) ob) (hE : E = keepE M (begS s p)) (hT : TellsP M (begS s p) (p.r.xs, p.r.s) ob) (h : RfD w' B M s' f' v' ts') (hb : Below w.heap.size w w') (hv : v' = v ∨ ∀ j, v'.ownBlock = some j → w.heap.size ≤ j) (hts : ts' = ts ∨ ts' = ts ++ [p.r]) :
    RdP w w' B M s f v ts p (.returned (.tuple #[.agg (rdC M s' f' v').toArray, .int .i64 E])) := by
  refine ⟨ob, f', v', ts', ?_, fun _ => hT, ?_, hb, hv, hts⟩
  · rw [(dput_yes ha).1, (dput_yes (ob := ob) ha).2, hs, hE]
  · rw [(dput_yes ha).1, ← hs]; exact h
set_option maxHeartbeats 4000000 in
theorem rdput_bad (B : Nat) (M : Int) (s : DS) (f : PKV) (v : Value) (ts : List RV) (p : PKV) (w : World) (h : RfD w B M s f v ts) (hr : RowAt w p.r.a p.r.n p.r.xs) (hp : okB p = false) :
    Calls Tryz.prog 10 #[.agg (rdC M s f v).toArray, .agg #[.int .i64 p.o, .int .i64 p.l, .int .i64 p.k, .int .i64 p.z, .int .i64 p.h, .slice p.r.a p.r.n p.r.c, .string p.r.s]] w fun e w' => RdP w w' B M s f v ts p e := by
  obtain ⟨av, cv, hve⟩ := h.own.shape
  obtain rfl := hve
  have HH := hide h
  have HNO := hide (show admB s p = false by unfold admB; rw [hp]; rfl)
  clear h
  obtain ⟨hD, hP, hR, hb0⟩ := rd_boxes p (rdC M s f (.slice av ts.length cv)) w
  have HC := hide (rcheck_any p.o p.l p.k p.z p.h p.r.a p.r.n p.r.c p.r.xs p.r.s _ (hr.below hb0) 1 (ck_no hp))
  generalize hW : ((w.alloc (.cells (rdC M s f (.slice av ts.length cv)).toArray 36)).alloc (.cells #[.int .i64 p.o, .int .i64 p.l, .int .i64 p.k, .int .i64 p.z, .int .i64 p.h, .slice p.r.a p.r.n p.r.c, .string p.r.s] 31)).alloc (.cells #[.int .i64 0, .int .i64 0, .bool false, .bool false, .int .i64 0, .int .i64 0, .int .i64 0, .int .i64 0, .int .i64 0, .slice none 0 0, .string ⟨#[]⟩, .int .i64 0, .int .i64 0, .int .i64 0, .slice none 0 0, .bool false, .string ⟨#[]⟩] 36) = W at *
  have q0 := hP.at 0 rfl
  have q1 := hP.at 1 rfl
  have q2 := hP.at 2 rfl
  have q3 := hP.at 3 rfl
  have q4 := hP.at 4 rfl
  have q5 := hP.at 5 rfl
  have q6 := hP.at 6 rfl
  have HD := hide hD
  have HP := hide hP
  have HR := hide hR
  have HB0 := hide hb0
  clear hD hP hR hb0
  clear hr hp
  go_enter Tryz.func10, Tryz.ntmps10
  go_wp2_with (first
    | (go_at_call 19; refine (unhide HC).mono ?_; rintro e w1 ⟨rfl, hb1⟩; have HD1 := hide ((unhide HD).below hb1); have HR1 := hide ((unhide HR).below hb1); have HB1 := hide (below0 (unhide HB0) hb1); clear hb1)
    | ((with_reducible refine rd_load 2 w.heap.size (rdC M s f (.slice av ts.length cv)) ?_ (unhide HD1) rfl ?_); (focus rfl)) | ((with_reducible refine rd_store 4 24 (w.heap.size + 1 + 1) [.int .i64 0, .int .i64 0, .bool false, .bool false, .int .i64 0, .int .i64 0, .int .i64 0, .int .i64 0, .int .i64 0, .slice none 0 0, .string ⟨#[]⟩, .int .i64 0, .int .i64 0, .int .i64 0, .slice none 0 0, .bool false, .string ⟨#[]⟩] (rdC M s f (.slice av ts.length cv)) ?_ ?_ (unhide HR1) rfl rfl (rdC_one _ _ _ _ _ _) ?_); (focus rfl); (focus rfl); intro wz hRz htz; have HRZ := hide hRz; have HTZ := hide htz; clear hRz htz)
    | fail)
  refine bodyPost_ret (results_rdA rfl rfl (unhide HRZ) rfl) rfl ?_
  exact (unhide HH).no (tu_low (unhide HB1) (unhide HTZ) (by omega)) (unhide HNO)
set_option maxHeartbeats 4000000 in
theorem rdput_oth (B : Nat) (M : Int) (s : DS) (f : PKV) (v : Value) (ts : List RV) (p : PKV) (w : World) (h : RfD w B M s f v ts) (hr : RowAt w p.r.a p.r.n p.r.xs) (hp : okB p = true) (hg : s.bg = true) (ha : alikeB s p = false) :
    Calls Tryz.prog 10 #[.agg (rdC M s f v).toArray, .agg #[.int .i64 p.o, .int .i64 p.l, .int .i64 p.k, .int .i64 p.z, .int .i64 p.h, .slice p.r.a p.r.n p.r.c, .string p.r.s]] w fun e w' => RdP w w' B M s f v ts p e := by
  obtain ⟨av, cv, hve⟩ := h.own.shape
  obtain rfl := hve
  have HH := hide h
  have HNO := hide (show admB s p = false by rw [adm_split hg, hp, ha]; rfl)
  have HTB := hide (show TB false (f.o = p.o ∧ f.l = p.l ∧ f.k = p.k ∧ f.z = p.z) from ⟨(fun e => by cases e), fun q => by
    obtain ⟨e1, e2, e3, e4⟩ := h.al hg
    rw [e1, e2, e3, e4] at q
    have : alikeB s p = true := decide_eq_true ⟨q.1.symm, q.2.1.symm, q.2.2.1.symm, q.2.2.2.symm⟩
    rw [ha] at this; cases this⟩)
  clear h
  obtain ⟨hD, hP, hR, hb0⟩ := rd_boxes p (rdC M s f (.slice av ts.length cv)) w
  have HC := hide (rcheck_any p.o p.l p.k p.z p.h p.r.a p.r.n p.r.c p.r.xs p.r.s _ (hr.below hb0) 0 (ck_yes hp))
  generalize hW : ((w.alloc (.cells (rdC M s f (.slice av ts.length cv)).toArray 36)).alloc (.cells #[.int .i64 p.o, .int .i64 p.l, .int .i64 p.k, .int .i64 p.z, .int .i64 p.h, .slice p.r.a p.r.n p.r.c, .string p.r.s] 31)).alloc (.cells #[.int .i64 0, .int .i64 0, .bool false, .bool false, .int .i64 0, .int .i64 0, .int .i64 0, .int .i64 0, .int .i64 0, .slice none 0 0, .string ⟨#[]⟩, .int .i64 0, .int .i64 0, .int .i64 0, .slice none 0 0, .bool false, .string ⟨#[]⟩] 36) = W at *
  have q0 := hP.at 0 rfl
  have q1 := hP.at 1 rfl
  have q2 := hP.at 2 rfl
  have q3 := hP.at 3 rfl
  have q4 := hP.at 4 rfl
  have q5 := hP.at 5 rfl
  have q6 := hP.at 6 rfl
  have HD := hide hD
  have HP := hide hP
  have HR := hide hR
  have HB0 := hide hb0
  clear hD hP hR hb0
  have HG := hide hg
  clear hr hp ha hg
  go_enter Tryz.func10, Tryz.ntmps10
  go_wp2_with fail
  refine (unhide HC).mono ?_
  rintro e w1 ⟨rfl, hb1⟩
  have hD1 := (unhide HD).below hb1
  have hP1 := (unhide HP).below hb1
  have HD1 := hide hD1
  have HR1 := hide ((unhide HR).below hb1)
  have HB1 := hide (below0 (unhide HB0) hb1)
  clear hb1 HC HD HP HR HB0 q0 q1 q2 q3 q4 q5 q6
  have q0 := hP1.at 0 rfl
  have q1 := hP1.at 1 rfl
  have q2 := hP1.at 2 rfl
  have q3 := hP1.at 3 rfl
  have q4 := hP1.at 4 rfl
  have q5 := hP1.at 5 rfl
  have q6 := hP1.at 6 rfl
  have d2 := hD1.at 2 rfl
  rw [unhide HG] at d2
  have d4 := hD1.at 4 rfl
  have d5 := hD1.at 5 rfl
  have d6 := hD1.at 6 rfl
  have d7 := hD1.at 7 rfl
  have d8 := hD1.at 8 rfl
  have d9 := hD1.at 9 rfl
  have d10 := hD1.at 10 rfl
  clear hD1 hP1
  have HAL := hide (fun wx => ralike_any f.o f.l f.k f.z f.h f.r.a f.r.n f.r.c f.r.s p.o p.l p.k p.z p.h p.r.a p.r.n p.r.c p.r.s wx false (unhide HTB))
  go_wp2_with (first
    | (go_at_call 20; refine (unhide HAL _).mono ?_; rintro e w2 ⟨rfl, hb2⟩; have HD2 := hide ((unhide HD1).below hb2); have HR2 := hide ((unhide HR1).below hb2); have HB2 := hide (below0 (unhide HB1) hb2); clear hb2)
    | ((with_reducible refine rd_load 2 w.heap.size (rdC M s f (.slice av ts.length cv)) ?_ (unhide HD2) rfl ?_); (focus rfl)) | ((with_reducible refine rd_store 4 24 (w.heap.size + 1 + 1) [.int .i64 0, .int .i64 0, .bool false, .bool false, .int .i64 0, .int .i64 0, .int .i64 0, .int .i64 0, .int .i64 0, .slice none 0 0, .string ⟨#[]⟩, .int .i64 0, .int .i64 0, .int .i64 0, .slice none 0 0, .bool false, .string ⟨#[]⟩] (rdC M s f (.slice av ts.length cv)) ?_ ?_ (unhide HR2) rfl rfl (rdC_one _ _ _ _ _ _) ?_); (focus rfl); (focus rfl); intro wz hRz htz; have HRZ := hide hRz; have HTZ := hide htz; clear hRz htz)
    | fail)
  refine bodyPost_ret (results_rdA rfl rfl (unhide HRZ) rfl) rfl ?_
  exact (unhide HH).no (tu_low (unhide HB2) (unhide HTZ) (by omega)) (unhide HNO)
theorem tu_set5 (w : World) (g i0 i1 i2 i3 i4 : Nat) (u0 u1 u2 u3 u4 : Value) : Tu (fun j => j = g) w (((((w.setCell ⟨g, i0, none⟩ u0).setCell ⟨g, i1, none⟩ u1).setCell ⟨g, i2, none⟩ u2).setCell ⟨g, i3, none⟩ u3).setCell ⟨g, i4, none⟩ u4) :=
  ((((tu_set _ _ _ _).trans (tu_set _ _ _ _) fun _ _ e => e).trans (tu_set _ _ _ _) fun _ _ e => e).trans (tu_set _ _ _ _) fun _ _ e => e).trans (tu_set _ _ _ _) fun _ _ e => e
theorem rdecode_full (a : Option Addr) (n c : Nat) (us : List RV) (w : World) (hA : RowsAt w a n us) (hI : RowsIn w us) (hS : shortR us) (hn : n ≤ 300) (k z : Int) (hkz : (1 ≤ k ∧ k ≤ 128) ∧ 1 ≤ z ∧ z ≤ 64) (hv : ∀ x ∈ us.map core, fitB k z x = true) (hk : (rankC (us.map core) : Int) = k) :
    Calls Tryz.prog 24 #[.int .i64 k, .slice a n c] w fun e w' => ∃ a1 m1 c1 ss, e = .returned (.tuple #[.slice a1 m1 c1, .bool true]) ∧ TextsAt w' a1 m1 ss ∧ m1 ≤ 1048576 ∧ (joinL ss).length = k.toNat * z.toNat ∧ (∀ l : Int, ObjP k l (us.map core) (st ((joinL ss).take l.toNat))) ∧ Below w.heap.size w w' := by
  obtain ⟨K, rfl⟩ : ∃ K : Nat, k = (K : Int) := ⟨k.toNat, by omega⟩
  obtain ⟨m, rfl⟩ : ∃ m : Nat, z = (m : Int) := ⟨z.toNat, by omega⟩
  have hg := good_of hA hS
  have hl := len_of hA hS
  have hn2 : us.length ≤ 300 := by rw [hA.1]; exact hn
  obtain ⟨kn, bs, hP⟩ := peel_is (k := (K : Int)) hg
  have hvv : ∀ r ∈ us, validB (K : Int) r.xs = true ∧ r.s.size = m := fun r hr => by
    have := hv (core r) (List.mem_map.2 ⟨r, hr, rfl⟩)
    unfold fitB at this
    rw [Bool.and_eq_true, Bool.and_eq_true] at this
    have h2 := decide_eq_true_iff.1 this.2
    exact ⟨this.1.1, Int.ofNat.inj h2⟩
  have hz : 0 < sizeOfK (K : Int) := by
    unfold sizeOfK
    rw [if_neg (by omega)]
    omega
  obtain ⟨h1, h2, h3⟩ := full_told hP hg hl hn2 hz (fun r hr => (hvv r hr).1) (fun r hr => (hvv r hr).2) (Int.ofNat.inj hk)
  refine (rdecode_any (K : Int) a n c us kn bs hP w hA (CapR.of hI) hS hn).mono ?_
  rintro e w' ⟨a1, m1, c1, rfl, ho, hb⟩
  rw [h1]
  obtain ⟨e1, e2⟩ := ho.at'
  rw [← e1] at e2
  exact ⟨a1, m1, c1, _, rfl, e2, by omega, by rw [joinL_same h3, h2, Int.toNat_natCast, Int.toNat_natCast], fun l => ⟨us, kn, bs, rfl, hP, rfl⟩, hb⟩
theorem rjoin_ok (a : Option Addr) (l c : Nat) (ss : List ByteArray) (n : Int) (w : World) (h : TextsAt w a l ss) (hl : l ≤ 1048576) (hj : (joinL ss).length ≤ 1073741824) (h0 : 0 ≤ n) (h1 : n ≤ ((joinL ss).length : Int)) :
    Calls Tryz.prog 25 #[.slice a l c, .int .i64 n] w fun e w' => e = .returned (.tuple #[.string (st ((joinL ss).take n.toNat)), .int .i64 0]) ∧ w' = w :=
  (rjoin_any a l c ss n w h hl hj).mono fun e w' ⟨he, hw⟩ => ⟨by rw [he, if_neg (by omega)], hw⟩
end Go.Proofs.YtnjdldbdkafnaaaGreatDoor
