/-
  The reference's decoder: loads and stores of it as a whole; contracts of bucketlineref16.New, Put.
-/
import Derived.Test.YteamniigiogaeaaGreatDoorM18
import Derived.Test.YteamniigiogaeaaGreatDoorIE
import Derived.Test.YteamniigiogaeaaGreatDoorM20
import Derived.Test.YteamniigiogaeaaGreatDoorM21
import Derived.Deep.MidRow
import Derived.Deep.CutRange
namespace Go.Proofs.YteamniigiogaeaaGreatDoor
open Go.RowKit Go.Sort
set_option linter.unusedVariables false
set_option maxRecDepth 4000

def zPK : PKV := ⟨0, 0, 0, 0, 0, ⟨none, 0, 0, [], ⟨#[]⟩⟩⟩
def m2N (b : Bool) (M : Int) : Int := if b = true then (capN M : Int) else 0
/-- The cells of the reference's decoder. -/
def rdC (M : Int) (s : DS) (f : PKV) (v : Value) : List Value := [.int .i64 M, .int .i64 (rankC s.L : Int), .bool s.bg, .bool s.dn, .int .i64 f.o, .int .i64 f.l, .int .i64 f.k, .int .i64 f.z, .int .i64 f.h, .slice f.r.a f.r.n f.r.c, .string f.r.s, .int .i64 s.k, .int .i64 s.z, .int .i64 (m2N s.bg M), v, .bool s.ov, .string s.ob]
theorem rdC_len (M : Int) (s : DS) (f : PKV) (v : Value) : (rdC M s f v).length = 17 := rfl
theorem rdC_one (M : Int) (s : DS) (f : PKV) (a : Option Addr) (n c : Nat) : ∀ u ∈ rdC M s f (.slice a n c), u.oneCell' = true := fun u hu => by
  unfold rdC at hu
  simp only [List.mem_cons, List.not_mem_nil, or_false] at hu
  rcases hu with h | h | h | h | h | h | h | h | h | h | h | h | h | h | h | h | h <;> (rw [h]; rfl)
theorem info_rd : (Tryz.prog.info? 36).map (·.size) = some 17 := by kernel_rfl
theorem BkA.setAll {T : TypeId} {w : World} {g : Nat} {cs us : List Value} (h : BkA T w g cs) (hl : us.length = cs.length) : BkA T (w.setCells g 0 us) g us := by
  obtain ⟨cur, h1, h2, h3⟩ := setCells_block g T us 0 w cs.toArray h
  unfold BkA
  rw [h1]
  have : cur = us.toArray := by
    apply Array.ext_getElem?
    intro j
    by_cases hj : j < cs.length
    · rw [h3 j (by simpa using hj), if_pos (by omega)]; simp
    · rw [Array.getElem?_eq_none (by rw [h2]; simpa using hj), Array.getElem?_eq_none (by simp; omega)]
  rw [this]
/-- The whole of it is read. -/
theorem rd_load {ops : Array Oper} {rest : List Oper} {dst : Option Tmp} {typ : TypeId} {pos : String} {aft : Array Edge} {a : Act} {w : World} {Q : Exit → Act → World → Prop} (x : Tmp) (D : Nat) (cs : List Value) (hx : a.eval (.tmp x) = .pointer (some ⟨D, 0, none⟩)) (hb : BkA 36 w D cs) (hl : cs.length = 17)
    (h : wpList Tryz.prog ops Q rest (a.put dst (.agg cs.toArray)) w) : wpList Tryz.prog ops Q ({ dst := dst, op := .load 36 (.tmp x), type := typ, pos := pos, after := aft, guard := none } :: rest) a w :=
  wpList_load_mid rfl 36 (.tmp x) rfl D 0 hx cs _ (fun j v hv => by rw [Nat.zero_add]; exact hb.at j hv) Tryz.underlying36 rfl (by rw [hl]; exact info_rd) h
/-- The whole of it is written. -/
theorem rd_store {ops : Array Oper} {rest : List Oper} {dst : Option Tmp} {typ : TypeId} {pos : String} {aft : Array Edge} {a : Act} {w : World} {Q : Exit → Act → World → Prop} (x y : Tmp) (R : Nat) (cs us : List Value) (hx : a.eval (.tmp x) = .pointer (some ⟨R, 0, none⟩)) (hy : a.eval (.tmp y) = .agg us.toArray) (hb : BkA 36 w R cs) (hc : cs.length = 17) (hl : us.length = 17) (h1 : ∀ u ∈ us, u.oneCell' = true)
    (h : ∀ w', BkA 36 w' R us → Tu (fun j => j = R) w w' → wpList Tryz.prog ops Q rest (a.put dst undef) w') : wpList Tryz.prog ops Q ({ dst := dst, op := .store 36 (.tmp x) (.tmp y), type := typ, pos := pos, after := aft, guard := none } :: rest) a w := by
  refine wpList_store_mid rfl 36 (.tmp x) (.tmp y) rfl R 0 us.toArray hx hy (fun j hj => ?_) (by rw [List.size_toArray, hl]; exact info_rd) (all_oneCell_toArray h1) (h _ (hb.setAll (by show us.length = cs.length; omega)) (Tu.of_gb (setCells_gb R us 0 w) fun j _ e => (Option.some.inj e).symm))
  rw [List.size_toArray] at hj
  obtain ⟨u, hu⟩ : ∃ u, cs[j]? = some u := ⟨cs[j]'(by omega), List.getElem?_eq_getElem (by omega)⟩
  rw [Nat.zero_add]
  exact ⟨by rw [hb.at j hu]; rfl, hb.frz j⟩
theorem results_rdA {tmps : Array Value} {W : World} {g : Nat} {x : Int} {cs : List Value} (h2 : tmps.getD 4 undef = .pointer (some ⟨g, 0, none⟩)) (h3 : tmps.getD 5 undef = .int .i64 x) (hq : BkA 36 W g cs) (hl : cs.length = 17) :
    (results Tryz.f10 tmps).run Tryz.prog W = .ok (.tuple #[.agg cs.toArray, .int .i64 x]) W := by
  have hld := run_loadVar_mid (P := Tryz.prog) W g 0 36 cs _ (fun j v hv => by rw [Nat.zero_add]; exact hq.at j hv) Tryz.underlying36 rfl (by rw [hl]; exact info_rd)
  have h2' : tmps[4]?.getD undef = .pointer (some ⟨g, 0, none⟩) := by simpa using h2
  have h3' : tmps[5]?.getD undef = .int .i64 x := by simpa using h3
  simp [results, Tryz.results10, asAddr, h2', h3', hld]

/-- What the reference's decoder leans on in memory. -/
structure RfD (w : World) (B : Nat) (M : Int) (s : DS) (f : PKV) (v : Value) (ts : List RV) : Prop where
  al : s.bg = true → f.o = s.o ∧ f.l = s.l ∧ f.k = s.k ∧ f.z = s.z
  inv : s.bg = true → DInv s
  z : s.bg = false → s = zDS ∧ f = zPK ∧ v = .slice none 0 0
  nil : NilS v ts
  own : OwnS w B v ts
  src : RowsIn w ts
  short : shortR ts
  co : ts.map core = s.L
  le : s.L.length ≤ 256
theorem RfD.below {w w' : World} {B : Nat} {M : Int} {s : DS} {f : PKV} {v : Value} {ts : List RV} (h : RfD w B M s f v ts) (hb : Below w.heap.size w w') : RfD w' B M s f v ts :=
  ⟨h.al, h.inv, h.z, h.nil, h.own.below hb, h.src.below hb, h.short, h.co, h.le⟩
/-- What the reference's Put leaves. -/
def RdP (w w' : World) (B : Nat) (M : Int) (s : DS) (f : PKV) (v : Value) (ts : List RV) (p : PKV) (e : Ending) : Prop :=
  ∃ ob f' v' ts', e = .returned (.tuple #[.agg (rdC M (dput M s p ob) f' v').toArray, .int .i64 (dputE M s p)]) ∧ (admB s p = true → TellsP M (begS s p) (p.r.xs, p.r.s) ob) ∧ RfD w' B M (dput M s p ob) f' v' ts' ∧ Below w.heap.size w w' ∧ (v' = v ∨ ∀ j, v'.ownBlock = some j → w.heap.size ≤ j) ∧ (ts' = ts ∨ ts' = ts ++ [p.r])
end Go.Proofs.YteamniigiogaeaaGreatDoor
