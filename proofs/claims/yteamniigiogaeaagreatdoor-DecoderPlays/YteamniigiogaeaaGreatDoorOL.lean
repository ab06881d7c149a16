/-
  The walks of DecoderNone and DecoderOnce: for every input each tells true and writes nothing that was there.
-/
import Derived.Test.YteamniigiogaeaaGreatDoorM19
namespace Go.Proofs.YteamniigiogaeaaGreatDoor
open Go.RowKit Go.Sort
set_option linter.unusedVariables false
set_option maxRecDepth 4000


/-- A packet of a slice that came in, put into a decoder behind it. -/
theorem dput_of {W w : World} {g : Nat} {M : Int} {s : DS} {gs : Nat} {v : Value} {rs : List RV} {a : Option Addr} {n : Nat} {ps : List PKV} (ht : Tab W) (hb : Below W.heap.size W w) (hd : DcAt w g W.heap.size M s gs v rs) (h : PksAt W a n ps) (hs : shortP ps) {j : Nat} (hj : j < n) :
    Calls Tryz.prog 11 #[.pointer (some ⟨g, 0, none⟩), .agg #[.int .i64 (ps.getD j default).o, .int .i64 (ps.getD j default).l, .int .i64 (ps.getD j default).k, .int .i64 (ps.getD j default).z, .int .i64 (ps.getD j default).h, .slice (ps.getD j default).r.a (ps.getD j default).r.n (ps.getD j default).r.c, .string (ps.getD j default).r.s]] w
      fun e w' => DputR w w' g W.heap.size M s gs v (ps.getD j default) e :=
  dput_any g W.heap.size M s gs v rs (ps.getD j default) w (fun wx hx => ht.below (hb.trans hx)) hd (fun wx hx => (h.2.1 j hj).below (hd.step hb hx)) (hs j).1 (hs j).2

end Go.Proofs.YteamniigiogaeaaGreatDoor
