/-
  A struct of many cells as a whole: its load and its store as steps of a walk. No condition.
  Contract of bucketlineref26.Check. Condition: the config can be read.
-/
import Derived.Test.YtljkmajajcocdaaU8
import Derived.Deep.MidRow
import Derived.Test.YtljkmajajcocdaaU9
namespace Go.Proofs.Ytljkmajajcocdaa
open Go.RowKit
set_option linter.unusedVariables false
set_option linter.unusedSimpArgs false
set_option maxRecDepth 4000

/-- The load of a variable. -/
theorem BkA.load {T : TypeId} {w : World} {g n : Nat} {cs : List Value} {d : TypeDesc} (h : BkA T w g cs) (hu : Try.prog.underlying T = some d) (hd : d.isRow = true) (hi : (Try.prog.info? T).map (·.size) = some n) (hl : cs.length = n) : (loadVar T ⟨g, 0, none⟩).run Try.prog w = .ok (.agg cs.toArray) w :=
  run_loadVar_mid (P := Try.prog) w g 0 T cs _ (fun j v hv => by rw [Nat.zero_add]; exact h.at j hv) hu hd (by rw [hl]; exact hi)
theorem Tu.cell {F : Nat → Prop} {w w' : World} (h : Tu F w w') {p : Addr} {v : Value} (hp : w.cell? p = some v) (hF : ¬ F p.block) : w'.cell? p = some v :=
  (World.cell?_of_block (w := w) (h.block p.block (World.block_lt_of_cell? w p hp) hF)).trans hp
/-- Some cells of a block are written. -/
theorem BkA.setMid {T : TypeId} {w : World} {g o : Nat} {cs us : List Value} (h : BkA T w g cs) (hl : o + us.length ≤ cs.length) : BkA T (w.setCells g o us) g (cs.take o ++ us ++ cs.drop (o + us.length)) := by
  obtain ⟨cur, h1, h2, h3⟩ := setCells_block g T us o w cs.toArray h
  unfold BkA
  rw [h1]
  have : cur = (cs.take o ++ us ++ cs.drop (o + us.length)).toArray := by
    apply Array.ext_getElem?
    intro j
    by_cases hj : j < cs.length
    · rw [h3 j (by simpa using hj)]
      simp only [List.getElem?_toArray, List.append_assoc]
      by_cases h4 : j < o
      · rw [if_neg (by omega), List.getElem?_append_left (by rw [List.length_take]; omega), List.getElem?_take, if_pos h4]
      · rw [List.getElem?_append_right (by rw [List.length_take]; omega), List.length_take, Nat.min_eq_left (by omega)]
        by_cases h5 : j < o + us.length
        · rw [if_pos (by omega), List.getElem?_append_left (by omega)]
        · rw [if_neg (by omega), List.getElem?_append_right (by omega), List.getElem?_drop, show o + us.length + (j - o - us.length) = j by omega]
    · rw [Array.getElem?_eq_none (by rw [h2]; simpa using hj), Array.getElem?_eq_none (by simp; omega)]
  rw [this]
theorem BkA.there {T : TypeId} {w : World} {g o n : Nat} {cs : List Value} (h : BkA T w g cs) (hl : o + n ≤ cs.length) : w.there g o n := fun j hj => by
  obtain ⟨u, hu⟩ : ∃ u, cs[o + j]? = some u := ⟨cs[o + j]'(by omega), List.getElem?_eq_getElem (by omega)⟩
  exact ⟨by rw [h.at (o + j) hu]; rfl, h.frz (o + j)⟩
/-- .. a step of a walk. -/
theorem bw_mid {ops : Array Oper} {rest : List Oper} {dst : Option Tmp} {typ : TypeId} {pos : String} {aft : Array Edge} {a : Act} {w : World} {Q : Exit → Act → World → Prop} (T T' : TypeId) {n : Nat} (hi : (Try.prog.info? T).map (·.size) = some n) (x y : Tmp) (R o : Nat) (cs us : List Value) (hx : a.eval (.tmp x) = .pointer (some ⟨R, o, none⟩)) (hy : a.eval (.tmp y) = .agg us.toArray) (hb : BkA T' w R cs) (hl : us.length = n) (hc : o + us.length ≤ cs.length) (h1 : ∀ u ∈ us, u.oneCell' = true)
    (h : ∀ w', BkA T' w' R (cs.take o ++ us ++ cs.drop (o + us.length)) → Tu (fun j => j = R) w w' → wpList Try.prog ops Q rest (a.put dst undef) w') : wpList Try.prog ops Q ({ dst := dst, op := .store T (.tmp x) (.tmp y), type := typ, pos := pos, after := aft, guard := none } :: rest) a w :=
  wpList_store_mid rfl T (.tmp x) (.tmp y) rfl R o us.toArray hx hy (by rw [List.size_toArray]; exact hb.there hc) (by rw [List.size_toArray, hl]; exact hi) (all_oneCell_toArray h1) (h _ (hb.setMid hc) (Tu.of_gb (setCells_gb R us o w) fun j _ e => (Option.some.inj e).symm))
end Go.Proofs.Ytljkmajajcocdaa
namespace Go.Proofs.Ytljkmajajcocdaa
open Go.RowKit Go.Sort
set_option linter.unusedVariables false
set_option linter.unusedSimpArgs false
set_option maxRecDepth 4000

theorem rchk26_any (f : CFV) (w : World) (h : CfIn w f) : Calls Try.prog 20 #[f.val] w fun e w' => ∃ en : Int, e = .returned (.int .i64 en) ∧ ChkR f en ∧ Below w.heap.size w w' := by
  have HB := hide (alloc_low w (.cells #[.slice f.a f.n f.c, .string f.obj, .int .i64 f.size, .int .i64 f.spread, .int .i64 f.buffer, .int .i64 f.queue, .int .i64 f.cache, .float .f64 f.rate, .int .i64 f.timeout, .int .i64 f.target] 25))
  have HC := hide (fun wx (hb : Below w.heap.size w wx) => rchk_any f wx (h.below hb))
  have hld := (bkA_new 25 w [.slice f.a f.n f.c, .string f.obj, .int .i64 f.size, .int .i64 f.spread, .int .i64 f.buffer, .int .i64 f.queue, .int .i64 f.cache, .float .f64 f.rate, .int .i64 f.timeout, .int .i64 f.target]).load Try.underlying25 rfl info_cfg rfl
  clear h
  unfold CFV.val at *
  go_enter Try.func20, Try.ntmps20
  go_wp2_with (first
    | (go_at_call 37; refine (unhide HC _ (by first | exact unhide HB | exact Below.refl _ _)).mono ?_; rintro e w1 ⟨en, rfl, hr, hb⟩; have HR := hide hr; have HB1 := hide (show Below w.heap.size w w1 from by first | exact below0 (unhide HB) hb | exact hb); clear hb hr)
    | fail)
  go_ret
  exact ⟨en, rfl, unhide HR, unhide HB1⟩
end Go.Proofs.Ytljkmajajcocdaa
