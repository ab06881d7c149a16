/-
  Contracts of bucketlineref22.New, Put, Take: a queue by value, its texts of the call's own. At most 2^20 texts.
-/
import Derived.Test.YtongbbianelfmaaQuF
import Derived.Test.YtongbbianelfmaaBw
namespace Go.Proofs.Ytongbbianelfmaa
open Go.RowKit Go.Conc
set_option linter.unusedVariables false
set_option maxRecDepth 4000

theorem cellsT_one (ss : List ByteArray) : ∀ u ∈ cellsT ss, u.oneCell' = true := by
  intro u hu
  obtain ⟨_, _, rfl⟩ := List.mem_map.1 hu
  rfl
theorem TextsAt.news {w : World} {ad : Addr} {n : Nat} {ss : List ByteArray} (h : TextsAt w (some ad) n ss) : ∀ j u, (cellsT ss)[j]? = some u → w.cell? (ad.add j) = some u := by
  intro j u hj
  have hlt : j < ss.length := by
    have := (List.getElem?_eq_some_iff.1 hj).1
    rwa [cellsT_length] at this
  obtain ⟨b, off, he, hc⟩ := h.at (i := j) (by rw [← h.1]; exact hlt)
  simp only [Option.some.injEq] at he
  subst he
  rw [cellsT_get ss j hlt] at hj
  have := hc j (by rw [← h.1]; exact hlt)
  by_cases h0 : j = 0
  · subst h0
    simpa [Addr.add, hj] using this.trans hj
  · simpa [Addr.add, h0] using this.trans hj
theorem run_append_nilT (ty : TypeId) (i : TypeInfo) (hi : Try.prog.info? 9 = some i) (c : Nat) (w : World) :
    (Builtin.append_ #[22, 22] ty #[.slice none 0 0, .slice none 0 c]).run Try.prog w = .ok (.slice none 0 0) w := by
  simp [Builtin.append_, run_underlying Try.underlying22, sizeOf, typeInfo, hi, Builtin.lenOf, Builtin.firstCells]
/-- 'append([]string(nil), xs...)'. -/
theorem wpList_append_nilT {w : World} {ops : Array Oper} {rest : List Oper} {o : Oper} {act : Act} {Q : Exit → Act → World → Prop} (hgd : o.guard = none) (s x : Operand)
    (ho : o.op = .call { callee := .builtin .append, args := #[s, x], argTypes := #[22, 22] }) (a : Option Addr) (n c : Nat) (ss : List ByteArray)
    (hs : act.eval s = .slice none 0 0) (hx : act.eval x = .slice a n c) (h : TextsAt w a n ss) (hn : n ≤ 1048576)
    (hK : ∀ v' w', OwnT w' w.heap.size v' ss → Below w.heap.size w w' → wpList Try.prog ops Q rest (act.put o.dst v') w') : wpList Try.prog ops Q (o :: rest) act w := by
  obtain ⟨i0, hi, hz0, hz1, hz2⟩ := info_parts info_strT
  cases a with
  | none =>
    have h0 : n = 0 := by
      rcases h.2 with h0 | ⟨b, off, h1, _⟩
      · exact h0
      · cases h1
    subst h0
    have hxs : ss = [] := List.eq_nil_of_length_eq_zero h.1
    subst hxs
    refine wpList_plain hgd fun K hK' => ?_
    have hrun := run_append_nilT o.type i0 hi c w
    unfold Oper.wp
    simp [execOp, ho, resolve, invoke, builtin, hs, hx, hrun, Result.andThen]
    exact hK' _ _ (hK _ _ (OwnT.nil _ _) (Below.refl _ _))
  | some ad =>
    refine wpList_append_own w hgd s x 22 ho w.heap.size 9 i0 (.string ByteArray.empty) 1 16 Try.underlying22 hi hz0 hz1 hz2 rfl (by decide) (.slice none 0 0) 0 [] hs (World.ownsRow_nil _ _ _ _) ad n c (cellsT ss) hx
      (by rw [cellsT_length, h.1, Nat.mul_one]) h.news (cellsT_one ss) (by unfold maxLen; omega) (by omega) (Nat.le_refl _) ?_
    intro v' w' hown hgrow _
    refine hK v' w' ?_ ((Below.refl _ _).grown hgrow (Nat.le_refl _) (fun k hk => by simp [Value.ownBlock] at hk))
    show w'.ownsRow w.heap.size 9 1 v' ss.length (cellsT ss)
    rw [h.1]
    simpa using hown
theorem elem_strs : Try.prog.underlying 22 = some (.slice (Try.prog.elem 22)) := by kernel_rfl
theorem elem_strs' : Try.prog.elem 22 = 9 := by kernel_rfl
theorem OwnT.cap {w : World} {B n cap : Nat} {b : Option Addr} {ss : List ByteArray} (h : OwnT w B (.slice b n cap) ss) : n ≤ cap := by
  rcases h.2 with ⟨e, h0⟩ | ⟨g, cp, cur, e, hb, hg, hn, hm, hsz, ht⟩
  · simp only [Value.slice.injEq] at e; omega
  · simp only [Value.slice.injEq] at e; omega
/-- 'l[1:]'. -/
theorem tslice_tl {w : World} {b off k c : Nat} {s : ByteArray} {L : List ByteArray} (h : TextsAt w (some ⟨b, off, none⟩) (k + 1) (s :: L)) (hc : k + 1 ≤ c) :
    ∃ a', (∀ W : World, (Instr.sliceAt 22 (.slice (some ⟨b, off, none⟩) (k + 1) c) (some (.int .i64 1)) none none).run Try.prog W = .ok (.slice a' k (c - 1)) W) ∧ TextsAt w a' k L := by
  have hz : ∀ w : World, (sizeOf 9).run Try.prog w = .ok 1 w := fun w => by kernel_rfl
  have hl : L.length = k := by have := h.1; rw [List.length_cons] at this; omega
  by_cases h0 : k = 0
  · subst h0
    refine ⟨if c = 1 then some ⟨b, off, none⟩ else (some ⟨b, off, none⟩ : Option Addr).map (·.add (1 * 1)), fun W => ?_, hl, .inl rfl⟩
    rw [run_sliceAt_slice _ _ _ _ _ _ elem_strs, run_slice_l _ _ _ _ _ elem_strs _ _ (by omega) (by omega), elem_strs', hz]
    simp [Result.andThen, sliced]
  · refine ⟨some ⟨b, off + 1, none⟩, fun W => ?_, hl, .inr ⟨b, off + 1, rfl, fun i hi => ?_⟩⟩
    · rw [run_sliceAt_slice _ _ _ _ _ _ elem_strs, run_slice_l _ _ _ _ _ elem_strs _ _ (by omega) (by omega), elem_strs', hz]
      have e : ¬ c = 1 := by omega
      simp [Result.andThen, sliced, e, Addr.add]
    · obtain ⟨b', off', e, hcc⟩ := h.at (i := i + 1) (by omega)
      simp only [Option.some.injEq, Addr.mk.injEq, and_true] at e
      obtain ⟨rfl, rfl⟩ := e
      rw [Nat.add_assoc, Nat.add_comm 1 i, hcc (i + 1) (by omega)]
      rfl
theorem info_rq : (Try.prog.info? 28).map (·.size) = some 3 := by kernel_rfl
theorem results_rq1 {tmps : Array Value} {W : World} {g : Nat} {a b c : Value} (h2 : tmps.getD 2 undef = .pointer (some ⟨g, 0, none⟩)) (hq : BkA 28 W g [a, b, c]) :
    (results Try.f11 tmps).run Try.prog W = .ok (.agg #[a, b, c]) W := by
  have hld := hq.load Try.underlying28 rfl info_rq rfl
  have h2' : tmps[2]?.getD undef = .pointer (some ⟨g, 0, none⟩) := by simpa using h2
  simp [results, Try.results11, asAddr, h2', hld]
theorem results_rq2 {tmps : Array Value} {W : World} {g : Nat} {t : Bool} {a b c : Value} (h2 : tmps.getD 4 undef = .pointer (some ⟨g, 0, none⟩)) (h3 : tmps.getD 5 undef = .bool t) (hq : BkA 28 W g [a, b, c]) :
    (results Try.f14 tmps).run Try.prog W = .ok (.tuple #[.agg #[a, b, c], .bool t]) W := by
  have hld := hq.load Try.underlying28 rfl info_rq rfl
  have h2' : tmps[4]?.getD undef = .pointer (some ⟨g, 0, none⟩) := by simpa using h2
  have h3' : tmps[5]?.getD undef = .bool t := by simpa using h3
  simp [results, Try.results14, asAddr, h2', h3', hld]
theorem results_rq3 {tmps : Array Value} {W : World} {g : Nat} {t : Bool} {s : ByteArray} {a b c : Value} (h2 : tmps.getD 2 undef = .pointer (some ⟨g, 0, none⟩)) (h3 : tmps.getD 3 undef = .string s) (h4 : tmps.getD 4 undef = .bool t) (hq : BkA 28 W g [a, b, c]) :
    (results Try.f12 tmps).run Try.prog W = .ok (.tuple #[.agg #[a, b, c], .string s, .bool t]) W := by
  have hld := hq.load Try.underlying28 rfl info_rq rfl
  have h2' : tmps[2]?.getD undef = .pointer (some ⟨g, 0, none⟩) := by simpa using h2
  have h3' : tmps[3]?.getD undef = .string s := by simpa using h3
  have h4' : tmps[4]?.getD undef = .bool t := by simpa using h4
  simp [results, Try.results12, asAddr, h2', h3', h4', hld]
theorem rq_two (w : World) (a b c a' b' c' : Value) : BkA 28 ((w.alloc (.cells #[a, b, c] 28)).alloc (.cells #[a', b', c'] 28)) (w.heap.size + 1) [a', b', c'] ∧ BkA 28 ((w.alloc (.cells #[a, b, c] 28)).alloc (.cells #[a', b', c'] 28)) w.heap.size [a, b, c] ∧ Below w.heap.size w ((w.alloc (.cells #[a, b, c] 28)).alloc (.cells #[a', b', c'] 28)) := by
  have h1 := bkA_new 28 (w.alloc (.cells #[a, b, c] 28)) [a', b', c']
  rw [alloc_size] at h1
  exact ⟨h1, (bkA_new 28 w [a, b, c]).below (alloc_low _ _), below0 (alloc_low _ _) (alloc_low _ _)⟩
theorem rqnew_any (n : Int) (w : World) : Calls Try.prog 11 #[.int .i64 n] w fun e w' => e = .returned (.agg #[.int .i64 (capN n : Int), .int .i64 0, .slice none 0 0]) ∧ Below w.heap.size w w' := by
  have hcp := rcap_any n
  generalize capN n = m at *
  go_enter Try.func11, Try.ntmps11
  go_wp2_with (first
    | (go_at_call 19; refine (hcp _).mono ?_; rintro e w1 ⟨rfl, hw1⟩; obtain rfl := hw1.symm; clear hw1)
    | fail)
  exact bodyPost_ret (results_rq1 rfl (bkA_new 28 w [.int .i64 (m : Int), .int .i64 0, .slice none 0 0])) rfl ⟨rfl, alloc_low _ _⟩
set_option maxHeartbeats 1000000 in
theorem rqput_no (m lo k cc : Nat) (a : Option Addr) (s : ByteArray) (w : World) (hr : m ≤ k) (hk : k ≤ 1048576) (hlo : lo ≤ 1099511627776) :
    Calls Try.prog 14 #[.agg #[.int .i64 (m : Int), .int .i64 (lo : Int), .slice a k cc], .string s] w fun e w' => e = .returned (.tuple #[.agg #[.int .i64 (m : Int), .int .i64 ((lo + 1 : Nat) : Int), .slice a k cc], .bool false]) ∧ Below w.heap.size w w' := by
  have hw : IntKind.i64.wrap ((lo : Int) + 1) = (lo : Int) + 1 := by rw [IntKind.wrap_i64]; omega
  have hd : decide ((m : Int) ≤ (k : Int)) = true := decide_eq_true (by omega)
  go_enter Try.func14, Try.ntmps14
  go_wp2
  exact bodyPost_ret (results_rq2 rfl rfl (rq_two w _ _ _ _ _ _).1) rfl ⟨by rw [Int.natCast_add]; rfl, (rq_two w _ _ _ _ _ _).2.2⟩
/-- What is in the one, with another slice, in the other. -/
theorem rq_end {w : World} {g g' : Nat} {x y z x' y' z' : Value} (v : Value) (h2 : BkA 28 w g [x, y, z]) (h1 : BkA 28 w g' [x', y', z']) (hne : g ≠ g') :
    BkA 28 ((((w.setCell ⟨g, 2, none⟩ v).setCell ⟨g', 0, none⟩ x).setCell ⟨g', 1, none⟩ y).setCell ⟨g', 2, none⟩ v) g' [x, y, v] ∧ Tu (fun j => j = g ∨ j = g') w ((((w.setCell ⟨g, 2, none⟩ v).setCell ⟨g', 0, none⟩ x).setCell ⟨g', 1, none⟩ y).setCell ⟨g', 2, none⟩ v) := by
  have k1 := h1.tu (tu_set w g 2 v) (fun e => hne e.symm)
  refine ⟨((k1.set 0 x).set 1 y).set 2 v, ?_⟩
  exact ((((tu_set w g 2 v).wide (G := fun j => j = g ∨ j = g') fun j e => .inl e).trans (tu_set _ g' 0 x) fun _ _ e => .inr e).trans (tu_set _ g' 1 y) fun _ _ e => .inr e).trans (tu_set _ g' 2 v) fun _ _ e => .inr e
set_option maxHeartbeats 1000000 in
theorem rqput_yes (m lo k cc B : Nat) (a : Option Addr) (L : List ByteArray) (s : ByteArray) (w : World) (h : OwnT w B (.slice a k cc) L) (hl : L.length = k) (hr : k < m) (hm : m ≤ 256) :
    Calls Try.prog 14 #[.agg #[.int .i64 (m : Int), .int .i64 (lo : Int), .slice a k cc], .string s] w fun e w' => ∃ b' c', e = .returned (.tuple #[.agg #[.int .i64 (m : Int), .int .i64 (lo : Int), .slice b' (k + 1) c'], .bool true]) ∧ OwnT w' w.heap.size (.slice b' (k + 1) c') (L ++ [s]) ∧ Below w.heap.size w w' := by
  have hd : decide ((m : Int) ≤ (k : Int)) = false := decide_eq_false (by omega)
  have HO := hide h
  have HT := hide (show TextsAt w a k L by
    obtain ⟨a', c', e, ht⟩ := h.texts
    simp only [Value.slice.injEq] at e
    obtain ⟨rfl, e2, _⟩ := e
    rw [hl] at ht
    exact ht)
  obtain ⟨q1, q2, q3⟩ := rq_two w (.int .i64 (m : Int)) (.int .i64 (lo : Int)) (.slice a k cc) (.int .i64 0) (.int .i64 0) (.slice none 0 0)
  have HQ1 := hide q1
  have HQ2 := hide q2
  have HQ3 := hide q3
  have HL := hide hl
  have HS2 := hide (show (L ++ [s]).length = k + 1 by rw [List.length_append, hl]; rfl)
  clear q1 q2 q3 h hl
  have HF1 : Hid True := hide trivial
  go_enter Try.func14, Try.ntmps14
  go_wp2_with (first
    | (clear HF1; at_builtin; refine wpList_append_nilT rfl _ _ rfl a k cc L rfl rfl ((unhide HT).below (unhide HQ3)) (by omega) ?_; intro v5 w5 ho5 hb5; obtain ⟨b5, c5, hv5, -⟩ := ho5.texts; rw [unhide HL] at hv5; subst hv5; have HO5 := hide ho5; have HB5 := hide hb5; clear ho5 hb5)
    | (at_builtin; refine wpList_pushT rfl _ _ rfl _ (.slice b5 k c5) L s rfl rfl (unhide HO5) (unhide HB5).size (by rw [unhide HL]; omega) ?_; intro v6 w6 ho6 hb6; obtain ⟨b6, c6, hv6, -⟩ := ho6.texts; rw [unhide HS2] at hv6; subst hv6; have HB6 := hide ((unhide HB5).trans hb6); have HO6 := hide ho6; clear ho6 hb6; have h2 := (unhide HQ2).below (unhide HB6); have h1 := (unhide HQ1).below (unhide HB6); have HE := hide (rq_end (.slice b6 (k + 1) c6) h2 h1 (by omega)); have r0 := h2.at 0 rfl; have r1 := h2.at 1 rfl; have r2 := h2.at 2 rfl; have f2 := h2.frz 2; have p0 := h1.at 0 rfl; have p1 := h1.at 1 rfl; have p2 := h1.at 2 rfl; have f3 := h1.frz 0; have f4 := h1.frz 1; have f5 := h1.frz 2; clear h1 h2)
    | fail)
  have hsz : ((w.alloc (.cells #[.int .i64 (m : Int), .int .i64 (lo : Int), .slice a k cc] 28)).alloc (.cells #[.int .i64 0, .int .i64 0, .slice none 0 0] 28)).heap.size = w.heap.size + 2 := by rw [alloc_size, alloc_size]
  have hO := (unhide HO6).tu (unhide HE).2 (fun j hj e => by rcases e with e | e <;> omega)
  have hB : Below w.heap.size w w6 := (unhide HQ3).trans ((unhide HB6).mono (by omega))
  exact bodyPost_ret (results_rq2 rfl rfl (unhide HE).1) rfl ⟨b6, c6, rfl, hO.mono (by omega), hB.trans ((unhide HE).2.below hB.size (fun j hj e => by rcases e with e | e <;> omega))⟩
set_option maxHeartbeats 1000000 in
theorem rqtake_no (m lo cc : Nat) (a : Option Addr) (w : World) :
    Calls Try.prog 12 #[.agg #[.int .i64 (m : Int), .int .i64 (lo : Int), .slice a 0 cc]] w fun e w' => e = .returned (.tuple #[.agg #[.int .i64 (m : Int), .int .i64 (lo : Int), .slice a 0 cc], .string ⟨#[]⟩, .bool false]) ∧ Below w.heap.size w w' := by
  go_enter Try.func12, Try.ntmps12
  go_wp2
  exact bodyPost_ret (results_rq3 rfl rfl rfl (rq_two w _ _ _ _ _ _).1) rfl ⟨rfl, (rq_two w _ _ _ _ _ _).2.2⟩
set_option maxHeartbeats 1000000 in
theorem rqtake_yes (m lo k cc B : Nat) (a : Option Addr) (s : ByteArray) (L : List ByteArray) (w : World) (h : OwnT w B (.slice a (k + 1) cc) (s :: L)) (hl : L.length = k) (hk : k ≤ 1048576) :
    Calls Try.prog 12 #[.agg #[.int .i64 (m : Int), .int .i64 (lo : Int), .slice a (k + 1) cc]] w fun e w' => ∃ b' c', e = .returned (.tuple #[.agg #[.int .i64 (m : Int), .int .i64 (lo : Int), .slice b' k c'], .string s, .bool true]) ∧ OwnT w' w.heap.size (.slice b' k c') L ∧ Below w.heap.size w w' := by
  have hl1 : (s :: L).length = k + 1 := by rw [List.length_cons, hl]
  obtain ⟨gi, rfl⟩ := h.some (by omega) hl1
  have hcap := h.cap
  have HT := hide (show TextsAt w (some ⟨gi, 0, none⟩) (k + 1) (s :: L) by
    obtain ⟨a', c', e, ht⟩ := h.texts
    simp only [Value.slice.injEq] at e
    obtain ⟨rfl, e2, _⟩ := e
    rw [hl1] at ht
    exact ht)
  have hc0 := h.cellT (i := 0) (by omega) hl1
  rw [show (s :: L).getD 0 ByteArray.empty = s from rfl] at hc0
  have hgi : gi < w.heap.size := World.block_lt_of_cell? w _ hc0
  obtain ⟨a', hsl, hta⟩ := tslice_tl (unhide HT) hcap
  obtain ⟨q1, q2, q3⟩ := rq_two w (.int .i64 (m : Int)) (.int .i64 (lo : Int)) (.slice (some ⟨gi, 0, none⟩) (k + 1) cc) (.int .i64 0) (.int .i64 0) (.slice none 0 0)
  have hc1 := (q3.cell hgi).trans hc0
  have HQ1 := hide q1
  have HQ2 := hide q2
  have HQ3 := hide q3
  have HTA := hide hta
  have HL := hide hl
  clear q1 q2 q3 h hl hl1 hcap hta hc0
  go_enter Try.func12, Try.ntmps12
  go_wp2_with (first
    | (at_builtin; refine wpList_append_nilT rfl _ _ rfl a' k (cc - 1) L rfl rfl ((unhide HTA).below (unhide HQ3)) hk ?_; intro v6 w6 ho6 hb6; obtain ⟨b6, c6, hv6, -⟩ := ho6.texts; rw [unhide HL] at hv6; subst hv6; have HB6 := hide hb6; have HO6 := hide ho6; clear ho6 hb6; have h2 := (unhide HQ2).below (unhide HB6); have h1 := (unhide HQ1).below (unhide HB6); have HE := hide (rq_end (.slice b6 k c6) h2 h1 (by omega)); have r0 := h2.at 0 rfl; have r1 := h2.at 1 rfl; have r2 := h2.at 2 rfl; have f2 := h2.frz 2; have p0 := h1.at 0 rfl; have p1 := h1.at 1 rfl; have p2 := h1.at 2 rfl; have f3 := h1.frz 0; have f4 := h1.frz 1; have f5 := h1.frz 2; clear h1 h2)
    | fail)
  have hsz : ((w.alloc (.cells #[.int .i64 (m : Int), .int .i64 (lo : Int), .slice (some ⟨gi, 0, none⟩) (k + 1) cc] 28)).alloc (.cells #[.int .i64 0, .int .i64 0, .slice none 0 0] 28)).heap.size = w.heap.size + 2 := by rw [alloc_size, alloc_size]
  have hO := (unhide HO6).tu (unhide HE).2 (fun j hj e => by rcases e with e | e <;> omega)
  have hB : Below w.heap.size w w6 := (unhide HQ3).trans ((unhide HB6).mono (by omega))
  exact bodyPost_ret (results_rq3 rfl rfl rfl (unhide HE).1) rfl ⟨b6, c6, rfl, hO.mono (by omega), hB.trans ((unhide HE).2.below hB.size (fun j hj e => by rcases e with e | e <;> omega))⟩
end Go.Proofs.Ytongbbianelfmaa
