/-
  Contract of calm.pathToSink: the way to the first sink that there is one to. Condition: the config is one.
-/
import Derived.Test.YtakoaadimhpclaaGreatDoorU41
namespace Go.Proofs.YtakoaadimhpclaaGreatDoor
open Go.RowKit Go.Sort Go.Shelf
set_option linter.unusedVariables false
set_option linter.unusedSimpArgs false
set_option maxRecDepth 4000
attribute [local go_sem] Oper.semAt_some

/-- The way from one node to another, or none. -/
def wayF (ds : List NDV) (n s j : Nat) : List Nat := if farN ds n j s < 8 then wayL ds n j s else []
theorem PathP.way {f : CFV} {s j : Nat} {L : List Nat} (h : PathP f (s : Int) (j : Int) L) (hc : ChkR f 0) (hs : s < f.n) (hj : j < f.n) : L = wayF f.ds f.n s j := by
  unfold wayF
  rcases h with ⟨_, _, _, h4, h5⟩ | ⟨h1, h2⟩
  · rw [Int.toNat_natCast, Int.toNat_natCast] at h4 h5
    rw [if_pos h4, h5]
  · rw [h2, if_neg fun h => h1 ⟨hc, by omega, by omega, by rw [Int.toNat_natCast, Int.toNat_natCast]; exact h⟩]
/-- The way to the first sink that there is one to. -/
def SinkR (f : CFV) (s : Nat) (L : List Nat) : Prop :=
  (∃ i, i < f.n ∧ kdN f.ds i = 3 ∧ L = wayF f.ds f.n s i ∧ L ≠ [] ∧ ∀ j, j < i → kdN f.ds j = 3 → wayF f.ds f.n s j = []) ∨ (L = [] ∧ ∀ j, j < f.n → kdN f.ds j = 3 → wayF f.ds f.n s j = [])
theorem SinkR.uniq {f : CFV} {s : Nat} {L M : List Nat} (h : SinkR f s L) (k : SinkR f s M) : L = M := by
  rcases h with ⟨i, h1, h2, h3, h4, h5⟩ | ⟨h1, h2⟩ <;> rcases k with ⟨q, k1, k2, k3, k4, k5⟩ | ⟨k1, k2⟩
  · rcases Nat.lt_trichotomy i q with h | h | h
    · exact absurd (h3.trans (k5 i h h2)) h4
    · rw [h3, k3, h]
    · exact absurd (k3.trans (h5 q h k2)) k4
  · exact absurd (h3.trans (k2 i h1 h2)) h4
  · exact absurd (k3.trans (h2 q k1 k2)) k4
  · rw [h1, k1]
theorem sink_ex (f : CFV) (s : Nat) : ∃ L, SinkR f s L := by
  have key : ∀ m, m ≤ f.n → (∃ i, i < m ∧ kdN f.ds i = 3 ∧ wayF f.ds f.n s i ≠ [] ∧ ∀ j, j < i → kdN f.ds j = 3 → wayF f.ds f.n s j = []) ∨ ∀ j, j < m → kdN f.ds j = 3 → wayF f.ds f.n s j = [] := by
    intro m
    induction m with
    | zero => exact fun _ => .inr fun j h => by omega
    | succ m ih =>
      intro hm
      rcases ih (by omega) with ⟨i, h1, h2, h3, h4⟩ | h
      · exact .inl ⟨i, by omega, h2, h3, h4⟩
      · by_cases hk : kdN f.ds m = 3 ∧ wayF f.ds f.n s m ≠ []
        · exact .inl ⟨m, by omega, hk.1, hk.2, h⟩
        · refine .inr fun j hj hk3 => ?_
          by_cases e : j = m
          · subst e
            exact Classical.byContradiction fun hne => hk ⟨hk3, hne⟩
          · exact h j (by omega) hk3
  rcases key f.n (Nat.le_refl _) with ⟨i, h1, h2, h3, h4⟩ | h
  · exact ⟨_, .inl ⟨i, h1, h2, rfl, h3, h4⟩⟩
  · exact ⟨[], .inr ⟨rfl, h⟩⟩
/-- One source alone. -/
theorem src_one {ds : List NDV} : ∀ n, srcN ds n = 1 → ∃ s, s < n ∧ kdN ds s = 1 ∧ ∀ j, j < n → kdN ds j = 1 → j = s := by
  have h0 : ∀ n, srcN ds n = 0 → ∀ j, j < n → kdN ds j ≠ 1 := by
    intro n
    induction n with
    | zero => exact fun _ j h => by omega
    | succ n ih =>
      intro h j hj
      unfold srcN at h
      by_cases e : (ds.getD n .dflt).kd = 1
      · rw [if_pos e] at h; omega
      · rw [if_neg e] at h
        by_cases q : j = n
        · rw [q]; exact e
        · exact ih (by omega) j (by omega)
  intro n
  induction n with
  | zero => intro h; exact absurd (show 0 = 1 from h) (by decide)
  | succ n ih =>
    intro h
    unfold srcN at h
    by_cases e : (ds.getD n .dflt).kd = 1
    · rw [if_pos e] at h
      refine ⟨n, by omega, e, fun j hj hk => ?_⟩
      by_cases q : j = n
      · exact q
      · exact absurd hk (h0 n (by omega) j (by omega))
    · rw [if_neg e] at h
      obtain ⟨s, h1, h2, h3⟩ := ih (by omega)
      refine ⟨s, by omega, h2, fun j hj hk => ?_⟩
      by_cases q : j = n
      · rw [q] at hk; exact absurd hk e
      · exact h3 j (by omega) hk
/-- What stands while the sinks are asked: the config's box, the answer's box. -/
structure PkI (w : World) (f : CFV) (W : World) : Prop where
  cfg : BkA 51 W w.heap.size [.slice f.a f.n f.c, .string f.obj, .int .i64 f.size, .int .i64 f.spread, .int .i64 f.buffer, .int .i64 f.queue, .int .i64 f.cache, .float .f64 f.rate, .int .i64 f.timeout, .int .i64 f.target]
  res : Boxed W (w.heap.size + 1) 58 (.slice none 0 0)
  low : Below w.heap.size w W
theorem PkI.kept {w W W' : World} {f : CFV} {B : Nat} {r : Option Nat} (h : PkI w f W) (hg : W.grownBy W' r) (hB : w.heap.size ≤ B) (hr : ∀ q, r = some q → B ≤ q ∧ ∃ o : Obj, W.heap[q]? = some o ∧ o.isCells = false) : PkI w f W' := by
  have hne : ∀ q (cs : Array Value) (t : TypeId) (z : Nat × Nat), W.heap[q]? = some (.cells cs t z) → some q ≠ r := fun q cs t z hq e => by
    obtain ⟨o, ho, hc⟩ := (hr q e.symm).2
    rw [hq] at ho
    cases ho
    cases hc
  exact ⟨h.cfg.kept hg (hne _ _ _ _ h.cfg), h.res.kept hg (hne _ _ _ _ h.res), h.low.trans (gb_below hg h.low.size fun k hk => Nat.le_trans hB (hr k hk).1)⟩
theorem PkI.own {w : World} {f : CFV} {B : Nat} {α : Type} (hB : w.heap.size ≤ B) : OwnFrom B (fun (_ : α) W => PkI w f W) := fun s W W' r hs hg hr => hs.kept hg hB hr
theorem PkI.alloc {w W : World} {f : CFV} (h : PkI w f W) (o : Obj) : PkI w f (W.alloc o) := h.kept (World.grownBy_alloc W o none) (Nat.le_refl _) (fun q e => by cases e)
theorem PkI.below {w W W' : World} {f : CFV} (h : PkI w f W) (hb : Below W.heap.size W W') : PkI w f W' := ⟨h.cfg.below hb, (hb.block _ h.res.lt).trans h.res, h.low.trans (hb.mono h.low.size)⟩
/-- The answer lies in its box. -/
def PkX (w : World) (L0 : List Nat) (c : Code) (W : World) : Prop := (c = .ret ∧ L0 ≠ []) ∧ (∃ v, Boxed W (w.heap.size + 1) 58 v ∧ W.ownsRow w.heap.size 3 1 v L0.length (cellsZ (natZ L0)) ∧ True) ∧ Below w.heap.size w W
theorem PkX.own {w : World} {L0 : List Nat} {B : Nat} {α : Type} (c : Code) (hB : w.heap.size ≤ B) : OwnFrom B (fun (_ : α) W => PkX w L0 c W) :=
  OwnFrom.and (ownFrom_pure _ _) (OwnFrom.and (Own.from (holdsRow_own w.heap.size (w.heap.size + 1) 58 3 1 (fun _ : α => L0.length) (fun _ => cellsZ (natZ L0)) (fun _ _ => True)) _) (fun s W W' r hs hg hr => hs.trans (gb_below hg hs.size fun k hk => Nat.le_trans hB (hr k hk).1)))
/-- The way to the last of these sinks. -/
def lastW (f : CFV) (s : Nat) (pre : List (KindT f.ds f.n 3)) : List Nat := wayF f.ds f.n s ((pre.getLast?.map (·.1)).getD 0)
/-- None ahead of the last one has a way; it has one. -/
def LastP (f : CFV) (s : Nat) (pre : List (KindT f.ds f.n 3)) : Prop := ∃ pre' y, pre = pre' ++ [y] ∧ (∀ z ∈ pre', wayF f.ds f.n s z.1 = []) ∧ wayF f.ds f.n s y.1 ≠ []
theorem lastW_snoc (f : CFV) (s : Nat) (pre : List (KindT f.ds f.n 3)) (y : KindT f.ds f.n 3) : lastW f s (pre ++ [y]) = wayF f.ds f.n s y.1 := by simp [lastW]
theorem LastP.sink {f : CFV} {s : Nat} {pre : List (KindT f.ds f.n 3)} (h : LastP f s pre) (hp : ∀ pre' x, pre = pre' ++ [x] → ∀ j, j < x.1 → kdN f.ds j = 3 → ∃ y ∈ pre', y.1 = j) : SinkR f s (lastW f s pre) ∧ lastW f s pre ≠ [] := by
  obtain ⟨pre', y, rfl, h1, h2⟩ := h
  rw [lastW_snoc]
  exact ⟨.inl ⟨y.1, y.2.1, y.2.2, rfl, h2, fun j hj hk => by obtain ⟨z, hz, e⟩ := hp pre' y rfl j hj hk; rw [← e]; exact h1 z hz⟩, h2⟩
theorem ownFrom_size {β : Type} (B m : Nat) : OwnFrom B (fun (_ : β) (W : World) => m ≤ W.heap.size) := fun _ _ _ _ hs hg _ => Nat.le_trans hs hg.size
/-- The answer of one round lies in its box. -/
def PkX2 (w : World) (f : CFV) (s : Nat) (c : Code) (pre : List (KindT f.ds f.n 3)) (W : World) : Prop := (c = .ret ∧ LastP f s pre) ∧ (∃ v, Boxed W (w.heap.size + 1) 58 v ∧ W.ownsRow w.heap.size 3 1 v (lastW f s pre).length (cellsZ (natZ (lastW f s pre))) ∧ True) ∧ Below w.heap.size w W
theorem PkX2.own {w : World} {f : CFV} {s : Nat} {B : Nat} (c : Code) (hB : w.heap.size ≤ B) : OwnFrom B (PkX2 w f s c) :=
  OwnFrom.and (ownFrom_pure _ _) (OwnFrom.and (Own.from (holdsRow_own w.heap.size (w.heap.size + 1) 58 3 1 (fun pre => (lastW f s pre).length) (fun pre => cellsZ (natZ (lastW f s pre))) (fun _ _ => True)) _) (fun s W W' r hs hg hr => hs.trans (gb_below hg hs.size fun k hk => Nat.le_trans hB (hr k hk).1)))
set_option maxRecDepth 100000 in
set_option maxHeartbeats 8000000 in
theorem pts_any (f : CFV) (s : Nat) (L0 : List Nat) (w : World) (hf : CfIn w f) (hc : ChkR f 0) (hs : s < f.n) (hk : kdN f.ds s = 1) (h1s : ∀ j, j < f.n → kdN f.ds j = 1 → j = s) (hL : SinkR f s L0) :
    Calls Tryz.prog 30 #[f.val] w fun e w' => ∃ v, e = .returned v ∧ OwnZ w' w.heap.size v (natZ L0) ∧ Below w.heap.size w w' := by
  refine (callsIn_wide (n := 12)).1 ?_
  have hN8 := (stepP_of hc).1.1
  have HF := hide hf
  have HC := hide hc
  have HL := hide hL
  have HS := hide h1s
  have HOF := hide (fun (kd : Int) (wx : World) => ofkind_any f.a f.n f.c kd wx)
  have X := bkA_new 51 w [.slice f.a f.n f.c, .string f.obj, .int .i64 f.size, .int .i64 f.spread, .int .i64 f.buffer, .int .i64 f.queue, .int .i64 f.cache, .float .f64 f.rate, .int .i64 f.timeout, .int .i64 f.target]
  have HP0 := hide (show PkI w f ((w.alloc (.cells #[.slice f.a f.n f.c, .string f.obj, .int .i64 f.size, .int .i64 f.spread, .int .i64 f.buffer, .int .i64 f.queue, .int .i64 f.cache, .float .f64 f.rate, .int .i64 f.timeout, .int .i64 f.target] 51)).alloc (.cells #[.slice none 0 0] 58)) from by
    refine ⟨X.below (alloc_low _ _), ?_, ((Below.refl _ w).alloc (Nat.le_refl _) _).alloc (by simp) _⟩
    have := Boxed.new (w.alloc (.cells #[.slice f.a f.n f.c, .string f.obj, .int .i64 f.size, .int .i64 f.spread, .int .i64 f.buffer, .int .i64 f.queue, .int .i64 f.cache, .float .f64 f.rate, .int .i64 f.timeout, .int .i64 f.target] 51)) 58 (.slice none 0 0)
    rwa [World.size_alloc] at this)
  have hszc : ((w.alloc (.cells #[.slice f.a f.n f.c, .string f.obj, .int .i64 f.size, .int .i64 f.spread, .int .i64 f.buffer, .int .i64 f.queue, .int .i64 f.cache, .float .f64 f.rate, .int .i64 f.timeout, .int .i64 f.target] 51)).alloc (.cells #[.slice none 0 0] 58)).heap.size = w.heap.size + 2 := by simp
  clear hf hc hL h1s X
  unfold CFV.val at *
  refine callsIn_of_wp_marks Tryz.func30 rfl trivial ?_ rfl
  simp only [Tryz.ntmps30, List.size_toArray, List.length_cons, List.length_nil, Nat.reduceAdd, Nat.reduceSub, Array.replicate_succ, Array.replicate_zero, List.push_toArray, List.append_toArray, List.nil_append, List.cons_append]
  gi_wp2_with (first
    | (refine ⟨trivial, ?_⟩; gi_at_call 54; refine (callsIn_wide.2 (unhide HOF _ _)).mono ?_; rintro e w2 ⟨rfl, hw2⟩)
    | fail)
  obtain ⟨W0, hW0⟩ : ∃ W0, W0 = (((w.alloc (.cells #[.slice f.a f.n f.c, .string f.obj, .int .i64 f.size, .int .i64 f.spread, .int .i64 f.buffer, .int .i64 f.queue, .int .i64 f.cache, .float .f64 f.rate, .int .i64 f.timeout, .int .i64 f.target] 51)).alloc (.cells #[.slice none 0 0] 58)).alloc (.cells #[.slice f.a f.n f.c] 48)).alloc (.cells #[.int .i64 1] 3) := ⟨_, rfl⟩
  have HP1 := hide (show PkI w f W0 from by rw [hW0]; exact ((unhide HP0).alloc _).alloc _)
  have hsz0 : W0.heap.size = w.heap.size + 4 := by rw [hW0]; simp
  have bN : Boxed W0 (w.heap.size + 2) 48 (.slice f.a f.n f.c) := by
    rw [hW0, ← hszc]
    exact (Boxed.new _ _ _).alloc _
  have bK : Boxed W0 (w.heap.size + 2 + 1) 3 (.int .i64 1) := by
    rw [hW0, ← hszc]
    have := Boxed.new (((w.alloc (.cells #[.slice f.a f.n f.c, .string f.obj, .int .i64 f.size, .int .i64 f.spread, .int .i64 f.buffer, .int .i64 f.queue, .int .i64 f.cache, .float .f64 f.rate, .int .i64 f.timeout, .int .i64 f.target] 51)).alloc (.cells #[.slice none 0 0] 58)).alloc (.cells #[.slice f.a f.n f.c] 48)) 3 (.int .i64 1)
    rwa [World.size_alloc (_ : World)] at this
  rw [← hW0]
  clear hW0 HP0 hszc
  have hwW0 := (unhide HP1).low.size
  refine wpIn_rangeFunc_ownH rfl (by omega) (gf := 70) (lb := #[.pointer (some ⟨w.heap.size + 2, 0, none⟩), .pointer (some ⟨w.heap.size + 2 + 1, 0, none⟩)]) rfl trivial (enters_of Tryz.func70 (by kernel_rfl) rfl)
    (ofkind1_stops (12 - 1) (by omega) (w.heap.size + 2) (w.heap.size + 2 + 1) f.a f.n f.c f.ds 1 w W0 (unhide HP1).low (unhide HF).nds hN8 bN.cell bK.cell (.inr (by omega)) W0.heap.size hwW0 (by omega) (Nat.le_refl _)) belowK_t (belowK_b (Nat.le_refl _)) (Below.refl _ _) (fun _ => rfl)
    (fun pre W => (PkI w f W ∧ (pre ≠ [] → L0 = [])) ∧ W0.heap.size ≤ W.heap.size)
    (fun c pre W => PkX w L0 c W)
    (OwnFrom.and (OwnFrom.and (PkI.own hwW0) (ownFrom_pure _ _)) (ownFrom_size _ _))
    (fun c => PkX.own c hwW0)
    ⟨⟨unhide HP1, fun h => absurd rfl h⟩, Nat.le_refl _⟩
    (fun x a' W => ∃ Bx, W0.heap.size ≤ Bx ∧ Boxed W Bx 3 (.int .i64 (x.1 : Int)) ∧ a' = { tmps := #[.agg #[.slice f.a f.n f.c, .string f.obj, .int .i64 f.size, .int .i64 f.spread, .int .i64 f.buffer, .int .i64 f.queue, .int .i64 f.cache, .float .f64 f.rate, .int .i64 f.timeout, .int .i64 f.target], .pointer (some ⟨w.heap.size, 0, none⟩), .pointer (some ⟨w.heap.size + 1, 0, none⟩), .pointer (some ⟨Bx, 0, none⟩), undef, undef, .pointer (some ⟨w.heap.size, 0, none⟩), .slice f.a f.n f.c, .func (.func 70) #[] #[.pointer (some ⟨w.heap.size + 2, 0, none⟩), .pointer (some ⟨w.heap.size + 2 + 1, 0, none⟩)], .int .i64 (x.1 : Int), undef, undef, undef, undef, undef, undef, undef, undef, undef, undef, undef, undef], defers := [] })
    (fun x a' _ X Y row hs hg hr => by obtain ⟨Bx, e1, e2, e3⟩ := hs; exact ⟨Bx, e1, boxed_own Bx 3 (fun (_ : Unit) => Value.int .i64 (x.1 : Int)) () X Y row e2 hg (fun r e => (hr r e).2), e3⟩)
    ?assign ?body ?done ?stop
  case assign =>
    rintro l pre x W K ⟨⟨hp, hpre⟩, hsz⟩ hK
    gi_wp2
    exact hK _ _ ((KeepsOthers.alloc _ _).from _) ((Below.refl _ W).alloc hsz _) ⟨⟨hp.alloc _, hpre⟩, Nat.le_trans hsz (by simp)⟩ ⟨W.heap.size, hsz, Boxed.new W 3 _, rfl⟩
  case body =>
    rintro l pre x a' W hl ⟨r, hr⟩ ⟨⟨hp, hpre⟩, hsz⟩ ⟨Bx, hBx, bX, rfl⟩ hlt
    obtain ⟨x, hx1, hx2⟩ := x
    obtain rfl : x = s := (unhide HS) x hx1 hx2
    have c0 := hp.cfg.at 0 rfl
    have HPK := hide hp
    gi_wp2_with (first
      | (refine ⟨trivial, ?_⟩; gi_at_call 54; refine (CallsIn.inRound l (callsIn_wide.2 (unhide HOF _ _))).mono ?_; rintro e w2 ⟨rfl, hw2⟩)
      | fail)
    obtain ⟨Wb, hWb⟩ : ∃ Wb, Wb = (W.alloc (.cells #[.slice f.a f.n f.c] 48)).alloc (.cells #[.int .i64 3] 3) := ⟨_, rfl⟩
    have hbW : Below W.heap.size W Wb := by rw [hWb]; exact ((Below.refl _ W).alloc (Nat.le_refl _) _).alloc (by simp) _
    have hszb : Wb.heap.size = W.heap.size + 2 := by rw [hWb]; simp
    have HPb := hide (hp.below hbW)
    have bXb : Boxed Wb Bx 3 (.int .i64 (x : Int)) := (hbW.block Bx bX.lt).trans bX
    have bNb : Boxed Wb W.heap.size 48 (.slice f.a f.n f.c) := by rw [hWb]; exact (Boxed.new W _ _).alloc _
    have bKb : Boxed Wb (W.heap.size + 1) 3 (.int .i64 3) := by
      rw [hWb]
      have := Boxed.new (W.alloc (.cells #[.slice f.a f.n f.c] 48)) 3 (.int .i64 3)
      rwa [World.size_alloc] at this
    have hr' : Wb.heap[l]? = some (.loop r) := (hbW.block l (Array.getElem?_eq_some_iff.1 hr).1).trans hr
    have HKF := hide (show Below W0.heap.size W Wb ∧ KeepsFrom W0.heap.size W Wb from ⟨hbW.mono hsz, by rw [hWb]; exact ((KeepsOthers.alloc _ _).trans (KeepsOthers.alloc _ _)).from _⟩)
    have hwb := (unhide HPb).low.size
    have hsz2 := hbW.size
    have HPRE := hide hpre
    rw [← hWb]
    clear hWb c0 hp hbW hpre
    refine wpIn_rangeFunc_ownN (l₀ := l) (r₀ := r) rfl hr' (by omega) (gf := 70) (lb := #[.pointer (some ⟨W.heap.size, 0, none⟩), .pointer (some ⟨W.heap.size + 1, 0, none⟩)]) rfl trivial (enters_of Tryz.func70 (by kernel_rfl) rfl)
      ((ofkind1_stops (12 - 1 - 1 - 1) (by omega) W.heap.size (W.heap.size + 1) f.a f.n f.c f.ds 3 w Wb (unhide HPb).low (unhide HF).nds hN8 bNb.cell bKb.cell (.inr (by omega)) Wb.heap.size hwb (by omega) (Nat.le_refl _)).inRound l) belowK_t (belowK_b (Nat.le_refl _)) (Below.refl _ _) (fun _ => rfl)
      (fun pre' W' => (((PkI w f W' ∧ (∀ z ∈ pre', wayF f.ds f.n x z.1 = [])) ∧ Wb.heap.size ≤ W'.heap.size) ∧ Boxed W' Bx 3 (.int .i64 (x : Int))) ∧ (Below W0.heap.size W W' ∧ KeepsFrom W0.heap.size W W'))
      (fun c pre' W' => PkX2 w f x c pre' W' ∧ KeepsFrom W0.heap.size W W')
      (OwnFrom.and (OwnFrom.and (OwnFrom.and (OwnFrom.and (PkI.own hwb) (ownFrom_pure _ _)) (ownFrom_size _ _)) (Own.from (boxed_own _ _ _) _)) (OwnFrom.and (ownFrom_below hsz (by omega)) (ownFrom_keepsFrom hsz2)))
      (fun c => OwnFrom.and (PkX2.own c hwb) (ownFrom_keepsFrom hsz2))
      ⟨⟨⟨⟨unhide HPb, fun z hz => by simp at hz⟩, Nat.le_refl _⟩, bXb⟩, unhide HKF⟩
      (fun y a'' _ => a'' = { tmps := #[.agg #[.slice f.a f.n f.c, .string f.obj, .int .i64 f.size, .int .i64 f.spread, .int .i64 f.buffer, .int .i64 f.queue, .int .i64 f.cache, .float .f64 f.rate, .int .i64 f.timeout, .int .i64 f.target], .pointer (some ⟨w.heap.size, 0, none⟩), .pointer (some ⟨w.heap.size + 1, 0, none⟩), .pointer (some ⟨Bx, 0, none⟩), .int .i64 (y.1 : Int), undef, .pointer (some ⟨w.heap.size, 0, none⟩), .slice f.a f.n f.c, .func (.func 70) #[] #[.pointer (some ⟨w.heap.size + 2, 0, none⟩), .pointer (some ⟨w.heap.size + 2 + 1, 0, none⟩)], .int .i64 (x : Int), .pointer (some ⟨w.heap.size, 0, none⟩), .slice f.a f.n f.c, .func (.func 70) #[] #[.pointer (some ⟨W.heap.size, 0, none⟩), .pointer (some ⟨W.heap.size + 1, 0, none⟩)], .int .i64 (y.1 : Int), undef, undef, undef, undef, undef, undef, undef, undef], defers := [] })
      (fun _ _ _ _ _ _ hs _ _ => hs)
      ?assign2 ?body2 ?done2 ?stop2
    case assign2 =>
      rintro l2 pre' y W' K hi hK
      gi_wp2
      exact hK _ _ (KeepsFrom.refl _ _) (Below.refl _ _) hi rfl
    case body2 =>
      rintro l2 pre' y a'' W' _ _ ⟨⟨⟨⟨hp2, hn2⟩, hs2⟩, bX2⟩, hBW, hKF⟩ rfl _
      have y0 := hp2.cfg.at 0 rfl
      have y1 := hp2.cfg.at 1 rfl
      have y2 := hp2.cfg.at 2 rfl
      have y3 := hp2.cfg.at 3 rfl
      have y4 := hp2.cfg.at 4 rfl
      have y5 := hp2.cfg.at 5 rfl
      have y6 := hp2.cfg.at 6 rfl
      have y7 := hp2.cfg.at 7 rfl
      have y8 := hp2.cfg.at 8 rfl
      have y9 := hp2.cfg.at 9 rfl
      have cX := bX2.cell
      have cR := hp2.res.cell
      have fR := hp2.res.frozen
      have hPA := hide (path_any f (x : Int) (y.1 : Int) W' ((unhide HF).below hp2.low))
      unfold CFV.val at hPA
      gi_wp2_with (first
        | (refine ⟨trivial, ?_⟩; gi_at_call 17; refine (CallsIn.inRound l2 (callsIn_wide.2 (unhide hPA))).mono ?_; rintro e w5 ⟨v, L, rfl, hPP, ho5, hb5⟩
           obtain ⟨a5, c5, rfl, hz5⟩ := ho5.ints
           have cR5 := (hb5.cell (p := ⟨w.heap.size + 1, 0, none⟩) hp2.res.lt).trans cR
           have fR5 := (hb5.frozen (p := ⟨w.heap.size + 1, 0, none⟩) hp2.res.lt).trans fR)
        | fail)
      all_goals
        have HP5 := hp2.below hb5
        have HBW5 := hBW.trans (hb5.mono (Nat.le_trans hsz hBW.size))
        have hLw := hPP.way (unhide HC) hx1 y.2.1
        have hk5 : ∀ B, KeepsFrom B W' w5 := fun B => ⟨hb5.size, fun k o _ hk _ => (hb5.block k (Array.getElem?_eq_some_iff.1 hk).1).trans hk⟩
      · rename_i hpos
        have hne : wayF f.ds f.n x y.1 ≠ [] := fun e => by rw [hLw, e] at hpos; exact absurd hpos (by decide)
        have hks := KeepsOthers.setCell w5 ⟨w.heap.size + 1, 0, none⟩ (.slice a5 (natZ L).length c5)
        have hsl := hp2.res.lt
        refine ⟨(hk5 _).trans (hks.from _), ⟨⟨rfl, pre', y, rfl, hn2, hne⟩, ⟨_, HP5.res.set _, ?_, trivial⟩, HP5.low.setCell (p := ⟨w.heap.size + 1, 0, none⟩) (by simp) _⟩, (hKF.trans (hk5 _)).trans (hks.from _)⟩
        rw [lastW_snoc, ← hLw, show L.length = (natZ L).length by simp [natZ]]
        have h7 := (ho5.mono (B' := w.heap.size) hp2.low.size)
        refine World.ownsRow.kept h7 (gb_setCell w5 (w.heap.size + 1) 0 _) ?_
        rcases ho5.2 with ⟨e, _⟩ | ⟨g, cap, cur, e, hg, _⟩
        · rw [e]; exact .inl rfl
        · rw [e]
          refine .inr fun q => ?_
          have : g = w.heap.size + 1 := by simpa [Value.ownBlock] using q
          omega
      · rename_i hpos
        have hemp : wayF f.ds f.n x y.1 = [] := by
          rw [← hLw]
          refine List.eq_nil_of_length_eq_zero ?_
          have : (natZ L).length = L.length := by simp [natZ]
          omega
        refine ⟨hk5 _, hb5.mono hs2, ⟨⟨⟨HP5, fun z hz => ?_⟩, Nat.le_trans hs2 hb5.size⟩, (hb5.block _ bX2.lt).trans bX2⟩, HBW5, hKF.trans (hk5 _)⟩
        rcases List.mem_append.1 hz with hz | hz
        · exact hn2 z hz
        · rw [List.mem_singleton.1 hz]; exact hemp
    case done2 =>
      rintro ys' W' hS ⟨⟨⟨⟨hp2, hn2⟩, hs2⟩, bX2⟩, hBW, hKF⟩
      gi_wp2
      refine ⟨hKF, hBW, ⟨hp2, fun _ => SinkR.uniq (unhide HL) (.inr ⟨rfl, fun j hj hk3 => ?_⟩)⟩, Nat.le_trans hsz hBW.size⟩
      obtain ⟨z, hz, e⟩ := hS j hj hk3
      rw [← e]
      exact hn2 z hz
    case stop2 =>
      rintro c pre' W' hpre ⟨⟨⟨rfl, hlp⟩, hrow, hlow⟩, hKF⟩
      obtain ⟨h1, h2⟩ := hlp.sink hpre
      have hL0 := SinkR.uniq (unhide HL) h1
      gi_wp2
      exact ⟨hKF, ⟨rfl, by rw [hL0]; exact h2⟩, by rw [hL0]; exact hrow, hlow⟩
  case done =>
    rintro D ys W hD hys ⟨⟨hp, hpre⟩, hsz⟩ hK
    obtain ⟨y, hy, _⟩ := hys s hs hk
    have hL0 := hpre (List.ne_nil_of_mem hy)
    have hcr := hp.res.cell
    have hfr := hp.res.frozen
    gi_wp2
    have hK' := (KeepsOthers.setCell W ⟨w.heap.size + 1, 0, none⟩ (.slice none 0 0)).same D _ hK rfl
    refine ⟨by simp, .inl ⟨_, _, rfl, run_takeDeferred hK', ?_⟩⟩
    have hc5 := cell_kept (hp.res.set (.slice none 0 0)).cell (grownBy_putObj' _ D (.deferred none)) (fun r e => by cases e; exact ⟨_, hK', rfl⟩)
    refine ⟨.slice none 0 0, ?_, _, rfl, by rw [hL0]; exact OwnZ.nil _ _, (hp.low.setCell (p := ⟨w.heap.size + 1, 0, none⟩) (by simp) _).trans (belowK_b (w := w) (Nat.le_refl _) _ D _ _ (by omega) hK' rfl rfl)⟩
    simp [results, Tryz.f30, go_sem, hc5]
  case stop =>
    rintro D c pre W hD hpre ⟨⟨rfl, hne⟩, ⟨v, hv, hrow, -⟩, hlow⟩ hK
    gi_wp2
    refine ⟨by simp, .inl ⟨_, _, rfl, run_takeDeferred hK, ?_⟩⟩
    have hc5 := cell_kept hv.cell (grownBy_putObj' _ D (.deferred none)) (fun r e => by cases e; exact ⟨_, hK, rfl⟩)
    refine ⟨v, ?_, _, rfl, ?_, hlow.trans (belowK_b (w := w) (Nat.le_refl _) W D _ _ (by omega) hK rfl rfl)⟩
    · simp [results, Tryz.f30, go_sem, hc5]
    · have := ownsRow_putObj hrow (.deferred none) hK rfl
      show World.ownsRow _ _ _ _ _ (natZ L0).length _
      rw [show (natZ L0).length = L0.length by simp [natZ]]
      exact this
end Go.Proofs.YtakoaadimhpclaaGreatDoor
