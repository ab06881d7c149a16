/-
  Contracts of link.Send (frames of at most 2^20 words), Tick, Queued, Clear, mayGo, of a link that is there and of none. No condition.
-/
import Derived.Test.YtdiondgkkanamaaDoorLkA
import Derived.Test.YtdiondgkkanamaaDoorG1
import Derived.Test.YtdiondgkkanamaaDoorQB
namespace Go.Proofs.YtdiondgkkanamaaDoor
open Go.RowKit Go.Conc
set_option linter.unusedVariables false
set_option maxRecDepth 4000

/-- May the frame be? -/
def FRV.ok (f : FRV) : Prop := FChkP f.kd f.fr f.ic f.p.o f.p.l f.p.k f.p.z f.p.h f.p.r.xs f.p.r.s
/-- The frame's bytes. -/
def FRV.enc (f : FRV) : ByteArray := fencS f.kd f.fr f.ic f.p.o f.p.l f.p.k f.p.z f.p.h f.p.r.xs f.p.r.s
theorem FRV.enc_size {f : FRV} (h : f.ok) : f.enc.size ≤ 1048576 := by
  have h1 := body_le h.2.2
  unfold FRV.enc fencS
  rw [sealS_size, st_len, fencL_len, tx_length]
  omega
theorem encF_yes (f : FRV) (w : World) (ht : Tab w) (hr : RowAt w f.p.r.a f.p.r.n f.p.r.xs) (hn : f.p.r.n ≤ 1048576) (hP : f.ok) :
    Calls Tryd.prog 18 #[f.val] w fun e w' => e = .returned (.tuple #[.string f.enc, .int .i64 0]) ∧ Below w.heap.size w w' :=
  fenc_yes f.kd f.fr f.ic f.p.o f.p.l f.p.k f.p.z f.p.h f.p.r.a f.p.r.n f.p.r.c f.p.r.xs f.p.r.s w ht hr hn hP
theorem encF_no (f : FRV) (w : World) (ht : Tab w) (hr : RowAt w f.p.r.a f.p.r.n f.p.r.xs) (hn : f.p.r.n ≤ 1048576) (hP : ¬ f.ok) :
    Calls Tryd.prog 18 #[f.val] w fun e w' => e = .returned (.tuple #[.string ⟨#[]⟩, .int .i64 1]) ∧ Below w.heap.size w w' :=
  fenc_no f.kd f.fr f.ic f.p.o f.p.l f.p.k f.p.z f.p.h f.p.r.a f.p.r.n f.p.r.c f.p.r.xs f.p.r.s w ht hr hn hP
theorem lksend_nil (f : FRV) (w : World) : Calls Tryd.prog 9 #[.pointer none, f.val] w fun e w' => e = .returned (.int .i64 1) ∧ Below w.heap.size w w' := by
  unfold FRV.val
  go_enter Tryd.func9, Tryd.ntmps9
  go_wp2
  go_ret
  exact ⟨rfl, below_new _ _⟩
set_option maxHeartbeats 1000000 in
theorem lksend_bad (g : Nat) (f : FRV) (w : World) (ht : Tab w) (hr : RowAt w f.p.r.a f.p.r.n f.p.r.xs) (hn : f.p.r.n ≤ 1048576) (hP : ¬ f.ok) :
    Calls Tryd.prog 9 #[.pointer (some ⟨g, 0, none⟩), f.val] w fun e w' => e = .returned (.int .i64 1) ∧ Below w.heap.size w w' := by
  have HE := hide (fun wx (htx : Tab wx) (hrx : RowAt wx f.p.r.a f.p.r.n f.p.r.xs) => encF_no f wx htx hrx hn hP)
  have HT := hide ht
  have HR := hide hr
  clear ht hr hn hP
  simp only [FRV.val] at HE ⊢
  go_enter Tryd.func9, Tryd.ntmps9
  go_wp2_with (first
    | (go_at_call 18; refine (unhide HE _ ((unhide HT).below (below_new _ _)) ((unhide HR).below (below_new _ _))).mono ?_; rintro e w1 ⟨rfl, hb1⟩; have HB := hide (below0 (below_new _ _) hb1); clear hb1)
    | fail)
  go_ret
  exact ⟨rfl, unhide HB⟩
set_option maxHeartbeats 1000000 in
theorem lksend_ok (g gb gq c lo : Nat) (M q Lv : Int) (L : List ByteArray) (f : FRV) (w : World) (h : LkAt w g gb gq c M q Lv L lo) (ht : Tab w) (hr : RowAt w f.p.r.a f.p.r.n f.p.r.xs) (hn : f.p.r.n ≤ 1048576) (hP : f.ok) (hl : L.length < capN q) :
    Calls Tryd.prog 9 #[.pointer (some ⟨g, 0, none⟩), f.val] w fun e w' => e = .returned (.int .i64 0) ∧ LkAt w' g gb gq c M q Lv (L ++ [f.enc]) lo ∧ Tu (lkF g gb gq c) w w' := by
  have HE := hide (fun wx (htx : Tab wx) (hrx : RowAt wx f.p.r.a f.p.r.n f.p.r.xs) => encF_yes f wx htx hrx hn hP)
  have HS := hide (FRV.enc_size hP)
  have HT := hide ht
  have HR := hide hr
  have H := hide h
  generalize f.enc = s at *
  clear ht hr hn hP h
  simp only [FRV.val] at HE ⊢
  go_enter Tryd.func9, Tryd.ntmps9
  go_wp2_with (first
    | (go_at_call 18; refine (unhide HE _ ((unhide HT).below (below_new _ _)) ((unhide HR).below (below_new _ _))).mono ?_; rintro e w1 ⟨rfl, hb1⟩; have HB := hide (below0 (below_new _ _) hb1); clear hb1; have H1 := hide ((unhide H).below (unhide HB)); have c3 := (unhide H1).blk.at 3 rfl)
    | (go_at_call 19; refine (quput_yes _ _ _ _ _ _ _ (unhide H1).qu (unhide HS) hl).mono ?_; rintro e w2 ⟨rfl, hm2, ht2⟩; have H2 := hide ((unhide H1).que hm2 ht2); have HU := hide (Tu.after (unhide HB) (lk_qu (g := g) (gb := gb) ht2)); clear hm2 ht2)
    | fail)
  go_ret
  exact ⟨rfl, unhide H2, unhide HU⟩
set_option maxHeartbeats 1000000 in
theorem lksend_full (g gb gq c lo : Nat) (M q Lv : Int) (L : List ByteArray) (f : FRV) (w : World) (h : LkAt w g gb gq c M q Lv L lo) (ht : Tab w) (hr : RowAt w f.p.r.a f.p.r.n f.p.r.xs) (hn : f.p.r.n ≤ 1048576) (hP : f.ok) (hl : capN q ≤ L.length) (hlo : lo ≤ 1099511627776) :
    Calls Tryd.prog 9 #[.pointer (some ⟨g, 0, none⟩), f.val] w fun e w' => e = .returned (.int .i64 5) ∧ LkAt w' g gb gq c M q Lv L (lo + 1) ∧ Tu (lkF g gb gq c) w w' := by
  have HE := hide (fun wx (htx : Tab wx) (hrx : RowAt wx f.p.r.a f.p.r.n f.p.r.xs) => encF_yes f wx htx hrx hn hP)
  have HS := hide (FRV.enc_size hP)
  have HT := hide ht
  have HR := hide hr
  have H := hide h
  generalize f.enc = s at *
  clear ht hr hn hP h
  simp only [FRV.val] at HE ⊢
  go_enter Tryd.func9, Tryd.ntmps9
  go_wp2_with (first
    | (go_at_call 18; refine (unhide HE _ ((unhide HT).below (below_new _ _)) ((unhide HR).below (below_new _ _))).mono ?_; rintro e w1 ⟨rfl, hb1⟩; have HB := hide (below0 (below_new _ _) hb1); clear hb1; have H1 := hide ((unhide H).below (unhide HB)); have c3 := (unhide H1).blk.at 3 rfl)
    | (go_at_call 19; refine (quput_no _ _ _ _ _ _ _ (unhide H1).qu (unhide HS) hl hlo).mono ?_; rintro e w2 ⟨rfl, hm2, ht2⟩; have H2 := hide ((unhide H1).que hm2 ht2); have HU := hide (Tu.after (unhide HB) (lk_qu (g := g) (gb := gb) ht2)); clear hm2 ht2)
    | fail)
  go_ret
  exact ⟨rfl, unhide H2, unhide HU⟩
theorem lktick_nil (n : Int) (w : World) : Calls Tryd.prog 10 #[.pointer none, .int .i64 n] w fun e w' => e = .returned (.tuple #[]) ∧ w' = w := by
  go_enter Tryd.func10, Tryd.ntmps10
  go_wp2
  exact bodyPost_ret (v := .tuple #[]) (by simp [results, Tryd.results10, go_sem]) rfl ⟨rfl, rfl⟩
theorem lktick_any (g gb gq c lo : Nat) (M q Lv n : Int) (L : List ByteArray) (w : World) (h : LkAt w g gb gq c M q Lv L lo) :
    Calls Tryd.prog 10 #[.pointer (some ⟨g, 0, none⟩), .int .i64 n] w fun e w' => e = .returned (.tuple #[]) ∧ LkAt w' g gb gq c M q (tickL M (1000 * wiZ q 1 256) Lv n) L lo ∧ Tu (lkF g gb gq c) w w' := by
  have c2 := h.blk.at 2 rfl
  have H := hide h
  have HK := hide (pctick_any gb M (1000 * wiZ q 1 256) Lv n w h.bt)
  generalize tickL M (1000 * wiZ q 1 256) Lv n = Z at *
  clear h
  go_enter Tryd.func10, Tryd.ntmps10
  go_wp2_with (first
    | (go_at_call 20; refine (unhide HK).mono ?_; rintro e w2 ⟨rfl, hm2, ht2⟩; have H2 := hide ((unhide H).lev hm2 ht2); have HU := hide (lk_bt (g := g) (gq := gq) (c := c) ht2); clear hm2 ht2)
    | fail)
  go_end0
  exact ⟨rfl, unhide H2, unhide HU⟩
theorem lkqueued_nil (w : World) : Calls Tryd.prog 12 #[.pointer none] w fun e w' => e = .returned (.int .i64 0) ∧ w' = w := by
  go_enter Tryd.func12, Tryd.ntmps12
  go_wp2
  go_ret
  exact ⟨rfl, rfl⟩
theorem lkqueued_any (g gb gq c lo k : Nat) (M q Lv : Int) (L : List ByteArray) (w : World) (h : LkAt w g gb gq c M q Lv L lo) (hk : L.length = k) :
    Calls Tryd.prog 12 #[.pointer (some ⟨g, 0, none⟩)] w fun e w' => e = .returned (.int .i64 (k : Int)) ∧ w' = w := by
  subst hk
  have c3 := h.blk.at 3 rfl
  have H := hide h
  clear h
  go_enter Tryd.func12, Tryd.ntmps12
  go_wp2_with (first
    | (go_at_call 24; refine (qulen_any _ _ _ _ _ _ (unhide H).qu).mono ?_; rintro e w1 ⟨rfl, hw1⟩; obtain rfl := hw1.symm; clear hw1)
    | fail)
  go_ret
  exact ⟨rfl, rfl⟩
theorem lkclear_nil (w : World) : Calls Tryd.prog 13 #[.pointer none] w fun e w' => e = .returned (.tuple #[]) ∧ w' = w := by
  go_enter Tryd.func13, Tryd.ntmps13
  go_wp2
  exact bodyPost_ret (v := .tuple #[]) (by simp [results, Tryd.results13, go_sem]) rfl ⟨rfl, rfl⟩
/-- Clear: the queue is clear, the bucket (another one) full. -/
theorem lkclear_any (g gb gq c lo : Nat) (M q Lv : Int) (L : List ByteArray) (w : World) (h : LkAt w g gb gq c M q Lv L lo) :
    Calls Tryd.prog 13 #[.pointer (some ⟨g, 0, none⟩)] w fun e w' => e = .returned (.tuple #[]) ∧ ∃ gb', w.heap.size ≤ gb' ∧ LkAt w' g gb' gq c M q (1000 * wiZ q 1 256) [] 0 ∧ Tu (lkF g gb gq c) w w' := by
  have c3 := h.blk.at 3 rfl
  have hM := h.bt.mil
  have H := hide h
  clear h
  go_enter Tryd.func13, Tryd.ntmps13
  go_wp2_with (first
    | (go_at_call 25; refine (quclear_any _ _ _ _ _ _ (unhide H).qu).mono ?_; rintro e w1 ⟨rfl, hm1, ht1⟩; have H1 := hide ((unhide H).que hm1 ht1); have HU1 := hide (lk_qu (g := g) (gb := gb) ht1); have HZ := hide ht1.size; clear hm1 ht1)
    | (go_at_call 17; refine (lkfill_any g M q _ _ _ (unhide H1).blk hM).mono ?_; rintro e w2 ⟨rfl, gb2, hg2, hk2, hb2, ht2⟩; have H2 := hide (show LkAt w2 g gb2 gq c M q (1000 * wiZ q 1 256) [] 0 from ⟨hk2, hb2, (unhide H1).qu.tu ht2 (fun e => (unhide H1).ne.1.2.1 e.symm) (fun e => (unhide H1).ne.1.2.2 e.symm)⟩); have HU2 := hide (lk_trans (unhide HU1) (ht2.wide (G := lkF g gb gq c) fun j e => .inl e)); have HG := hide (Nat.le_trans (unhide HZ) hg2); clear hg2 hk2 hb2 ht2)
    | fail)
  go_end0
  exact ⟨rfl, _, unhide HG, unhide H2, unhide HU2⟩
theorem lkmaygo_none (g gb gq c lo : Nat) (M q Lv : Int) (w : World) (h : LkAt w g gb gq c M q Lv [] lo) :
    Calls Tryd.prog 22 #[.pointer (some ⟨g, 0, none⟩)] w fun e w' => e = .returned (.bool false) ∧ w' = w := by
  have c3 := h.blk.at 3 rfl
  have H := hide h
  clear h
  go_enter Tryd.func22, Tryd.ntmps22
  go_wp2_with (first
    | (go_at_call 24; refine (qulen_any _ _ _ _ _ _ (unhide H).qu).mono ?_; rintro e w1 ⟨rfl, hw1⟩; obtain rfl := hw1.symm; clear hw1)
    | fail)
  go_ret
  exact ⟨rfl, rfl⟩
theorem lkmaygo_no (g gb gq c lo : Nat) (M q Lv : Int) (L : List ByteArray) (w : World) (h : LkAt w g gb gq c M q Lv L lo) (h0 : 0 < L.length) (hl : Lv < 1000) :
    Calls Tryd.prog 22 #[.pointer (some ⟨g, 0, none⟩)] w fun e w' => e = .returned (.bool false) ∧ w' = w := by
  have c2 := h.blk.at 2 rfl
  have c3 := h.blk.at 3 rfl
  have H := hide h
  have hg : (L.length : Int) > 0 := by omega
  have HQ := hide (qulen_any _ _ _ _ _ _ h.qu)
  generalize L.length = n at *
  clear h
  go_enter Tryd.func22, Tryd.ntmps22
  go_wp2_with (first
    | (go_at_call 24; refine (unhide HQ).mono ?_; rintro e w1 ⟨rfl, hw1⟩; obtain rfl := hw1.symm; clear hw1)
    | (go_at_call 35; refine (pctake_no _ _ _ _ _ (unhide H).bt hl).mono ?_; rintro e w1 ⟨rfl, hw1⟩; obtain rfl := hw1.symm; clear hw1)
    | fail)
  go_ret
  exact ⟨rfl, rfl⟩
theorem lkmaygo_yes (g gb gq c lo : Nat) (M q Lv : Int) (L : List ByteArray) (w : World) (h : LkAt w g gb gq c M q Lv L lo) (h0 : 0 < L.length) (hl : 1000 ≤ Lv) :
    Calls Tryd.prog 22 #[.pointer (some ⟨g, 0, none⟩)] w fun e w' => e = .returned (.bool true) ∧ LkAt w' g gb gq c M q (Lv - 1000) L lo ∧ Tu (lkF g gb gq c) w w' := by
  have c2 := h.blk.at 2 rfl
  have c3 := h.blk.at 3 rfl
  have H := hide h
  have hg : (L.length : Int) > 0 := by omega
  have HQ := hide (qulen_any _ _ _ _ _ _ h.qu)
  have HX := hide (fun wx hb ht => h.lev (w' := wx) (Lv' := Lv - 1000) hb ht)
  generalize L.length = n at *
  clear h
  go_enter Tryd.func22, Tryd.ntmps22
  go_wp2_with (first
    | (go_at_call 24; refine (unhide HQ).mono ?_; rintro e w1 ⟨rfl, hw1⟩; obtain rfl := hw1.symm; clear hw1)
    | (go_at_call 35; refine (pctake_yes _ _ _ _ _ (unhide H).bt hl).mono ?_; rintro e w2 ⟨rfl, hm2, ht2⟩; have H2 := hide (unhide HX _ hm2 ht2); have HU := hide (lk_bt (g := g) (gq := gq) (c := c) ht2); clear hm2 ht2)
    | fail)
  go_ret
  exact ⟨rfl, unhide H2, unhide HU⟩
end Go.Proofs.YtdiondgkkanamaaDoor
