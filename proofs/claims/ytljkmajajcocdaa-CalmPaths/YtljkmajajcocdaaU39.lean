/-
  Contract of bucketlinelaw28.events over two slices of the same events. No condition.
-/
import Derived.Test.YtljkmajajcocdaaU38
import Derived.Deep.RegionHeld3
namespace Go.Proofs.Ytljkmajajcocdaa
open Go.RowKit Go.Sort Go.Shelf
set_option linter.unusedVariables false
set_option linter.unusedSimpArgs false
set_option maxRecDepth 4000

set_option maxHeartbeats 8000000 in
theorem events_any (a : Option Addr) (n c : Nat) (es : List EVV) (a' : Option Addr) (c' : Nat) (fs : List EVV) (w : World) (h : EvAt w a n es) (h' : EvAt w a' n fs) (he : es.map EVV.data = fs.map EVV.data) (hn : n ≤ 1000000) (hd : ∀ i, i < n → (es.getD i .dflt).dn ≤ 1048576 ∧ (fs.getD i .dflt).dn ≤ 1048576) :
    Calls Try.prog 9 #[.slice a n c, .slice a' n c'] w fun e w' => e = .returned (.bool true) ∧ Below w.heap.size w w' := by
  have HE := hide (show ∀ i, i < n → (es.getD i .dflt).data = (fs.getD i .dflt).data from fun i hi => by
    have h1 := h.1
    have h2 := h'.1
    have := congrArg (fun l => l[i]?) he
    simp only [List.getElem?_map, List.getElem?_eq_getElem (show i < es.length by omega), List.getElem?_eq_getElem (show i < fs.length by omega), Option.map_some, Option.some.injEq] at this
    rw [List.getD_eq_getElem?_getD, List.getD_eq_getElem?_getD, List.getElem?_eq_getElem (show i < es.length by omega), List.getElem?_eq_getElem (show i < fs.length by omega)]
    exact this)
  have H := hide h
  have H' := hide h'
  have HD := hide hd
  clear h h' he hd
  go_enter Try.func9, Try.ntmps9
  go_wp2_with fail
  go_loopw [5] (fun i wr => ∃ m : Nat, m ≤ n ∧ i = .int .i64 m ∧ Hid (Below w.heap.size w wr)) (fun i _ => n - (intOf i).toNat)
  case atStart => exact ⟨0, Nat.zero_le _, rfl, hide (Below.refl _ _)⟩
  case round =>
    obtain ⟨m, hm, rfl, HB⟩ := hrel
    rename World => wr
    by_cases hlt : m < n
    · have hlt' : (m : Int) < (n : Int) := by omega
      have hlt2 := hlt
      have hE := (unhide H).below (unhide HB)
      have hE' := (unhide H').below (unhide HB)
      have HW1 := hide (hE.2.1 m hlt)
      have HW2 := hide (hE'.2.1 m hlt)
      obtain ⟨b1, o1, e1, hc1⟩ := hE.at hlt
      obtain ⟨b2, o2, e2, hc2⟩ := hE'.at hlt
      have hda := (unhide HE) m hlt
      have hdd := (unhide HD) m hlt
      have x0 : wr.cell? ⟨b1, o1 + m * 6, none⟩ = some (.int .i64 (es.getD m .dflt).kd) := hc1 m hlt 0 _ rfl
      have x1 : wr.cell? ⟨b1, o1 + m * 6 + 1, none⟩ = some (.int .i64 (es.getD m .dflt).nd) := hc1 m hlt 1 _ rfl
      have x2 : wr.cell? ⟨b1, o1 + m * 6 + 2, none⟩ = some (.int .i64 (es.getD m .dflt).n) := hc1 m hlt 2 _ rfl
      have x3 : wr.cell? ⟨b1, o1 + m * 6 + 3, none⟩ = some (.int .i64 (es.getD m .dflt).at_) := hc1 m hlt 3 _ rfl
      have x4 : wr.cell? ⟨b1, o1 + m * 6 + 4, none⟩ = some (.int .i64 (es.getD m .dflt).by_) := hc1 m hlt 4 _ rfl
      have x5 : wr.cell? ⟨b1, o1 + m * 6 + 5, none⟩ = some (.slice (es.getD m .dflt).a (es.getD m .dflt).dn (es.getD m .dflt).dc) := hc1 m hlt 5 _ rfl
      have y0 : wr.cell? ⟨b2, o2 + m * 6, none⟩ = some (.int .i64 (fs.getD m .dflt).kd) := hc2 m hlt2 0 _ rfl
      have y1 : wr.cell? ⟨b2, o2 + m * 6 + 1, none⟩ = some (.int .i64 (fs.getD m .dflt).nd) := hc2 m hlt2 1 _ rfl
      have y2 : wr.cell? ⟨b2, o2 + m * 6 + 2, none⟩ = some (.int .i64 (fs.getD m .dflt).n) := hc2 m hlt2 2 _ rfl
      have y3 : wr.cell? ⟨b2, o2 + m * 6 + 3, none⟩ = some (.int .i64 (fs.getD m .dflt).at_) := hc2 m hlt2 3 _ rfl
      have y4 : wr.cell? ⟨b2, o2 + m * 6 + 4, none⟩ = some (.int .i64 (fs.getD m .dflt).by_) := hc2 m hlt2 4 _ rfl
      have y5 : wr.cell? ⟨b2, o2 + m * 6 + 5, none⟩ = some (.slice (fs.getD m .dflt).a (fs.getD m .dflt).dn (fs.getD m .dflt).dc) := hc2 m hlt2 5 _ rfl
      rw [e1, e2]
      clear hc1 hc2 e1 e2 hE hE'
      generalize es.getD m .dflt = x at *
      generalize fs.getD m .dflt = y at *
      obtain ⟨xk, xn, xm, xt, xb, xa, xdn, xdc, xs⟩ := x
      obtain ⟨yk, yn, ym, yt, yb, ya, ydn, ydc, ys⟩ := y
      simp only [EVV.data, EvD.mk.injEq] at hda
      obtain ⟨rfl, rfl, rfl, rfl, rfl, rfl⟩ := hda
      have HDD := hide hdd
      clear hdd
      dsimp only at x0 x1 x2 x3 x4 x5 y0 y1 y2 y3 y4 y5
      have nx0 := World.new_ne wr _ x0
      have nx1 := World.new_ne wr _ x1
      have nx2 := World.new_ne wr _ x2
      have nx3 := World.new_ne wr _ x3
      have nx4 := World.new_ne wr _ x4
      have nx5 := World.new_ne wr _ x5
      have ny0 := World.new_ne wr _ y0
      have ny1 := World.new_ne wr _ y1
      have ny2 := World.new_ne wr _ y2
      have ny3 := World.new_ne wr _ y3
      have ny4 := World.new_ne wr _ y4
      have ny5 := World.new_ne wr _ y5
      go_wp2_with fail
      go_region_held3 (fun w' => w'.cell? ⟨b1, o1 + m * 6, none⟩ = some (.int .i64 xk) ∧ w'.cell? ⟨b1, o1 + m * 6 + 1, none⟩ = some (.int .i64 xn) ∧ w'.cell? ⟨b1, o1 + m * 6 + 2, none⟩ = some (.int .i64 xm) ∧ w'.cell? ⟨b1, o1 + m * 6 + 3, none⟩ = some (.int .i64 xt) ∧ w'.cell? ⟨b1, o1 + m * 6 + 4, none⟩ = some (.int .i64 xb) ∧ w'.cell? ⟨b1, o1 + m * 6 + 5, none⟩ = some (.slice xa xdn xdc) ∧ w'.cell? ⟨b2, o2 + m * 6, none⟩ = some (.int .i64 xk) ∧ w'.cell? ⟨b2, o2 + m * 6 + 1, none⟩ = some (.int .i64 xn) ∧ w'.cell? ⟨b2, o2 + m * 6 + 2, none⟩ = some (.int .i64 xm) ∧ w'.cell? ⟨b2, o2 + m * 6 + 3, none⟩ = some (.int .i64 xt) ∧ w'.cell? ⟨b2, o2 + m * 6 + 4, none⟩ = some (.int .i64 xb) ∧ w'.cell? ⟨b2, o2 + m * 6 + 5, none⟩ = some (.slice ya ydn ydc)) (go_keep) (fail)
      all_goals clear nx0 ny0 nx1 ny1 nx2 ny2 nx3 ny3 nx4 ny4 nx5 ny5 x0 y0 x1 y1 x2 y2 x3 y3 x4 y4 x5 y5
      · have A1 : BkA 44 (((wr.alloc (.cells #[.int .i64 xk, .int .i64 xn, .int .i64 xm, .int .i64 xt, .int .i64 xb, .slice xa xdn xdc] 44)).alloc (.cells #[.int .i64 xk, .int .i64 xn, .int .i64 xm, .int .i64 xt, .int .i64 xb, .slice ya ydn ydc] 44)).drew) wr.heap.size [.int .i64 xk, .int .i64 xn, .int .i64 xm, .int .i64 xt, .int .i64 xb, .slice xa xdn xdc] := ((bkA_new 44 wr [.int .i64 xk, .int .i64 xn, .int .i64 xm, .int .i64 xt, .int .i64 xb, .slice xa xdn xdc]).below (alloc_low _ _).drew)
        have A2 : BkA 44 (((wr.alloc (.cells #[.int .i64 xk, .int .i64 xn, .int .i64 xm, .int .i64 xt, .int .i64 xb, .slice xa xdn xdc] 44)).alloc (.cells #[.int .i64 xk, .int .i64 xn, .int .i64 xm, .int .i64 xt, .int .i64 xb, .slice ya ydn ydc] 44)).drew) (wr.heap.size + 1) [.int .i64 xk, .int .i64 xn, .int .i64 xm, .int .i64 xt, .int .i64 xb, .slice ya ydn ydc] := by
          have h := bkA_new 44 (wr.alloc (.cells #[.int .i64 xk, .int .i64 xn, .int .i64 xm, .int .i64 xt, .int .i64 xb, .slice xa xdn xdc] 44)) [.int .i64 xk, .int .i64 xn, .int .i64 xm, .int .i64 xt, .int .i64 xb, .slice ya ydn ydc]
          rw [alloc_size] at h
          exact h
        have HB2 := hide (show Below w.heap.size w (((wr.alloc (.cells #[.int .i64 xk, .int .i64 xn, .int .i64 xm, .int .i64 xt, .int .i64 xb, .slice xa xdn xdc] 44)).alloc (.cells #[.int .i64 xk, .int .i64 xn, .int .i64 xm, .int .i64 xt, .int .i64 xb, .slice ya ydn ydc] 44)).drew) from (below0 (below0 (unhide HB) (alloc_low _ _)) (alloc_low _ _)).drew)
        have hbw : Below wr.heap.size wr (((wr.alloc (.cells #[.int .i64 xk, .int .i64 xn, .int .i64 xm, .int .i64 xt, .int .i64 xb, .slice xa xdn xdc] 44)).alloc (.cells #[.int .i64 xk, .int .i64 xn, .int .i64 xm, .int .i64 xt, .int .i64 xb, .slice ya ydn ydc] 44)).drew) := (below0 (alloc_low _ _) (alloc_low _ _)).drew
        have HWD := hide (rwords_any xa xdn xdc xs ya ydn ydc xs _ ((unhide HW1).below hbw) ((unhide HW2).below hbw) (unhide HDD).1 (unhide HDD).2 rfl)
        clear hbw
        generalize ((wr.alloc (.cells #[.int .i64 xk, .int .i64 xn, .int .i64 xm, .int .i64 xt, .int .i64 xb, .slice xa xdn xdc] 44)).alloc (.cells #[.int .i64 xk, .int .i64 xn, .int .i64 xm, .int .i64 xt, .int .i64 xb, .slice ya ydn ydc] 44)).drew = W at *
        have p0 := A1.at 0 rfl
        have q0 := A2.at 0 rfl
        have p1 := A1.at 1 rfl
        have q1 := A2.at 1 rfl
        have p2 := A1.at 2 rfl
        have q2 := A2.at 2 rfl
        have p3 := A1.at 3 rfl
        have q3 := A2.at 3 rfl
        have p4 := A1.at 4 rfl
        have q4 := A2.at 4 rfl
        have p5 := A1.at 5 rfl
        have q5 := A2.at 5 rfl
        clear A1 A2
        go_wp2_with (first
          | (go_at_call 14; refine (unhide HWD).mono ?_; rintro e w4 ⟨rfl, hb4⟩; have HB4 := hide (below0 (unhide HB2) hb4); clear hb4)
          | fail)
        go_roundw
        case rel => exact ⟨m + 1, hlt, by go_num, HB4⟩
        case measure => simp [intOf]; omega
      · have A1 : BkA 44 (((wr.alloc (.cells #[.int .i64 xk, .int .i64 xn, .int .i64 xm, .int .i64 xt, .int .i64 xb, .slice ya ydn ydc] 44)).alloc (.cells #[.int .i64 xk, .int .i64 xn, .int .i64 xm, .int .i64 xt, .int .i64 xb, .slice xa xdn xdc] 44)).drew) wr.heap.size [.int .i64 xk, .int .i64 xn, .int .i64 xm, .int .i64 xt, .int .i64 xb, .slice ya ydn ydc] := ((bkA_new 44 wr [.int .i64 xk, .int .i64 xn, .int .i64 xm, .int .i64 xt, .int .i64 xb, .slice ya ydn ydc]).below (alloc_low _ _).drew)
        have A2 : BkA 44 (((wr.alloc (.cells #[.int .i64 xk, .int .i64 xn, .int .i64 xm, .int .i64 xt, .int .i64 xb, .slice ya ydn ydc] 44)).alloc (.cells #[.int .i64 xk, .int .i64 xn, .int .i64 xm, .int .i64 xt, .int .i64 xb, .slice xa xdn xdc] 44)).drew) (wr.heap.size + 1) [.int .i64 xk, .int .i64 xn, .int .i64 xm, .int .i64 xt, .int .i64 xb, .slice xa xdn xdc] := by
          have h := bkA_new 44 (wr.alloc (.cells #[.int .i64 xk, .int .i64 xn, .int .i64 xm, .int .i64 xt, .int .i64 xb, .slice ya ydn ydc] 44)) [.int .i64 xk, .int .i64 xn, .int .i64 xm, .int .i64 xt, .int .i64 xb, .slice xa xdn xdc]
          rw [alloc_size] at h
          exact h
        have HB2 := hide (show Below w.heap.size w (((wr.alloc (.cells #[.int .i64 xk, .int .i64 xn, .int .i64 xm, .int .i64 xt, .int .i64 xb, .slice ya ydn ydc] 44)).alloc (.cells #[.int .i64 xk, .int .i64 xn, .int .i64 xm, .int .i64 xt, .int .i64 xb, .slice xa xdn xdc] 44)).drew) from (below0 (below0 (unhide HB) (alloc_low _ _)) (alloc_low _ _)).drew)
        have hbw : Below wr.heap.size wr (((wr.alloc (.cells #[.int .i64 xk, .int .i64 xn, .int .i64 xm, .int .i64 xt, .int .i64 xb, .slice ya ydn ydc] 44)).alloc (.cells #[.int .i64 xk, .int .i64 xn, .int .i64 xm, .int .i64 xt, .int .i64 xb, .slice xa xdn xdc] 44)).drew) := (below0 (alloc_low _ _) (alloc_low _ _)).drew
        have HWD := hide (rwords_any xa xdn xdc xs ya ydn ydc xs _ ((unhide HW1).below hbw) ((unhide HW2).below hbw) (unhide HDD).1 (unhide HDD).2 rfl)
        clear hbw
        generalize ((wr.alloc (.cells #[.int .i64 xk, .int .i64 xn, .int .i64 xm, .int .i64 xt, .int .i64 xb, .slice ya ydn ydc] 44)).alloc (.cells #[.int .i64 xk, .int .i64 xn, .int .i64 xm, .int .i64 xt, .int .i64 xb, .slice xa xdn xdc] 44)).drew = W at *
        have p0 := A1.at 0 rfl
        have q0 := A2.at 0 rfl
        have p1 := A1.at 1 rfl
        have q1 := A2.at 1 rfl
        have p2 := A1.at 2 rfl
        have q2 := A2.at 2 rfl
        have p3 := A1.at 3 rfl
        have q3 := A2.at 3 rfl
        have p4 := A1.at 4 rfl
        have q4 := A2.at 4 rfl
        have p5 := A1.at 5 rfl
        have q5 := A2.at 5 rfl
        clear A1 A2
        go_wp2_with (first
          | (go_at_call 14; refine (unhide HWD).mono ?_; rintro e w4 ⟨rfl, hb4⟩; have HB4 := hide (below0 (unhide HB2) hb4); clear hb4)
          | fail)
        go_roundw
        case rel => exact ⟨m + 1, hlt, by go_num, HB4⟩
        case measure => simp [intOf]; omega
    · obtain rfl : m = n := by omega
      go_wp2
      go_ret
      exact ⟨rfl, unhide HB⟩
end Go.Proofs.Ytljkmajajcocdaa
