/-
  Contracts of crc.tail, internal/stringslite.Clone, strings.Clone, crc.Seal, bucketlineref05.Seal: for every text of at most 2^20 bytes.
-/
import Derived.Test.YtbhmdfoojhjecaaCA
import Derived.Lib.UnsafeStr
import Derived.Laws.Concat
namespace Go.Proofs.Ytbhmdfoojhjecaa
open Go.RowKit
set_option linter.unusedVariables false

/-- The first k bytes of a sum, 0 behind. -/
def beTo (c k : Nat) : List Nat := [if 0 < k then c / 16777216 % 256 else 0, if 1 < k then c / 65536 % 256 else 0, if 2 < k then c / 256 % 256 else 0, if 3 < k then c % 256 else 0]
theorem beTo_bytes (c k : Nat) : bytes (beTo c k) := by
  intro x hx
  simp only [beTo, List.mem_cons, List.mem_nil_iff, or_false] at hx
  rcases hx with rfl | rfl | rfl | rfl <;> split <;> omega
theorem u32_div (c d : Nat) : (((c / d % 256 : Nat) : Nat) : Int) = (c : Int) / (d : Int) % 256 := by simp

theorem u32_top (c : Nat) : ((c / 16777216 : Nat) : Int) = (c : Int) / 16777216 := by simp
/-- A new array of four bytes. -/
theorem arr_new (w : World) (t : TypeId) : OwnB (w.alloc (.cells #[.int .u8 0, .int .u8 0, .int .u8 0, .int .u8 0] t)) w.heap.size (.slice (some ⟨w.heap.size, 0, none⟩) 4 4) [0, 0, 0, 0] := by
  refine ⟨fun x hx => ?_, .inr ⟨w.heap.size, 4, rfl, Nat.le_refl _, by simp, fun i hi => ?_, fun i hi => ?_⟩⟩
  · simp only [List.mem_cons, List.mem_nil_iff, or_false, or_self] at hx
    omega
  · match i, hi with
    | 0, _ => simp
    | 1, _ => simp
    | 2, _ => simp
    | 3, _ => simp
  · match i, hi with
    | 0, _ => simp
    | 1, _ => simp
    | 2, _ => simp
    | 3, _ => simp
theorem arr_store {w wr : World} {B g : Nat} {xs : List Nat} (h4 : xs.length = 4) (ho : OwnB wr B (.slice (some ⟨g, 0, none⟩) 4 4) xs) (hb : Below B w wr) (hB : B ≤ g) (i x : Nat) (hx : x < 256) :
    OwnB (wr.setCell ⟨g, i, none⟩ (.int .u8 (x : Int))) B (.slice (some ⟨g, 0, none⟩) 4 4) (xs.set i x) ∧ Below B w (wr.setCell ⟨g, i, none⟩ (.int .u8 (x : Int))) := by
  rw [← h4] at ho ⊢
  exact ⟨ho.stored i x hx, hb.setCell (by exact hB) _⟩

set_option maxHeartbeats 1000000 in
theorem ctail_any (s : ByteArray) (w : World) (hn : s.size ≤ 1048576) :
    Calls Try.prog 16 #[.string s] w fun e w' => e = .returned (.string (st (be4 (sumS s)))) ∧ Below w.heap.size w w' := by
  have hc := sumS_lt s
  have HS := hide (csum_any s w hn)
  obtain ⟨c, hcs⟩ : ∃ c, sumS s = c := ⟨_, rfl⟩
  rw [hcs] at hc HS
  rw [hcs]
  clear hcs
  go_enter Try.func16, Try.ntmps16
  go_wp2_with (go_at_call 8; refine (unhide HS).mono ?_; rintro e w' ⟨rfl, hw⟩; obtain rfl := hw.symm)
  go_loopw [8] (fun i wr => ∃ k : Nat, k ≤ 4 ∧ i = .int .i64 k ∧ Hid (OwnB wr w.heap.size (.slice (some ⟨w.heap.size, 0, none⟩) 4 4) (beTo c k)) ∧ Hid (Below w.heap.size w wr)) (fun i _ => 4 - (intOf i).toNat)
  case atStart => exact ⟨0, by decide, rfl, hide (arr_new _ _), hide ((Below.refl _ _).alloc (Nat.le_refl _) _)⟩
  case round =>
    obtain ⟨k, hk, rfl, HO, HB⟩ := hrel
    by_cases hlt : k < 4
    · obtain ⟨g, cap, hv, hBg, hgs, hcg, hfg⟩ := (unhide HO).at (by simp [beTo])
      simp only [Value.slice.injEq, Option.some.injEq, Addr.mk.injEq, and_true] at hv
      obtain ⟨rfl, -⟩ := hv
      have hcell := hcg k (by simpa [beTo] using hlt)
      have hfz := hfg k (by simpa [beTo] using hlt)
      clear hcg hfg
      match k, hlt with
      | 0, _ => 
        have R := hide (arr_store rfl (unhide HO) (unhide HB) (Nat.le_refl _) 0 (c / 16777216) (by omega))
        rw [u32_top, show (beTo c 0).set 0 (c / 16777216) = beTo c 1 from by unfold beTo; rw [show c / 16777216 = c / 16777216 % 256 by omega]; simp] at R
        clear HO HB
        go_wp2
        go_roundw
        case rel => exact ⟨1, by omega, rfl, hide (unhide R).1, hide (unhide R).2⟩
        case measure => simp [intOf]
      | 1, _ => 
        have R := hide (arr_store rfl (unhide HO) (unhide HB) (Nat.le_refl _) 1 (c / 65536 % 256) (by omega))
        rw [u32_div] at R
        clear HO HB
        go_wp2
        go_roundw
        case rel => exact ⟨2, by omega, rfl, hide (unhide R).1, hide (unhide R).2⟩
        case measure => simp [intOf]
      | 2, _ => 
        have R := hide (arr_store rfl (unhide HO) (unhide HB) (Nat.le_refl _) 2 (c / 256 % 256) (by omega))
        rw [u32_div] at R
        clear HO HB
        go_wp2
        go_roundw
        case rel => exact ⟨3, by omega, rfl, hide (unhide R).1, hide (unhide R).2⟩
        case measure => simp [intOf]
      | 3, _ => 
        have R := hide (arr_store rfl (unhide HO) (unhide HB) (Nat.le_refl _) 3 (c % 256) (by omega))
        clear HO HB
        go_wp2
        go_roundw
        case rel => exact ⟨4, by omega, rfl, hide (unhide R).1, hide (unhide R).2⟩
        case measure => simp [intOf]
    · obtain rfl : k = 4 := by omega
      have hct := (unhide HO).text
      rw [show beTo c 4 = be4 c from rfl] at hct
      clear HO
      go_wp2
      go_ret
      exact ⟨rfl, unhide HB⟩

theorem size_eq0 {s : ByteArray} (h : s.size = 0) : s = ⟨#[]⟩ := by
  apply tx_inj
  have h1 : (tx s).length = 0 := by rw [tx_length]; exact h
  rw [List.eq_nil_of_length_eq_zero h1]
  rfl

set_option maxHeartbeats 1000000 in
theorem lclone_any (s : ByteArray) (w : World) (hn : s.size ≤ 1048576) :
    Calls Try.prog 18 #[.string s] w fun e w' => e = .returned (.string s) ∧ Below w.heap.size w w' := by
  by_cases h0 : s.size = 0
  · obtain rfl := size_eq0 h0
    go_enter Try.func18, Try.ntmps18
    go_wp2
    go_ret
    exact ⟨rfl, Below.refl _ _⟩
  · have h0' : ¬ ((s.size : Int) = 0) := by omega
    obtain ⟨i0, hi0, hz0, hz1, hz2⟩ := info_parts info_u8
    have hco : Try.prog.cellsOf 5 = 1 := by simp [Program.cellsOf, hi0, hz1]
    have hrun := fun W => run_make (P := Try.prog) W 32 5 i0 (.int .u8 0) Try.underlying32 hi0 hz0 .i64 .i64 (s.size : Int) (s.size : Int) (by omega) (by omega) (by rw [hz2]; omega) (by omega)
    simp only [Int.toNat_natCast] at hrun
    have hcs : (madeCells (Value.int .u8 0).cells (s.size * i0.size)).size = s.size := by rw [size_madeCells, hz1, Nat.mul_one]
    generalize madeCells (Value.int .u8 0).cells (s.size * i0.size) = cur at *
    have hgw : (w.alloc (.cells cur 5)).heap[w.heap.size]? = some (.cells cur 5 (0, 0)) := by
      show (w.heap.push _)[w.heap.size]? = _
      simp
    have hbw : Below w.heap.size w (w.alloc (.cells cur 5)) := (Below.refl _ _).alloc (Nat.le_refl _) _
    have hcp := run_copy_text_of (P := Try.prog) (w.alloc (.cells cur 5)) 32 9 3 5 w.heap.size s.size s.size s cur 5 Try.underlying32 (by rw [hi0]; simp [hz1]) hgw hcs rfl
    have hgY := setRow_heap (w.alloc (.cells cur 5)) w.heap.size cur (s.data.map fun b => Value.int .u8 (b.toNat : Int)) 5 (0, 0) hgw
    have hY : (s.data.map fun b => Value.int .u8 (b.toNat : Int)).size = s.size := by rw [Array.size_map]; rfl
    have hl : s.data.toList.length = s.size := Array.length_toList
    have hb2 : Below w.heap.size w ((w.alloc (.cells cur 5)).setRow w.heap.size (s.data.map fun b => Value.int .u8 (b.toNat : Int))) := hbw.trans ⟨rfl, rfl, rfl, by simp, fun k hk => setRow_other _ _ k _ (by omega)⟩
    have hcl : ∀ (j : Nat) (x : UInt8), s.data.toList[j]? = some x → ((w.alloc (.cells cur 5)).setRow w.heap.size (s.data.map fun b => Value.int .u8 (b.toNat : Int))).cell? ((⟨w.heap.size, 0, none⟩ : Addr).add j) = some (.int .u8 x.toNat) := by
      intro j x hx
      have e : (⟨w.heap.size, 0, none⟩ : Addr).add j = ⟨w.heap.size, j, none⟩ := by unfold Addr.add; split <;> simp_all
      rw [e, cell_setRow_same _ _ j _ _ _ _ hgw]
      rw [Array.getElem?_toList] at hx
      simp [hx]
    have hUS := Lib.run_unsafeString_row (P := Try.prog) ((w.alloc (.cells cur 5)).setRow w.heap.size (s.data.map fun b => Value.int .u8 (b.toNat : Int))) 39 3 9 5 Try.underlying39 hco w.heap.size s.size (by unfold World.shape?; rw [hgY]; exact congrArg (fun n => some (5, n)) hY) s.data.toList
      (fun e => h0 (by rw [← hl, e]; rfl)) (by rw [hl]; omega) (by rw [hl]; omega) hcl
    rw [hl] at hUS
    have e2 : (⟨s.data.toList.toArray⟩ : ByteArray) = s := by cases s; simp
    rw [e2] at hUS
    generalize (w.alloc (.cells cur 5)).setRow w.heap.size (s.data.map fun b => Value.int .u8 (b.toNat : Int)) = w1 at *
    have HB := hide (Lib.below_freeze hb2 (p := ⟨w.heap.size, 0, none⟩) (Nat.le_refl _) s.size)
    clear hcl hb2 hY hgY hbw hgw hcs hl e2 hco
    go_enter Try.func18, Try.ntmps18
    go_wp2
    go_ret
    exact ⟨rfl, unhide HB⟩

theorem sclone_any (s : ByteArray) (w : World) (hn : s.size ≤ 1048576) :
    Calls Try.prog 17 #[.string s] w fun e w' => e = .returned (.string s) ∧ Below w.heap.size w w' := by
  go_enter Try.func17, Try.ntmps17
  go_wp2_with fail
  refine (lclone_any s w hn).mono ?_
  rintro e w1 ⟨rfl, hb⟩
  have HB := hide hb
  clear hb
  go_wp2
  go_ret
  exact ⟨rfl, unhide HB⟩
end Go.Proofs.Ytbhmdfoojhjecaa
