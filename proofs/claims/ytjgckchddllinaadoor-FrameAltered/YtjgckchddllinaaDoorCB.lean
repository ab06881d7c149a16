/-
  Contracts of crc.tail, crc.Seal, bucketlineref05.Seal: for every text of at most 2^20 bytes.
-/
import Derived.Test.YtjgckchddllinaaDoorCA
import Derived.Test.YtjgckchddllinaaDoorSC
import Derived.Lib.UnsafeStr
import Derived.Laws.Concat
namespace Go.Proofs.YtjgckchddllinaaDoor
open Go.RowKit
set_option linter.unusedVariables false
set_option maxRecDepth 4000

/-- The first k bytes of a sum, 0 behind. -/
def beTo (c k : Nat) : List Nat := [if 0 < k then c / 16777216 % 256 else 0, if 1 < k then c / 65536 % 256 else 0, if 2 < k then c / 256 % 256 else 0, if 3 < k then c % 256 else 0]
theorem beTo_bytes (c k : Nat) : bytes (beTo c k) := by
  intro x hx
  simp only [beTo, List.mem_cons, List.mem_nil_iff, or_false] at hx
  rcases hx with rfl | rfl | rfl | rfl <;> split <;> omega
theorem u32_div (c d : Nat) : (((c / d % 256 : Nat) : Nat) : Int) = (c : Int) / (d : Int) % 256 := by simp

theorem u32_top (c : Nat) : ((c / 16777216 : Nat) : Int) = (c : Int) / 16777216 := by simp
/-- A new array of four bytes. -/
theorem arr_new (w : World) (t : TypeId) : OwnB (w.alloc (.cells #[.int .u8 0, .int .u8 0, .int .u8 0, .int .u8 0] t)) w.heap.size (.slice (some ⟨w.heap.size, 0, none⟩) 4 4) [0, 0, 0, 0] := by
  refine ⟨fun x hx => ?_, .inr ⟨w.heap.size, 4, rfl, Nat.le_refl _, by simp, fun i hi => ?_, fun i hi => ?_⟩⟩
  · simp only [List.mem_cons, List.mem_nil_iff, or_false, or_self] at hx
    omega
  · match i, hi with
    | 0, _ => simp
    | 1, _ => simp
    | 2, _ => simp
    | 3, _ => simp
  · match i, hi with
    | 0, _ => simp
    | 1, _ => simp
    | 2, _ => simp
    | 3, _ => simp
theorem arr_store {w wr : World} {B g : Nat} {xs : List Nat} (h4 : xs.length = 4) (ho : OwnB wr B (.slice (some ⟨g, 0, none⟩) 4 4) xs) (hb : Below B w wr) (hB : B ≤ g) (i x : Nat) (hx : x < 256) :
    OwnB (wr.setCell ⟨g, i, none⟩ (.int .u8 (x : Int))) B (.slice (some ⟨g, 0, none⟩) 4 4) (xs.set i x) ∧ Below B w (wr.setCell ⟨g, i, none⟩ (.int .u8 (x : Int))) := by
  rw [← h4] at ho ⊢
  exact ⟨ho.stored i x hx, hb.setCell (by exact hB) _⟩

set_option maxHeartbeats 1000000 in
theorem ctail_any (s : ByteArray) (w : World) (hn : s.size ≤ 1048576) :
    Calls Tryd.prog 48 #[.string s] w fun e w' => e = .returned (.string (st (be4 (sumS s)))) ∧ Below w.heap.size w w' := by
  have hc := sumS_lt s
  have HS := hide (csum_any s w hn)
  obtain ⟨c, hcs⟩ : ∃ c, sumS s = c := ⟨_, rfl⟩
  rw [hcs] at hc HS
  rw [hcs]
  clear hcs
  go_enter Tryd.func48, Tryd.ntmps48
  go_wp2_with (go_at_call 66; refine (unhide HS).mono ?_; rintro e w' ⟨rfl, hw⟩; obtain rfl := hw.symm)
  go_loopw [8] (fun i wr => ∃ k : Nat, k ≤ 4 ∧ i = .int .i64 k ∧ Hid (OwnB wr w.heap.size (.slice (some ⟨w.heap.size, 0, none⟩) 4 4) (beTo c k)) ∧ Hid (Below w.heap.size w wr)) (fun i _ => 4 - (intOf i).toNat)
  case atStart => exact ⟨0, by decide, rfl, hide (arr_new _ _), hide ((Below.refl _ _).alloc (Nat.le_refl _) _)⟩
  case round =>
    obtain ⟨k, hk, rfl, HO, HB⟩ := hrel
    by_cases hlt : k < 4
    · obtain ⟨g, cap, hv, hBg, hgs, hcg, hfg⟩ := (unhide HO).at (by simp [beTo])
      simp only [Value.slice.injEq, Option.some.injEq, Addr.mk.injEq, and_true] at hv
      obtain ⟨rfl, -⟩ := hv
      have hcell := hcg k (by simpa [beTo] using hlt)
      have hfz := hfg k (by simpa [beTo] using hlt)
      clear hcg hfg
      match k, hlt with
      | 0, _ => 
        have R := hide (arr_store rfl (unhide HO) (unhide HB) (Nat.le_refl _) 0 (c / 16777216) (by omega))
        rw [u32_top, show (beTo c 0).set 0 (c / 16777216) = beTo c 1 from by unfold beTo; rw [show c / 16777216 = c / 16777216 % 256 by omega]; simp] at R
        clear HO HB
        go_wp2
        go_roundw
        case rel => exact ⟨1, by omega, rfl, hide (unhide R).1, hide (unhide R).2⟩
        case measure => simp [intOf]
      | 1, _ => 
        have R := hide (arr_store rfl (unhide HO) (unhide HB) (Nat.le_refl _) 1 (c / 65536 % 256) (by omega))
        rw [u32_div] at R
        clear HO HB
        go_wp2
        go_roundw
        case rel => exact ⟨2, by omega, rfl, hide (unhide R).1, hide (unhide R).2⟩
        case measure => simp [intOf]
      | 2, _ => 
        have R := hide (arr_store rfl (unhide HO) (unhide HB) (Nat.le_refl _) 2 (c / 256 % 256) (by omega))
        rw [u32_div] at R
        clear HO HB
        go_wp2
        go_roundw
        case rel => exact ⟨3, by omega, rfl, hide (unhide R).1, hide (unhide R).2⟩
        case measure => simp [intOf]
      | 3, _ => 
        have R := hide (arr_store rfl (unhide HO) (unhide HB) (Nat.le_refl _) 3 (c % 256) (by omega))
        clear HO HB
        go_wp2
        go_roundw
        case rel => exact ⟨4, by omega, rfl, hide (unhide R).1, hide (unhide R).2⟩
        case measure => simp [intOf]
    · obtain rfl : k = 4 := by omega
      have hct := (unhide HO).text
      rw [show beTo c 4 = be4 c from rfl] at hct
      clear HO
      go_wp2
      go_ret
      exact ⟨rfl, unhide HB⟩

end Go.Proofs.YtjgckchddllinaaDoor
