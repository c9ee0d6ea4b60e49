/- Numbers in decimal: both sides make the same text. -/
import Derived.Test.YtncjkhdnpioinaaDoorDec
import Derived.Test.YtncjkhdnpioinaaDoorTabs
import Derived.Test.YtncjkhdnpioinaaDoorShelf
namespace Go.Proofs.YtncjkhdnpioinaaDoor
open Go.RowKit
set_option linter.unusedVariables false

theorem decZ_itoa (n : Int) : decZ n = ⟨(Lib.itoa n).toArray⟩ := by
  unfold decZ
  rw [decN_itoa]
  unfold strOfNums nu
  rw [List.map_map]
  have : ((fun n : Int => UInt8.ofNat n.toNat) ∘ fun b : UInt8 => (b.toNat : Int)) = id := by funext b; simp
  rw [this]; simp
theorem specDec_any (n : Int) (w : World) (h0 : -9223372036854775808 ≤ n) (h1 : n ≤ 9223372036854775807) : Calls Tryd.prog 142 #[.int .i64 n] w fun e w' => e = .returned (.string (decZ n)) ∧ Below w.heap.size w w' := by
  unfold decZ decN
  by_cases h : n < 0
  · rw [if_pos h]
    have := specDecM_any n.natAbs w (by omega) (by omega)
    rwa [show -((n.natAbs : Nat) : Int) = n by omega] at this
  · rw [if_neg h]
    have := specDecP_any n.natAbs w (by omega)
    rwa [show ((n.natAbs : Nat) : Int) = n by omega] at this
theorem below_grow {w : World} (k : Nat) (os : Array Obj) : Below w.heap.size w (Sort.grow (w.drewN k) os) := by
  refine ⟨rfl, rfl, rfl, ?_, fun b hb => ?_⟩
  · show w.heap.size ≤ (w.heap ++ os).size
    simp
  · show (w.heap ++ os)[b]? = w.heap[b]?
    rw [Array.getElem?_append_left hb]
theorem implDec_any (n : Int) (w : World) (h0 : -9223372036854775808 ≤ n) (h1 : n ≤ 9223372036854775807) (ht : Tabs w) : Calls Tryd.prog 126 #[.int .i64 n] w fun e w' => e = .returned (.string (decZ n)) ∧ Below w.heap.size w w' := by
  have HC := Lib.hid (Tryd.strconv_FormatInt_10 n h0 h1 w ht.p10)
  have HZ := Lib.hid (decZ_itoa n)
  clear h0 h1 ht
  go_enter Tryd.func126, Tryd.ntmps126
  go_wp2_with fail
  refine HC.out.mono ?_
  rw [← HZ.out]
  rintro e w1 ⟨rfl, k, os, hw⟩
  have B := Lib.hid (show Below w.heap.size w w1 by rw [hw]; exact below_grow k os)
  clear hw
  go_wp2
  go_ret
  exact ⟨rfl, B.out⟩
end Go.Proofs.YtncjkhdnpioinaaDoor
