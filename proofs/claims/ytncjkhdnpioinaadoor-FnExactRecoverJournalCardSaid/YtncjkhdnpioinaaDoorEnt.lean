/- Entries of a journal: the program's side. -/
import Derived.Test.YtncjkhdnpioinaaDoorDecI
import Derived.Test.YtncjkhdnpioinaaDoorCk
import Derived.Lib.ItoaLen
namespace Go.Proofs.YtncjkhdnpioinaaDoor
open Go.RowKit
set_option linter.unusedVariables false

theorem decZ_sz {k : Int} (h0 : 0 ≤ k) (h1 : k < 65003) : (decZ k).size ≤ 21 := by
  rw [decZ_itoa]
  show (Lib.itoa k).toArray.size ≤ 21
  rw [List.size_toArray]
  exact Lib.itoa_length_le k (by omega) (by omega)
/-- a check number, a blank, a line and its end -/
def entZ (c : Int) (s : ByteArray) : ByteArray := decZ c ++ ⟨#[32]⟩ ++ s ++ ⟨#[10]⟩
theorem implEnt_any (n : Int) (s : ByteArray) (w : World) (h0 : 0 ≤ n) (h1 : n < 65003) (hs : s.size ≤ 1048576) (ht : Tabs w) : Calls Tryd.prog 92 #[.int .i64 n, .string s] w fun e w' => e = .returned (.tuple #[.string (entZ (chkTo s n s.size) s), .int .i64 (chkTo s n s.size)]) ∧ Below w.heap.size w w' := by
  have HC := Lib.hid (implCheck_yes s n w h0 h1 hs)
  have hb := chkTo_bd s n h0 h1 s.size
  have HD := Lib.hid (fun w1 (hT : Tabs w1) => implDec_any (chkTo s n s.size) w1 (by omega) (by omega) hT)
  have HT := Lib.hid ht
  have HE : Hid (∀ c, entZ c s = decZ c ++ ⟨#[32]⟩ ++ s ++ ⟨#[10]⟩) := Lib.hid (fun _ => rfl)
  have hz := decZ_sz hb.1 hb.2
  clear h0 h1 ht
  obtain ⟨c, hc⟩ : ∃ c, chkTo s n s.size = c := ⟨_, rfl⟩
  rw [hc] at HC HD hb hz ⊢
  have z1 : (decZ c ++ (⟨#[32]⟩ : ByteArray)).size = (decZ c).size + 1 := ByteArray.size_append
  have z2 : (decZ c ++ (⟨#[32]⟩ : ByteArray) ++ s).size = (decZ c).size + 1 + s.size := by rw [ByteArray.size_append, z1]
  clear hc
  go_enter Tryd.func92, Tryd.ntmps92
  go_wp2_with fail
  refine HC.out.mono ?_
  rintro e w1 ⟨rfl, rfl⟩
  go_wp2_with fail
  refine (HD.out _ HT.out).mono ?_
  rintro e w2 ⟨rfl, hb2⟩
  have B := Lib.hid hb2
  clear hb2
  go_wp2
  go_ret2
  rw [HE.out]
  exact ⟨rfl, B.out⟩
end Go.Proofs.YtncjkhdnpioinaaDoor
