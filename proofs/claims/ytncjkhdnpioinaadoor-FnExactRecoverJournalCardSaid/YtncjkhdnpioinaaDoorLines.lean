/- The lines of a text: both sides. -/
import Derived.Test.YtncjkhdnpioinaaDoorCutW
import Derived.Test.YtncjkhdnpioinaaDoorMaxP
import Derived.Test.YtncjkhdnpioinaaDoorShelf
import Derived.Test.YtncjkhdnpioinaaDoorRun
import Derived.BigQuiet
namespace Go.Proofs.YtncjkhdnpioinaaDoor
open Go.RowKit
set_option linter.unusedVariables false

/-- the lines, and what stands behind the last -/
theorem lin_snoc (s : ByteArray) : ∃ zs z, cutZ 10 s = zs ++ [z] ∧ zs.length ≤ s.size ∧ (z.size = 0 ↔ (s.size = 0 ∨ s.data.toList.getLast? = some 10)) := by
  obtain ⟨zs, z, h⟩ := cutZ_snoc 10 s
  refine ⟨zs, z, h, ?_, ?_⟩
  · have := cutZ_le 10 s
    rw [h] at this
    simp at this; omega
  · have := cutZ_last 10 s.size s (Nat.le_refl _)
    rw [h] at this
    simpa using this
theorem OwnZ.openC {w : World} {base : Nat} {v : Value} {zs : List ByteArray} (h : OwnZ w base v zs) (hn : 1 ≤ zs.length) : ∃ g cap, v = .slice (some ⟨g, 0, none⟩) zs.length cap ∧ zs.length ≤ cap ∧ cap ≤ maxLen := by
  obtain ⟨h1, h2⟩ := h
  rcases h2 with ⟨_, h2⟩ | ⟨g, cap, cur, e, _, _, h3, h4, _⟩
  · omega
  · exact ⟨g, cap, e, h3, h4⟩
theorem specLines_any (s : ByteArray) (zs : List ByteArray) (z : ByteArray) (h : cutZ 10 s = zs ++ [z]) (w : World) (hs : s.size ≤ 16000) (hl : zs.length ≤ s.size) : Calls Tryd.prog 140 #[.string s] w fun e w' => ∃ v, e = .returned (.tuple #[v, .string z]) ∧ ZRow w' v zs ∧ Below w.heap.size w w' := by
  have HC := Lib.hid (fun w1 => specCut_any s 10 10 rfl w1 (by omega))
  rw [h] at HC
  clear h
  go_enter Tryd.func140, Tryd.ntmps140
  go_wp2_with fail
  refine (HC.out _).mono ?_
  rintro e w1 ⟨v, rfl, ho, hb⟩
  obtain ⟨g, cap, rfl, hcap, hcm⟩ := ho.openC (by simp)
  have hz := ho.cellAt zs.length (by simp)
  have hz2 : (zs ++ [z]).getD zs.length ⟨#[]⟩ = z := by simp [List.getD_eq_getElem?_getD]
  rw [hz2] at hz
  have HR : Hid (∀ c', ZRow w1 (.slice (some ⟨g, 0, none⟩) zs.length c') zs) := Lib.hid (fun c' => .inr ⟨g, 0, c', rfl, by have : maxLen = 9223372036854775807 := rfl; omega, fun i hi => by
    rw [Nat.zero_add, ho.cellAt i (by simp; omega)]
    simp [List.getD_eq_getElem?_getD, List.getElem?_append_left hi]⟩)
  have B := Lib.hid hb
  have hlen : (zs ++ [z]).length = zs.length + 1 := by simp
  rw [hlen] at hcap
  rw [hlen]
  obtain ⟨n, hn⟩ : ∃ n, zs.length = n := ⟨_, rfl⟩
  rw [hn] at hcap hz HR hl
  rw [hn]
  have hmx : maxLen = 9223372036854775807 := rfl
  have e1 : IntKind.i64.wrap (((n + 1 : Nat) : Int) - 1) = (n : Int) := by
    unfold IntKind.wrap; simp [IntKind.bits, IntKind.signed]; omega
  have e2 : wrap64 (((n + 1 : Nat) : Int) - 1) = (n : Int) := by unfold wrap64; omega
  have e3 : ((n + 1 : Nat) : Int) - 1 = (n : Int) := by omega
  clear ho hb hz2 hlen hn
  go_wp2
  go_quiet (fail)
  go_wp2
  go_ret2
  exact ⟨_, rfl, (HR.out _).drewN, below_drewN B.out _⟩
end Go.Proofs.YtncjkhdnpioinaaDoor
