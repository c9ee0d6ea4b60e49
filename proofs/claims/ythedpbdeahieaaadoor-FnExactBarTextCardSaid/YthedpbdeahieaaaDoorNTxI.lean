/- The text of a list of numbers: the program's side, whatever the list. -/
import Derived.Test.YthedpbdeahieaaaDoorNTx
import Derived.Test.YthedpbdeahieaaaDoorSlC
namespace Go.Proofs.YthedpbdeahieaaaDoor
open Go.RowKit
set_option linter.unusedVariables false

/-- a text, or none -/
def TxB (t : ByteArray) (ok : Bool) (w : World) (e : Ending) (w' : World) : Prop := e = .returned (.tuple #[.string (bif ok then t else ⟨#[]⟩), .bool ok]) ∧ Below w.heap.size w w'
def fewB (zs : List Nat) : Bool := decide (zs.length ≤ 256)
set_option maxRecDepth 20000 in
theorem joinOver_any (v : Value) (zs : List Nat) (w : World) (h : FRow w v zs) (hl : 256 < zs.length) : Calls Tryd.prog 66 #[v, .int .i64 256, .func (.func 67) #[] #[]] w fun e w' => e = .returned (.tuple #[.string ⟨#[]⟩, .bool false]) ∧ Below w.heap.size w w' := by
  obtain ⟨a, cap, rfl⟩ := h.shape
  have HL := h.len
  have hd : decide ((256 : Int) < (zs.length : Int)) = true := by simp; omega
  clear h
  go_enter Tryd.func66, Tryd.ntmps66
  go_wp2
  go_ret2
  exact ⟨rfl, Below.refl _ _⟩
set_option maxRecDepth 20000 in
theorem implNT_any (v : Value) (zs : List Nat) (w : World) (h : FRow w v zs) (hw : ∀ i, i < zs.length → (Lit.float .f32 (zs.getD i 0)).wf = true) (ht : Tabs w) : Calls Tryd.prog 31 #[v] w (TxB (nTx zs) (fewB zs) w) := by
  have HJ : Hid (Calls Tryd.prog 66 #[v, .int .i64 256, .func (.func 67) #[] #[]] w (TxB (nTx zs) (fewB zs) w)) := Lib.hid (by
    unfold TxB fewB
    by_cases hl : zs.length ≤ 256
    · rw [decide_eq_true hl]; exact joinHex_any v zs w h hw hl ht
    · rw [decide_eq_false hl]; exact joinOver_any v zs w h (by omega))
  clear h hw ht
  unfold TxB at *
  generalize (bif fewB zs then nTx zs else (⟨#[]⟩ : ByteArray)) = T at *
  generalize fewB zs = ok at *
  go_enter Tryd.func31, Tryd.ntmps31
  go_wp2_with fail
  refine HJ.out.mono ?_
  rintro e w1 ⟨rfl, hb⟩
  have B := Lib.hid hb
  clear hb
  go_wp2
  go_ret2
  exact ⟨rfl, B.out⟩

end Go.Proofs.YthedpbdeahieaaaDoor
