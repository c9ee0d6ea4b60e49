/- The text of a list of numbers: the law's walk. -/
import Derived.Test.YthedpbdeahieaaaDoorNTx
import Derived.Test.YthedpbdeahieaaaDoorSlC
namespace Go.Proofs.YthedpbdeahieaaaDoor
open Go.RowKit
set_option linter.unusedVariables false

/-- a text, or none -/
def TxB (t : ByteArray) (ok : Bool) (w : World) (e : Ending) (w' : World) : Prop := e = .returned (.tuple #[.string (bif ok then t else ⟨#[]⟩), .bool ok]) ∧ Below w.heap.size w w'
def fewB (zs : List Nat) : Bool := decide (zs.length ≤ 256)
theorem specFew_any (v : Value) (zs : List Nat) (w : World) (h : FRow w v zs) : Calls Tryd.prog 64 #[v] w fun e w' => e = .returned (.bool (fewB zs)) ∧ w = w' := by
  obtain ⟨a, cap, rfl⟩ := h.shape
  have HL := h.len
  clear h
  go_enter Tryd.func64, Tryd.ntmps64
  go_wp2
  go_ret
  exact ⟨by unfold fewB; simp; omega, rfl⟩
set_option maxRecDepth 20000 in
theorem specNT_any (v : Value) (zs : List Nat) (w : World) (h : FRow w v zs) (hw : ∀ i, i < zs.length → (Lit.float .f32 (zs.getD i 0)).wf = true) : Calls Tryd.prog 29 #[v] w (TxB (nTx zs) (fewB zs) w) := by
  have HF := Lib.hid (specFew_any v zs w h)
  have HT := Lib.hid (fun hl => specNTx_any v zs w h hw hl)
  clear h hw
  unfold TxB
  cases hb : fewB zs
  · have HB := Lib.hid hb
    clear hb HT
    go_enter Tryd.func29, Tryd.ntmps29
    go_wp2_with fail
    refine HF.out.mono ?_
    rw [HB.out]
    rintro e w1 ⟨rfl, rfl⟩
    go_wp2
    go_ret2
    exact ⟨rfl, Below.refl _ _⟩
  · have HB := Lib.hid hb
    have HT := Lib.hid (HT.out (of_decide_eq_true hb))
    clear hb
    generalize nTx zs = T at *
    go_enter Tryd.func29, Tryd.ntmps29
    go_wp2_with fail
    refine HF.out.mono ?_
    rw [HB.out]
    rintro e w1 ⟨rfl, rfl⟩
    go_wp2_with fail
    refine HT.out.mono ?_
    rintro e w1 ⟨rfl, hb⟩
    have B := Lib.hid hb
    clear hb
    go_wp2
    go_ret2
    exact ⟨rfl, B.out⟩
set_option maxRecDepth 20000 in
theorem joinOver_any (v : Value) (zs : List Nat) (w : World) (h : FRow w v zs) (hl : 256 < zs.length) : Calls Tryd.prog 66 #[v, .int .i64 256, .func (.func 67) #[] #[]] w fun e w' => e = .returned (.tuple #[.string ⟨#[]⟩, .bool false]) ∧ Below w.heap.size w w' := by
  obtain ⟨a, cap, rfl⟩ := h.shape
  have HL := h.len
  have hd : decide ((256 : Int) < (zs.length : Int)) = true := by simp; omega
  clear h
  go_enter Tryd.func66, Tryd.ntmps66
  go_wp2
  go_ret2
  exact ⟨rfl, Below.refl _ _⟩
set_option maxRecDepth 20000 in
theorem implNT_any (v : Value) (zs : List Nat) (w : World) (h : FRow w v zs) (hw : ∀ i, i < zs.length → (Lit.float .f32 (zs.getD i 0)).wf = true) (ht : Tabs w) : Calls Tryd.prog 31 #[v] w (TxB (nTx zs) (fewB zs) w) := by
  have HJ : Hid (Calls Tryd.prog 66 #[v, .int .i64 256, .func (.func 67) #[] #[]] w (TxB (nTx zs) (fewB zs) w)) := Lib.hid (by
    unfold TxB fewB
    by_cases hl : zs.length ≤ 256
    · rw [decide_eq_true hl]; exact joinHex_any v zs w h hw hl ht
    · rw [decide_eq_false hl]; exact joinOver_any v zs w h (by omega))
  clear h hw ht
  unfold TxB at *
  generalize (bif fewB zs then nTx zs else (⟨#[]⟩ : ByteArray)) = T at *
  generalize fewB zs = ok at *
  go_enter Tryd.func31, Tryd.ntmps31
  go_wp2_with fail
  refine HJ.out.mono ?_
  rintro e w1 ⟨rfl, hb⟩
  have B := Lib.hid hb
  clear hb
  go_wp2
  go_ret2
  exact ⟨rfl, B.out⟩

theorem fnExactNumbersText_walk (v : Value) (zs : List Nat) (w : World) (h : FRow w v zs) (hw : ∀ i, i < zs.length → (Lit.float .f32 (zs.getD i 0)).wf = true) (ht : Tabs w) : Calls Tryd.prog 8 #[v] w (Tru w) := by
  have HL := Lib.hid h.len
  by_cases hl : zs.length ≤ 1048576
  · have HN := Lib.hid hl
    have A := Lib.hid h
    have Bw := Lib.hid (Below.refl w.heap.size w)
    have ZM : Hid (zs.length ≤ maxLen) := Lib.hid (Nat.le_trans hl (by decide))
    have CS := Lib.hid (fun v w1 (hr : FRow w1 v zs) => specNT_any v zs w1 hr hw)
    have CI := Lib.hid (fun v w1 (hr : FRow w1 v zs) (hT : Tabs w1) => implNT_any v zs w1 hr hw hT)
    have HT := Lib.hid ht
    clear hw ht
    unfold TxB at *
    generalize (bif fewB zs then nTx zs else (⟨#[]⟩ : ByteArray)) = S at *
    generalize fewB zs = ok at *
    obtain ⟨a, cap, rfl⟩ := h.shape
    clear h
    go_enter Tryd.func8, Tryd.ntmps8
    go_wp2_with fail
    refine (toF_sl _ zs _ A.out HN.out).mono ?_
    rintro _ w1 ⟨p1, rfl, hp, hr, hb⟩
    have X := Lib.hid hr
    have Bw := Lib.hid (below_step Bw.out hb)
    have A := Lib.hid (A.out.below hb)
    clear hr hb hp
    go_wp2_with fail
    refine (CS.out _ _ (FRow.of_cells X.out ZM.out)).mono ?_
    rintro _ w2 ⟨rfl, hb⟩
    have Bw := Lib.hid (below_step Bw.out hb)
    have A := Lib.hid (A.out.below hb)
    clear hb X
    go_wp2_with fail
    refine (toF_sl _ zs _ A.out HN.out).mono ?_
    rintro _ w3 ⟨p3, rfl, hp, hr, hb⟩
    have X := Lib.hid hr
    have Bw := Lib.hid (below_step Bw.out hb)
    have A := Lib.hid (A.out.below hb)
    clear hr hb hp
    go_wp2_with fail
    refine (CI.out _ _ (FRow.of_cells X.out ZM.out) (HT.out.below Bw.out)).mono ?_
    rintro _ w4 ⟨rfl, hb⟩
    have Bw := Lib.hid (below_step Bw.out hb)
    have A := Lib.hid (A.out.below hb)
    have X := Lib.hid (X.out.kept hb)
    clear hb
    go_wp2_with fail
    refine (toF_sl _ zs _ A.out HN.out).mono ?_
    rintro _ w5 ⟨p5, rfl, hp, hr, hb⟩
    have Z := Lib.hid hr
    have Bw := Lib.hid (below_step Bw.out hb)
    have X := Lib.hid (X.out.kept hb)
    clear hr hb hp
    go_wp2_with fail
    refine (eqF_any _ _ zs zs _ (FRow.of_cells X.out ZM.out) (FRow.of_cells Z.out ZM.out) (SameList.refl _)).mono ?_
    rintro _ w6 ⟨rfl, nq, rfl⟩
    have Bw := Lib.hid (below_drewN Bw.out nq)
    go_wp2
    go_ret
    exact Tru.below Bw.out
  · obtain ⟨a, cap, rfl⟩ := h.shape
    clear h hw ht
    have gL := HL.out
    go_enter Tryd.func8, Tryd.ntmps8
    go_wp2
    go_ret
    exact Tru.same
end Go.Proofs.YthedpbdeahieaaaDoor
