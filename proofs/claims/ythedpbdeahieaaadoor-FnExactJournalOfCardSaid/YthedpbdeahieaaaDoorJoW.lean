/- JournalOf: the law's walk. -/
import Derived.Test.YthedpbdeahieaaaDoorJoT
import Derived.Test.YthedpbdeahieaaaDoorStr
namespace Go.Proofs.YthedpbdeahieaaaDoor
open Go.RowKit
set_option linter.unusedVariables false

set_option maxRecDepth 20000 in
set_option maxHeartbeats 3200000 in
theorem fnExactJournalOf_walk (v : Value) (zs : List ByteArray) (w : World) (h : ZRow w v zs) (hm : ∀ k, k < zs.length → (zTh zs k).size ≤ 9223372036854775807) (ht : Tabs w) : Calls Tryd.prog 4 #[v] w (Tru w) := by
  have HSz := Lib.hid (szS_any v zs w h hm)
  have HTo := Lib.hid (fun v w1 (hr : ZRow w1 v zs) hl => toS_any v zs w1 hr hl)
  have HS := Lib.hid (fun v w1 (hr : ZRow w1 v zs) hl hz => specJo_any v zs w1 hr hl hz)
  have HI := Lib.hid (fun v w1 (hr : ZRow w1 v zs) hl hz hT => implJo_any v zs w1 hr hl hz hT)
  have HEq := Lib.hid (fun v v' w1 (hr : ZRow w1 v zs) (hr' : ZRow w1 v' zs) => eqS_any v v' zs w1 hr hr')
  have HT := Lib.hid ht
  have A := Lib.hid h
  unfold JoB at HS HI
  obtain ⟨b, hb⟩ : ∃ b, joOk zs = b := ⟨_, rfl⟩
  rw [hb] at HS HI
  obtain ⟨T, hT⟩ : ∃ T, (if b then jrn zs zs.length else (⟨#[]⟩ : ByteArray)) = T := ⟨_, rfl⟩
  rw [hT] at HS HI
  obtain ⟨a, cap, rfl⟩ := h.shape
  clear h hm ht hb hT
  go_enter Tryd.func4, Tryd.ntmps4
  go_wp2_with fail
  refine HSz.out.mono ?_
  rintro _ w0 ⟨r, rfl, hr, rfl⟩
  by_cases hr0 : r < 0
  · have hd : decide (r < 0) = true := decide_eq_true hr0
    clear hr
    go_wp2
    go_ret
    exact Tru.below (Below.refl _ _)
  · have hd : decide (r < 0) = false := decide_eq_false hr0
    obtain ⟨hl, hz⟩ := hr (by omega)
    have HL := Lib.hid hl
    have HZ := Lib.hid hz
    clear hr hl hz
    go_wp2_with fail
    refine (HTo.out _ _ A.out HL.out).mono ?_
    rintro _ w1 ⟨v1, rfl, hr, hb⟩
    have X := Lib.hid hr
    have Bw := Lib.hid hb
    clear hr hb
    obtain ⟨a1, c1, rfl⟩ := X.out.shape
    go_wp2_with fail
    refine (HS.out _ _ X.out HL.out HZ.out).mono ?_
    rintro _ w2 ⟨rfl, hb⟩
    have Bw := Lib.hid (below_step Bw.out hb)
    clear hb X
    go_wp2_with fail
    refine (HTo.out _ _ (A.out.below Bw.out) HL.out).mono ?_
    rintro _ w3 ⟨v3, rfl, hr, hb⟩
    have X := Lib.hid hr
    have Bw := Lib.hid (below_step Bw.out hb)
    clear hr hb
    obtain ⟨a3, c3, rfl⟩ := X.out.shape
    go_wp2_with fail
    refine (HI.out _ _ X.out HL.out HZ.out (HT.out.below Bw.out)).mono ?_
    rintro _ w4 ⟨rfl, hb⟩
    have Bw := Lib.hid (below_step Bw.out hb)
    have X := Lib.hid (X.out.below hb)
    clear hb
    go_wp2_with fail
    refine (HTo.out _ _ (A.out.below Bw.out) HL.out).mono ?_
    rintro _ w5 ⟨v5, rfl, hr, hb⟩
    have Y := Lib.hid hr
    have Bw := Lib.hid (below_step Bw.out hb)
    have X := Lib.hid (X.out.below hb)
    clear hr hb
    obtain ⟨a5, c5, rfl⟩ := Y.out.shape
    go_wp2_with fail
    refine (HEq.out _ _ _ X.out Y.out).mono ?_
    rintro _ w6 ⟨rfl, hb⟩
    have Bw := Lib.hid (below_step Bw.out hb)
    clear hb
    go_wp2
    go_ret
    exact Tru.below Bw.out
end Go.Proofs.YthedpbdeahieaaaDoor
