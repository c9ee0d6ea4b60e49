/- ListText: whether all numbers are values; both sides, and the law's walk. -/
import Derived.Test.YthedpbdeahieaaaDoorLTx
import Derived.Test.YthedpbdeahieaaaDoorJz
namespace Go.Proofs.YthedpbdeahieaaaDoor
open Go.RowKit
set_option linter.unusedVariables false

/-- a text, or none -/
def TyB (t : ByteArray) (ok : Bool) (w : World) (e : Ending) (w' : World) : Prop := e = .returned (.tuple #[.string (bif ok then t else ⟨#[]⟩), .bool ok]) ∧ Below w.heap.size w w'
def okL (zs : List Int) : Bool := zs.all inV && decide (zs.length ≤ 64)
theorem okL_bad {zs : List Int} {k : Nat} (hk : k < zs.length) (h : inV (zs.getD k 0) = false) : okL zs = false := by
  unfold okL
  have : zs.all inV = false := by
    rw [List.all_eq_false]
    refine ⟨zs.getD k 0, ?_, by rw [h]; decide⟩
    simp [List.getD_eq_getElem?_getD, hk]
  rw [this]; rfl
theorem okL_all {zs : List Int} (h : ∀ j, j < zs.length → inV (zs.getD j 0) = true) : okL zs = decide (zs.length ≤ 64) := by
  unfold okL
  have : zs.all inV = true := by
    rw [List.all_eq_true]
    intro x hx
    obtain ⟨j, hj, rfl⟩ := List.getElem_of_mem hx
    have := h j hj
    rwa [List.getD_eq_getElem?_getD, List.getElem?_eq_getElem hj] at this
  rw [this, Bool.true_and]
theorem okL_yes {zs : List Int} (h : okL zs = true) : (∀ j, j < zs.length → inV (zs.getD j 0) = true) ∧ zs.length ≤ 64 := by
  unfold okL at h
  rw [Bool.and_eq_true, List.all_eq_true] at h
  refine ⟨fun j hj => h.1 _ ?_, of_decide_eq_true h.2⟩
  simp [List.getD_eq_getElem?_getD, hj]

set_option maxHeartbeats 1600000 in
set_option maxRecDepth 20000 in
theorem specList_any (v : Value) (zs : List Int) (w : World) (h : JRow w v zs) : Calls Tryd.prog 60 #[v] w (fun e w' => e = .returned (.bool (okL zs)) ∧ ∃ n, w' = w.drewN n) := by
  have VB := Lib.hid (fun k (hk : k < zs.length) hb => okL_bad (zs := zs) hk hb)
  have VA := Lib.hid (fun ha => okL_all (zs := zs) ha)
  have HC := Lib.hid (fun (hn : 1 ≤ zs.length) => h.cells hn)
  have HL := Lib.hid h.len
  obtain ⟨a, cap, rfl⟩ := h.shape
  clear h
  generalize okL zs = b at *
  generalize hn : zs.length = n at *
  clear hn
  go_enter Tryd.func60, Tryd.ntmps60
  go_wp2
  go_loopw [3] (fun i wr => ∃ k q : Nat, k ≤ n ∧ i = .int .i64 k ∧ Hid (∀ j, j < k → inV (zs.getD j 0) = true) ∧ wr = w.drewN q) (fun i _ => n - (intOf i).toNat)
  case atStart => exact ⟨0, 0, Nat.zero_le _, rfl, Lib.hid (fun j hj => absurd hj (Nat.not_lt_zero _)), rfl⟩
  case round =>
    obtain ⟨k, q, hk, rfl, hall, rfl⟩ := hrel
    by_cases hlt : k < n
    · obtain ⟨bb, off, cap2, e, hc⟩ := HC.out (by omega)
      simp only [Value.slice.injEq] at e
      obtain ⟨rfl, _, rfl⟩ := e
      have c0 : (w.drewN q).cell? ⟨bb, off + k, none⟩ = some (.int .i64 (zs.getD k 0)) := hc k hlt
      have hL := HL.out
      clear hc
      cases hv : inV (zs.getD k 0)
      · have HB := Lib.hid (VB.out k hlt hv)
        have HV := Lib.hid (show (decide ((-1000000000000000 : Int) ≤ zs.getD k 0) && decide (zs.getD k 0 ≤ 1000000000000000)) = false from hv)
        clear hv
        generalize zs.getD k 0 = x at *
        go_wp2_with fail
        refine (in_any x (-1000000000000000) 1000000000000000 _).mono ?_
        rw [HV.out]
        rintro e w2 ⟨rfl, rfl⟩
        go_wp2
        go_ret
        exact ⟨by rw [HB.out]; rfl, q, rfl⟩
      · have HA : Hid (∀ j, j < k + 1 → inV (zs.getD j 0) = true) := Lib.hid (fun j hj => by
          by_cases e : j = k
          · subst e; exact hv
          · exact hall.out j (by omega))
        have HV := Lib.hid (show (decide ((-1000000000000000 : Int) ≤ zs.getD k 0) && decide (zs.getD k 0 ≤ 1000000000000000)) = true from hv)
        clear hv
        generalize zs.getD k 0 = x at *
        go_wp2_with fail
        refine (in_any x (-1000000000000000) 1000000000000000 _).mono ?_
        rw [HV.out]
        rintro e w2 ⟨rfl, rfl⟩
        go_wp2
        go_roundw
        case rel => exact ⟨k + 1, q, by omega, by go_num, HA, rfl⟩
        case measure => simp [intOf]; omega
    · have e : k = n := by omega
      subst e
      have HB := Lib.hid (VA.out hall.out)
      have hL := HL.out
      go_wp2
      go_ret
      exact ⟨by rw [HB.out]; simp; omega, q, rfl⟩
set_option maxRecDepth 20000 in
theorem specLT_any (v : Value) (zs : List Int) (w : World) (h : JRow w v zs) (hw : ∀ i, i < zs.length → -9223372036854775808 ≤ zs.getD i 0 ∧ zs.getD i 0 ≤ 9223372036854775807) : Calls Tryd.prog 25 #[v] w (TyB (lTx zs) (okL zs) w) := by
  have HF := Lib.hid (specList_any v zs w h)
  have HT := Lib.hid (fun hl n => specLTx_any v zs (w.drewN n) h.drewN hw hl)
  clear h hw
  unfold TyB
  cases hb : okL zs
  · have HB := Lib.hid hb
    clear hb HT
    go_enter Tryd.func25, Tryd.ntmps25
    go_wp2_with fail
    refine HF.out.mono ?_
    rw [HB.out]
    rintro e w1 ⟨rfl, n, rfl⟩
    go_wp2
    go_ret2
    exact ⟨rfl, below_drewN (Below.refl _ _) n⟩
  · have HB := Lib.hid hb
    have HT := Lib.hid (HT.out (okL_yes hb).2)
    clear hb
    generalize lTx zs = T at *
    go_enter Tryd.func25, Tryd.ntmps25
    go_wp2_with fail
    refine HF.out.mono ?_
    rw [HB.out]
    rintro e w1 ⟨rfl, n, rfl⟩
    go_wp2_with fail
    refine (HT.out n).mono ?_
    rintro e w1 ⟨rfl, hb⟩
    have B := Lib.hid (below_step (below_drewN (Below.refl w.heap.size w) n) hb)
    clear hb
    go_wp2
    go_ret2
    exact ⟨rfl, B.out⟩
set_option maxRecDepth 20000 in
theorem joinOverI_any (v : Value) (zs : List Int) (w : World) (h : JRow w v zs) (hl : 64 < zs.length) : Calls Tryd.prog 62 #[v, .int .i64 64, .func (.func 63) #[] #[]] w fun e w' => e = .returned (.tuple #[.string ⟨#[]⟩, .bool false]) ∧ Below w.heap.size w w' := by
  obtain ⟨a, cap, rfl⟩ := h.shape
  have HL := h.len
  have hd : decide ((64 : Int) < (zs.length : Int)) = true := by simp; omega
  clear h
  go_enter Tryd.func62, Tryd.ntmps62
  go_wp2
  go_ret2
  exact ⟨rfl, Below.refl _ _⟩

/-- the first number that is no value -/
theorem first_bad (f : Int → Bool) : ∀ (zs : List Int), (∀ j, j < zs.length → f (zs.getD j 0) = true) ∨ ∃ b : Nat, b < zs.length ∧ f (zs.getD b 0) = false ∧ ∀ j : Nat, j < b → f (zs.getD j 0) = true
  | [] => .inl (fun j h => absurd h (Nat.not_lt_zero _))
  | a :: t => by
    cases e : f a
    · exact .inr ⟨0, by simp, by simpa using e, fun j h => absurd h (Nat.not_lt_zero _)⟩
    · rcases first_bad f t with h | ⟨b, hb, h1, h2⟩
      · refine .inl (fun j hj => ?_)
        cases j with
        | zero => simpa using e
        | succ j => simpa using h j (by simpa using hj)
      · refine .inr ⟨b + 1, by simpa using hb, by simpa using h1, fun j hj => ?_⟩
        cases j with
        | zero => simpa using e
        | succ j => simpa using h2 j (by omega)

set_option maxHeartbeats 1600000 in
set_option maxRecDepth 20000 in
theorem joinBad_any (v : Value) (zs : List Int) (w : World) (h : JRow w v zs) (hl : zs.length ≤ 64) (bd : Nat) (hbd : bd < zs.length) (hbad : inV (zs.getD bd 0) = false) (hgood : ∀ j, j < bd → inV (zs.getD j 0) = true) (ht : Tabs w) : Calls Tryd.prog 62 #[v, .int .i64 64, .func (.func 63) #[] #[]] w fun e w' => e = .returned (.tuple #[.string ⟨#[]⟩, .bool false]) ∧ Below w.heap.size w w' := by
  have hn : 1 ≤ zs.length := by omega
  have HT := Lib.hid ht
  have HY := Lib.hid (fun k (hk : k < bd) (w1 : World) (hT : Tabs w1) => implVT_yes (zs.getD k 0) w1 (hgood k hk) hT)
  have HN := Lib.hid (fun (w1 : World) => implVT_no (zs.getD bd 0) w1 hbad)
  have hmk := run_make_row' (P := Tryd.prog) 25 9 (.string ⟨#[]⟩) 16 Tryd.underlying25 Tryd.rowOfZ rfl .i64 .i64 zs.length (by omega) (by omega)
  obtain ⟨b, off, cap, rfl, hc⟩ := h.cells hn
  have HC := Lib.hid (fun (w1 : World) (hb : Below w.heap.size w w1) k (hk : k < zs.length) => (hb.cell (p := ⟨b, off + k, none⟩) (cell_lt (hc k hk))).trans (hc k hk))
  clear h hc ht hbad hgood
  generalize hlen : zs.length = n at *
  clear hlen
  have hd : decide ((64 : Int) < (n : Int)) = false := by simp; omega
  have hz0 : ((n : Int) == 0) = false := by simp; omega
  have R0 := Lib.hid ((World.rowIs_made w (.string ⟨#[]⟩) n 9).congr (g := fun j => .string (if j < 0 then decZ (zs.getD j 0) else ⟨#[]⟩)) (fun j _ => by simp))
  go_enter Tryd.func62, Tryd.ntmps62
  go_wp2
  go_loopw [25] (fun i wr => ∃ k : Nat, k ≤ bd ∧ i = .int .i64 k ∧ Hid (Below w.heap.size w wr) ∧ Hid (wr.rowIs w.heap.size 9 n (fun j => .string (if j < k then decZ (zs.getD j 0) else ⟨#[]⟩)))) (fun i _ => n - (intOf i).toNat)
  case atStart => exact ⟨0, by omega, rfl, Lib.hid (below_al1 w _), R0⟩
  case round =>
    obtain ⟨k, hk, rfl, hb, hr⟩ := hrel
    have c0 := HC.out _ hb.out k (by omega)
    have hkn : (k : Int) < n := by omega
    by_cases hlt : k < bd
    · have HA := Lib.hid (HY.out k hlt wr (HT.out.below hb.out))
      go_wp2_with fail
      refine HA.out.mono ?_
      rintro e w2 ⟨rfl, hb2⟩
      have B2 := Lib.hid (below_step hb.out hb2)
      have R2 := Lib.hid (hr.out.of_block (hb2.block _ hr.out.lt))
      clear hb2 c0
      have C1 := R2.out.cell (i := k) (by omega)
      have F1 := R2.out.frozen k
      have R3 := Lib.hid (R2.out.set k (.string (decZ (zs.getD k 0))))
      have B3 := Lib.hid (B2.out.setCell (p := ⟨w.heap.size, k, none⟩) (Nat.le_refl _) (.string (decZ (zs.getD k 0))))
      have HX := Lib.hid (fun j => show (if j = k then (.string (decZ (zs.getD k 0)) : Value) else .string (if j < k then decZ (zs.getD j 0) else ⟨#[]⟩)) = .string (if j < k + 1 then decZ (zs.getD j 0) else ⟨#[]⟩) by
        by_cases e : j = k
        · subst e; rw [if_pos rfl, if_pos (by omega)]
        · rw [if_neg e]
          by_cases e2 : j < k
          · rw [if_pos e2, if_pos (by omega)]
          · rw [if_neg e2, if_neg (by omega)])
      rw [if_neg (Nat.lt_irrefl k)] at C1
      generalize decZ (zs.getD k 0) = y at *
      go_wp2
      go_roundw
      case rel => exact ⟨k + 1, by omega, by go_num, B3, Lib.hid (R3.out.congr (fun j _ => HX.out j))⟩
      case measure => simp [intOf]; omega
    · have e : k = bd := by omega
      subst e
      have HA := Lib.hid (HN.out wr)
      go_wp2_with fail
      refine HA.out.mono ?_
      rintro e w2 ⟨rfl, hb2⟩
      have B2 := Lib.hid (below_step hb.out hb2)
      clear hb2 c0
      go_wp2
      go_ret2
      exact ⟨rfl, B2.out⟩

set_option maxRecDepth 20000 in
theorem implLT_any (v : Value) (zs : List Int) (w : World) (h : JRow w v zs) (hw : ∀ i, i < zs.length → -9223372036854775808 ≤ zs.getD i 0 ∧ zs.getD i 0 ≤ 9223372036854775807) (ht : Tabs w) : Calls Tryd.prog 27 #[v] w (TyB (lTx zs) (okL zs) w) := by
  have HJ : Hid (Calls Tryd.prog 62 #[v, .int .i64 64, .func (.func 63) #[] #[]] w (TyB (lTx zs) (okL zs) w)) := Lib.hid (by
    unfold TyB
    by_cases hl : zs.length ≤ 64
    · rcases first_bad inV zs with ha | ⟨bd, h1, h2, h3⟩
      · rw [okL_all ha, decide_eq_true hl]; exact joinDec_any v zs w h hw hl ha ht
      · rw [okL_bad h1 h2]; exact joinBad_any v zs w h hl bd h1 h2 h3 ht
    · have : okL zs = false := by
        unfold okL; rw [decide_eq_false hl, Bool.and_false]
      rw [this]; exact joinOverI_any v zs w h (by omega))
  clear h hw ht
  unfold TyB at *
  generalize (bif okL zs then lTx zs else (⟨#[]⟩ : ByteArray)) = T at *
  generalize okL zs = ok at *
  go_enter Tryd.func27, Tryd.ntmps27
  go_wp2_with fail
  refine HJ.out.mono ?_
  rintro e w1 ⟨rfl, hb⟩
  have B := Lib.hid hb
  clear hb
  go_wp2
  go_ret2
  exact ⟨rfl, B.out⟩

theorem fnExactListText_walk (v : Value) (zs : List Int) (w : World) (h' : IRow .i64 w v zs ∧ ∀ i, i < zs.length → (Lit.int .i64 (zs.getD i 0)).wf = true) (ht : Tabs w) : Calls Tryd.prog 7 #[v] w (Tru w) := by
  have h : JRow w v zs := h'.1
  have hw : ∀ i, i < zs.length → -9223372036854775808 ≤ zs.getD i 0 ∧ zs.getD i 0 ≤ 9223372036854775807 := fun i hi => by
    have := h'.2 i hi
    simpa [Lit.wf, IntKind.signed, IntKind.bits, IntKind.min] using this
  clear h'
  have HL := Lib.hid h.len
  by_cases hl : zs.length ≤ 1048576
  · have HN := Lib.hid hl
    have A := Lib.hid h
    have Bw := Lib.hid (Below.refl w.heap.size w)
    have CS := Lib.hid (fun v w1 (hr : JRow w1 v zs) => specLT_any v zs w1 hr hw)
    have CI := Lib.hid (fun v w1 (hr : JRow w1 v zs) (hT : Tabs w1) => implLT_any v zs w1 hr hw hT)
    have HT := Lib.hid ht
    clear hw ht
    unfold TyB at *
    generalize (bif okL zs then lTx zs else (⟨#[]⟩ : ByteArray)) = S at *
    generalize okL zs = ok at *
    obtain ⟨a, cap, rfl⟩ := h.shape
    clear h
    go_enter Tryd.func7, Tryd.ntmps7
    go_wp2_with fail
    refine (toJ_any _ zs _ A.out HN.out).mono ?_
    rintro _ w1 ⟨v1, rfl, hr, hb⟩
    have X := Lib.hid hr
    have Bw := Lib.hid (below_step Bw.out hb)
    have A := Lib.hid (A.out.below hb)
    clear hr hb
    obtain ⟨a1, c1, rfl⟩ := X.out.shape
    go_wp2_with fail
    refine (CS.out _ _ X.out).mono ?_
    rintro _ w2 ⟨rfl, hb⟩
    have Bw := Lib.hid (below_step Bw.out hb)
    have A := Lib.hid (A.out.below hb)
    clear hb X
    go_wp2_with fail
    refine (toJ_any _ zs _ A.out HN.out).mono ?_
    rintro _ w3 ⟨v3, rfl, hr, hb⟩
    have X := Lib.hid hr
    have Bw := Lib.hid (below_step Bw.out hb)
    have A := Lib.hid (A.out.below hb)
    clear hr hb
    obtain ⟨a3, c3, rfl⟩ := X.out.shape
    go_wp2_with fail
    refine (CI.out _ _ X.out (HT.out.below Bw.out)).mono ?_
    rintro _ w4 ⟨rfl, hb⟩
    have Bw := Lib.hid (below_step Bw.out hb)
    have A := Lib.hid (A.out.below hb)
    have X := Lib.hid (X.out.below hb)
    clear hb
    go_wp2_with fail
    refine (toJ_any _ zs _ A.out HN.out).mono ?_
    rintro _ w5 ⟨v5, rfl, hr, hb⟩
    have Z := Lib.hid hr
    have Bw := Lib.hid (below_step Bw.out hb)
    have X := Lib.hid (X.out.below hb)
    clear hr hb
    obtain ⟨a5, c5, rfl⟩ := Z.out.shape
    go_wp2_with fail
    refine (eqJJ_any _ _ zs _ X.out Z.out).mono ?_
    rintro _ w6 ⟨rfl, nq, rfl⟩
    have Bw := Lib.hid (below_drewN Bw.out nq)
    go_wp2
    go_ret
    exact Tru.below Bw.out
  · obtain ⟨a, cap, rfl⟩ := h.shape
    clear h hw ht
    have gL := HL.out
    go_enter Tryd.func7, Tryd.ntmps7
    go_wp2
    go_ret
    exact Tru.same
end Go.Proofs.YthedpbdeahieaaaDoor
