/- Stuffs: their copies, and whether they are valid: both sides. -/
import Derived.Test.YthedpbdeahieaaaDoorOpen3
import Derived.Test.YthedpbdeahieaaaDoorAllP
import Derived.Laws.ResultCell
namespace Go.Proofs.YthedpbdeahieaaaDoor
open Go.RowKit
set_option linter.unusedVariables false

def vStuff (s : SF) : Bool := pos s.so && pos s.fl && pos s.es && pos s.ef && fin .f32 s.pt && pos s.la

theorem toStuff_any (s : SF) (w : World) : Calls Tryd.prog 79 #[.agg #[.float .f32 s.so, .float .f32 s.fl, .float .f32 s.es, .float .f32 s.ef, .float .f32 s.pt, .float .f32 s.la]] w fun e w' => e = .returned (.agg #[.float .f32 s.so, .float .f32 s.fl, .float .f32 s.es, .float .f32 s.ef, .float .f32 s.pt, .float .f32 s.la]) ∧ Below w.heap.size w w' := by
  go_enter Tryd.func79, Tryd.ntmps79
  go_wp2
  refine bodyPost_ret (v := .agg #[.float .f32 s.so, .float .f32 s.fl, .float .f32 s.es, .float .f32 s.ef, .float .f32 s.pt, .float .f32 s.la]) ?_ rfl ?_
  · rw [results_cell1 rfl]
    go_simp
  · exact ⟨rfl, (by repeat (first | exact Below.refl _ _ | refine Below.setCell ?_ (by first | exact Nat.le_refl _ | (simp; done) | (simp; omega) | omega) _ | refine below_drewN ?_ _ | refine Below.alloc ?_ (by first | exact Nat.le_refl _ | (simp; done) | (simp; omega) | omega) _))⟩

theorem frow5 (w : World) (p : Nat) (hp : p = w.heap.size) (a b c d e : Nat) (t : TypeId) : FRow (w.alloc (.cells #[.float .f32 a, .float .f32 b, .float .f32 c, .float .f32 d, .float .f32 e] t)) (.slice (some ⟨p, 0, none⟩) 5 5) [a, b, c, d, e] := by
  subst hp
  exact FRow.of_cells (zs := [a, b, c, d, e]) (Cells.made w (fl [a, b, c, d, e]) t) (show 5 ≤ maxLen by decide)

set_option maxHeartbeats 800000 in
theorem specStuff_any (s : SF) (b : Nat) (w : World) (A : Cells w b s.vs) : Calls Tryd.prog 103 #[.pointer (some ⟨b, 0, none⟩)] w (Bol (vStuff s) w) := by
  have c0 := A.at 0 rfl
  have c1 := A.at 1 rfl
  have c2 := A.at 2 rfl
  have c3 := A.at 3 rfl
  have c4 := A.at 4 rfl
  have c5 := A.at 5 rfl
  clear A
  cases B0 : pos s.so
  · have V := Lib.hid (show vStuff s = false by unfold vStuff; rw [B0]; simp)
    have H0 := Lib.hid B0
    clear B0
    go_enter Tryd.func103, Tryd.ntmps103
    go_wp2_with fail
    refine (specAbove_any _ _).mono ?_
    rw [H0.out]
    rintro e w' ⟨rfl, n0, rfl⟩
    go_wp2
    go_ret
    exact ⟨ret_bb V.out, _, rfl⟩
  · skip
    cases B1 : pos s.fl
    · have V := Lib.hid (show vStuff s = false by unfold vStuff; rw [B0, B1]; simp)
      have H0 := Lib.hid B0
      have H1 := Lib.hid B1
      clear B0 B1
      go_enter Tryd.func103, Tryd.ntmps103
      go_wp2_with fail
      refine (specAbove_any _ _).mono ?_
      rw [H0.out]
      rintro e w' ⟨rfl, n0, rfl⟩
      go_wp2_with fail
      refine (specAbove_any _ _).mono ?_
      rw [H1.out]
      rintro e w' ⟨rfl, n1, rfl⟩
      go_wp2
      go_ret
      exact ⟨ret_bb V.out, _, rfl⟩
    · skip
      cases B2 : pos s.es
      · have V := Lib.hid (show vStuff s = false by unfold vStuff; rw [B0, B1, B2]; simp)
        have H0 := Lib.hid B0
        have H1 := Lib.hid B1
        have H2 := Lib.hid B2
        clear B0 B1 B2
        go_enter Tryd.func103, Tryd.ntmps103
        go_wp2_with fail
        refine (specAbove_any _ _).mono ?_
        rw [H0.out]
        rintro e w' ⟨rfl, n0, rfl⟩
        go_wp2_with fail
        refine (specAbove_any _ _).mono ?_
        rw [H1.out]
        rintro e w' ⟨rfl, n1, rfl⟩
        go_wp2_with fail
        refine (specAbove_any _ _).mono ?_
        rw [H2.out]
        rintro e w' ⟨rfl, n2, rfl⟩
        go_wp2
        go_ret
        exact ⟨ret_bb V.out, _, rfl⟩
      · skip
        cases B3 : pos s.ef
        · have V := Lib.hid (show vStuff s = false by unfold vStuff; rw [B0, B1, B2, B3]; simp)
          have H0 := Lib.hid B0
          have H1 := Lib.hid B1
          have H2 := Lib.hid B2
          have H3 := Lib.hid B3
          clear B0 B1 B2 B3
          go_enter Tryd.func103, Tryd.ntmps103
          go_wp2_with fail
          refine (specAbove_any _ _).mono ?_
          rw [H0.out]
          rintro e w' ⟨rfl, n0, rfl⟩
          go_wp2_with fail
          refine (specAbove_any _ _).mono ?_
          rw [H1.out]
          rintro e w' ⟨rfl, n1, rfl⟩
          go_wp2_with fail
          refine (specAbove_any _ _).mono ?_
          rw [H2.out]
          rintro e w' ⟨rfl, n2, rfl⟩
          go_wp2_with fail
          refine (specAbove_any _ _).mono ?_
          rw [H3.out]
          rintro e w' ⟨rfl, n3, rfl⟩
          go_wp2
          go_ret
          exact ⟨ret_bb V.out, _, rfl⟩
        · skip
          cases B4 : fin .f32 s.pt
          · have V := Lib.hid (show vStuff s = false by unfold vStuff; rw [B0, B1, B2, B3, B4]; simp)
            have H0 := Lib.hid B0
            have H1 := Lib.hid B1
            have H2 := Lib.hid B2
            have H3 := Lib.hid B3
            have H4 := Lib.hid B4
            clear B0 B1 B2 B3 B4
            go_enter Tryd.func103, Tryd.ntmps103
            go_wp2_with fail
            refine (specAbove_any _ _).mono ?_
            rw [H0.out]
            rintro e w' ⟨rfl, n0, rfl⟩
            go_wp2_with fail
            refine (specAbove_any _ _).mono ?_
            rw [H1.out]
            rintro e w' ⟨rfl, n1, rfl⟩
            go_wp2_with fail
            refine (specAbove_any _ _).mono ?_
            rw [H2.out]
            rintro e w' ⟨rfl, n2, rfl⟩
            go_wp2_with fail
            refine (specAbove_any _ _).mono ?_
            rw [H3.out]
            rintro e w' ⟨rfl, n3, rfl⟩
            go_wp2_with fail
            refine (specFinite_any _ _).mono ?_
            rw [H4.out]
            rintro e w' ⟨rfl, n4, rfl⟩
            go_wp2
            go_ret
            exact ⟨ret_bb V.out, _, rfl⟩
          · skip
            have V := Lib.hid (show vStuff s = pos s.la by unfold vStuff; rw [B0, B1, B2, B3, B4]; rfl)
            have H0 := Lib.hid B0
            have H1 := Lib.hid B1
            have H2 := Lib.hid B2
            have H3 := Lib.hid B3
            have H4 := Lib.hid B4
            clear B0 B1 B2 B3 B4
            go_enter Tryd.func103, Tryd.ntmps103
            go_wp2_with fail
            refine (specAbove_any _ _).mono ?_
            rw [H0.out]
            rintro e w' ⟨rfl, n0, rfl⟩
            go_wp2_with fail
            refine (specAbove_any _ _).mono ?_
            rw [H1.out]
            rintro e w' ⟨rfl, n1, rfl⟩
            go_wp2_with fail
            refine (specAbove_any _ _).mono ?_
            rw [H2.out]
            rintro e w' ⟨rfl, n2, rfl⟩
            go_wp2_with fail
            refine (specAbove_any _ _).mono ?_
            rw [H3.out]
            rintro e w' ⟨rfl, n3, rfl⟩
            go_wp2_with fail
            refine (specFinite_any _ _).mono ?_
            rw [H4.out]
            rintro e w' ⟨rfl, n4, rfl⟩
            go_wp2_with fail
            refine (specAbove_any _ _).mono ?_
            rintro e w' ⟨rfl, n5, rfl⟩
            go_wp2
            go_ret
            exact ⟨ret_bb V.out, _, rfl⟩


theorem vStuff_eq (s : SF) : ([s.so, s.fl, s.es, s.ef, s.la].all pos && fin .f32 s.pt) = vStuff s := by
  unfold vStuff
  simp only [List.all_cons, List.all_nil]
  cases pos s.so <;> cases pos s.fl <;> cases pos s.es <;> cases pos s.ef <;> cases pos s.la <;> cases fin .f32 s.pt <;> rfl
theorem implVStuff_any (s : SF) (w : World) : Calls Tryd.prog 107 #[.agg #[.float .f32 s.so, .float .f32 s.fl, .float .f32 s.es, .float .f32 s.ef, .float .f32 s.pt, .float .f32 s.la]] w (BolB (vStuff s) w) := by
  rw [← vStuff_eq s]
  have A := Lib.hid ((Cells.made w s.vs 67).al (.cells #[.float .f32 s.so, .float .f32 s.fl, .float .f32 s.es, .float .f32 s.ef, .float .f32 s.la] 54))
  have Bw := Lib.hid (below_al2 w (.cells s.vs.toArray 67) (.cells #[.float .f32 s.so, .float .f32 s.fl, .float .f32 s.es, .float .f32 s.ef, .float .f32 s.la] 54))
  have R := Lib.hid (frow5 (w.alloc (.cells s.vs.toArray 67)) (w.heap.size + 1) (by simp) s.so s.fl s.es s.ef s.la 54)
  cases B : [s.so, s.fl, s.es, s.ef, s.la].all pos
  all_goals
    have HB := Lib.hid B
    clear B
    go_enter Tryd.func107, Tryd.ntmps107
    go_wp2_with fail
    refine (allPos_any _ [s.so, s.fl, s.es, s.ef, s.la] _ R.out).mono ?_
    rw [HB.out]
    rintro e w2 ⟨rfl, hb⟩
    (first | (have Bw := Lib.hid (below_step Bw.out hb)) | (have Bw := Lib.hid (below_step Bw.out (below_undrew hb))) | (have Bw := Lib.hid (below_step Bw.out (below_unal hb))) | (have Bw := Lib.hid (below_step Bw.out (below_unal (below_undrew hb)))) | (have Bw := Lib.hid (below_step Bw.out (below_undrew (below_unal hb)))) | (have Bw := Lib.hid (below_step Bw.out (below_unal (below_unal hb)))))
    (first | (have A := Lib.hid (A.out.kept hb)) | (have A := Lib.hid (A.out.kept (below_undrew hb))) | (have A := Lib.hid (A.out.kept (below_unal hb))) | (have A := Lib.hid (A.out.kept (below_unal (below_undrew hb)))) | (have A := Lib.hid (A.out.kept (below_undrew (below_unal hb)))) | (have A := Lib.hid (A.out.kept (below_unal (below_unal hb)))))
    have c0 := A.out.at 0 rfl; have c1 := A.out.at 1 rfl; have c2 := A.out.at 2 rfl; have c3 := A.out.at 3 rfl; have c4 := A.out.at 4 rfl; have c5 := A.out.at 5 rfl
    clear hb
  · go_wp2
    go_ret
    exact ⟨rfl, Bw.out⟩
  · go_wp2_with fail
    refine (implFinite_any _ _).mono ?_
    rintro e w' ⟨rfl, n, rfl⟩
    go_wp2
    go_ret
    exact ⟨rfl, below_drewN Bw.out _⟩

end Go.Proofs.YthedpbdeahieaaaDoor
