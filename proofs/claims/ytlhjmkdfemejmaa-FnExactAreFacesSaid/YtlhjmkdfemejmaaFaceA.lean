/- Faces: whether they are valid, as the program tells. -/
import Derived.Test.YtlhjmkdfemejmaaOpenF
import Derived.Test.YtlhjmkdfemejmaaSnA
import Derived.Laws.ResultCell
namespace Go.Proofs.Ytlhjmkdfemejmaa
open Go.RowKit
set_option linter.unusedVariables false

def vFace (s : FA) : Bool := pos s.wd && shn s.sh && lst s.wm
theorem vFace_spec (s : FA) : vFace s = (pos s.wd && gt0 s.sh && leN s.sh 1065353216 && lst s.wm) := by unfold vFace shn; cases pos s.wd <;> cases gt0 s.sh <;> simp

theorem implFace_any (s : FA) (w : World) : Calls Try.prog 81 #[.agg #[.float .f32 s.wd, .float .f32 s.sh, .float .f32 s.wm]] w (BolB (vFace s) w) := by
  unfold vFace
  cases B0 : pos s.wd
  · skip
    have H0 := Lib.hid B0
    clear B0
    go_enter Try.func81, Try.ntmps81
    go_wp2_with fail
    refine (implPos_any s.wd _).mono ?_
    rw [H0.out]
    rintro e w' ⟨rfl, n, rfl⟩
    go_wp2
    go_ret
    exact ⟨ret_bb (by simp), (by first | exact below_drewN (below_al1 _ _) _ | exact below_al1 _ _ | exact (by repeat (first | exact Below.refl _ _ | refine Below.setCell ?_ (by first | exact Nat.le_refl _ | (simp; done) | (simp; omega) | omega) _ | refine below_drewN ?_ _ | refine Below.alloc ?_ (by first | exact Nat.le_refl _ | (simp; done) | (simp; omega) | omega) _)))⟩
  · skip
    cases B1 : shn s.sh
    · skip
      have H0 := Lib.hid B0
      have H1 := Lib.hid B1
      clear B0 B1
      go_enter Try.func81, Try.ntmps81
      go_wp2_with fail
      refine (implPos_any s.wd _).mono ?_
      rw [H0.out]
      rintro e w' ⟨rfl, n, rfl⟩
      go_wp2_with fail
      refine (implShine_any s.sh _).mono ?_
      rw [H1.out]
      rintro e w' ⟨rfl, rfl⟩
      go_wp2
      go_ret
      exact ⟨ret_bb (by simp), (by first | exact below_drewN (below_al1 _ _) _ | exact below_al1 _ _ | exact (by repeat (first | exact Below.refl _ _ | refine Below.setCell ?_ (by first | exact Nat.le_refl _ | (simp; done) | (simp; omega) | omega) _ | refine below_drewN ?_ _ | refine Below.alloc ?_ (by first | exact Nat.le_refl _ | (simp; done) | (simp; omega) | omega) _)))⟩
    · skip
      cases B2 : lst s.wm
      · skip
        have H0 := Lib.hid B0
        have H1 := Lib.hid B1
        have H2 := Lib.hid B2
        clear B0 B1 B2
        go_enter Try.func81, Try.ntmps81
        go_wp2_with fail
        refine (implPos_any s.wd _).mono ?_
        rw [H0.out]
        rintro e w' ⟨rfl, n, rfl⟩
        go_wp2_with fail
        refine (implShine_any s.sh _).mono ?_
        rw [H1.out]
        rintro e w' ⟨rfl, rfl⟩
        go_wp2_with fail
        refine (implNotNeg_any s.wm _).mono ?_
        rw [H2.out]
        rintro e w' ⟨rfl, n, rfl⟩
        go_wp2
        go_ret
        exact ⟨ret_bb (by simp), (by first | exact below_drewN (below_al1 _ _) _ | exact below_al1 _ _ | exact (by repeat (first | exact Below.refl _ _ | refine Below.setCell ?_ (by first | exact Nat.le_refl _ | (simp; done) | (simp; omega) | omega) _ | refine below_drewN ?_ _ | refine Below.alloc ?_ (by first | exact Nat.le_refl _ | (simp; done) | (simp; omega) | omega) _)))⟩
      · skip
        have H0 := Lib.hid B0
        have H1 := Lib.hid B1
        have H2 := Lib.hid B2
        clear B0 B1 B2
        go_enter Try.func81, Try.ntmps81
        go_wp2_with fail
        refine (implPos_any s.wd _).mono ?_
        rw [H0.out]
        rintro e w' ⟨rfl, n, rfl⟩
        go_wp2_with fail
        refine (implShine_any s.sh _).mono ?_
        rw [H1.out]
        rintro e w' ⟨rfl, rfl⟩
        go_wp2_with fail
        refine (implNotNeg_any s.wm _).mono ?_
        rw [H2.out]
        rintro e w' ⟨rfl, n, rfl⟩
        go_wp2
        go_ret
        exact ⟨ret_bb (by simp), (by first | exact below_drewN (below_al1 _ _) _ | exact below_al1 _ _ | exact (by repeat (first | exact Below.refl _ _ | refine Below.setCell ?_ (by first | exact Nat.le_refl _ | (simp; done) | (simp; omega) | omega) _ | refine below_drewN ?_ _ | refine Below.alloc ?_ (by first | exact Nat.le_refl _ | (simp; done) | (simp; omega) | omega) _)))⟩

end Go.Proofs.Ytlhjmkdfemejmaa
