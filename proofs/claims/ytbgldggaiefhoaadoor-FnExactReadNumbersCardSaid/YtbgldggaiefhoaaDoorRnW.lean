/- ReadNumbers: the law's walk. -/
import Derived.Test.YtbgldggaiefhoaaDoorRnI
namespace Go.Proofs.YtbgldggaiefhoaaDoor
open Go.RowKit
set_option linter.unusedVariables false

theorem eqFB_any (v v' : Value) (zs : List Nat) (w : World) (h : FRow w v zs) (h' : FRow w v' zs) : Calls Tryd.prog 22 #[v, v'] w (fun e w2 => e = .returned (.bool true) ∧ Below w.heap.size w w2) :=
  (eqF_any v v' zs zs w h h' (SameList.refl _)).mono (fun _ _ ⟨he, n, hw⟩ => ⟨he, by rw [hw]; exact below_drewN (Below.refl _ _) n⟩)
set_option maxRecDepth 20000 in
set_option maxHeartbeats 3200000 in
theorem fnExactReadNumbers_walk (s : ByteArray) (w : World) (hw : s.size ≤ maxLen) (hM : MaxP w) : Calls Tryd.prog 5 #[.string s] w (Tru w) := by
  by_cases hs : s.size ≤ 1048576
  · have hd : decide (1048576 < (s.size : Int)) = false := decide_eq_false (by omega)
    have CS := Lib.hid (fun w1 => specReadNumbers_any s w1 hs)
    have CI := Lib.hid (fun w1 h2 => implReadNumbers_any s w1 hs h2)
    have HM := Lib.hid hM
    have HS := Lib.hid (nlL_le s)
    unfold RnL at CS
    unfold RnO at CI
    obtain ⟨bb, hbb⟩ : ∃ b, nlOk s = b := ⟨_, rfl⟩
    obtain ⟨S, hS⟩ : ∃ S, nlL s = S := ⟨_, rfl⟩
    rw [hbb] at CS CI
    rw [hS] at CS CI HS
    have SM : Hid (S.length ≤ maxLen) := Lib.hid (Nat.le_trans HS.out (by decide))
    have S4 : Hid (S.length ≤ 400) := Lib.hid (Nat.le_trans HS.out (by decide))
    clear hw hM hs hbb hS HS
    go_enter Tryd.func5, Tryd.ntmps5
    go_wp2_with fail
    refine (CS.out _).mono ?_
    rintro _ w1 ⟨y, rfl, hr, hb⟩
    have Y := Lib.hid hr
    have Bw := Lib.hid hb
    have HM := Lib.hid (HM.out.below hb)
    have B3 := Lib.hid (Below.refl w1.heap.size w1)
    clear hr hb
    go_wp2_with fail
    refine (CI.out _ HM.out).mono ?_
    rintro _ w2 ⟨g, rfl, hO, hb⟩
    have O := Lib.hid hO
    have H6 := Lib.hid hb.size
    have B3 := Lib.hid (below_step B3.out hb)
    clear hO hb
    go_wp2_with fail
    refine (eqFB_any _ _ S _ (O.out.frow SM.out) (Y.out.below B3.out)).mono ?_
    rintro _ w3 ⟨rfl, hb⟩
    have O := Lib.hid (O.out.kept hb)
    have H6 := Lib.hid (Nat.le_trans H6.out hb.size)
    have B3 := Lib.hid (below_step B3.out hb)
    clear hb
    go_wp2_with fail
    refine (markO O.out S4.out).mono ?_
    rintro _ w4 ⟨rfl, hO, hm⟩
    have hb := hm H6.out
    have B3 := Lib.hid (B3.out.trans hb)
    have O := Lib.hid hO
    clear hO hm hb
    go_wp2_with fail
    refine (heldO O.out S4.out).mono ?_
    rintro _ w5 ⟨rfl, rfl⟩
    go_wp2_with fail
    refine (CI.out _ (HM.out.below B3.out)).mono ?_
    rintro _ w6 ⟨f, rfl, hO, hb⟩
    have FR := Lib.hid (hO.frow SM.out)
    have O := Lib.hid (O.out.kept hb)
    have B3 := Lib.hid (below_step B3.out hb)
    clear hO hb
    go_wp2_with fail
    refine (eqFB_any _ _ S _ FR.out (Y.out.below B3.out)).mono ?_
    rintro _ w7 ⟨rfl, hb⟩
    have O := Lib.hid (O.out.kept hb)
    have B3 := Lib.hid (below_step B3.out hb)
    clear hb
    go_wp2_with fail
    refine (heldO O.out S4.out).mono ?_
    rintro _ w8 ⟨rfl, rfl⟩
    go_wp2
    go_ret
    exact Tru.below (below_step Bw.out B3.out)
  · have hd : decide (1048576 < (s.size : Int)) = true := decide_eq_true (by omega)
    go_enter Tryd.func5, Tryd.ntmps5
    go_wp2
    go_ret
    exact Tru.below (Below.refl _ _)
end Go.Proofs.YtbgldggaiefhoaaDoor
