/- RecoverJournal: the law's walk. -/
import Derived.Test.YtncjkhdnpioinaaDoorRcI
import Derived.Test.YtncjkhdnpioinaaDoorRcS
import Derived.Test.YtncjkhdnpioinaaDoorMarkZ
import Derived.Test.YtncjkhdnpioinaaDoorStr
namespace Go.Proofs.YtncjkhdnpioinaaDoor
open Go.RowKit
set_option linter.unusedVariables false

theorem rcL_le (t : ByteArray) : (rcL t).length ≤ 16000 := by
  unfold rcL
  split
  · rename_i h
    have : ∀ (l : List ByteArray) c, (rcv CK l c).1.length ≤ psum l := by
      intro l
      induction l with
      | nil => intro c; exact Nat.zero_le _
      | cons L r ih =>
        intro c
        unfold rcv psum
        rw [List.map_cons, List.sum_cons]
        split
        · have := ih (CK (lnOf L) c)
          unfold psum at this
          simp only [List.length_cons]; omega
        · exact Nat.zero_le _
    exact Nat.le_trans (this _ _) (Nat.le_trans (psum_le t.size t (Nat.le_refl _)) h)
  · exact Nat.zero_le _
set_option maxRecDepth 20000 in
set_option maxHeartbeats 3200000 in
theorem fnExactRecoverJournal_walk (t : ByteArray) (w : World) (hw : t.size ≤ maxLen) (ht : Tabs w) (hM : MaxP w) : Calls Tryd.prog 10 #[.string t] w (Tru w) := by
  by_cases hs : t.size ≤ 1048576
  · have hd : decide (1048576 < (t.size : Int)) = false := decide_eq_false (by omega)
    have CS := Lib.hid (fun w1 => specRecover_any t w1)
    have CI := Lib.hid (fun w1 h1 h2 => implRecover_any t w1 hs h1 h2)
    have HT := Lib.hid ht
    have HM := Lib.hid hM
    have HS := Lib.hid (rcL_le t)
    unfold RcB at CS
    unfold RcO at CI
    obtain ⟨bb, hbb⟩ : ∃ b, rcOk t = b := ⟨_, rfl⟩
    obtain ⟨S, hS⟩ : ∃ S, rcL t = S := ⟨_, rfl⟩
    obtain ⟨n, hn⟩ : ∃ n : Int, rcN t = n := ⟨_, rfl⟩
    rw [hbb, hn] at CS CI
    rw [hS] at CS CI HS
    have SM : Hid (S.length ≤ maxLen) := Lib.hid (Nat.le_trans HS.out (by decide))
    have S4 : Hid (S.length ≤ 500000) := Lib.hid (Nat.le_trans HS.out (by decide))
    clear hw ht hM hs hbb hS HS hn
    go_enter Tryd.func10, Tryd.ntmps10
    go_wp2_with fail
    refine (CS.out _).mono ?_
    rintro _ w1 ⟨y, rfl, hr, hb⟩
    have Y := Lib.hid hr
    have Bw := Lib.hid hb
    have HT := Lib.hid (HT.out.below hb)
    have HM := Lib.hid (HM.out.below hb)
    have B3 := Lib.hid (Below.refl w1.heap.size w1)
    clear hr hb
    go_wp2_with fail
    refine (CI.out _ HT.out HM.out).mono ?_
    rintro _ w2 ⟨g, rfl, hO, hb⟩
    have O := Lib.hid hO
    have H6 := Lib.hid hb.size
    have B3 := Lib.hid (below_step B3.out hb)
    clear hO hb
    go_wp2_with fail
    refine (eqS_any _ _ S _ (O.out.frow SM.out) (Y.out.below B3.out)).mono ?_
    rintro _ w3 ⟨rfl, hb⟩
    have O := Lib.hid (O.out.kept hb)
    have H6 := Lib.hid (Nat.le_trans H6.out hb.size)
    have B3 := Lib.hid (below_step B3.out hb)
    clear hb
    go_wp2_with fail
    refine (markZO O.out S4.out).mono ?_
    rintro _ w4 ⟨rfl, hO, hm⟩
    have hb := hm H6.out
    have B3 := Lib.hid (B3.out.trans hb)
    have O := Lib.hid hO
    clear hO hm hb
    go_wp2_with fail
    refine (heldZO O.out S4.out).mono ?_
    rintro _ w5 ⟨rfl, hb⟩
    have O := Lib.hid (O.out.kept hb)
    have B3 := Lib.hid (below_step B3.out hb)
    clear hb
    go_wp2_with fail
    refine (CI.out _ (HT.out.below B3.out) (HM.out.below B3.out)).mono ?_
    rintro _ w6 ⟨f, rfl, hO, hb⟩
    have FR := Lib.hid (hO.frow SM.out)
    have O := Lib.hid (O.out.kept hb)
    have B3 := Lib.hid (below_step B3.out hb)
    clear hO hb
    go_wp2_with fail
    refine (eqS_any _ _ S _ FR.out (Y.out.below B3.out)).mono ?_
    rintro _ w7 ⟨rfl, hb⟩
    have O := Lib.hid (O.out.kept hb)
    have B3 := Lib.hid (below_step B3.out hb)
    clear hb
    go_wp2_with fail
    refine (heldZO O.out S4.out).mono ?_
    rintro _ w8 ⟨rfl, hb⟩
    have B3 := Lib.hid (below_step B3.out hb)
    go_wp2
    go_ret
    exact Tru.below (below_step Bw.out B3.out)
  · have hd : decide (1048576 < (t.size : Int)) = true := decide_eq_true (by omega)
    go_enter Tryd.func10, Tryd.ntmps10
    go_wp2
    go_ret
    exact Tru.below (Below.refl _ _)
end Go.Proofs.YtncjkhdnpioinaaDoor
