/- The law ShareBill, walked. -/
import Derived.Test.YtlhjmkdfemejmaaShr
namespace Go.Proofs.Ytlhjmkdfemejmaa
open Go.RowKit
set_option linter.unusedVariables false

theorem specShrB_any (b : Int) (v : Value) (u : List Int) (w : World) (h : JRow w v u) : Calls Try.prog 38 #[.int .i64 b, v] w (LstJB (shrS b u) (shrB b u) w) :=
  (specShr_any b v u w h).mono fun _ _ h => h.lst (Nat.le_trans (shrS_len b u) (by decide))
set_option maxRecDepth 10000 in
set_option maxHeartbeats 1600000 in
theorem fnExactShareBill_walk (b : Int) (v : Value) (u : List Int) (w : World) (wf0 : (Lit.int .i64 b).wf = true) (h' : IRow .i64 w v u ∧ ∀ i, i < u.length → (Lit.int .i64 (u.getD i 0)).wf = true) : Calls Try.prog 10 #[.int .i64 b, v] w (Tru w) := by
  have h : JRow w v u := h'.1
  clear h'
  have CS := Lib.hid (fun v w1 (hr : JRow w1 v u) => specShrB_any b v u w1 hr)
  have CI := Lib.hid (fun v w1 (hr : JRow w1 v u) => implShr_any b v u w1 hr)
  have HS := Lib.hid (shrS_len b u)
  generalize shrS b u = S at *
  generalize shrB b u = bb at *
  have HL := Lib.hid h.len
  by_cases hl : u.length ≤ 1048576
  · have HN := Lib.hid hl
    have A := Lib.hid h
    obtain ⟨a, cap, rfl⟩ := h.shape
    clear h
    have SM : Hid (S.length ≤ maxLen) := Lib.hid (Nat.le_trans HS.out (by decide))
    have S4 : Hid (S.length ≤ 400) := Lib.hid (Nat.le_trans HS.out (by decide))
    have ZM : Hid (u.length ≤ maxLen) := Lib.hid (Nat.le_trans HN.out (by decide))
    have Bw := Lib.hid (Below.refl w.heap.size w)
    go_enter Try.func10, Try.ntmps10
    go_wp2_with fail
    refine (toJ_own _ u _ A.out HN.out).mono ?_
    rintro _ w1 ⟨rfl, hr, hb⟩
    have X := Lib.hid hr
    clear hr
    have Bw := Lib.hid (below_step Bw.out hb)
    have A := Lib.hid (A.out.below hb)
    clear hb
    go_wp2_with fail
    refine (CS.out _ _ (X.out.row ZM.out)).mono ?_
    rintro _ w2 ⟨y, rfl, hW, hb⟩
    have Y := Lib.hid hW
    clear hW X
    have Bw := Lib.hid (below_step Bw.out hb)
    have A := Lib.hid (A.out.below hb)
    clear hb
    have B3 := Lib.hid (Below.refl w2.heap.size w2)
    have RV := Lib.hid A.out
    clear A
    go_wp2_with fail
    refine (toJ_own _ u _ (RV.out.below B3.out) HN.out).mono ?_
    rintro _ w3 ⟨rfl, hr, hb⟩
    have X := Lib.hid hr
    have XP := Lib.hid (Nat.le_refl w2.heap.size)
    clear hr
    have B3 := Lib.hid (below_step B3.out hb)
    clear hb
    have XL := Lib.hid X.out.lt
    have B5 := Lib.hid B3.out.size
    go_wp2_with fail
    refine (CI.out _ _ (X.out.row ZM.out)).mono ?_
    rintro _ w4 ⟨g, rfl, hO, hb⟩
    have O := Lib.hid hO
    have H6 := Lib.hid hb.size
    clear hO
    have B3 := Lib.hid (below_step B3.out hb)
    have X := Lib.hid (X.out.kept hb)
    clear hb
    go_wp2_with fail
    refine (eqJB2_any _ _ S _ (O.out.frow SM.out) (Y.out.below B3.out)).mono ?_
    rintro _ w5 ⟨rfl, hb⟩
    have H6 := Lib.hid (Nat.le_trans H6.out hb.size)
    have B3 := Lib.hid (below_step B3.out hb)
    have X := Lib.hid (X.out.kept hb)
    have O := Lib.hid (O.out.kept hb)
    clear hb
    go_wp2_with fail
    refine (toJ_own _ u _ (RV.out.below B3.out) HN.out).mono ?_
    rintro _ w6 ⟨rfl, hr, hb⟩
    have Z := Lib.hid hr
    clear hr
    have H6 := Lib.hid (Nat.le_trans H6.out hb.size)
    have B3 := Lib.hid (below_step B3.out hb)
    have X := Lib.hid (X.out.kept hb)
    have O := Lib.hid (O.out.kept hb)
    clear hb
    go_wp2_with fail
    refine (eqJB2_any _ _ u _ (X.out.row ZM.out) (Z.out.row ZM.out)).mono ?_
    rintro _ w7 ⟨rfl, hb⟩
    clear Z
    have H6 := Lib.hid (Nat.le_trans H6.out hb.size)
    have B3 := Lib.hid (below_step B3.out hb)
    have X := Lib.hid (X.out.kept hb)
    have O := Lib.hid (O.out.kept hb)
    clear hb
    go_wp2_with fail
    refine (markLJ_any _ 0 u.length 1 _ u _ X.out rfl HN.out (by decide)).mono ?_
    rintro _ w8 ⟨rfl, _, hon⟩
    have B3 := Lib.hid (B3.out.trans (hon.below (Nat.le_refl _)))
    have O := Lib.hid (O.out.far hon XL.out)
    have H6 := Lib.hid (Nat.le_trans H6.out (hon.below (Nat.zero_le _)).size)
    clear hon X
    go_wp2_with fail
    refine (eqJB2_any _ _ S _ (O.out.frow SM.out) (Y.out.below B3.out)).mono ?_
    rintro _ w9 ⟨rfl, hb⟩
    have H6 := Lib.hid (Nat.le_trans H6.out hb.size)
    have B3 := Lib.hid (below_step B3.out hb)
    have O := Lib.hid (O.out.kept hb)
    clear hb
    go_wp2_with fail
    refine (markJO O.out S4.out).mono ?_
    rintro _ w10 ⟨rfl, hO, hm⟩
    have hb := hm H6.out
    have H6 := Lib.hid (Nat.le_trans H6.out hb.size)
    have B3 := Lib.hid (B3.out.trans (hb.mono B5.out))
    have O := Lib.hid hO
    clear hO hm hb
    go_wp2_with fail
    refine (heldJO O.out S4.out).mono ?_
    rintro _ w11 ⟨rfl, rfl⟩
    go_wp2_with fail
    refine (toJ_own _ u _ (RV.out.below B3.out) HN.out).mono ?_
    rintro _ w12 ⟨rfl, hr, hb⟩
    have Z := Lib.hid hr
    clear hr
    have B3 := Lib.hid (below_step B3.out hb)
    have O := Lib.hid (O.out.kept hb)
    clear hb
    go_wp2_with fail
    refine (CI.out _ _ (Z.out.row ZM.out)).mono ?_
    rintro _ w13 ⟨f, rfl, hO, hb⟩
    have FR := Lib.hid (hO.frow SM.out)
    clear hO Z
    have B3 := Lib.hid (below_step B3.out hb)
    have O := Lib.hid (O.out.kept hb)
    clear hb
    go_wp2_with fail
    refine (eqJB2_any _ _ S _ FR.out (Y.out.below B3.out)).mono ?_
    rintro _ w14 ⟨rfl, hb⟩
    have B3 := Lib.hid (below_step B3.out hb)
    have O := Lib.hid (O.out.kept hb)
    clear hb
    go_wp2_with fail
    refine (heldJO O.out S4.out).mono ?_
    rintro _ w15 ⟨rfl, rfl⟩
    go_wp2
    go_ret
    exact Tru.below (below_step Bw.out B3.out)
  · obtain ⟨a, cap, rfl⟩ := h.shape
    clear h
    have gL := HL.out
    go_enter Try.func10, Try.ntmps10
    go_wp2
    go_ret
    exact Tru.same

end Go.Proofs.Ytlhjmkdfemejmaa
