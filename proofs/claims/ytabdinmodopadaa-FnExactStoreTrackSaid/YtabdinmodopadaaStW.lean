/- How a track is stored: both sides. -/
import Derived.Test.YtabdinmodopadaaTkS
import Derived.Test.YtabdinmodopadaaPkW
import Derived.Test.YtabdinmodopadaaLowB
import Derived.Test.YtabdinmodopadaaCatU
import Derived.Test.YtabdinmodopadaaCk
namespace Go.Proofs.Ytabdinmodopadaa
open Go.RowKit
set_option linter.unusedVariables false

def toHead (s : ByteArray) : List Int := [84, 82, 75, 49] ++ [(s.size : Int)] ++ nums s
def toBody (s : ByteArray) (zs : List Int) : List Int := toHead s ++ [((pkL zs zs.length).length : Int) % 256, ((pkL zs zs.length).length : Int) / 256] ++ pkL zs zs.length
def toChk (s : ByteArray) (zs : List Int) : Int := chkTo (strOfNums (toBody s zs)) 0 (strOfNums (toBody s zs)).size
def toAll (s : ByteArray) (zs : List Int) : List Int := toBody s zs ++ [toChk s zs % 256, toChk s zs / 256]
def stT (s : ByteArray) (zs : List Int) : ByteArray := bif tkB s zs then strOfNums (toAll s zs) else ⟨#[]⟩
theorem isN_len {s : ByteArray} (h : isN s = true) : 1 ≤ s.size ∧ s.size ≤ 8 := by
  have := of_decide_eq_true h; exact ⟨this.1, this.2.1⟩
theorem tkB_parts {s : ByteArray} {zs : List Int} (h : tkB s zs = true) : isN s = true ∧ hns zs = true := by
  unfold tkB at h; rwa [Bool.and_eq_true] at h
theorem toBody_len {s : ByteArray} {zs : List Int} (h : tkB s zs = true) : (toBody s zs).length ≤ 1000 := by
  have a := isN_len (tkB_parts h).1
  have b := pkL_len (tkB_parts h).2 zs.length (Nat.le_refl _)
  have c := (hns_len (tkB_parts h).2).2
  unfold toBody toHead
  simp only [List.length_append, List.length_cons, List.length_nil, nums_len]
  omega
theorem toChk_bd {s : ByteArray} {zs : List Int} : 0 ≤ toChk s zs ∧ toChk s zs < 65003 := chkTo_bd _ 0 (by omega) (by omega) _

set_option maxRecDepth 20000 in
set_option maxHeartbeats 3200000 in
theorem implSo_any (s : ByteArray) (b : Value) (zs : List Int) (w : World) (h : JRow w b zs) : Calls Try.prog 40 #[.agg #[.string s, b]] w (PkB (stT s zs) (tkB s zs) w) := by
  have A := Lib.hid (Cells.made w (tkv s b) 40)
  have Bw := Lib.hid (below_al1 w (.cells (tkv s b).toArray 40))
  have HV := Lib.hid (implTk_any s b zs (w.alloc (.cells (tkv s b).toArray 40)) (h.below Bw.out))
  have HP := Lib.hid (fun w1 (hb : Below w.heap.size w w1) => implPk_any b zs w1 (h.below hb))
  clear h
  unfold stT
  cases B0 : tkB s zs
  · have HR := Lib.hid B0
    clear B0 HP
    go_enter Try.func40, Try.ntmps40
    go_wp2_with fail
    refine HV.out.mono ?_
    rw [HR.out]
    rintro e w1 ⟨rfl, hb⟩
    have B1 := Lib.hid (below_step Bw.out hb)
    clear hb
    go_wp2
    go_ret2
    exact ⟨rfl, B1.out⟩
  · skip
    have HR := Lib.hid B0
    have hN := (tkB_parts B0).1
    have hH := (tkB_parts B0).2
    have hs := isN_len hN
    have hp := pkL_len hH zs.length (Nat.le_refl _)
    have hz := (hns_len hH).2
    have LB := Lib.hid (toBody_len B0)
    have ZT := Lib.hid (show pkT zs = strOfNums (pkL zs zs.length) by unfold pkT; rw [hH]; rfl)
    have ZO := Lib.hid hH
    have E0 : strOfNums [84, 82, 75, 49] = ⟨#[84, 82, 75, 49]⟩ := by decide +kernel
    have EB : Hid ((⟨#[84, 82, 75, 49]⟩ : ByteArray) ++ strOfNums [(s.size : Int) % 256] ++ s ++ strOfNums [((pkL zs zs.length).length : Int) % 256, ((pkL zs zs.length).length : Int) / 256 % 256] ++ strOfNums (pkL zs zs.length) = strOfNums (toBody s zs)) := Lib.hid (by
      rw [← E0]
      unfold toBody toHead
      rw [show (s.size : Int) % 256 = s.size by omega, show ((pkL zs zs.length).length : Int) / 256 % 256 = ((pkL zs zs.length).length : Int) / 256 by omega]
      simp only [str_app, str_nums])
    have EC : Hid (strOfNums (toBody s zs) ++ strOfNums [toChk s zs % 256, toChk s zs / 256 % 256] = strOfNums (toAll s zs)) := Lib.hid (by
      have hc := toChk_bd (s := s) (zs := zs)
      unfold toAll
      rw [str_app, show toChk s zs / 256 % 256 = toChk s zs / 256 by omega])
    have HL1 := Lib.hid (fun w1 => low1_any (s.size : Int) w1 (by omega) (by omega))
    have HL2 := Lib.hid (fun w1 => low2_any ((pkL zs zs.length).length : Int) w1 (by omega) (by omega))
    have HL3 := Lib.hid (fun w1 => low2_any (toChk s zs) w1 (toChk_bd (s := s) (zs := zs)).1 (by have := (toChk_bd (s := s) (zs := zs)).2; omega))
    have HC := Lib.hid (fun w1 => implCheck_yes (strOfNums (toBody s zs)) 0 w1 (by omega) (by omega) (by rw [strOfNums_size]; have := LB.out; omega))
    have SP := Lib.hid (strOfNums_size (pkL zs zs.length))
    have CK := Lib.hid (show chkTo (strOfNums (toBody s zs)) 0 (strOfNums (toBody s zs)).size = toChk s zs from rfl)
    have z1 := strOfNums_size [(s.size : Int) % 256]
    have z2 := strOfNums_size [((pkL zs zs.length).length : Int) % 256, ((pkL zs zs.length).length : Int) / 256 % 256]
    have z3 := strOfNums_size [toChk s zs % 256, toChk s zs / 256 % 256]
    have zb := strOfNums_size (toBody s zs)
    have hp2 := hp.2
    clear B0 hN hH E0 hp
    generalize (pkL zs zs.length).length = L at *
    generalize strOfNums (pkL zs zs.length) = pk at *
    generalize strOfNums [(s.size : Int) % 256] = t1 at *
    generalize strOfNums [(L : Int) % 256, (L : Int) / 256 % 256] = t2 at *
    generalize strOfNums (toBody s zs) = bd at *
    generalize toChk s zs = ck at *
    generalize strOfNums [ck % 256, ck / 256 % 256] = t3 at *
    go_enter Try.func40, Try.ntmps40
    go_wp2_with fail
    refine HV.out.mono ?_
    rw [HR.out]
    rintro e w1 ⟨rfl, hb⟩
    have B1 := Lib.hid (below_step Bw.out hb)
    have A1 := Lib.hid (A.out.kept hb)
    have c0 := A1.out.at 0 rfl
    have c1 := A1.out.at 1 rfl
    clear hb
    go_wp2_with fail
    refine (HP.out _ B1.out).mono ?_
    rw [ZT.out, ZO.out]
    rintro e w2 ⟨rfl, hb⟩
    have B2 := Lib.hid (below_step B1.out hb)
    have A2 := Lib.hid (A1.out.kept hb)
    clear hb c0 c1
    have c0 := A2.out.at 0 rfl
    have c1 := A2.out.at 1 rfl
    have FACT := Lib.hid (fun w9 (hw : Ext w2 w9) => And.intro (hw.cell c0) (hw.cell c1))
    have SPo := SP.out
    have lb := LB.out
    rw [← zb] at lb
    simp only [List.length_cons, List.length_nil] at z1 z2 z3
    have n1 : ¬ (9223372036854775807 < 4 + t1.size) := by omega
    have n2 : ¬ (9223372036854775807 < 4 + t1.size + s.size) := by omega
    have n3 : ¬ (9223372036854775807 < 4 + t1.size + s.size + t2.size) := by omega
    have n4 : ¬ (9223372036854775807 < 4 + t1.size + s.size + t2.size + L) := by omega
    have n5 : ¬ (9223372036854775807 < bd.size + t3.size) := by omega
    clear z1 z2 z3 zb lb
    go_wp2
    refine wp_region_looseC (Ext _) (fun _ args v => (args = #[.int .i64 (s.size : Int), .int .i64 1] → v = .string t1) ∧ (args = #[.int .i64 (L : Int), .int .i64 2] → v = .string t2)) (Ext.start _) (by kernel_rfl) (by kernel_rfl) ?_
    repeat (refine wpLoose_valK rfl ?_ (fun w1 hw1 => ?_) (fun K hK => ?_); rotate_left; (focus (have hF := FACT.out w1 hw1; go_simp; first | done | rfl)); go_simp; refine hK _ ?_; clear hK K)
    refine wpLoose_callS rfl 67 #[.int .i64 (s.size : Int), .int .i64 1] (fun w3 => ?_) (fun w3 hw3 => ?_) (fun v hv => ?_)
    · go_simp
    · refine (HL1.out w3).mono ?_
      rintro e w4 ⟨rfl, hb⟩
      exact ⟨_, rfl, ⟨fun _ => rfl, fun h => by simp at h⟩, hb⟩
    obtain rfl := hv.1 rfl
    clear hv
    repeat (refine wpLoose_valK rfl ?_ (fun w1 hw1 => ?_) (fun K hK => ?_); rotate_left; (focus (have hF := FACT.out w1 hw1; go_simp; first | done | rfl)); go_simp; refine hK _ ?_; clear hK K)
    refine wpLoose_callS rfl 67 #[.int .i64 (L : Int), .int .i64 2] (fun w3 => ?_) (fun w3 hw3 => ?_) (fun v hv => ?_)
    · go_simp
    · refine (HL2.out w3).mono ?_
      rintro e w4 ⟨rfl, hb⟩
      exact ⟨_, rfl, ⟨fun h => by simp at h, fun _ => rfl⟩, hb⟩
    obtain rfl := hv.2 rfl
    clear hv
    repeat (refine wpLoose_valK rfl ?_ (fun w1 hw1 => ?_) (fun K hK => ?_); rotate_left; (focus (have hF := FACT.out w1 hw1; go_simp; first | done | rfl)); go_simp; refine hK _ ?_; clear hK K)
    refine wpLoose_nil ?_; intro w1 hb
    have B3 := Lib.hid (below_step B2.out hb)
    clear hb SPo c0 c1
    go_wp2_with fail
    rw [EB.out]
    refine (HC.out _).mono ?_
    rw [CK.out]
    rintro e w4 ⟨rfl, rfl⟩
    go_wp2_with fail
    refine (HL3.out _).mono ?_
    rintro e w5 ⟨rfl, hb⟩
    have B4 := Lib.hid (below_step B3.out hb)
    clear hb
    go_wp2
    rw [EC.out]
    go_ret2
    exact ⟨rfl, B4.out⟩

end Go.Proofs.Ytabdinmodopadaa
