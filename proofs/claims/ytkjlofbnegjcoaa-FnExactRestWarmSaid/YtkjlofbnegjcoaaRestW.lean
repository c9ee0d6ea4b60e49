/- How warm a face becomes: both sides, and the law. -/
import Derived.Test.YtkjlofbnegjcoaaWall
import Derived.Test.YtkjlofbnegjcoaaHalf2
namespace Go.Proofs.Ytkjlofbnegjcoaa
open Go.RowKit
set_option linter.unusedVariables false

theorem lst_cn {m M : Nat} (h : cn .f32 m = M) : lst m = lst M := by
  have h2 : cn .f32 M = M := by rw [← h, cn_cn]
  unfold lst geN
  rw [← fin_cn .f32 m, ← order_cn .f32 m 0, h, ← order_cn .f32 M 0, h2]
theorem shX_cn {m M y : Nat} (h : cn .f32 m = M) : shX m y = shX M y := by
  unfold shX
  simp only [← fopr' .mul .f32 1008981770 m, h]
theorem adX_cn {m M x : Nat} (h : cn .f32 m = M) : adX m x = adX M x := by
  unfold adX
  rw [← fopl' .sub .f32 m x, h]
theorem airX_cn {m M x z : Nat} (h : cn .f32 m = M) : airX m x z = airX M x z := by
  unfold airX
  rw [adX_cn h]
theorem wlX_cn {d sh m M x y z : Nat} (h : cn .f32 m = M) : wlX ⟨d, sh, m⟩ x y z = wlX ⟨d, sh, M⟩ x y z := by
  unfold wlX
  simp only
  rw [shX_cn h, airX_cn h, ← fopl' .sub .f32 m x, h]
theorem wlB_cn {d sh m M x y z : Nat} (h : cn .f32 m = M) : wlB ⟨d, sh, m⟩ x y z = wlB ⟨d, sh, M⟩ x y z := by
  unfold wlB vFace
  simp only
  rw [lst_cn h, airX_cn h]
theorem wlC_cn {d sh m M x y z : Nat} (h : cn .f32 m = M) : cB (wlB ⟨d, sh, m⟩ x y z) (wlX ⟨d, sh, m⟩ x y z) = cB (wlB ⟨d, sh, M⟩ x y z) (wlX ⟨d, sh, M⟩ x y z) := by rw [wlB_cn h, wlX_cn h]

def rwM (p : Nat × Nat) : Nat := fop .mul .f32 1056964608 (fop .add .f32 p.1 p.2)
def rwC (sh x y z m : Nat) : Bool := cB (wlB ⟨1065353216, sh, m⟩ x y z) (wlX ⟨1065353216, sh, m⟩ x y z)
def rwG (sh su x y z m : Nat) : Bool := FloatKind.f32.format.order (wlX ⟨1065353216, sh, m⟩ x y z) su == some .gt
def rwN (sh su x y z : Nat) (p : Nat × Nat) : Option (Nat × Nat) := bif rwC sh x y z (rwM p) then some (bif rwG sh su x y z (rwM p) then (p.1, rwM p) else (rwM p, p.2)) else none
def rwS (sh su x y z : Nat) : Nat → Option (Nat × Nat)
  | 0 => some (0, 1157234688)
  | k + 1 => (rwS sh su x y z k).bind (rwN sh su x y z)
theorem rwS_none {sh su x y z : Nat} : ∀ {j : Nat} (i : Nat), rwS sh su x y z j = none → rwS sh su x y z (j + i) = none
  | _, 0, h => h
  | _, i + 1, h => by rw [← Nat.add_assoc, rwS, rwS_none i h]; rfl
theorem rwS_end {sh su x y z j : Nat} (hj : j < 40) (h : rwS sh su x y z (j + 1) = none) : rwS sh su x y z 40 = none := by
  have := rwS_none (40 - (j + 1)) h
  rwa [show j + 1 + (40 - (j + 1)) = 40 by omega] at this
def rwV (sh su x y z : Nat) : Nat := match rwS sh su x y z 40 with
  | some p => p.1
  | none => 0
def rwB (sh su x y z : Nat) : Bool := (rwS sh su x y z 40).isSome
def rwQ (sh su x y z : Nat) : Bool := lst su && rwB sh su x y z
theorem rw_step {sh su x y z j : Nat} {p : Nat × Nat} (h : rwS sh su x y z j = some p) : rwS sh su x y z (j + 1) = rwN sh su x y z p := by rw [rwS, h]; rfl
theorem rw_no {sh su x y z j : Nat} {p : Nat × Nat} (hj : j < 40) (h : rwS sh su x y z j = some p) (hc : rwC sh x y z (rwM p) = false) : rwQ sh su x y z = false := by
  unfold rwQ rwB
  rw [rwS_end hj (by rw [rw_step h, rwN, hc]; rfl)]
  simp
theorem rw_top {sh su x y z j : Nat} {p : Nat × Nat} (h : rwS sh su x y z j = some p) (hc : rwC sh x y z (rwM p) = true) (hg : rwG sh su x y z (rwM p) = true) : rwS sh su x y z (j + 1) = some (p.1, rwM p) := by
  rw [rw_step h, rwN, hc, hg]; rfl
theorem rw_low {sh su x y z j : Nat} {p : Nat × Nat} (h : rwS sh su x y z j = some p) (hc : rwC sh x y z (rwM p) = true) (hg : rwG sh su x y z (rwM p) = false) : rwS sh su x y z (j + 1) = some (rwM p, p.2) := by
  rw [rw_step h, rwN, hc, hg]; rfl
theorem rw_bad {sh su x y z : Nat} (h : (shn sh && fin .f32 x && lst y && pos z) = false) : rwQ sh su x y z = false := by
  have hc : rwC sh x y z (rwM (0, 1157234688)) = false := by
    unfold rwC cB wlB vFace
    revert h
    cases shn sh <;> cases fin .f32 x <;> cases lst y <;> cases pos z <;> simp
  exact rw_no (j := 0) (by decide) rfl hc
theorem rwM_of {l h L H r0 r1 : Nat} (hl : cn .f32 l = L) (hh : cn .f32 h = H) (f0 : FR .add .f32 l h r0) (f1 : FR .mul .f32 1056964608 r0 r1) : cn .f32 r1 = rwM (L, H) := by
  unfold rwM
  simp only [f0.1, f1.1, hl, hh]
  simp only [fopl']
theorem rwM_of2 {l h L H r0 r1 : Nat} (hl : cn .f32 l = L) (hh : cn .f32 h = H) (f0 : FR .add .f32 l h r0) (f1 : FR .quo .f32 r0 1073741824 r1) : cn .f32 r1 = rwM (L, H) := by
  unfold rwM
  rw [f1.1, fop_half, f0.1, hl, hh]
  simp only [fopl']
theorem rw_gt {sh su x y z m q : Nat} (h : cn .f32 q = wlX ⟨1065353216, sh, m⟩ x y z) : (FloatKind.f32.format.order q su == some .gt) = rwG sh su x y z m := by
  unfold rwG
  rw [← order_cn .f32 q su, ← order_cn .f32 (wlX ⟨1065353216, sh, m⟩ x y z) su, h]
  rw [show cn .f32 (wlX ⟨1065353216, sh, m⟩ x y z) = wlX ⟨1065353216, sh, m⟩ x y z by rw [← h, cn_cn]]
theorem rw_end {sh su x y z j : Nat} {p : Nat × Nat} (hs : lst su = true) (h : rwS sh su x y z 40 = some p) : rwQ sh su x y z = true ∧ rwV sh su x y z = p.1 := by
  unfold rwQ rwB rwV
  rw [hs, h]; exact ⟨rfl, rfl⟩
def rwZ (sh su x y z : Nat) : Nat := bif rwQ sh su x y z then rwV sh su x y z else 0
theorem rz_no {sh su x y z : Nat} {w w' : World} (h : rwQ sh su x y z = false) (hb : Below w.heap.size w w') : GivB (rwZ sh su x y z) (rwQ sh su x y z) w (.returned (.tuple #[.float .f32 0, .bool false])) w' := by
  unfold rwZ; rw [h, cond_false]; exact GivB.no hb
theorem rz_yes {sh su x y z l : Nat} {p : Nat × Nat} {w w' : World} (hs : lst su = true) (h : rwS sh su x y z 40 = some p) (hl : cn .f32 l = p.1) (hb : Below w.heap.size w w') : GivB (rwZ sh su x y z) (rwQ sh su x y z) w (.returned (.tuple #[.float .f32 l, .bool true])) w' := by
  obtain ⟨a, b⟩ := rw_end (j := 0) hs h
  unfold rwZ; rw [a, cond_true]; exact GivB.yes (hl.trans b.symm) hb

set_option maxHeartbeats 3200000 in
theorem specRest_any (sh su x y z : Nat) (w : World) : Calls Try.prog 45 #[.float .f32 sh, .float .f32 su, .float .f32 x, .float .f32 y, .float .f32 z] w (GivB (rwZ sh su x y z) (rwQ sh su x y z) w) := by
  cases B0 : gt0 sh
  · skip
    have o0 : (FloatKind.f32.format.order sh 0 == some .gt) = false := B0
    have E := Lib.hid (rw_bad (su := su) (show (shn sh && fin .f32 x && lst y && pos z) = false by unfold shn; simp [B0]))
    have H0 := Lib.hid B0
    clear B0
    go_enter Try.func45, Try.ntmps45
    go_wp2
    go_ret2
    exact rz_no E.out (by first | exact Below.refl _ _ | exact below_drewN (Below.refl _ _) _ | exact (by repeat (first | exact Below.refl _ _ | refine Below.setCell ?_ (by first | exact Nat.le_refl _ | (simp; done) | (simp; omega) | omega) _ | refine below_drewN ?_ _ | refine Below.alloc ?_ (by first | exact Nat.le_refl _ | (simp; done) | (simp; omega) | omega) _)))
  · skip
    cases B1 : leN sh 1065353216
    · skip
      have o0 : (FloatKind.f32.format.order sh 0 == some .gt) = true := B0
      have o1 : (FloatKind.f32.format.order sh 1065353216 == some .lt || FloatKind.f32.format.order sh 1065353216 == some .eq) = false := B1
      have E := Lib.hid (rw_bad (su := su) (show (shn sh && fin .f32 x && lst y && pos z) = false by unfold shn; simp [B0, B1]))
      have H0 := Lib.hid B0
      have H1 := Lib.hid B1
      clear B0 B1
      go_enter Try.func45, Try.ntmps45
      go_wp2
      go_ret2
      exact rz_no E.out (by first | exact Below.refl _ _ | exact below_drewN (Below.refl _ _) _ | exact (by repeat (first | exact Below.refl _ _ | refine Below.setCell ?_ (by first | exact Nat.le_refl _ | (simp; done) | (simp; omega) | omega) _ | refine below_drewN ?_ _ | refine Below.alloc ?_ (by first | exact Nat.le_refl _ | (simp; done) | (simp; omega) | omega) _)))
    · skip
      cases B2 : lst su
      · skip
        have o0 : (FloatKind.f32.format.order sh 0 == some .gt) = true := B0
        have o1 : (FloatKind.f32.format.order sh 1065353216 == some .lt || FloatKind.f32.format.order sh 1065353216 == some .eq) = true := B1
        have E := Lib.hid (show rwQ sh su x y z = false by unfold rwQ; rw [B2]; rfl)
        have H0 := Lib.hid B0
        have H1 := Lib.hid B1
        have H2 := Lib.hid B2
        clear B0 B1 B2
        go_enter Try.func45, Try.ntmps45
        go_wp2_with fail
        refine (specLeast_any su _).mono ?_
        rw [H2.out]
        rintro e w' ⟨rfl, n1, rfl⟩
        go_wp2
        go_ret2
        exact rz_no E.out (by first | exact Below.refl _ _ | exact below_drewN (Below.refl _ _) _ | exact (by repeat (first | exact Below.refl _ _ | refine Below.setCell ?_ (by first | exact Nat.le_refl _ | (simp; done) | (simp; omega) | omega) _ | refine below_drewN ?_ _ | refine Below.alloc ?_ (by first | exact Nat.le_refl _ | (simp; done) | (simp; omega) | omega) _)))
      · skip
        cases B3 : fin .f32 x
        · skip
          have o0 : (FloatKind.f32.format.order sh 0 == some .gt) = true := B0
          have o1 : (FloatKind.f32.format.order sh 1065353216 == some .lt || FloatKind.f32.format.order sh 1065353216 == some .eq) = true := B1
          have E := Lib.hid (rw_bad (su := su) (show (shn sh && fin .f32 x && lst y && pos z) = false by unfold shn; simp [B0, B1, B3]))
          have H0 := Lib.hid B0
          have H1 := Lib.hid B1
          have H2 := Lib.hid B2
          have H3 := Lib.hid B3
          clear B0 B1 B2 B3
          go_enter Try.func45, Try.ntmps45
          go_wp2_with fail
          refine (specLeast_any su _).mono ?_
          rw [H2.out]
          rintro e w' ⟨rfl, n1, rfl⟩
          go_wp2_with fail
          refine (specFinite_any x _).mono ?_
          rw [H3.out]
          rintro e w' ⟨rfl, n2, rfl⟩
          go_wp2
          go_ret2
          exact rz_no E.out (by first | exact Below.refl _ _ | exact below_drewN (Below.refl _ _) _ | exact (by repeat (first | exact Below.refl _ _ | refine Below.setCell ?_ (by first | exact Nat.le_refl _ | (simp; done) | (simp; omega) | omega) _ | refine below_drewN ?_ _ | refine Below.alloc ?_ (by first | exact Nat.le_refl _ | (simp; done) | (simp; omega) | omega) _)))
        · skip
          cases B4 : lst y
          · skip
            have o0 : (FloatKind.f32.format.order sh 0 == some .gt) = true := B0
            have o1 : (FloatKind.f32.format.order sh 1065353216 == some .lt || FloatKind.f32.format.order sh 1065353216 == some .eq) = true := B1
            have E := Lib.hid (rw_bad (su := su) (show (shn sh && fin .f32 x && lst y && pos z) = false by unfold shn; simp [B0, B1, B3, B4]))
            have H0 := Lib.hid B0
            have H1 := Lib.hid B1
            have H2 := Lib.hid B2
            have H3 := Lib.hid B3
            have H4 := Lib.hid B4
            clear B0 B1 B2 B3 B4
            go_enter Try.func45, Try.ntmps45
            go_wp2_with fail
            refine (specLeast_any su _).mono ?_
            rw [H2.out]
            rintro e w' ⟨rfl, n1, rfl⟩
            go_wp2_with fail
            refine (specFinite_any x _).mono ?_
            rw [H3.out]
            rintro e w' ⟨rfl, n2, rfl⟩
            go_wp2_with fail
            refine (specLeast_any y _).mono ?_
            rw [H4.out]
            rintro e w' ⟨rfl, n3, rfl⟩
            go_wp2
            go_ret2
            exact rz_no E.out (by first | exact Below.refl _ _ | exact below_drewN (Below.refl _ _) _ | exact (by repeat (first | exact Below.refl _ _ | refine Below.setCell ?_ (by first | exact Nat.le_refl _ | (simp; done) | (simp; omega) | omega) _ | refine below_drewN ?_ _ | refine Below.alloc ?_ (by first | exact Nat.le_refl _ | (simp; done) | (simp; omega) | omega) _)))
          · skip
            cases B5 : pos z
            · skip
              have o0 : (FloatKind.f32.format.order sh 0 == some .gt) = true := B0
              have o1 : (FloatKind.f32.format.order sh 1065353216 == some .lt || FloatKind.f32.format.order sh 1065353216 == some .eq) = true := B1
              have E := Lib.hid (rw_bad (su := su) (show (shn sh && fin .f32 x && lst y && pos z) = false by unfold shn; simp [B0, B1, B3, B4, B5]))
              have H0 := Lib.hid B0
              have H1 := Lib.hid B1
              have H2 := Lib.hid B2
              have H3 := Lib.hid B3
              have H4 := Lib.hid B4
              have H5 := Lib.hid B5
              clear B0 B1 B2 B3 B4 B5
              go_enter Try.func45, Try.ntmps45
              go_wp2_with fail
              refine (specLeast_any su _).mono ?_
              rw [H2.out]
              rintro e w' ⟨rfl, n1, rfl⟩
              go_wp2_with fail
              refine (specFinite_any x _).mono ?_
              rw [H3.out]
              rintro e w' ⟨rfl, n2, rfl⟩
              go_wp2_with fail
              refine (specLeast_any y _).mono ?_
              rw [H4.out]
              rintro e w' ⟨rfl, n3, rfl⟩
              go_wp2_with fail
              refine (specAbove_any z _).mono ?_
              rw [H5.out]
              rintro e w' ⟨rfl, n4, rfl⟩
              go_wp2
              go_ret2
              exact rz_no E.out (by first | exact Below.refl _ _ | exact below_drewN (Below.refl _ _) _ | exact (by repeat (first | exact Below.refl _ _ | refine Below.setCell ?_ (by first | exact Nat.le_refl _ | (simp; done) | (simp; omega) | omega) _ | refine below_drewN ?_ _ | refine Below.alloc ?_ (by first | exact Nat.le_refl _ | (simp; done) | (simp; omega) | omega) _)))
            · skip
              have o0 : (FloatKind.f32.format.order sh 0 == some .gt) = true := B0
              have o1 : (FloatKind.f32.format.order sh 1065353216 == some .lt || FloatKind.f32.format.order sh 1065353216 == some .eq) = true := B1
              have H0 := Lib.hid B0
              have H1 := Lib.hid B1
              have H2 := Lib.hid B2
              have H3 := Lib.hid B3
              have H4 := Lib.hid B4
              have H5 := Lib.hid B5
              clear B0 B1 B2 B3 B4 B5
              go_enter Try.func45, Try.ntmps45
              go_wp2_with fail
              refine (specLeast_any su _).mono ?_
              rw [H2.out]
              rintro e w' ⟨rfl, n1, rfl⟩
              go_wp2_with fail
              refine (specFinite_any x _).mono ?_
              rw [H3.out]
              rintro e w' ⟨rfl, n2, rfl⟩
              go_wp2_with fail
              refine (specLeast_any y _).mono ?_
              rw [H4.out]
              rintro e w' ⟨rfl, n3, rfl⟩
              go_wp2_with fail
              refine (specAbove_any z _).mono ?_
              rw [H5.out]
              rintro e w' ⟨rfl, n4, rfl⟩
              go_wp2
              go_loopw [12, 13, 14] (fun a b k wr => ∃ (j l h : Nat) (p : Nat × Nat), k = .int .i64 (j : Int) ∧ j ≤ 40 ∧ a = .float .f32 l ∧ b = .float .f32 h ∧ Below w.heap.size w wr ∧ Hid (rwS sh su x y z j = some p ∧ cn .f32 l = p.1 ∧ cn .f32 h = p.2)) (fun _ _ k _ => (40 - intOf k).toNat)
              case atStart => exact ⟨0, 0, 1157234688, (0, 1157234688), rfl, by omega, rfl, rfl, (by first | exact Below.refl _ _ | exact below_drewN (Below.refl _ _) _ | exact (by repeat (first | exact Below.refl _ _ | refine Below.setCell ?_ (by first | exact Nat.le_refl _ | (simp; done) | (simp; omega) | omega) _ | refine below_drewN ?_ _ | refine Below.alloc ?_ (by first | exact Nat.le_refl _ | (simp; done) | (simp; omega) | omega) _))), Lib.hid ⟨rfl, by decide +kernel, by decide +kernel⟩⟩
              case round =>
                obtain ⟨j, l, h, ⟨L, H⟩, rfl, hj, rfl, rfl, hb0, hc⟩ := hrel
                have BB := Lib.hid hb0
                clear hb0
                by_cases hk : j < 40
                · have JK := Lib.hid hk
                  cases C : rwC sh x y z (rwM (L, H))
                  · have CC := Lib.hid C
                    have E := Lib.hid (rw_no hk hc.out.1 C)
                    clear C
                    go_wp2_with (refine wpList_farith rfl _ _ _ _ _ rfl rfl _ _ _ rfl rfl ?_; intro r0 j0 g0; have f0 := Lib.hid g0; clear g0; refine Stop.go ?_)
                    refine Stop.mk ?_
                    go_wp2_with (refine wpList_farith rfl _ _ _ _ _ rfl rfl _ _ _ rfl rfl ?_; intro r1 j1 g1; have f1 := Lib.hid g1; clear g1; refine Stop.go ?_)
                    refine Stop.mk ?_
                    have M := Lib.hid (rwM_of hc.out.2.1 hc.out.2.2 f0.out f1.out)
                    have CE := Lib.hid ((wlC_cn (d := 1065353216) (sh := sh) (x := x) (y := y) (z := z) M.out).trans CC.out)
                    go_wp2_with fail
                    refine (specWall_any ⟨1065353216, sh, r1⟩ x y z _).mono ?_
                    rw [CE.out]
                    rintro e w2 ⟨q, hq, rfl, hb⟩
                    have Q := Lib.hid hq
                    have BB := Lib.hid (below_step (below_drewN BB.out _) hb)
                    clear hq hb
                    go_wp2
                    go_ret2
                    exact rz_no E.out BB.out
                  · cases G : rwG sh su x y z (rwM (L, H))
                    · have CC := Lib.hid C
                      have GG := Lib.hid G
                      have NX := Lib.hid (rw_low hc.out.1 C G)
                      clear C G
                      go_wp2_with (refine wpList_farith rfl _ _ _ _ _ rfl rfl _ _ _ rfl rfl ?_; intro r0 j0 g0; have f0 := Lib.hid g0; clear g0; refine Stop.go ?_)
                      refine Stop.mk ?_
                      go_wp2_with (refine wpList_farith rfl _ _ _ _ _ rfl rfl _ _ _ rfl rfl ?_; intro r1 j1 g1; have f1 := Lib.hid g1; clear g1; refine Stop.go ?_)
                      refine Stop.mk ?_
                      have M := Lib.hid (rwM_of hc.out.2.1 hc.out.2.2 f0.out f1.out)
                      have CE := Lib.hid ((wlC_cn (d := 1065353216) (sh := sh) (x := x) (y := y) (z := z) M.out).trans CC.out)
                      go_wp2_with fail
                      refine (specWall_any ⟨1065353216, sh, r1⟩ x y z _).mono ?_
                      rw [CE.out]
                      rintro e w2 ⟨q, hq, rfl, hb⟩
                      have Q := Lib.hid hq
                      have BB := Lib.hid (below_step (below_drewN BB.out _) hb)
                      clear hq hb
                      have X := Lib.hid (Q.out.trans ((cB_yes CE.out).1.trans (wlX_cn M.out)))
                      have og : (FloatKind.f32.format.order q su == some .gt) = false := (rw_gt X.out).trans GG.out
                      go_wp2
                      go_roundw
                      case rel => exact ⟨j + 1, r1, h, (rwM (L, H), H), by go_num, by omega, rfl, rfl, BB.out, Lib.hid ⟨NX.out, M.out, hc.out.2.2⟩⟩
                      case measure => simp [intOf]; omega
                    · have CC := Lib.hid C
                      have GG := Lib.hid G
                      have NX := Lib.hid (rw_top hc.out.1 C G)
                      clear C G
                      go_wp2_with (refine wpList_farith rfl _ _ _ _ _ rfl rfl _ _ _ rfl rfl ?_; intro r0 j0 g0; have f0 := Lib.hid g0; clear g0; refine Stop.go ?_)
                      refine Stop.mk ?_
                      go_wp2_with (refine wpList_farith rfl _ _ _ _ _ rfl rfl _ _ _ rfl rfl ?_; intro r1 j1 g1; have f1 := Lib.hid g1; clear g1; refine Stop.go ?_)
                      refine Stop.mk ?_
                      have M := Lib.hid (rwM_of hc.out.2.1 hc.out.2.2 f0.out f1.out)
                      have CE := Lib.hid ((wlC_cn (d := 1065353216) (sh := sh) (x := x) (y := y) (z := z) M.out).trans CC.out)
                      go_wp2_with fail
                      refine (specWall_any ⟨1065353216, sh, r1⟩ x y z _).mono ?_
                      rw [CE.out]
                      rintro e w2 ⟨q, hq, rfl, hb⟩
                      have Q := Lib.hid hq
                      have BB := Lib.hid (below_step (below_drewN BB.out _) hb)
                      clear hq hb
                      have X := Lib.hid (Q.out.trans ((cB_yes CE.out).1.trans (wlX_cn M.out)))
                      have og : (FloatKind.f32.format.order q su == some .gt) = true := (rw_gt X.out).trans GG.out
                      go_wp2
                      go_roundw
                      case rel => exact ⟨j + 1, l, r1, (L, rwM (L, H)), by go_num, by omega, rfl, rfl, BB.out, Lib.hid ⟨NX.out, hc.out.2.1, M.out⟩⟩
                      case measure => simp [intOf]; omega
                · have ej : j = 40 := by omega
                  subst ej
                  go_wp2
                  go_ret2
                  exact rz_yes H2.out hc.out.1 hc.out.2.1 BB.out

set_option maxHeartbeats 3200000 in
theorem implRest_any (sh su x y z : Nat) (w : World) : Calls Try.prog 46 #[.float .f32 sh, .float .f32 su, .float .f32 x, .float .f32 y, .float .f32 z] w (GivB (rwZ sh su x y z) (rwQ sh su x y z) w) := by
  cases B0 : lst su
  · skip
    have E := Lib.hid (show rwQ sh su x y z = false by unfold rwQ; rw [B0]; rfl)
    have H0 := Lib.hid B0
    clear B0
    go_enter Try.func46, Try.ntmps46
    go_wp2_with fail
    refine (implNotNeg_any su _).mono ?_
    rw [H0.out]
    rintro e w' ⟨rfl, n1, rfl⟩
    go_wp2
    go_ret2
    exact rz_no E.out (by first | exact Below.refl _ _ | exact below_drewN (Below.refl _ _) _ | exact (by repeat (first | exact Below.refl _ _ | refine Below.setCell ?_ (by first | exact Nat.le_refl _ | (simp; done) | (simp; omega) | omega) _ | refine below_drewN ?_ _ | refine Below.alloc ?_ (by first | exact Nat.le_refl _ | (simp; done) | (simp; omega) | omega) _)))
  · skip
    have H0 := Lib.hid B0
    clear B0
    go_enter Try.func46, Try.ntmps46
    go_wp2_with fail
    refine (implNotNeg_any su _).mono ?_
    rw [H0.out]
    rintro e w' ⟨rfl, n1, rfl⟩
    go_wp2
    go_loopw [12, 13, 20] (fun a b k wr => ∃ (j l h : Nat) (p : Nat × Nat), k = .int .i64 (j : Int) ∧ j ≤ 40 ∧ a = .float .f32 l ∧ b = .float .f32 h ∧ Below w.heap.size w wr ∧ Hid (rwS sh su x y z j = some p ∧ cn .f32 l = p.1 ∧ cn .f32 h = p.2)) (fun _ _ k _ => (40 - intOf k).toNat)
    case atStart => exact ⟨0, 0, 1157234688, (0, 1157234688), rfl, by omega, rfl, rfl, (by first | exact Below.refl _ _ | exact below_drewN (Below.refl _ _) _ | exact (by repeat (first | exact Below.refl _ _ | refine Below.setCell ?_ (by first | exact Nat.le_refl _ | (simp; done) | (simp; omega) | omega) _ | refine below_drewN ?_ _ | refine Below.alloc ?_ (by first | exact Nat.le_refl _ | (simp; done) | (simp; omega) | omega) _))), Lib.hid ⟨rfl, by decide +kernel, by decide +kernel⟩⟩
    case round =>
      obtain ⟨j, l, h, ⟨L, H⟩, rfl, hj, rfl, rfl, hb0, hc⟩ := hrel
      have BB := Lib.hid hb0
      clear hb0
      by_cases hk : j < 40
      · have JK := Lib.hid hk
        cases C : rwC sh x y z (rwM (L, H))
        · have CC := Lib.hid C
          have E := Lib.hid (rw_no hk hc.out.1 C)
          clear C
          go_wp2_with (refine wpList_farith rfl _ _ _ _ _ rfl rfl _ _ _ rfl rfl ?_; intro r0 j0 g0; have f0 := Lib.hid g0; clear g0; refine Stop.go ?_)
          refine Stop.mk ?_
          go_wp2_with (refine wpList_farith rfl _ _ _ _ _ rfl rfl _ _ _ rfl rfl ?_; intro r1 j1 g1; have f1 := Lib.hid g1; clear g1; refine Stop.go ?_)
          refine Stop.mk ?_
          have M := Lib.hid (rwM_of2 hc.out.2.1 hc.out.2.2 f0.out f1.out)
          have CE := Lib.hid ((wlC_cn (d := 1065353216) (sh := sh) (x := x) (y := y) (z := z) M.out).trans CC.out)
          go_wp2_with fail
          refine (implWall_any ⟨1065353216, sh, r1⟩ x y z _).mono ?_
          rw [CE.out]
          rintro e w2 ⟨q, hq, rfl, hb⟩
          have Q := Lib.hid hq
          have BB := Lib.hid (below_step (below_drewN BB.out _) hb)
          clear hq hb
          go_wp2
          go_ret2
          exact rz_no E.out BB.out
        · cases G : rwG sh su x y z (rwM (L, H))
          · have CC := Lib.hid C
            have GG := Lib.hid G
            have NX := Lib.hid (rw_low hc.out.1 C G)
            clear C G
            go_wp2_with (refine wpList_farith rfl _ _ _ _ _ rfl rfl _ _ _ rfl rfl ?_; intro r0 j0 g0; have f0 := Lib.hid g0; clear g0; refine Stop.go ?_)
            refine Stop.mk ?_
            go_wp2_with (refine wpList_farith rfl _ _ _ _ _ rfl rfl _ _ _ rfl rfl ?_; intro r1 j1 g1; have f1 := Lib.hid g1; clear g1; refine Stop.go ?_)
            refine Stop.mk ?_
            have M := Lib.hid (rwM_of2 hc.out.2.1 hc.out.2.2 f0.out f1.out)
            have CE := Lib.hid ((wlC_cn (d := 1065353216) (sh := sh) (x := x) (y := y) (z := z) M.out).trans CC.out)
            go_wp2_with fail
            refine (implWall_any ⟨1065353216, sh, r1⟩ x y z _).mono ?_
            rw [CE.out]
            rintro e w2 ⟨q, hq, rfl, hb⟩
            have Q := Lib.hid hq
            have BB := Lib.hid (below_step (below_drewN BB.out _) hb)
            clear hq hb
            have X := Lib.hid (Q.out.trans ((cB_yes CE.out).1.trans (wlX_cn M.out)))
            have og : (FloatKind.f32.format.order q su == some .gt) = false := (rw_gt X.out).trans GG.out
            go_wp2
            go_roundw
            case rel => exact ⟨j + 1, r1, h, (rwM (L, H), H), by go_num, by omega, rfl, rfl, BB.out, Lib.hid ⟨NX.out, M.out, hc.out.2.2⟩⟩
            case measure => simp [intOf]; omega
          · have CC := Lib.hid C
            have GG := Lib.hid G
            have NX := Lib.hid (rw_top hc.out.1 C G)
            clear C G
            go_wp2_with (refine wpList_farith rfl _ _ _ _ _ rfl rfl _ _ _ rfl rfl ?_; intro r0 j0 g0; have f0 := Lib.hid g0; clear g0; refine Stop.go ?_)
            refine Stop.mk ?_
            go_wp2_with (refine wpList_farith rfl _ _ _ _ _ rfl rfl _ _ _ rfl rfl ?_; intro r1 j1 g1; have f1 := Lib.hid g1; clear g1; refine Stop.go ?_)
            refine Stop.mk ?_
            have M := Lib.hid (rwM_of2 hc.out.2.1 hc.out.2.2 f0.out f1.out)
            have CE := Lib.hid ((wlC_cn (d := 1065353216) (sh := sh) (x := x) (y := y) (z := z) M.out).trans CC.out)
            go_wp2_with fail
            refine (implWall_any ⟨1065353216, sh, r1⟩ x y z _).mono ?_
            rw [CE.out]
            rintro e w2 ⟨q, hq, rfl, hb⟩
            have Q := Lib.hid hq
            have BB := Lib.hid (below_step (below_drewN BB.out _) hb)
            clear hq hb
            have X := Lib.hid (Q.out.trans ((cB_yes CE.out).1.trans (wlX_cn M.out)))
            have og : (FloatKind.f32.format.order q su == some .gt) = true := (rw_gt X.out).trans GG.out
            go_wp2
            go_roundw
            case rel => exact ⟨j + 1, l, r1, (L, rwM (L, H)), by go_num, by omega, rfl, rfl, BB.out, Lib.hid ⟨NX.out, hc.out.2.1, M.out⟩⟩
            case measure => simp [intOf]; omega
      · have ej : j = 40 := by omega
        subst ej
        go_wp2
        go_ret2
        exact rz_yes H0.out hc.out.1 hc.out.2.1 BB.out

set_option maxRecDepth 20000 in
theorem fnExactRestWarm_walk (sh : Nat) (su : Nat) (x : Nat) (y : Nat) (z : Nat) (w : World) (_ : (Lit.float .f32 sh).wf = true) (_ : (Lit.float .f32 su).wf = true) (_ : (Lit.float .f32 x).wf = true) (_ : (Lit.float .f32 y).wf = true) (_ : (Lit.float .f32 z).wf = true) : Calls Try.prog 14 #[.float .f32 sh, .float .f32 su, .float .f32 x, .float .f32 y, .float .f32 z] w (Tru w) := by
  go_enter Try.func14, Try.ntmps14
  go_wp2_with fail
  refine (specRest_any sh su x y z _).mono ?_
  rintro _ w1 ⟨s1, hr1, rfl, hb⟩
  have Bw := Lib.hid hb
  have R1 := Lib.hid hr1
  clear hb hr1
  go_wp2_with fail
  refine (implRest_any sh su x y z _).mono ?_
  rintro _ w2 ⟨s2, hr2, rfl, hb⟩
  have Bw := Lib.hid (below_step Bw.out hb)
  have R2 := Lib.hid hr2
  clear hb hr2
  go_wp2_with (first | (refine wpList_up rfl Try.underlying22 Try.underlying40 _ rfl _ rfl ?_; intro _ _ _) | (go_at_call 28; refine (same_end (a := s2) (b := s1) _ (by assumption) (by assumption) (R2.out.trans R1.out.symm)).mono ?_; rintro e w' ⟨rfl, n, rfl⟩))
  go_ret
  exact Tru.below (below_drewN Bw.out _)

end Go.Proofs.Ytkjlofbnegjcoaa
