/- How far a line is from points: both sides. -/
import Derived.Test.YtdemahghjgghkaaLn
import Derived.Test.YtdemahghjgghkaaSz7
import Derived.Test.YtdemahghjgghkaaNeg
namespace Go.Proofs.Ytdemahghjgghkaa
open Go.RowKit
set_option linter.unusedVariables false

def lmD (xs ys : List Nat) (s b k : Nat) : Nat := fop .sub .f32 (fop .add .f32 (fop .mul .f32 s (xs.getD k 0)) b) (ys.getD k 0)
def lmV (xs ys : List Nat) (s b : Nat) : Nat → Option Nat
  | 0 => some 0
  | k + 1 => nextV (lmV xs ys s b k) (lmD xs ys s b k)
theorem lmD_of {xs ys : List Nat} {s b k r0 r1 r2 : Nat} (f0 : FR .mul .f32 s (xs.getD k 0) r0) (f1 : FR .add .f32 r0 b r1) (f2 : FR .sub .f32 r1 (ys.getD k 0) r2) : cn .f32 r2 = lmD xs ys s b k := by
  unfold lmD
  simp only [f2.1, f1.1, f0.1, fopl', fopr']
theorem lmV_next {xs ys : List Nat} {s b k q : Nat} (hq : cn .f32 q = lmD xs ys s b k) : nextV (lmV xs ys s b k) q = lmV xs ys s b (k + 1) := by
  show _ = nextV (lmV xs ys s b k) (lmD xs ys s b k)
  rw [← hq, nextV_cn]
theorem lmV_none {xs ys : List Nat} {s b k : Nat} : ∀ n, k ≤ n → lmV xs ys s b k = none → lmV xs ys s b n = none
  | 0, hk, h => by obtain rfl : k = 0 := by omega
                   exact h
  | n + 1, hk, h => by
    by_cases e : k = n + 1
    · subst e; exact h
    · show nextV (lmV xs ys s b n) _ = none
      rw [lmV_none n (by omega) h]; rfl
def lmP (xs ys : List Nat) (s b : Nat) : Bool := rds xs && rds ys && decide (xs.length = ys.length) && fin .f32 s && fin .f32 b
def lmR (xs ys : List Nat) (s b : Nat) : Option Nat := bif lmP xs ys s b then lmV xs ys s b xs.length else none
/-- a number that is there, or none -/
def GivO (V : Option Nat) (w : World) (e : Ending) (w' : World) : Prop := GivB (V.getD 0) V.isSome w e w'
theorem GivO.no {V : Option Nat} {w w' : World} (h : V = none) (hb : Below w.heap.size w w') : GivO V w (.returned (.tuple #[.float .f32 0, .bool false])) w' := by
  subst h; exact ⟨0, rfl, rfl, hb⟩
theorem GivO.rep {V : Option Nat} {m : Nat} {w w' : World} (h : Rep m V) (hb : Below w.heap.size w w') : GivO V w (.returned (.tuple #[.float .f32 (ifF m), .bool (fin .f32 m)])) w' := by
  cases V with
  | some v =>
    obtain ⟨rfl, hv⟩ := h
    have hf : fin .f32 m = true := by rw [fin_iff32, Nat.mod_eq_of_lt (by omega)]; exact decide_eq_true hv
    refine ⟨m, cn_small (by omega), ?_, hb⟩
    unfold ifF; rw [hf]; rfl
  | none =>
    have hf : fin .f32 m = false := by
      rcases h with h | h
      · exact fin_nan h
      · subst h; decide +kernel
    refine ⟨0, rfl, ?_, hb⟩
    unfold ifF; rw [hf]; rfl
theorem GivO.some {V : Option Nat} {m : Nat} {w w' : World} (h : V = .some m) (hm : m < 2139095040) (hb : Below w.heap.size w w') : GivO V w (.returned (.tuple #[.float .f32 m, .bool true])) w' := by
  subst h; exact ⟨m, cn_small (by omega), rfl, hb⟩
theorem siz_fin {q s : Nat} (h : Siz q s) (hq : q % 2147483648 < 2139095040) : s = q % 2147483648 ∧ fin .f32 s = true := by
  have e := h.2.1 hq
  refine ⟨e, ?_⟩
  rw [fin_iff32, e, Nat.mod_mod]; exact decide_eq_true hq
theorem siz_inf {q s : Nat} (h : Siz q s) (hq : ¬ q % 2147483648 < 2139095040) : fin .f32 s = false := by
  rw [fin_iff32]; exact decide_eq_false (h.2.2 hq)
theorem gt_small {s m : Nat} (hs : s < 2139095040) (hm : m < 2139095040) : (FloatKind.f32.format.order s m == some .gt) = decide (m < s) := by
  rw [ordk (nn_small (by omega)) (nn_small (by omega)), kpos (by omega), kpos (by omega)]
  rcases Nat.lt_trichotomy s m with h | h | h
  · rw [icmp_lt (by omega), decide_eq_false (by omega)]; rfl
  · rw [icmp_eq (by omega), decide_eq_false (by omega)]; rfl
  · rw [icmp_gt (by omega), decide_eq_true (by omega)]; rfl
theorem nextV_some {v q : Nat} (hq : q % 2147483648 < 2139095040) : nextV (some v) q = some (max v (q % 2147483648)) := by unfold nextV; simp only []; rw [if_pos hq]
theorem nextV_bad {v q : Nat} (hq : ¬ q % 2147483648 < 2139095040) : nextV (some v) q = none := by unfold nextV; simp only []; rw [if_neg hq]

set_option maxRecDepth 100000 in
set_option maxHeartbeats 4000000 in
theorem specLm_any (v v' : Value) (xs ys : List Nat) (s b : Nat) (w : World) (h : FRow w v xs) (h' : FRow w v' ys) : Calls Try.prog 30 #[v, v', .float .f32 s, .float .f32 b] w (GivO (lmR xs ys s b) w) := by
  have HX := Lib.hid (fun w1 (hb : Below w.heap.size w w1) (hn : 1 ≤ xs.length) => (h.below hb).cells hn)
  have HY := Lib.hid (fun w1 (hb : Below w.heap.size w w1) (hn : 1 ≤ ys.length) => (h'.below hb).cells hn)
  have FN := Lib.hid (fun (e : lmP xs ys s b = false) w1 (hb : Below w.heap.size w w1) => @GivO.no (lmR xs ys s b) w w1 (by unfold lmR; rw [e]; rfl) hb)
  have RY := Lib.hid (fun (e : lmP xs ys s b = true) => (by unfold lmR; rw [e]; rfl : lmR xs ys s b = lmV xs ys s b xs.length))
  have LP := Lib.hid (fun (e : lmP xs ys s b = true) => (show ys.length = xs.length ∧ xs.length ≤ 128 from by unfold lmP at e; simp only [Bool.and_eq_true, decide_eq_true_eq] at e; exact ⟨e.1.1.2.symm, (rds_len e.1.1.1.1).2⟩))
  have LD := Lib.hid (fun k r0 r1 r2 f0 f1 f2 => @lmD_of xs ys s b k r0 r1 r2 f0 f1 f2)
  have LN := Lib.hid (fun k q hq => @lmV_next xs ys s b k q hq)
  have L0 := Lib.hid (show lmV xs ys s b 0 = some 0 from rfl)
  have LX := Lib.hid (fun k n => @lmV_none xs ys s b k n)
  have Bw := Lib.hid (Below.refl w.heap.size w)
  have HL := Lib.hid h.len
  have QX := Lib.hid (fun w1 (hb : Below w.heap.size w w1) => specRds_any v xs w1 (h.below hb))
  have QY := Lib.hid (fun w1 (hb : Below w.heap.size w w1) => specRds_any v' ys w1 (h'.below hb))
  have PE := Lib.hid (show lmP xs ys s b = (rds xs && rds ys && decide (xs.length = ys.length) && fin .f32 s && fin .f32 b) from rfl)
  have gM := h'.len
  have gL := h.len
  obtain ⟨a, cap, rfl⟩ := h.shape
  obtain ⟨a', cap', rfl⟩ := h'.shape
  clear h h'
  generalize lmP xs ys s b = PP at *
  generalize lmR xs ys s b = R at *
  generalize rds xs = G0 at *
  generalize rds ys = G1 at *
  generalize xs.length = n at *
  generalize ys.length = m at *
  cases G0
  · skip
    have E := Lib.hid (FN.out (PE.out.trans (by simp : _ = false)))
    clear PE FN RY LP LD LN L0 LX HX HY
    go_enter Try.func30, Try.ntmps30
    go_wp2_with fail
    refine (QX.out _ Bw.out).mono ?_
    rintro e w1 ⟨rfl, hb⟩
    have Bw := Lib.hid (below_step Bw.out hb)
    have Bp := Lib.hid Bw.out
    clear hb
    go_wp2
    go_ret2
    exact E.out _ (by repeat (first | (with_reducible exact Bw.out) | (with_reducible exact Bp.out) | (with_reducible refine below_drewN ?_ _) | (with_reducible exact Below.refl _ _)))
  · skip
    cases G1
    · skip
      have E := Lib.hid (FN.out (PE.out.trans (by simp : _ = false)))
      clear PE FN RY LP LD LN L0 LX HX HY
      go_enter Try.func30, Try.ntmps30
      go_wp2_with fail
      refine (QX.out _ Bw.out).mono ?_
      rintro e w1 ⟨rfl, hb⟩
      have Bw := Lib.hid (below_step Bw.out hb)
      have Bp := Lib.hid Bw.out
      clear hb
      go_wp2_with fail
      refine (QY.out _ Bw.out).mono ?_
      rintro e w2 ⟨rfl, hb⟩
      have Bw := Lib.hid (below_step Bw.out hb)
      have Bp := Lib.hid Bw.out
      clear hb
      go_wp2
      go_ret2
      exact E.out _ (by repeat (first | (with_reducible exact Bw.out) | (with_reducible exact Bp.out) | (with_reducible refine below_drewN ?_ _) | (with_reducible exact Below.refl _ _)))
    · skip
      cases B2 : decide (n = m)
      · skip
        have E := Lib.hid (FN.out (PE.out.trans (by rw [B2]; simp : _ = false)))
        have o2_0 : ((n : Int) != (m : Int)) = true := by have hq := of_decide_eq_false B2; simp; omega
        have o2_1 : ((n : Int) == (m : Int)) = false := by have hq := of_decide_eq_false B2; simp; omega
        clear PE FN RY LP LD LN L0 LX HX HY B2
        go_enter Try.func30, Try.ntmps30
        go_wp2_with fail
        refine (QX.out _ Bw.out).mono ?_
        rintro e w1 ⟨rfl, hb⟩
        have Bw := Lib.hid (below_step Bw.out hb)
        have Bp := Lib.hid Bw.out
        clear hb
        go_wp2_with fail
        refine (QY.out _ Bw.out).mono ?_
        rintro e w2 ⟨rfl, hb⟩
        have Bw := Lib.hid (below_step Bw.out hb)
        have Bp := Lib.hid Bw.out
        clear hb
        go_wp2
        go_ret2
        exact E.out _ (by repeat (first | (with_reducible exact Bw.out) | (with_reducible exact Bp.out) | (with_reducible refine below_drewN ?_ _) | (with_reducible exact Below.refl _ _)))
      · skip
        cases B3 : fin .f32 s
        · skip
          have E := Lib.hid (FN.out (PE.out.trans (by rw [B3]; simp : _ = false)))
          have o2_0 : ((n : Int) != (m : Int)) = false := by have hq := of_decide_eq_true B2; simp; omega
          have o2_1 : ((n : Int) == (m : Int)) = true := by have hq := of_decide_eq_true B2; simp; omega
          have K3 := Lib.hid B3
          clear PE FN RY LP LD LN L0 LX HX HY B2 B3
          go_enter Try.func30, Try.ntmps30
          go_wp2_with fail
          refine (QX.out _ Bw.out).mono ?_
          rintro e w1 ⟨rfl, hb⟩
          have Bw := Lib.hid (below_step Bw.out hb)
          have Bp := Lib.hid Bw.out
          clear hb
          go_wp2_with fail
          refine (QY.out _ Bw.out).mono ?_
          rintro e w2 ⟨rfl, hb⟩
          have Bw := Lib.hid (below_step Bw.out hb)
          have Bp := Lib.hid Bw.out
          clear hb
          go_wp2_with fail
          refine (specFinite_any s _).mono ?_
          rw [K3.out]
          rintro e w' ⟨rfl, n3, rfl⟩
          have Bw := Lib.hid (below_drewN Bw.out n3)
          go_wp2
          go_ret2
          exact E.out _ (by repeat (first | (with_reducible exact Bw.out) | (with_reducible exact Bp.out) | (with_reducible refine below_drewN ?_ _) | (with_reducible exact Below.refl _ _)))
        · skip
          cases B4 : fin .f32 b
          · skip
            have E := Lib.hid (FN.out (PE.out.trans (by rw [B4]; simp : _ = false)))
            have o2_0 : ((n : Int) != (m : Int)) = false := by have hq := of_decide_eq_true B2; simp; omega
            have o2_1 : ((n : Int) == (m : Int)) = true := by have hq := of_decide_eq_true B2; simp; omega
            have K3 := Lib.hid B3
            have K4 := Lib.hid B4
            clear PE FN RY LP LD LN L0 LX HX HY B2 B3 B4
            go_enter Try.func30, Try.ntmps30
            go_wp2_with fail
            refine (QX.out _ Bw.out).mono ?_
            rintro e w1 ⟨rfl, hb⟩
            have Bw := Lib.hid (below_step Bw.out hb)
            have Bp := Lib.hid Bw.out
            clear hb
            go_wp2_with fail
            refine (QY.out _ Bw.out).mono ?_
            rintro e w2 ⟨rfl, hb⟩
            have Bw := Lib.hid (below_step Bw.out hb)
            have Bp := Lib.hid Bw.out
            clear hb
            go_wp2_with fail
            refine (specFinite_any s _).mono ?_
            rw [K3.out]
            rintro e w' ⟨rfl, n3, rfl⟩
            have Bw := Lib.hid (below_drewN Bw.out n3)
            go_wp2_with fail
            refine (specFinite_any b _).mono ?_
            rw [K4.out]
            rintro e w' ⟨rfl, n4, rfl⟩
            have Bw := Lib.hid (below_drewN Bw.out n4)
            go_wp2
            go_ret2
            exact E.out _ (by repeat (first | (with_reducible exact Bw.out) | (with_reducible exact Bp.out) | (with_reducible refine below_drewN ?_ _) | (with_reducible exact Below.refl _ _)))
          · skip
            have o2_0 : ((n : Int) != (m : Int)) = false := by have hq := of_decide_eq_true B2; simp; omega
            have o2_1 : ((n : Int) == (m : Int)) = true := by have hq := of_decide_eq_true B2; simp; omega
            have K3 := Lib.hid B3
            have K4 := Lib.hid B4
            have e := PE.out.trans (by rw [B2, B3, B4]; rfl : _ = true)
            have RE := Lib.hid (RY.out e)
            obtain ⟨hl, h128⟩ := LP.out e
            have hl := hl.symm
            subst hl
            clear PE FN RY LP e B2 B3 B4
            go_enter Try.func30, Try.ntmps30
            go_wp2_with fail
            refine (QX.out _ Bw.out).mono ?_
            rintro e w1 ⟨rfl, hb⟩
            have Bw := Lib.hid (below_step Bw.out hb)
            have Bp := Lib.hid Bw.out
            clear hb
            go_wp2_with fail
            refine (QY.out _ Bw.out).mono ?_
            rintro e w2 ⟨rfl, hb⟩
            have Bw := Lib.hid (below_step Bw.out hb)
            have Bp := Lib.hid Bw.out
            clear hb
            go_wp2_with fail
            refine (specFinite_any s _).mono ?_
            rw [K3.out]
            rintro e w' ⟨rfl, n3, rfl⟩
            have Bw := Lib.hid (below_drewN Bw.out n3)
            go_wp2_with fail
            refine (specFinite_any b _).mono ?_
            rw [K4.out]
            rintro e w' ⟨rfl, n4, rfl⟩
            have Bw := Lib.hid (below_drewN Bw.out n4)
            clear QX QY K3 K4
            go_wp2
            go_loopw [10, 11, 12, 40] (fun t _ _ i wr => ∃ k r : Nat, k ≤ n ∧ i = .int .i64 k ∧ t = .float .f32 r ∧ Hid (lmV xs ys s b k = some r ∧ r < 2139095040) ∧ Hid (Below w.heap.size w wr)) (fun _ _ _ i _ => n - (intOf i).toNat)
            case atStart => exact ⟨0, 0, Nat.zero_le _, rfl, rfl, Lib.hid ⟨L0.out, by omega⟩, by first | exact Bw | exact Lib.hid (by repeat (first | (with_reducible exact Bw.out) | (with_reducible exact Bp.out) | (with_reducible refine below_drewN ?_ _) | (with_reducible exact Below.refl _ _)))⟩
            case round =>
              obtain ⟨k, r, hk, rfl, rfl, HV, Bw⟩ := hrel
              have gL := HL.out
              by_cases hlt : k < n
              · obtain ⟨b0, o0, c0, e, hc⟩ := HX.out wr Bw.out (by omega)
                have ea : a = some ⟨b0, o0, none⟩ := by cases e; rfl
                have z0 := hc k hlt
                clear e hc
                obtain ⟨b1, o1, c1, e, hc⟩ := HY.out wr Bw.out (by omega)
                have ea' : a' = some ⟨b1, o1, none⟩ := by cases e; rfl
                have z1 := hc k hlt
                clear e hc HX HY
                subst ea
                subst ea'
                have hi : (0 : Int) ≤ (k : Int) := by omega
                have hi' : (k : Int) < (n : Int) := by omega
                have LDk := Lib.hid (fun r0 r1 r2 f0 f1 f2 => LN.out k r2 (LD.out k r0 r1 r2 f0 f1 f2))
                clear LD LN
                generalize xs.getD k 0 = p at *
                generalize ys.getD k 0 = q at *
                go_wp2
                refine wp_region_loose (fun f args v => f = 62 → ∀ x, args = #[.float .f32 x] → ∃ s, Siz x s ∧ v = .float .f32 s) (by kernel_rfl) (by kernel_rfl) ?_
                repeat (first | (refine wpLoose_farith rfl _ _ _ _ _ rfl rfl _ _ _ rfl rfl ?_; intro _ _) | (refine wpLoose_valK rfl ?_ (fun w1 hw1 => ?_) (fun K hK => ?_); rotate_left; (focus (obtain ⟨nq, rfl⟩ := hw1; go_simp; first | done | rfl)); go_simp; refine hK _ ?_; clear hK K))
                rename_i r0 f0 r1 f1 r2 f2
                have hq := wf_lt f2.2
                refine wpLoose_call rfl 62 #[.float .f32 r2] (fun w1 => ?_) (fun w1 _ => ?_) (fun v hv => ?_)
                · go_simp
                · refine (specSize_any r2 hq w1).mono ?_
                  rintro e w3 ⟨s3, hs, rfl, m3, rfl⟩
                  exact ⟨_, rfl, fun _ x hx => by simp at hx; subst hx; exact ⟨s3, hs, rfl⟩, m3, rfl⟩
                obtain ⟨d, hd, rfl⟩ := hv rfl _ rfl
                clear hv
                repeat (first | (refine wpLoose_farith rfl _ _ _ _ _ rfl rfl _ _ _ rfl rfl ?_; intro _ _) | (refine wpLoose_valK rfl ?_ (fun w1 hw1 => ?_) (fun K hK => ?_); rotate_left; (focus (obtain ⟨nq, rfl⟩ := hw1; go_simp; first | done | rfl)); go_simp; refine hK _ ?_; clear hK K))
                (refine wpLoose_nil ?_; rintro _ ⟨nq, rfl⟩)
                have NX := LDk.out _ _ _ f0 f1 f2
                rw [HV.out.1] at NX
                clear f0 f1 f2 LDk
                have hr := HV.out.2
                by_cases hf : r2 % 2147483648 < 2139095040
                rotate_left
                · have HN := Lib.hid (LX.out (k + 1) n hlt ((by rw [nextV_bad hf] at NX; exact NX.symm)))
                  have HF := Lib.hid (siz_inf hd hf)
                  clear NX hf hd LX HV hr
                  go_wp2_with fail
                  refine (specFinite_any d _).mono ?_
                  rw [HF.out]
                  rintro e w' ⟨rfl, m4, rfl⟩
                  go_wp2
                  go_ret2
                  exact GivO.no (RE.out.trans HN.out) (by repeat (first | (with_reducible exact Bw.out) | (with_reducible exact Bp.out) | (with_reducible refine below_drewN ?_ _) | (with_reducible exact Below.refl _ _)))
                · obtain ⟨e, hF⟩ := siz_fin hd hf
                  have HF := Lib.hid hF
                  rw [nextV_some hf, ← e] at NX
                  rw [← e] at hf
                  have og := gt_small hf hr
                  have NX2 := Lib.hid NX.symm
                  have HB := Lib.hid (And.intro hf hr)
                  clear NX hd e hF HV hq
                  by_cases hg : r < d
                  · have og2 := og.trans (decide_eq_true hg)
                    have M := Lib.hid (show max r d = d by omega)
                    clear og hf hr hg
                    go_wp2_with fail
                    refine (specFinite_any d _).mono ?_
                    rw [HF.out]
                    rintro e w' ⟨rfl, m4, rfl⟩
                    go_wp2
                    go_roundw
                    case rel => exact ⟨k + 1, d, by omega, by go_num, rfl, Lib.hid ⟨by rw [NX2.out, M.out], HB.out.1⟩, Lib.hid (by repeat (first | (with_reducible exact Bw.out) | (with_reducible exact Bp.out) | (with_reducible refine below_drewN ?_ _) | (with_reducible exact Below.refl _ _)))⟩
                    case measure => simp [intOf]; omega
                  · have og2 := og.trans (decide_eq_false hg)
                    have M := Lib.hid (show max r d = r by omega)
                    clear og hf hr hg
                    go_wp2_with fail
                    refine (specFinite_any d _).mono ?_
                    rw [HF.out]
                    rintro e w' ⟨rfl, m4, rfl⟩
                    go_wp2
                    go_roundw
                    case rel => exact ⟨k + 1, r, by omega, by go_num, rfl, Lib.hid ⟨by rw [NX2.out, M.out], HB.out.2⟩, Lib.hid (by repeat (first | (with_reducible exact Bw.out) | (with_reducible exact Bp.out) | (with_reducible refine below_drewN ?_ _) | (with_reducible exact Below.refl _ _)))⟩
                    case measure => simp [intOf]; omega
              · obtain rfl : k = n := by omega
                go_wp2
                go_ret2
                exact GivO.some (RE.out.trans HV.out.1) HV.out.2 Bw.out

set_option maxRecDepth 100000 in
set_option maxHeartbeats 4000000 in
theorem implLm_any (v v' : Value) (xs ys : List Nat) (s b : Nat) (w : World) (h : FRow w v xs) (h' : FRow w v' ys) : Calls Try.prog 31 #[v, v', .float .f32 s, .float .f32 b] w (GivO (lmR xs ys s b) w) := by
  have HX := Lib.hid (fun w1 (hb : Below w.heap.size w w1) (hn : 1 ≤ xs.length) => (h.below hb).cells hn)
  have HY := Lib.hid (fun w1 (hb : Below w.heap.size w w1) (hn : 1 ≤ ys.length) => (h'.below hb).cells hn)
  have FN := Lib.hid (fun (e : lmP xs ys s b = false) w1 (hb : Below w.heap.size w w1) => @GivO.no (lmR xs ys s b) w w1 (by unfold lmR; rw [e]; rfl) hb)
  have RY := Lib.hid (fun (e : lmP xs ys s b = true) => (by unfold lmR; rw [e]; rfl : lmR xs ys s b = lmV xs ys s b xs.length))
  have LP := Lib.hid (fun (e : lmP xs ys s b = true) => (show ys.length = xs.length ∧ xs.length ≤ 128 from by unfold lmP at e; simp only [Bool.and_eq_true, decide_eq_true_eq] at e; exact ⟨e.1.1.2.symm, (rds_len e.1.1.1.1).2⟩))
  have LD := Lib.hid (fun k r0 r1 r2 f0 f1 f2 => @lmD_of xs ys s b k r0 r1 r2 f0 f1 f2)
  have LN := Lib.hid (fun k q hq => @lmV_next xs ys s b k q hq)
  have L0 := Lib.hid (show lmV xs ys s b 0 = some 0 from rfl)
  have LX := Lib.hid (fun k n => @lmV_none xs ys s b k n)
  have Bw := Lib.hid (Below.refl w.heap.size w)
  have HL := Lib.hid h.len
  have QP := Lib.hid (fun w1 (hb : Below w.heap.size w w1) => points_any v v' xs ys w1 (h.below hb) (h'.below hb))
  have PE := Lib.hid (show lmP xs ys s b = ((rds xs && rds ys && decide (xs.length = ys.length)) && fin .f32 s && fin .f32 b) from rfl)
  obtain ⟨a, cap, rfl⟩ := h.shape
  obtain ⟨a', cap', rfl⟩ := h'.shape
  clear h h'
  generalize lmP xs ys s b = PP at *
  generalize lmR xs ys s b = R at *
  generalize (rds xs && rds ys && decide (xs.length = ys.length)) = G0 at *
  generalize xs.length = n at *
  generalize ys.length = m at *
  cases G0
  · skip
    have E := Lib.hid (FN.out (PE.out.trans (by simp : _ = false)))
    clear PE FN RY LP LD LN L0 LX HX HY
    go_enter Try.func31, Try.ntmps31
    go_wp2_with fail
    refine (QP.out _ Bw.out).mono ?_
    rintro e w1 ⟨rfl, hb⟩
    have Bw := Lib.hid (below_step Bw.out hb)
    have Bp := Lib.hid Bw.out
    clear hb
    go_wp2
    go_ret2
    exact E.out _ (by repeat (first | (with_reducible exact Bw.out) | (with_reducible exact Bp.out) | (with_reducible refine below_drewN ?_ _) | (with_reducible exact Below.refl _ _)))
  · skip
    cases B1 : fin .f32 s
    · skip
      have E := Lib.hid (FN.out (PE.out.trans (by rw [B1]; simp : _ = false)))
      have K1 := Lib.hid B1
      clear PE FN RY LP LD LN L0 LX HX HY B1
      go_enter Try.func31, Try.ntmps31
      go_wp2_with fail
      refine (QP.out _ Bw.out).mono ?_
      rintro e w1 ⟨rfl, hb⟩
      have Bw := Lib.hid (below_step Bw.out hb)
      have Bp := Lib.hid Bw.out
      clear hb
      go_wp2_with fail
      refine (implFinite_any s _).mono ?_
      rw [K1.out]
      rintro e w' ⟨rfl, n1, rfl⟩
      have Bw := Lib.hid (below_drewN Bw.out n1)
      go_wp2
      go_ret2
      exact E.out _ (by repeat (first | (with_reducible exact Bw.out) | (with_reducible exact Bp.out) | (with_reducible refine below_drewN ?_ _) | (with_reducible exact Below.refl _ _)))
    · skip
      cases B2 : fin .f32 b
      · skip
        have E := Lib.hid (FN.out (PE.out.trans (by rw [B2]; simp : _ = false)))
        have K1 := Lib.hid B1
        have K2 := Lib.hid B2
        clear PE FN RY LP LD LN L0 LX HX HY B1 B2
        go_enter Try.func31, Try.ntmps31
        go_wp2_with fail
        refine (QP.out _ Bw.out).mono ?_
        rintro e w1 ⟨rfl, hb⟩
        have Bw := Lib.hid (below_step Bw.out hb)
        have Bp := Lib.hid Bw.out
        clear hb
        go_wp2_with fail
        refine (implFinite_any s _).mono ?_
        rw [K1.out]
        rintro e w' ⟨rfl, n1, rfl⟩
        have Bw := Lib.hid (below_drewN Bw.out n1)
        go_wp2_with fail
        refine (implFinite_any b _).mono ?_
        rw [K2.out]
        rintro e w' ⟨rfl, n2, rfl⟩
        have Bw := Lib.hid (below_drewN Bw.out n2)
        go_wp2
        go_ret2
        exact E.out _ (by repeat (first | (with_reducible exact Bw.out) | (with_reducible exact Bp.out) | (with_reducible refine below_drewN ?_ _) | (with_reducible exact Below.refl _ _)))
      · skip
        have K1 := Lib.hid B1
        have K2 := Lib.hid B2
        have e := PE.out.trans (by rw [B1, B2]; rfl : _ = true)
        have RE := Lib.hid (RY.out e)
        obtain ⟨hl, h128⟩ := LP.out e
        have hl := hl.symm
        subst hl
        clear PE FN RY LP e B1 B2
        go_enter Try.func31, Try.ntmps31
        go_wp2_with fail
        refine (QP.out _ Bw.out).mono ?_
        rintro e w1 ⟨rfl, hb⟩
        have Bw := Lib.hid (below_step Bw.out hb)
        have Bp := Lib.hid Bw.out
        clear hb
        go_wp2_with fail
        refine (implFinite_any s _).mono ?_
        rw [K1.out]
        rintro e w' ⟨rfl, n1, rfl⟩
        have Bw := Lib.hid (below_drewN Bw.out n1)
        go_wp2_with fail
        refine (implFinite_any b _).mono ?_
        rw [K2.out]
        rintro e w' ⟨rfl, n2, rfl⟩
        have Bw := Lib.hid (below_drewN Bw.out n2)
        clear QP K1 K2
        go_wp2
        go_loopw [10, 11, 12, 13, 30] (fun t _ _ _ i wr => ∃ k r : Nat, k ≤ n ∧ i = .int .i64 k ∧ t = .float .f32 r ∧ Hid (Rep r (lmV xs ys s b k)) ∧ Hid (Below w.heap.size w wr)) (fun _ _ _ _ i _ => n - (intOf i).toNat)
        case atStart => exact ⟨0, 0, Nat.zero_le _, rfl, rfl, Lib.hid (by rw [L0.out]; exact ⟨rfl, by omega⟩), by first | exact Bw | exact Lib.hid (by repeat (first | (with_reducible exact Bw.out) | (with_reducible exact Bp.out) | (with_reducible refine below_drewN ?_ _) | (with_reducible exact Below.refl _ _)))⟩
        case round =>
          obtain ⟨k, r, hk, rfl, rfl, HV, Bw⟩ := hrel
          have gL := HL.out
          by_cases hlt : k < n
          · obtain ⟨b0, o0, c0, e, hc⟩ := HX.out wr Bw.out (by omega)
            have ea : a = some ⟨b0, o0, none⟩ := by cases e; rfl
            have z0 := hc k hlt
            clear e hc
            obtain ⟨b1, o1, c1, e, hc⟩ := HY.out wr Bw.out (by omega)
            have ea' : a' = some ⟨b1, o1, none⟩ := by cases e; rfl
            have z1 := hc k hlt
            clear e hc HX HY
            subst ea
            subst ea'
            have hi : (0 : Int) ≤ (k : Int) := by omega
            have hi' : (k : Int) < (n : Int) := by omega
            have LDk := Lib.hid (fun r0 r1 r2 f0 f1 f2 => LN.out k r2 (LD.out k r0 r1 r2 f0 f1 f2))
            clear LD LN
            generalize xs.getD k 0 = p at *
            generalize ys.getD k 0 = q at *
            go_wp2_with (refine wpList_farith rfl _ _ _ _ _ rfl rfl _ _ _ rfl rfl ?_; intro r0 j0 g0; have f0 := Lib.hid g0; clear g0; refine Stop.go ?_)
            refine Stop.mk ?_
            go_wp2_with (refine wpList_farith rfl _ _ _ _ _ rfl rfl _ _ _ rfl rfl ?_; intro r1 j1 g1; have f1 := Lib.hid g1; clear g1; refine Stop.go ?_)
            refine Stop.mk ?_
            go_wp2_with (refine wpList_farith rfl _ _ _ _ _ rfl rfl _ _ _ rfl rfl ?_; intro r2 j2 g2; have f2 := Lib.hid g2; clear g2; refine Stop.go ?_)
            refine Stop.mk ?_
            have NX := Lib.hid (LDk.out _ _ _ f0.out f1.out f2.out)
            have hq := wf_lt f2.out.2
            clear f0 f1 f2
            go_wp2_with (refine upon_max3 _ _ r r2 (lmV xs ys s b k) HV.out hq ?_; intro r9 j9 g9; have h9 := Lib.hid g9; clear g9)
            skip
            go_roundw
            case rel => exact ⟨k + 1, r9, by omega, by go_num, rfl, Lib.hid (by rw [← NX.out]; exact h9.out), Lib.hid (by repeat (first | (with_reducible exact Bw.out) | (with_reducible exact Bp.out) | (with_reducible refine below_drewN ?_ _) | (with_reducible exact Below.refl _ _)))⟩
            case measure => simp [intOf]; omega
          · obtain rfl : k = n := by omega
            go_wp2_with fail
            (first | refine (implNum_any _ _).mono ?_ | (go_at_call 50; refine (implNum_any _ _).mono ?_))
            rintro e w' ⟨rfl, n9, rfl⟩
            go_wp2
            go_ret2
            rw [RE.out]
            exact GivO.rep HV.out (by repeat (first | (with_reducible exact Bw.out) | (with_reducible exact Bp.out) | (with_reducible refine below_drewN ?_ _) | (with_reducible exact Below.refl _ _)))

end Go.Proofs.Ytdemahghjgghkaa
