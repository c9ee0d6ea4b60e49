/- How heat flows at a cell, in one direction: both sides. -/
import Derived.Test.YtcjhaeiknenajaaFlowW
import Derived.Test.YtcjhaeiknenajaaNeg
import Derived.Test.YtcjhaeiknenajaaOrd
namespace Go.Proofs.Ytcjhaeiknenajaa
open Go.RowKit
set_option linter.unusedVariables false

theorem neg_mod32' (x : Nat) : Op.negFloat .f32 x % 2147483648 = x % 2147483648 := by
  show (x ^^^ 2 ^ 31) % 2 ^ 31 = x % 2 ^ 31
  rw [Nat.xor_mod_two_pow, Nat.mod_self, Nat.xor_zero]
theorem nn_neg32 (x : Nat) : nn .f32 (Op.negFloat .f32 x) = nn .f32 x := by
  have h1 : nn .f32 (Op.negFloat .f32 x) = false ↔ notNan Ieee.single (Op.negFloat .f32 x) := nn_iff .f32 _
  have h2 : nn .f32 x = false ↔ notNan Ieee.single x := nn_iff .f32 _
  have e : notNan Ieee.single (Op.negFloat .f32 x) ↔ notNan Ieee.single x := by unfold notNan; rw [s_sw, neg_mod32']
  cases a : nn .f32 (Op.negFloat .f32 x) <;> cases b : nn .f32 x <;> simp_all
/-- the opposite, with the one not-a-number -/
def fng (x : Nat) : Nat := cn .f32 (Op.negFloat .f32 x)
theorem cn_negF {x S : Nat} (h : cn .f32 x = S) : cn .f32 (Op.negFloat .f32 x) = fng S := by
  rw [← h]
  unfold fng
  cases e : nn .f32 x
  · rw [cn_of_num e]
  · rw [cn_of_nan e, cn_of_nan (by rw [nn_neg32]; exact e), cn_of_nan (by rw [nn_neg32]; exact nn_qn .f32)]
/-- the warmth of a neighbour, or of the cell itself -/
def wv (r : PL) (k : Nat) (m : Int) : Nat := cn .f32 (r.W.getD (bif decide (0 ≤ m) then m.toNat else k) 0)
def many (f t : Int) : Nat := bif decide (0 ≤ f) && decide (0 ≤ t) then 1073741824 else 1065353216
def slV (r : PL) (k : Nat) (f t : Int) : Nat := bif decide (0 ≤ f) || decide (0 ≤ t) then fng (fop .mul .f32 (cn .f32 (r.E.getD k 0)) (fop .quo .f32 (fop .sub .f32 (wv r k t) (wv r k f)) (many f t))) else 0
theorem one_up : cn .f32 (floatOfInt .f32 1) = 1065353216 := by decide +kernel
theorem two_up : cn .f32 (floatOfInt .f32 2) = 1073741824 := by decide +kernel
theorem slV_no {r : PL} {k : Nat} {f t : Int} (hf : decide (0 ≤ f) = false) (ht : decide (0 ≤ t) = false) : slV r k f t = cn .f32 0 := by
  unfold slV; rw [hf, ht]; simp only [Bool.or_self, cond_false]; decide +kernel
theorem slV_yes {r : PL} {k : Nat} {f t : Int} (h : (decide (0 ≤ f) || decide (0 ≤ t)) = true) : slV r k f t = fng (fop .mul .f32 (cn .f32 (r.E.getD k 0)) (fop .quo .f32 (fop .sub .f32 (wv r k t) (wv r k f)) (many f t))) := by
  unfold slV; rw [h]; rfl
theorem wv_no {r : PL} {k : Nat} {m : Int} (h : decide (0 ≤ m) = false) : wv r k m = cn .f32 (r.W.getD k 0) := by unfold wv; rw [h]; rfl
theorem wv_yes {r : PL} {k m : Nat} : wv r k (m : Int) = cn .f32 (r.W.getD m 0) := by unfold wv; rw [decide_eq_true (by omega)]; rfl
theorem many2 {f t : Int} (hf : decide (0 ≤ f) = true) (ht : decide (0 ≤ t) = true) : many f t = 1073741824 := by unfold many; rw [hf, ht]; rfl
theorem many1 {f t : Int} (h : (decide (0 ≤ f) && decide (0 ≤ t)) = false) : many f t = 1065353216 := by unfold many; rw [h]; rfl

set_option maxRecDepth 10000 in
set_option maxHeartbeats 1600000 in
theorem specSlope_any (r : PL) (n k p : Nat) (b0 o0 k0 b1 o1 k1 b2 o2 k2 b3 o3 k3 : Nat) (f t : Int) (w : World) (A : Cells w p (pvs r (ps b0 o0 n k0) (ps b1 o1 n k1) (ps b2 o2 n k2) (ps b3 o3 n k3))) (hL : PLay w n b0 o0 b1 o1 b2 o2 b3 o3 r) (n9 : n ≤ 144) (hk : k < n) (hf : 0 ≤ f → f < (n : Int)) (ht : 0 ≤ t → t < (n : Int)) :
    Calls Try.prog 86 #[.pointer (some ⟨p, 0, none⟩), .int .i64 (k : Int), .int .i64 f, .int .i64 t] w fun e w' => ∃ s, cn .f32 s = slV r k f t ∧ e = .returned (.float .f32 s) ∧ ∃ n, w' = w.drewN n := by
  have c2 := A.at 2 rfl
  have c3 := A.at 3 rfl
  have zk := hL.W k hk
  have ek := hL.E k hk
  have hk0 : (0 : Int) ≤ (k : Int) := by omega
  have hk1 : (k : Int) < (n : Int) := by omega
  by_cases h1 : 0 ≤ f
  · by_cases h2 : 0 ≤ t
    · skip
      obtain ⟨fm, rfl⟩ : ∃ fm : Nat, f = (fm : Int) := ⟨f.toNat, by omega⟩
      have hfm : fm < n := by have := hf h1; omega
      have zf := hL.W fm hfm
      have F1 : decide ((0 : Int) ≤ (fm : Int)) = true := by simp
      have WF := Lib.hid (wv_yes (r := r) (k := k) (m := fm))
      have hf0 : (0 : Int) ≤ (fm : Int) := by omega
      have hf1 : (fm : Int) < (n : Int) := by omega
      obtain ⟨tm, rfl⟩ : ∃ tm : Nat, t = (tm : Int) := ⟨t.toNat, by omega⟩
      have htm : tm < n := by have := ht h2; omega
      have zt := hL.W tm htm
      have F2 : decide ((0 : Int) ≤ (tm : Int)) = true := by simp
      have WT := Lib.hid (wv_yes (r := r) (k := k) (m := tm))
      have ht0 : (0 : Int) ≤ (tm : Int) := by omega
      have ht1 : (tm : Int) < (n : Int) := by omega
      have SV := Lib.hid (slV_yes (r := r) (k := k) (f := (fm : Int)) (t := (tm : Int)) (by rw [F1, F2]; rfl))
      have MN := Lib.hid (many2 F1 F2)
      generalize slV r k (fm : Int) (tm : Int) = V at *
      generalize many (fm : Int) (tm : Int) = M at *
      clear hL A hf ht
      generalize r.E.getD k 0 = e at *
      generalize r.W.getD k 0 = y at *
      generalize r.W.getD fm 0 = yf at *
      generalize r.W.getD tm 0 = yt at *
      go_enter Try.func86, Try.ntmps86
      go_wp2_with (first | (refine wpList_farith rfl _ _ _ _ _ rfl rfl _ _ _ rfl rfl ?_; intro _ _ _))
      go_ret
      rename_i g1 _ _ g2 _ _ g3
      exact ⟨_, by rw [cn_negF rfl, g3.1, g2.1, g1.1, SV.out, WF.out, WT.out, MN.out, two_up], rfl, _, rfl⟩
    · skip
      obtain ⟨fm, rfl⟩ : ∃ fm : Nat, f = (fm : Int) := ⟨f.toNat, by omega⟩
      have hfm : fm < n := by have := hf h1; omega
      have zf := hL.W fm hfm
      have F1 : decide ((0 : Int) ≤ (fm : Int)) = true := by simp
      have WF := Lib.hid (wv_yes (r := r) (k := k) (m := fm))
      have hf0 : (0 : Int) ≤ (fm : Int) := by omega
      have hf1 : (fm : Int) < (n : Int) := by omega
      have F2 : decide ((0 : Int) ≤ t) = false := by simp; omega
      have WT := Lib.hid (wv_no (r := r) (k := k) F2)
      have SV := Lib.hid (slV_yes (r := r) (k := k) (f := (fm : Int)) (t := t) (by rw [F1, F2]; rfl))
      have MN := Lib.hid (many1 (f := (fm : Int)) (t := t) (by rw [F1, F2]; rfl))
      generalize slV r k (fm : Int) t = V at *
      generalize many (fm : Int) t = M at *
      clear hL A hf ht
      generalize r.E.getD k 0 = e at *
      generalize r.W.getD k 0 = y at *
      generalize r.W.getD fm 0 = yf at *
      go_enter Try.func86, Try.ntmps86
      go_wp2_with (first | (refine wpList_farith rfl _ _ _ _ _ rfl rfl _ _ _ rfl rfl ?_; intro _ _ _))
      go_ret
      rename_i g1 _ _ g2 _ _ g3
      exact ⟨_, by rw [cn_negF rfl, g3.1, g2.1, g1.1, SV.out, WF.out, WT.out, MN.out, one_up], rfl, _, rfl⟩
  · by_cases h2 : 0 ≤ t
    · skip
      have F1 : decide ((0 : Int) ≤ f) = false := by simp; omega
      have WF := Lib.hid (wv_no (r := r) (k := k) F1)
      obtain ⟨tm, rfl⟩ : ∃ tm : Nat, t = (tm : Int) := ⟨t.toNat, by omega⟩
      have htm : tm < n := by have := ht h2; omega
      have zt := hL.W tm htm
      have F2 : decide ((0 : Int) ≤ (tm : Int)) = true := by simp
      have WT := Lib.hid (wv_yes (r := r) (k := k) (m := tm))
      have ht0 : (0 : Int) ≤ (tm : Int) := by omega
      have ht1 : (tm : Int) < (n : Int) := by omega
      have SV := Lib.hid (slV_yes (r := r) (k := k) (f := f) (t := (tm : Int)) (by rw [F1, F2]; rfl))
      have MN := Lib.hid (many1 (f := f) (t := (tm : Int)) (by rw [F1, F2]; rfl))
      generalize slV r k f (tm : Int) = V at *
      generalize many f (tm : Int) = M at *
      clear hL A hf ht
      generalize r.E.getD k 0 = e at *
      generalize r.W.getD k 0 = y at *
      generalize r.W.getD tm 0 = yt at *
      go_enter Try.func86, Try.ntmps86
      go_wp2_with (first | (refine wpList_farith rfl _ _ _ _ _ rfl rfl _ _ _ rfl rfl ?_; intro _ _ _))
      go_ret
      rename_i g1 _ _ g2 _ _ g3
      exact ⟨_, by rw [cn_negF rfl, g3.1, g2.1, g1.1, SV.out, WF.out, WT.out, MN.out, one_up], rfl, _, rfl⟩
    · skip
      have F1 : decide ((0 : Int) ≤ f) = false := by simp; omega
      have WF := Lib.hid (wv_no (r := r) (k := k) F1)
      have F2 : decide ((0 : Int) ≤ t) = false := by simp; omega
      have WT := Lib.hid (wv_no (r := r) (k := k) F2)
      have SV := Lib.hid (slV_no (r := r) (k := k) F1 F2)
      generalize slV r k f t = V at *
      clear hL A hf ht
      generalize r.E.getD k 0 = e at *
      generalize r.W.getD k 0 = y at *
      go_enter Try.func86, Try.ntmps86
      go_wp2_with (first | (refine wpList_farith rfl _ _ _ _ _ rfl rfl _ _ _ rfl rfl ?_; intro _ _ _))
      go_ret
      exact ⟨0, by rw [SV.out], rfl, 0, rfl⟩

theorem ap_one {q : Nat} (h : FR .add .f32 0 1065353216 q) : q = 1065353216 := by
  have e : cn .f32 q = 1065353216 := by rw [h.1]; decide +kernel
  cases hn : nn .f32 q
  · rw [cn_of_num hn] at e; exact e
  · rw [cn_of_nan hn] at e; exact absurd e (by decide +kernel)
theorem ap_two {q : Nat} (h : FR .add .f32 1065353216 1065353216 q) : q = 1073741824 := by
  have e : cn .f32 q = 1073741824 := by rw [h.1]; decide +kernel
  cases hn : nn .f32 q
  · rw [cn_of_num hn] at e; exact e
  · rw [cn_of_nan hn] at e; exact absurd e (by decide +kernel)
theorem ap1_no : (FloatKind.f32.format.order 1065353216 0 == some Ordering.eq) = false := by decide +kernel
theorem ap2_no : (FloatKind.f32.format.order 1073741824 0 == some Ordering.eq) = false := by decide +kernel
theorem ap0_yes : (FloatKind.f32.format.order 0 0 == some Ordering.eq) = true := by decide +kernel
set_option maxRecDepth 10000 in
set_option maxHeartbeats 3200000 in
theorem fluxBetween_any (x y z n k jb jf : Nat) (hjb : jb < 4) (hjf : jf < 4) (r : PL) (b0 o0 k0 b1 o1 k1 b2 o2 k2 b3 o3 k3 : Nat) (w : World) (hL0 : PLay w n b0 o0 b1 o1 b2 o2 b3 o3 r) (n9 : n ≤ 144) (S : Sd r x y n) (hz : x * (y - 1) = z) (hk : k < n) :
    Calls Try.prog 88 #[.agg #[.int .i64 r.X, .int .i64 r.Y, (ps b0 o0 n k0), (ps b1 o1 n k1), (ps b2 o2 n k2), (ps b3 o3 n k3)], .int .i64 (k : Int), .int .i64 (jb : Int), .int .i64 (jf : Int)] w (FlP (slV r k (nbr x z k jb) (nbr x z k jf)) w) := by
  have BF := Lib.hid (fun w1 => beside_any x y z n k jf hjf (ps b0 o0 n k0) (ps b1 o1 n k1) (ps b2 o2 n k2) (ps b3 o3 n k3) r w1 S hz hk)
  have BB := Lib.hid (fun w1 => beside_any x y z n k jb hjb (ps b0 o0 n k0) (ps b1 o1 n k1) (ps b2 o2 n k2) (ps b3 o3 n k3) r w1 S hz hk)
  have NF := Lib.hid (fun h => nbr_nat S hz hk jf h)
  have NB := Lib.hid (fun h => nbr_nat S hz hk jb h)
  have LY := Lib.hid (hL0.below (below_al1 w (.cells (pvs r (ps b0 o0 n k0) (ps b1 o1 n k1) (ps b2 o2 n k2) (ps b3 o3 n k3)).toArray 28)))
  have HK := Lib.hid hk
  clear hL0 S hz
  generalize nbr x z k jb = f at *
  generalize nbr x z k jf = t at *
  have A := Lib.hid (Cells.made w (pvs r (ps b0 o0 n k0) (ps b1 o1 n k1) (ps b2 o2 n k2) (ps b3 o3 n k3)) 28)
  have Bw := Lib.hid (below_al1 w (.cells (pvs r (ps b0 o0 n k0) (ps b1 o1 n k1) (ps b2 o2 n k2) (ps b3 o3 n k3)).toArray 28))
  have hk0 : (0 : Int) ≤ (k : Int) := by omega
  have hk1 : (k : Int) < (n : Int) := by omega
  by_cases h1 : 0 ≤ f
  · by_cases h2 : 0 ≤ t
    · skip
      obtain ⟨fm, rfl, hfm⟩ := NB.out h1
      have F1 : decide ((0 : Int) ≤ (fm : Int)) = true := by simp
      have WF := Lib.hid (wv_yes (r := r) (k := k) (m := fm))
      have hf0 : (0 : Int) ≤ (fm : Int) := by omega
      have hf1 : (fm : Int) < (n : Int) := by omega
      obtain ⟨tm, rfl, htm⟩ := NF.out h2
      have F2 : decide ((0 : Int) ≤ (tm : Int)) = true := by simp
      have WT := Lib.hid (wv_yes (r := r) (k := k) (m := tm))
      have ht0 : (0 : Int) ≤ (tm : Int) := by omega
      have ht1 : (tm : Int) < (n : Int) := by omega
      have SV := Lib.hid (slV_yes (r := r) (k := k) (f := (fm : Int)) (t := (tm : Int)) (by rw [F1, F2]; rfl))
      have MN := Lib.hid (many2 F1 F2)
      generalize slV r k (fm : Int) (tm : Int) = V at *
      generalize many (fm : Int) (tm : Int) = M at *
      generalize hy : r.W.getD k 0 = y at *
      generalize he : r.E.getD k 0 = e at *
      have HY := Lib.hid hy
      have HE := Lib.hid he
      clear hy he
      generalize hyf : r.W.getD fm 0 = yf at *
      have HYF := Lib.hid hyf
      clear hyf
      generalize hyt : r.W.getD tm 0 = yt at *
      have HYT := Lib.hid hyt
      clear hyt
      have zk := LY.out.W k HK.out
      rw [HY.out] at zk
      have c0 := A.out.at 0 rfl; have c1 := A.out.at 1 rfl; have c2 := A.out.at 2 rfl; have c3 := A.out.at 3 rfl; have c4 := A.out.at 4 rfl; have c5 := A.out.at 5 rfl
      go_enter Try.func88, Try.ntmps88
      go_wp2
      refine wp_region_loose (fun _ _ _ => True) (by kernel_rfl) (by kernel_rfl) ?_
      repeat (first | (refine wpLoose_farith rfl _ _ _ _ _ rfl rfl _ _ _ rfl rfl ?_; intro _ _) | (refine wpLoose_valK rfl ?_ (fun w1 hw1 => ?_) (fun K hK => ?_); rotate_left; (focus (obtain ⟨nq, rfl⟩ := hw1; go_simp; first | done | rfl)); go_simp; refine hK _ ?_; clear hK K))
      (refine wpLoose_nil ?_; rintro _ ⟨nq, rfl⟩)
      have Bw := Lib.hid (below_drewN Bw.out nq)
      have A := Lib.hid (A.out.drewN (n := nq))
      have LY := Lib.hid (LY.out.below (below_drewN (Below.refl _ _) nq))
      clear c0 c1 c2 c3 c4 c5
      have c0 := A.out.at 0 rfl; have c1 := A.out.at 1 rfl; have c2 := A.out.at 2 rfl; have c3 := A.out.at 3 rfl; have c4 := A.out.at 4 rfl; have c5 := A.out.at 5 rfl
      go_wp2_with fail
      refine (BF.out _).mono ?_
      rintro e w1 ⟨v, rfl, hv, hb⟩
      have HV := Lib.hid hv
      clear hv
      have Bw := Lib.hid (below_step Bw.out hb)
      have A := Lib.hid (A.out.kept hb)
      have LY := Lib.hid (LY.out.below hb)
      clear c0 c1 c2 c3 c4 c5 hb
      have c0 := A.out.at 0 rfl; have c1 := A.out.at 1 rfl; have c2 := A.out.at 2 rfl; have c3 := A.out.at 3 rfl; have c4 := A.out.at 4 rfl; have c5 := A.out.at 5 rfl
      obtain rfl := HV.out (by omega)
      have zt := LY.out.W tm htm
      rw [HYT.out] at zt
      clear HV
      go_wp2_with (first | (refine wpList_farith rfl _ _ _ _ _ rfl rfl _ _ _ rfl rfl ?_; intro _ _ _; first | (rename_i a9; obtain rfl := ap_one a9) | (rename_i a9; obtain rfl := ap_two a9) | skip))
      refine (BB.out _).mono ?_
      rintro e w2 ⟨v, rfl, hv, hb⟩
      have HV := Lib.hid hv
      clear hv
      have hb := show Below w1.heap.size w1 w2 from (by first | exact hb | exact below_undrew hb)
      have Bw := Lib.hid (below_step Bw.out hb)
      have A := Lib.hid (A.out.kept hb)
      have LY := Lib.hid (LY.out.below hb)
      clear c0 c1 c2 c3 c4 c5 hb
      have c0 := A.out.at 0 rfl; have c1 := A.out.at 1 rfl; have c2 := A.out.at 2 rfl; have c3 := A.out.at 3 rfl; have c4 := A.out.at 4 rfl; have c5 := A.out.at 5 rfl
      obtain rfl := HV.out (by omega)
      have zf := LY.out.W fm hfm
      rw [HYF.out] at zf
      clear HV
      have ek := LY.out.E k HK.out
      rw [HE.out] at ek
      have Bz := Lib.hid Bw.out
      have g0 := ap0_yes; have g1 := ap1_no; have g2 := ap2_no
      go_wp2_with (first | (refine wpList_farith rfl _ _ _ _ _ rfl rfl _ _ _ rfl rfl ?_; intro _ _ _; first | (rename_i a9; obtain rfl := ap_one a9) | (rename_i a9; obtain rfl := ap_two a9) | skip))
      go_ret
      rename_i k1 _ _ k2 _ _ k3
      exact ⟨_, by rw [cn_negF rfl, k3.1, k2.1, k1.1, SV.out, WF.out, WT.out, MN.out]; first | done | rfl | (congr 3; decide +kernel), rfl, by first | exact below_drewN Bz.out _ | exact below_drewN (below_drewN Bz.out _) _⟩
    · skip
      obtain ⟨fm, rfl, hfm⟩ := NB.out h1
      have F1 : decide ((0 : Int) ≤ (fm : Int)) = true := by simp
      have WF := Lib.hid (wv_yes (r := r) (k := k) (m := fm))
      have hf0 : (0 : Int) ≤ (fm : Int) := by omega
      have hf1 : (fm : Int) < (n : Int) := by omega
      have F2 : decide ((0 : Int) ≤ t) = false := by simp; omega
      have WT := Lib.hid (wv_no (r := r) (k := k) F2)
      have SV := Lib.hid (slV_yes (r := r) (k := k) (f := (fm : Int)) (t := t) (by rw [F1, F2]; rfl))
      have MN := Lib.hid (many1 (f := (fm : Int)) (t := t) (by rw [F1, F2]; rfl))
      generalize slV r k (fm : Int) t = V at *
      generalize many (fm : Int) t = M at *
      generalize hy : r.W.getD k 0 = y at *
      generalize he : r.E.getD k 0 = e at *
      have HY := Lib.hid hy
      have HE := Lib.hid he
      clear hy he
      generalize hyf : r.W.getD fm 0 = yf at *
      have HYF := Lib.hid hyf
      clear hyf
      have zk := LY.out.W k HK.out
      rw [HY.out] at zk
      have c0 := A.out.at 0 rfl; have c1 := A.out.at 1 rfl; have c2 := A.out.at 2 rfl; have c3 := A.out.at 3 rfl; have c4 := A.out.at 4 rfl; have c5 := A.out.at 5 rfl
      go_enter Try.func88, Try.ntmps88
      go_wp2
      refine wp_region_loose (fun _ _ _ => True) (by kernel_rfl) (by kernel_rfl) ?_
      repeat (first | (refine wpLoose_farith rfl _ _ _ _ _ rfl rfl _ _ _ rfl rfl ?_; intro _ _) | (refine wpLoose_valK rfl ?_ (fun w1 hw1 => ?_) (fun K hK => ?_); rotate_left; (focus (obtain ⟨nq, rfl⟩ := hw1; go_simp; first | done | rfl)); go_simp; refine hK _ ?_; clear hK K))
      (refine wpLoose_nil ?_; rintro _ ⟨nq, rfl⟩)
      have Bw := Lib.hid (below_drewN Bw.out nq)
      have A := Lib.hid (A.out.drewN (n := nq))
      have LY := Lib.hid (LY.out.below (below_drewN (Below.refl _ _) nq))
      clear c0 c1 c2 c3 c4 c5
      have c0 := A.out.at 0 rfl; have c1 := A.out.at 1 rfl; have c2 := A.out.at 2 rfl; have c3 := A.out.at 3 rfl; have c4 := A.out.at 4 rfl; have c5 := A.out.at 5 rfl
      go_wp2_with fail
      refine (BF.out _).mono ?_
      rintro e w1 ⟨v, rfl, hv, hb⟩
      have HV := Lib.hid hv
      clear hv
      have Bw := Lib.hid (below_step Bw.out hb)
      have A := Lib.hid (A.out.kept hb)
      have LY := Lib.hid (LY.out.below hb)
      clear c0 c1 c2 c3 c4 c5 hb
      have c0 := A.out.at 0 rfl; have c1 := A.out.at 1 rfl; have c2 := A.out.at 2 rfl; have c3 := A.out.at 3 rfl; have c4 := A.out.at 4 rfl; have c5 := A.out.at 5 rfl
      clear HV
      go_wp2_with (first | (refine wpList_farith rfl _ _ _ _ _ rfl rfl _ _ _ rfl rfl ?_; intro _ _ _; first | (rename_i a9; obtain rfl := ap_one a9) | (rename_i a9; obtain rfl := ap_two a9) | skip))
      refine (BB.out _).mono ?_
      rintro e w2 ⟨v, rfl, hv, hb⟩
      have HV := Lib.hid hv
      clear hv
      have hb := show Below w1.heap.size w1 w2 from (by first | exact hb | exact below_undrew hb)
      have Bw := Lib.hid (below_step Bw.out hb)
      have A := Lib.hid (A.out.kept hb)
      have LY := Lib.hid (LY.out.below hb)
      clear c0 c1 c2 c3 c4 c5 hb
      have c0 := A.out.at 0 rfl; have c1 := A.out.at 1 rfl; have c2 := A.out.at 2 rfl; have c3 := A.out.at 3 rfl; have c4 := A.out.at 4 rfl; have c5 := A.out.at 5 rfl
      obtain rfl := HV.out (by omega)
      have zf := LY.out.W fm hfm
      rw [HYF.out] at zf
      clear HV
      have ek := LY.out.E k HK.out
      rw [HE.out] at ek
      have Bz := Lib.hid Bw.out
      have g0 := ap0_yes; have g1 := ap1_no; have g2 := ap2_no
      go_wp2_with (first | (refine wpList_farith rfl _ _ _ _ _ rfl rfl _ _ _ rfl rfl ?_; intro _ _ _; first | (rename_i a9; obtain rfl := ap_one a9) | (rename_i a9; obtain rfl := ap_two a9) | skip))
      go_ret
      rename_i k1 _ _ k2 _ _ k3
      exact ⟨_, by rw [cn_negF rfl, k3.1, k2.1, k1.1, SV.out, WF.out, WT.out, MN.out]; first | done | rfl | (congr 3; decide +kernel), rfl, by first | exact below_drewN Bz.out _ | exact below_drewN (below_drewN Bz.out _) _⟩
  · by_cases h2 : 0 ≤ t
    · skip
      have F1 : decide ((0 : Int) ≤ f) = false := by simp; omega
      have WF := Lib.hid (wv_no (r := r) (k := k) F1)
      obtain ⟨tm, rfl, htm⟩ := NF.out h2
      have F2 : decide ((0 : Int) ≤ (tm : Int)) = true := by simp
      have WT := Lib.hid (wv_yes (r := r) (k := k) (m := tm))
      have ht0 : (0 : Int) ≤ (tm : Int) := by omega
      have ht1 : (tm : Int) < (n : Int) := by omega
      have SV := Lib.hid (slV_yes (r := r) (k := k) (f := f) (t := (tm : Int)) (by rw [F1, F2]; rfl))
      have MN := Lib.hid (many1 (f := f) (t := (tm : Int)) (by rw [F1, F2]; rfl))
      generalize slV r k f (tm : Int) = V at *
      generalize many f (tm : Int) = M at *
      generalize hy : r.W.getD k 0 = y at *
      generalize he : r.E.getD k 0 = e at *
      have HY := Lib.hid hy
      have HE := Lib.hid he
      clear hy he
      generalize hyt : r.W.getD tm 0 = yt at *
      have HYT := Lib.hid hyt
      clear hyt
      have zk := LY.out.W k HK.out
      rw [HY.out] at zk
      have c0 := A.out.at 0 rfl; have c1 := A.out.at 1 rfl; have c2 := A.out.at 2 rfl; have c3 := A.out.at 3 rfl; have c4 := A.out.at 4 rfl; have c5 := A.out.at 5 rfl
      go_enter Try.func88, Try.ntmps88
      go_wp2
      refine wp_region_loose (fun _ _ _ => True) (by kernel_rfl) (by kernel_rfl) ?_
      repeat (first | (refine wpLoose_farith rfl _ _ _ _ _ rfl rfl _ _ _ rfl rfl ?_; intro _ _) | (refine wpLoose_valK rfl ?_ (fun w1 hw1 => ?_) (fun K hK => ?_); rotate_left; (focus (obtain ⟨nq, rfl⟩ := hw1; go_simp; first | done | rfl)); go_simp; refine hK _ ?_; clear hK K))
      (refine wpLoose_nil ?_; rintro _ ⟨nq, rfl⟩)
      have Bw := Lib.hid (below_drewN Bw.out nq)
      have A := Lib.hid (A.out.drewN (n := nq))
      have LY := Lib.hid (LY.out.below (below_drewN (Below.refl _ _) nq))
      clear c0 c1 c2 c3 c4 c5
      have c0 := A.out.at 0 rfl; have c1 := A.out.at 1 rfl; have c2 := A.out.at 2 rfl; have c3 := A.out.at 3 rfl; have c4 := A.out.at 4 rfl; have c5 := A.out.at 5 rfl
      go_wp2_with fail
      refine (BF.out _).mono ?_
      rintro e w1 ⟨v, rfl, hv, hb⟩
      have HV := Lib.hid hv
      clear hv
      have Bw := Lib.hid (below_step Bw.out hb)
      have A := Lib.hid (A.out.kept hb)
      have LY := Lib.hid (LY.out.below hb)
      clear c0 c1 c2 c3 c4 c5 hb
      have c0 := A.out.at 0 rfl; have c1 := A.out.at 1 rfl; have c2 := A.out.at 2 rfl; have c3 := A.out.at 3 rfl; have c4 := A.out.at 4 rfl; have c5 := A.out.at 5 rfl
      obtain rfl := HV.out (by omega)
      have zt := LY.out.W tm htm
      rw [HYT.out] at zt
      clear HV
      go_wp2_with (first | (refine wpList_farith rfl _ _ _ _ _ rfl rfl _ _ _ rfl rfl ?_; intro _ _ _; first | (rename_i a9; obtain rfl := ap_one a9) | (rename_i a9; obtain rfl := ap_two a9) | skip))
      refine (BB.out _).mono ?_
      rintro e w2 ⟨v, rfl, hv, hb⟩
      have HV := Lib.hid hv
      clear hv
      have hb := show Below w1.heap.size w1 w2 from (by first | exact hb | exact below_undrew hb)
      have Bw := Lib.hid (below_step Bw.out hb)
      have A := Lib.hid (A.out.kept hb)
      have LY := Lib.hid (LY.out.below hb)
      clear c0 c1 c2 c3 c4 c5 hb
      have c0 := A.out.at 0 rfl; have c1 := A.out.at 1 rfl; have c2 := A.out.at 2 rfl; have c3 := A.out.at 3 rfl; have c4 := A.out.at 4 rfl; have c5 := A.out.at 5 rfl
      clear HV
      have ek := LY.out.E k HK.out
      rw [HE.out] at ek
      have Bz := Lib.hid Bw.out
      have g0 := ap0_yes; have g1 := ap1_no; have g2 := ap2_no
      go_wp2_with (first | (refine wpList_farith rfl _ _ _ _ _ rfl rfl _ _ _ rfl rfl ?_; intro _ _ _; first | (rename_i a9; obtain rfl := ap_one a9) | (rename_i a9; obtain rfl := ap_two a9) | skip))
      go_ret
      rename_i k1 _ _ k2 _ _ k3
      exact ⟨_, by rw [cn_negF rfl, k3.1, k2.1, k1.1, SV.out, WF.out, WT.out, MN.out]; first | done | rfl | (congr 3; decide +kernel), rfl, by first | exact below_drewN Bz.out _ | exact below_drewN (below_drewN Bz.out _) _⟩
    · skip
      have F1 : decide ((0 : Int) ≤ f) = false := by simp; omega
      have WF := Lib.hid (wv_no (r := r) (k := k) F1)
      have F2 : decide ((0 : Int) ≤ t) = false := by simp; omega
      have WT := Lib.hid (wv_no (r := r) (k := k) F2)
      have SV := Lib.hid (slV_no (r := r) (k := k) F1 F2)
      generalize slV r k f t = V at *
      generalize hy : r.W.getD k 0 = y at *
      generalize he : r.E.getD k 0 = e at *
      have HY := Lib.hid hy
      have HE := Lib.hid he
      clear hy he
      have zk := LY.out.W k HK.out
      rw [HY.out] at zk
      have c0 := A.out.at 0 rfl; have c1 := A.out.at 1 rfl; have c2 := A.out.at 2 rfl; have c3 := A.out.at 3 rfl; have c4 := A.out.at 4 rfl; have c5 := A.out.at 5 rfl
      go_enter Try.func88, Try.ntmps88
      go_wp2
      refine wp_region_loose (fun _ _ _ => True) (by kernel_rfl) (by kernel_rfl) ?_
      repeat (first | (refine wpLoose_farith rfl _ _ _ _ _ rfl rfl _ _ _ rfl rfl ?_; intro _ _) | (refine wpLoose_valK rfl ?_ (fun w1 hw1 => ?_) (fun K hK => ?_); rotate_left; (focus (obtain ⟨nq, rfl⟩ := hw1; go_simp; first | done | rfl)); go_simp; refine hK _ ?_; clear hK K))
      (refine wpLoose_nil ?_; rintro _ ⟨nq, rfl⟩)
      have Bw := Lib.hid (below_drewN Bw.out nq)
      have A := Lib.hid (A.out.drewN (n := nq))
      have LY := Lib.hid (LY.out.below (below_drewN (Below.refl _ _) nq))
      clear c0 c1 c2 c3 c4 c5
      have c0 := A.out.at 0 rfl; have c1 := A.out.at 1 rfl; have c2 := A.out.at 2 rfl; have c3 := A.out.at 3 rfl; have c4 := A.out.at 4 rfl; have c5 := A.out.at 5 rfl
      go_wp2_with fail
      refine (BF.out _).mono ?_
      rintro e w1 ⟨v, rfl, hv, hb⟩
      have HV := Lib.hid hv
      clear hv
      have Bw := Lib.hid (below_step Bw.out hb)
      have A := Lib.hid (A.out.kept hb)
      have LY := Lib.hid (LY.out.below hb)
      clear c0 c1 c2 c3 c4 c5 hb
      have c0 := A.out.at 0 rfl; have c1 := A.out.at 1 rfl; have c2 := A.out.at 2 rfl; have c3 := A.out.at 3 rfl; have c4 := A.out.at 4 rfl; have c5 := A.out.at 5 rfl
      clear HV
      go_wp2_with (first | (refine wpList_farith rfl _ _ _ _ _ rfl rfl _ _ _ rfl rfl ?_; intro _ _ _; first | (rename_i a9; obtain rfl := ap_one a9) | (rename_i a9; obtain rfl := ap_two a9) | skip))
      refine (BB.out _).mono ?_
      rintro e w2 ⟨v, rfl, hv, hb⟩
      have HV := Lib.hid hv
      clear hv
      have hb := show Below w1.heap.size w1 w2 from (by first | exact hb | exact below_undrew hb)
      have Bw := Lib.hid (below_step Bw.out hb)
      have A := Lib.hid (A.out.kept hb)
      have LY := Lib.hid (LY.out.below hb)
      clear c0 c1 c2 c3 c4 c5 hb
      have c0 := A.out.at 0 rfl; have c1 := A.out.at 1 rfl; have c2 := A.out.at 2 rfl; have c3 := A.out.at 3 rfl; have c4 := A.out.at 4 rfl; have c5 := A.out.at 5 rfl
      clear HV
      have ek := LY.out.E k HK.out
      rw [HE.out] at ek
      have Bz := Lib.hid Bw.out
      have g0 := ap0_yes; have g1 := ap1_no; have g2 := ap2_no
      go_wp2_with (first | (refine wpList_farith rfl _ _ _ _ _ rfl rfl _ _ _ rfl rfl ?_; intro _ _ _; first | (rename_i a9; obtain rfl := ap_one a9) | (rename_i a9; obtain rfl := ap_two a9) | skip))
      go_ret
      exact ⟨0, by rw [SV.out], rfl, Bz.out⟩
end Go.Proofs.Ytcjhaeiknenajaa
