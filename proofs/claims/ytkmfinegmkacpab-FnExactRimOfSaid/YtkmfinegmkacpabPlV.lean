/- Whether a plate is valid: both sides. -/
import Derived.Test.YtkmfinegmkacpabPl
import Derived.Test.YtkmfinegmkacpabIn
import Derived.Test.YtkmfinegmkacpabFinL
import Derived.Test.YtkmfinegmkacpabAllP
import Derived.Deep.RegionHeld3
namespace Go.Proofs.Ytkmfinegmkacpab
open Go.RowKit
set_option linter.unusedVariables false

theorem inb_any (x lo hi : Int) (b : Bool) (h : (decide (lo ≤ x) && decide (x ≤ hi)) = b) (w : World) : Calls Try.prog 72 #[.int .i64 x, .int .i64 lo, .int .i64 hi] w (Bol b w) := by
  refine (in_any x lo hi w).mono ?_
  rintro e w' ⟨he, hw⟩
  exact ⟨by rw [he, h], 0, hw.symm⟩
def exX (r : PL) : Bool := decide (1 ≤ r.X) && decide (r.X ≤ 12)
def exY (r : PL) : Bool := decide (1 ≤ r.Y) && decide (r.Y ≤ 12)
def lenP (r : PL) : Bool := decide ((r.W.length : Int) = r.X * r.Y) && decide ((r.E.length : Int) = r.X * r.Y) && decide ((r.G.length : Int) = r.X * r.Y) && decide ((r.H.length : Int) = r.X * r.Y)
def hPl (r : PL) : Bool := exX r && exY r && lenP r
def vPl (r : PL) : Bool := hPl r && r.W.all (fin .f32) && r.E.all pos && r.G.all (fin .f32)
/-- the form of a plate: its sides and its lists -/
structure PlN (r : PL) (n : Nat) : Prop where
  X1 : 1 ≤ r.X
  X2 : r.X ≤ 12
  Y1 : 1 ≤ r.Y
  Y2 : r.Y ≤ 12
  xy : r.X * r.Y = (n : Int)
  W : r.W.length = n
  E : r.E.length = n
  G : r.G.length = n
  H : r.H.length = n
  p : 1 ≤ n
  q : n ≤ 144
theorem ext_n {x y : Int} (a : 1 ≤ x) (b : x ≤ 12) (c : 1 ≤ y) (d : y ≤ 12) : ∃ n : Nat, x * y = (n : Int) ∧ 1 ≤ n ∧ n ≤ 144 := by
  have h1 : x * y ≤ 12 * 12 := Int.mul_le_mul b d (by omega) (by omega)
  have h2 : 1 * 1 ≤ x * y := Int.mul_le_mul a c (by omega) (by omega)
  exact ⟨(x * y).toNat, by omega, by omega, by omega⟩
theorem PlN.of {r : PL} (h : hPl r = true) : PlN r r.W.length := by
  unfold hPl exX exY lenP at h
  simp only [Bool.and_eq_true, decide_eq_true_eq] at h
  obtain ⟨⟨⟨a, b⟩, c, d⟩, ⟨⟨e, f⟩, g⟩, i⟩ := h
  obtain ⟨n, hn, p, q⟩ := ext_n a b c d
  exact ⟨a, b, c, d, by omega, rfl, by omega, by omega, by omega, by omega, by omega⟩
theorem PlN.ofV {r : PL} (h : vPl r = true) : PlN r r.W.length := PlN.of (by unfold vPl at h; simp only [Bool.and_eq_true] at h; exact h.1.1.1)
theorem vPl_no {r : PL} (h : hPl r = false) : vPl r = false := by unfold vPl; rw [h]; rfl
theorem hPl_x {r : PL} (h : exX r = false) : hPl r = false := by unfold hPl; rw [h]; rfl
theorem hPl_y {r : PL} (h : exY r = false) : hPl r = false := by unfold hPl; rw [h]; simp
theorem hPl_l {r : PL} (h : lenP r = false) : hPl r = false := by unfold hPl; rw [h]; simp

theorem specPl_x (a b c d : Value) (r : PL) (p : Nat) (w : World) (A0 : Cells w p (pvs r a b c d)) (h : PRow w a b c d r) (hx : exX r = false) : Calls Try.prog 59 #[.pointer (some ⟨p, 0, none⟩)] w (Bol false w) := by
  have A := Lib.hid A0
  have c0 := A.out.at 0 rfl
  have c1 := A.out.at 1 rfl
  have c2 := A.out.at 2 rfl
  have c3 := A.out.at 3 rfl
  have c4 := A.out.at 4 rfl
  have c5 := A.out.at 5 rfl
  clear A0 h
  go_enter Try.func59, Try.ntmps59
  go_wp2_with fail
  refine (inb_any r.X 1 12 false hx _).mono ?_
  rintro e w' ⟨rfl, n1, rfl⟩
  go_wp2
  go_ret
  exact ⟨rfl, _, rfl⟩

theorem specPl_y (a b c d : Value) (r : PL) (p : Nat) (w : World) (A0 : Cells w p (pvs r a b c d)) (h : PRow w a b c d r) (hx : exX r = true) (hy : exY r = false) : Calls Try.prog 59 #[.pointer (some ⟨p, 0, none⟩)] w (Bol false w) := by
  have A := Lib.hid A0
  have c0 := A.out.at 0 rfl
  have c1 := A.out.at 1 rfl
  have c2 := A.out.at 2 rfl
  have c3 := A.out.at 3 rfl
  have c4 := A.out.at 4 rfl
  have c5 := A.out.at 5 rfl
  clear A0 h
  go_enter Try.func59, Try.ntmps59
  go_wp2_with fail
  refine (inb_any r.X 1 12 true hx _).mono ?_
  rintro e w' ⟨rfl, n1, rfl⟩
  go_wp2_with fail
  refine (inb_any r.Y 1 12 false hy _).mono ?_
  rintro e w' ⟨rfl, n2, rfl⟩
  go_wp2
  go_ret
  exact ⟨rfl, _, rfl⟩

theorem specPl_l (a b c d : Value) (r : PL) (p : Nat) (w : World) (A0 : Cells w p (pvs r a b c d)) (h : PRow w a b c d r) (hx : exX r = true) (hy : exY r = true) (hl : lenP r = false) : Calls Try.prog 59 #[.pointer (some ⟨p, 0, none⟩)] w (Bol false w) := by
  have A := Lib.hid A0
  clear A0
  have hn : ∃ n : Nat, r.X * r.Y = (n : Int) ∧ 1 ≤ n ∧ n ≤ 144 := by
    unfold exX at hx; unfold exY at hy
    simp only [Bool.and_eq_true, decide_eq_true_eq] at hx hy
    exact ext_n hx.1 hx.2 hy.1 hy.2
  obtain ⟨n, hn, n0, n9⟩ := hn
  obtain ⟨a1, a2, rfl⟩ := h.W.shape
  obtain ⟨b1, b2, rfl⟩ := h.E.shape
  obtain ⟨d1, d2, rfl⟩ := h.G.shape
  obtain ⟨e1, e2, rfl⟩ := h.H.shape
  clear h
  unfold lenP at hl
  rw [hn] at hl
  have HX := Lib.hid hx
  have HY := Lib.hid hy
  clear hx hy
  generalize r.W.length = m0 at *
  generalize r.E.length = m1 at *
  generalize r.G.length = m2 at *
  generalize r.H.length = m3 at *
  by_cases g0 : m0 = n
  · skip
    by_cases g1 : m1 = n
    · skip
      by_cases g2 : m2 = n
      · skip
        have g3 : ¬ m3 = n := by intro e; subst e; simp [g0, g1, g2] at hl
        have e0 : (m0 : Int) = r.X * r.Y := by omega
        have e0b : ((m0 : Int) == r.X * r.Y) = true := by simp; omega
        have e0c : ((m0 : Int) != r.X * r.Y) = false := by simp; omega
        have e0d : ((m0 : Int) == (n : Int)) = true := by simp; omega
        have e0e : ((m0 : Int) != (n : Int)) = false := by simp; omega
        clear e0
        have e1 : (m1 : Int) = r.X * r.Y := by omega
        have e1b : ((m1 : Int) == r.X * r.Y) = true := by simp; omega
        have e1c : ((m1 : Int) != r.X * r.Y) = false := by simp; omega
        have e1d : ((m1 : Int) == (n : Int)) = true := by simp; omega
        have e1e : ((m1 : Int) != (n : Int)) = false := by simp; omega
        clear e1
        have e2 : (m2 : Int) = r.X * r.Y := by omega
        have e2b : ((m2 : Int) == r.X * r.Y) = true := by simp; omega
        have e2c : ((m2 : Int) != r.X * r.Y) = false := by simp; omega
        have e2d : ((m2 : Int) == (n : Int)) = true := by simp; omega
        have e2e : ((m2 : Int) != (n : Int)) = false := by simp; omega
        clear e2
        have f3b : ((m3 : Int) == r.X * r.Y) = false := by simp; omega
        have f3c : ((m3 : Int) != r.X * r.Y) = true := by simp; omega
        have f3d : ((m3 : Int) == (n : Int)) = false := by simp; omega
        have f3e : ((m3 : Int) != (n : Int)) = true := by simp; omega
        clear hl g0 g1 g2 g3
        have c0 := A.out.at 0 rfl
        have c1 := A.out.at 1 rfl
        have c2 := A.out.at 2 rfl
        have c3 := A.out.at 3 rfl
        have c4 := A.out.at 4 rfl
        have c5 := A.out.at 5 rfl
        go_enter Try.func59, Try.ntmps59
        go_wp2_with fail
        refine (inb_any r.X 1 12 true HX.out _).mono ?_
        rintro e w' ⟨rfl, n1, rfl⟩
        go_wp2_with fail
        refine (inb_any r.Y 1 12 true HY.out _).mono ?_
        rintro e w' ⟨rfl, n2, rfl⟩
        go_wp2
        refine wp_region_loose (fun _ _ _ => True) (by kernel_rfl) (by kernel_rfl) ?_
        repeat (first | (refine wpLoose_farith rfl _ _ _ _ _ rfl rfl _ _ _ rfl rfl ?_; intro _ _) | (refine wpLoose_valK rfl ?_ (fun w1 hw1 => ?_) (fun K hK => ?_); rotate_left; (focus (obtain ⟨nq, rfl⟩ := hw1; go_simp; first | done | rfl)); go_simp; refine hK _ ?_; clear hK K))
        (refine wpLoose_nil ?_; rintro _ ⟨nq, rfl⟩)
        go_wp2
        go_ret
        exact ⟨rfl, _, rfl⟩
      · skip
        have e0 : (m0 : Int) = r.X * r.Y := by omega
        have e0b : ((m0 : Int) == r.X * r.Y) = true := by simp; omega
        have e0c : ((m0 : Int) != r.X * r.Y) = false := by simp; omega
        have e0d : ((m0 : Int) == (n : Int)) = true := by simp; omega
        have e0e : ((m0 : Int) != (n : Int)) = false := by simp; omega
        clear e0
        have e1 : (m1 : Int) = r.X * r.Y := by omega
        have e1b : ((m1 : Int) == r.X * r.Y) = true := by simp; omega
        have e1c : ((m1 : Int) != r.X * r.Y) = false := by simp; omega
        have e1d : ((m1 : Int) == (n : Int)) = true := by simp; omega
        have e1e : ((m1 : Int) != (n : Int)) = false := by simp; omega
        clear e1
        have f2b : ((m2 : Int) == r.X * r.Y) = false := by simp; omega
        have f2c : ((m2 : Int) != r.X * r.Y) = true := by simp; omega
        have f2d : ((m2 : Int) == (n : Int)) = false := by simp; omega
        have f2e : ((m2 : Int) != (n : Int)) = true := by simp; omega
        clear hl g0 g1 g2
        have c0 := A.out.at 0 rfl
        have c1 := A.out.at 1 rfl
        have c2 := A.out.at 2 rfl
        have c3 := A.out.at 3 rfl
        have c4 := A.out.at 4 rfl
        have c5 := A.out.at 5 rfl
        go_enter Try.func59, Try.ntmps59
        go_wp2_with fail
        refine (inb_any r.X 1 12 true HX.out _).mono ?_
        rintro e w' ⟨rfl, n1, rfl⟩
        go_wp2_with fail
        refine (inb_any r.Y 1 12 true HY.out _).mono ?_
        rintro e w' ⟨rfl, n2, rfl⟩
        go_wp2
        refine wp_region_loose (fun _ _ _ => True) (by kernel_rfl) (by kernel_rfl) ?_
        repeat (first | (refine wpLoose_farith rfl _ _ _ _ _ rfl rfl _ _ _ rfl rfl ?_; intro _ _) | (refine wpLoose_valK rfl ?_ (fun w1 hw1 => ?_) (fun K hK => ?_); rotate_left; (focus (obtain ⟨nq, rfl⟩ := hw1; go_simp; first | done | rfl)); go_simp; refine hK _ ?_; clear hK K))
        (refine wpLoose_nil ?_; rintro _ ⟨nq, rfl⟩)
        go_wp2
        go_ret
        exact ⟨rfl, _, rfl⟩
    · skip
      have e0 : (m0 : Int) = r.X * r.Y := by omega
      have e0b : ((m0 : Int) == r.X * r.Y) = true := by simp; omega
      have e0c : ((m0 : Int) != r.X * r.Y) = false := by simp; omega
      have e0d : ((m0 : Int) == (n : Int)) = true := by simp; omega
      have e0e : ((m0 : Int) != (n : Int)) = false := by simp; omega
      clear e0
      have f1b : ((m1 : Int) == r.X * r.Y) = false := by simp; omega
      have f1c : ((m1 : Int) != r.X * r.Y) = true := by simp; omega
      have f1d : ((m1 : Int) == (n : Int)) = false := by simp; omega
      have f1e : ((m1 : Int) != (n : Int)) = true := by simp; omega
      clear hl g0 g1
      have c0 := A.out.at 0 rfl
      have c1 := A.out.at 1 rfl
      have c2 := A.out.at 2 rfl
      have c3 := A.out.at 3 rfl
      have c4 := A.out.at 4 rfl
      have c5 := A.out.at 5 rfl
      go_enter Try.func59, Try.ntmps59
      go_wp2_with fail
      refine (inb_any r.X 1 12 true HX.out _).mono ?_
      rintro e w' ⟨rfl, n1, rfl⟩
      go_wp2_with fail
      refine (inb_any r.Y 1 12 true HY.out _).mono ?_
      rintro e w' ⟨rfl, n2, rfl⟩
      go_wp2
      refine wp_region_loose (fun _ _ _ => True) (by kernel_rfl) (by kernel_rfl) ?_
      repeat (first | (refine wpLoose_farith rfl _ _ _ _ _ rfl rfl _ _ _ rfl rfl ?_; intro _ _) | (refine wpLoose_valK rfl ?_ (fun w1 hw1 => ?_) (fun K hK => ?_); rotate_left; (focus (obtain ⟨nq, rfl⟩ := hw1; go_simp; first | done | rfl)); go_simp; refine hK _ ?_; clear hK K))
      (refine wpLoose_nil ?_; rintro _ ⟨nq, rfl⟩)
      go_wp2
      go_ret
      exact ⟨rfl, _, rfl⟩
  · skip
    have f0b : ((m0 : Int) == r.X * r.Y) = false := by simp; omega
    have f0c : ((m0 : Int) != r.X * r.Y) = true := by simp; omega
    have f0d : ((m0 : Int) == (n : Int)) = false := by simp; omega
    have f0e : ((m0 : Int) != (n : Int)) = true := by simp; omega
    clear hl g0
    have c0 := A.out.at 0 rfl
    have c1 := A.out.at 1 rfl
    have c2 := A.out.at 2 rfl
    have c3 := A.out.at 3 rfl
    have c4 := A.out.at 4 rfl
    have c5 := A.out.at 5 rfl
    go_enter Try.func59, Try.ntmps59
    go_wp2_with fail
    refine (inb_any r.X 1 12 true HX.out _).mono ?_
    rintro e w' ⟨rfl, n1, rfl⟩
    go_wp2_with fail
    refine (inb_any r.Y 1 12 true HY.out _).mono ?_
    rintro e w' ⟨rfl, n2, rfl⟩
    go_wp2
    refine wp_region_loose (fun _ _ _ => True) (by kernel_rfl) (by kernel_rfl) ?_
    repeat (first | (refine wpLoose_farith rfl _ _ _ _ _ rfl rfl _ _ _ rfl rfl ?_; intro _ _) | (refine wpLoose_valK rfl ?_ (fun w1 hw1 => ?_) (fun K hK => ?_); rotate_left; (focus (obtain ⟨nq, rfl⟩ := hw1; go_simp; first | done | rfl)); go_simp; refine hK _ ?_; clear hK K))
    (refine wpLoose_nil ?_; rintro _ ⟨nq, rfl⟩)
    go_wp2
    go_ret
    exact ⟨rfl, _, rfl⟩

theorem all_no {f : Nat → Bool} {zs : List Nat} {k : Nat} (hk : k < zs.length) (h : f (zs.getD k 0) = false) : zs.all f = false := by
  rw [List.all_eq_false]
  exact ⟨zs.getD k 0, by simp [List.getD_eq_getElem?_getD, hk], by rw [h]; decide⟩
theorem all_yes {f : Nat → Bool} {zs : List Nat} (h : ∀ j, j < zs.length → f (zs.getD j 0) = true) : zs.all f = true := by
  rw [List.all_eq_true]
  intro x hx
  obtain ⟨i, hi, rfl⟩ := List.mem_iff_getElem.1 hx
  have := h i hi
  simpa [List.getD_eq_getElem?_getD, hi] using this
theorem all_at {f : Nat → Bool} {zs : List Nat} {k : Nat} (h : zs.all f = true) (hk : k < zs.length) : f (zs.getD k 0) = true := by
  rw [List.all_eq_true] at h
  exact h _ (by simp [List.getD_eq_getElem?_getD, hk])
theorem vPl_e {r : PL} (h : r.E.all pos = false) : vPl r = false := by unfold vPl; rw [h]; simp

set_option maxRecDepth 10000 in
set_option maxHeartbeats 1600000 in
theorem specPl_ok (a b c d : Value) (r : PL) (p : Nat) (w : World) (A0 : Cells w p (pvs r a b c d)) (h : PRow w a b c d r) (hb : hPl r = true) : Calls Try.prog 59 #[.pointer (some ⟨p, 0, none⟩)] w (Bol (vPl r) w) := by
  have A := Lib.hid A0
  clear A0
  have FR := Lib.hid h
  obtain ⟨x1, x2, y1, y2, xy, lW, lE, lG, lH, n0, n9⟩ := PlN.of hb
  have HX : Hid ((decide (1 ≤ r.X) && decide (r.X ≤ 12)) = true) := Lib.hid (by simp [x1, x2])
  have HY : Hid ((decide (1 ≤ r.Y) && decide (r.Y ≤ 12)) = true) := Lib.hid (by simp [y1, y2])
  have VE : Hid (vPl r = (r.W.all (fin .f32) && r.E.all pos && r.G.all (fin .f32))) := Lib.hid (by unfold vPl; rw [hb]; simp)
  clear hb x1 x2 y1 y2
  have VN := Lib.hid (fun k (hk : k < r.E.length) (h : pos (r.E.getD k 0) = false) => vPl_e (all_no hk h))
  have VY := Lib.hid (fun h => all_yes (f := pos) (zs := r.E) h)
  obtain ⟨b1, o1, k1, rfl, h1⟩ := h.E.cells (by omega)
  obtain ⟨a1, a2, rfl⟩ := h.W.shape
  obtain ⟨d1, d2, rfl⟩ := h.G.shape
  obtain ⟨e1, e2, rfl⟩ := h.H.shape
  clear h
  rw [lE] at h1 VN VY
  have c0 := A.out.at 0 rfl
  have c1 := A.out.at 1 rfl
  have c2 := A.out.at 2 rfl
  have c3 := A.out.at 3 rfl
  have c4 := A.out.at 4 rfl
  have c5 := A.out.at 5 rfl
  rw [lE] at c3
  rw [lG] at c4
  rw [lH] at c5
  have FW := Lib.hid FR.out.W
  have FG := Lib.hid FR.out.G
  rw [lG] at FG
  generalize r.W.length = n at *
  generalize vPl r = bb at *
  clear lW lE lG lH FR
  have H1 := Lib.hid h1
  clear h1
  have f1 : ((n : Int) == r.X * r.Y) = true := by simp [xy]
  have f2 : ((n : Int) != r.X * r.Y) = false := by simp [xy]

  go_enter Try.func59, Try.ntmps59
  go_wp2_with fail
  refine (inb_any r.X 1 12 true HX.out _).mono ?_
  rintro e w' ⟨rfl, n1, rfl⟩
  go_wp2_with fail
  refine (inb_any r.Y 1 12 true HY.out _).mono ?_
  rintro e w' ⟨rfl, n2, rfl⟩
  go_wp2
  refine wp_region_loose (fun _ _ _ => True) (by kernel_rfl) (by kernel_rfl) ?_
  repeat (first | (refine wpLoose_farith rfl _ _ _ _ _ rfl rfl _ _ _ rfl rfl ?_; intro _ _) | (refine wpLoose_valK rfl ?_ (fun w1 hw1 => ?_) (fun K hK => ?_); rotate_left; (focus (obtain ⟨nq, rfl⟩ := hw1; go_simp; first | done | rfl)); go_simp; refine hK _ ?_; clear hK K))
  (refine wpLoose_nil ?_; rintro _ ⟨nq, rfl⟩)
  go_wp2
  go_loopw [4] (fun i wr => ∃ k q : Nat, k ≤ n ∧ i = .int .i64 k ∧ Hid (∀ j, j < k → pos (r.E.getD j 0) = true) ∧ wr = w.drewN q) (fun i _ => n - (intOf i).toNat)
  case atStart => exact ⟨0, _, Nat.zero_le _, rfl, Lib.hid (fun j hj => absurd hj (Nat.not_lt_zero _)), rfl⟩
  case round =>
    obtain ⟨k, q, hk, rfl, hall, rfl⟩ := hrel
    by_cases hlt : k < n
    · have z1 := H1.out k hlt
      have hi : (0 : Int) ≤ (k : Int) := by omega
      have hi' : (k : Int) < (n : Int) := by omega
      have VNk := Lib.hid (VN.out k hlt)
      generalize hy1 : (r.E.getD k 0) = y1 at *
      cases B1 : pos y1
      · have V := Lib.hid (VNk.out B1)
        clear hy1
        go_wp2_with fail
        refine (specAbove_any y1 _).mono ?_
        rw [B1]
        rintro e w' ⟨rfl, n3, rfl⟩
        go_wp2
        go_ret
        exact ⟨ret_b V.out, _, rfl⟩
      · have V := Lib.hid (show pos (r.E.getD k 0) = true by rw [hy1, B1])
        clear hy1
        go_wp2_with fail
        refine (specAbove_any y1 _).mono ?_
        rw [B1]
        rintro e w' ⟨rfl, n3, rfl⟩
        go_wp2
        go_roundw
        case rel => exact ⟨k + 1, _, by omega, by go_num, Lib.hid (fun j hj => by rcases Nat.lt_succ_iff_lt_or_eq.1 hj with h | h; exact hall.out j h; subst h; exact V.out), rfl⟩
        case measure => simp [intOf]; omega
    · have e := Lib.hid (show k = n by omega)
      have VE2 : Hid (bb = (r.W.all (fin .f32) && r.G.all (fin .f32))) := Lib.hid (by have := e.out; subst this; rw [VE.out, VY.out hall.out]; simp)
      cases B0 : r.W.all (fin .f32)
      · have V : Hid (bb = false) := Lib.hid (by rw [VE2.out, B0]; rfl)
        go_wp2_with fail
        refine (specFinL_any _ _ _ (FW.out.drewN)).mono ?_
        rw [B0]
        rintro e w' ⟨rfl, n3, rfl⟩
        go_wp2
        go_ret
        exact ⟨ret_b V.out, _, rfl⟩
      · have V : Hid (bb = r.G.all (fin .f32)) := Lib.hid (by rw [VE2.out, B0]; rfl)
        go_wp2_with fail
        refine (specFinL_any _ _ _ (FW.out.drewN)).mono ?_
        rw [B0]
        rintro e w' ⟨rfl, n3, rfl⟩
        go_wp2_with fail
        refine (specFinL_any _ _ _ (FG.out.drewN)).mono ?_
        rintro e w' ⟨rfl, n4, rfl⟩
        go_wp2
        go_ret
        exact ⟨ret_b V.out, _, rfl⟩

theorem specPl_any (a b c d : Value) (r : PL) (p : Nat) (w : World) (A0 : Cells w p (pvs r a b c d)) (h : PRow w a b c d r) : Calls Try.prog 59 #[.pointer (some ⟨p, 0, none⟩)] w (Bol (vPl r) w) := by
  cases hx : exX r
  · rw [vPl_no (hPl_x hx)]; exact specPl_x a b c d r p w A0 h hx
  · cases hy : exY r
    · rw [vPl_no (hPl_y hy)]; exact specPl_y a b c d r p w A0 h hx hy
    · cases hl : lenP r
      · rw [vPl_no (hPl_l hl)]; exact specPl_l a b c d r p w A0 h hx hy hl
      · exact specPl_ok a b c d r p w A0 h (by unfold hPl; rw [hx, hy, hl]; rfl)

theorem extentOf_any (x y : Int) (a b c d : Value) (w : World) : Calls Try.prog 99 #[.agg #[.int .i64 x, .int .i64 y, a, b, c, d]] w fun e w' => e = .returned (.agg #[.int .i64 x, .int .i64 y]) ∧ Below w.heap.size w w' := by
  go_enter Try.func99, Try.ntmps99
  go_wp2
  refine bodyPost_ret (v := .agg #[.int .i64 x, .int .i64 y]) ?_ rfl ?_
  · rw [results_cell1 rfl]
    go_simp
  · exact ⟨rfl, by first | exact below_al1 _ _ | exact below_al2 _ _ _ | exact below_al3 _ _ _ _ | exact below_al4 _ _ _ _ _⟩
theorem isExtent_any (x y : Int) (w : World) : Calls Try.prog 98 #[.agg #[.int .i64 x, .int .i64 y]] w (BolB (decide (1 ≤ x) && decide (x ≤ 12) && (decide (1 ≤ y) && decide (y ≤ 12))) w) := by
  by_cases h1 : 1 ≤ x
  · have f1 : decide ((1 : Int) ≤ x) = true := by simp; omega
    by_cases h2 : x ≤ 12
    · have f2 : decide (x ≤ (12 : Int)) = true := by simp; omega
      by_cases h3 : 1 ≤ y
      · have f3 : decide ((1 : Int) ≤ y) = true := by simp; omega
        go_enter Try.func98, Try.ntmps98
        go_wp2
        go_ret
        exact ⟨by rw [f1, f2, f3]; simp, below_al1 _ _⟩
      · have f3 : decide ((1 : Int) ≤ y) = false := by simp; omega
        go_enter Try.func98, Try.ntmps98
        go_wp2
        go_ret
        exact ⟨by first | (simp; done) | (simp; intros; omega), below_al1 _ _⟩
    · have f2 : decide (x ≤ (12 : Int)) = false := by simp; omega
      go_enter Try.func98, Try.ntmps98
      go_wp2
      go_ret
      exact ⟨by first | (simp; done) | (simp; intros; omega), below_al1 _ _⟩
  · have f1 : decide ((1 : Int) ≤ x) = false := by simp; omega
    go_enter Try.func98, Try.ntmps98
    go_wp2
    go_ret
    exact ⟨by first | (simp; done) | (simp; intros; omega), below_al1 _ _⟩
theorem countOf_any (x y : Int) (n : Nat) (a b c d : Value) (w : World) (hn : x * y = (n : Int)) (n9 : n ≤ 144) : Calls Try.prog 100 #[.agg #[.int .i64 x, .int .i64 y, a, b, c, d]] w fun e w' => e = .returned (.int .i64 (n : Int)) ∧ Below w.heap.size w w' := by
  go_enter Try.func100, Try.ntmps100
  go_wp2
  go_ret
  exact ⟨rfl, below_al1 _ _⟩
theorem exB {r : PL} {b : Bool} (h : (exX r && exY r) = b) : (decide (1 ≤ r.X) && decide (r.X ≤ 12) && (decide (1 ≤ r.Y) && decide (r.Y ≤ 12))) = b := h

theorem implPl_x (a b c d : Value) (r : PL) (w : World) (h : PRow w a b c d r) (hx : (exX r && exY r) = false) : Calls Try.prog 61 #[.agg #[.int .i64 r.X, .int .i64 r.Y, a, b, c, d]] w (BolB false w) := by
  clear h
  have A := Lib.hid (Cells.made w (pvs r a b c d) 29)
  have Bw := Lib.hid (below_al1 w (.cells (pvs r a b c d).toArray 29))
  go_enter Try.func61, Try.ntmps61
  go_wp2_with fail
  refine (extentOf_any _ _ _ _ _ _ _).mono ?_
  rintro e w1 ⟨rfl, hb⟩
  have Bw := Lib.hid (below_step Bw.out hb); have A := Lib.hid (A.out.kept hb); have c0 := A.out.at 0 rfl; have c1 := A.out.at 1 rfl; have c2 := A.out.at 2 rfl; have c3 := A.out.at 3 rfl; have c4 := A.out.at 4 rfl; have c5 := A.out.at 5 rfl; clear hb
  go_wp2_with fail
  refine (isExtent_any _ _ _).mono ?_
  rw [exB hx]
  rintro e w2 ⟨rfl, hb⟩
  clear c0 c1 c2 c3 c4 c5
  have Bw := Lib.hid (below_step Bw.out hb); have A := Lib.hid (A.out.kept hb); have c0 := A.out.at 0 rfl; have c1 := A.out.at 1 rfl; have c2 := A.out.at 2 rfl; have c3 := A.out.at 3 rfl; have c4 := A.out.at 4 rfl; have c5 := A.out.at 5 rfl; clear hb
  go_wp2
  go_ret
  exact ⟨rfl, Bw.out⟩

theorem implPl_l (a b c d : Value) (r : PL) (w : World) (h : PRow w a b c d r) (hx : exX r = true) (hy : exY r = true) (hl : lenP r = false) : Calls Try.prog 61 #[.agg #[.int .i64 r.X, .int .i64 r.Y, a, b, c, d]] w (BolB false w) := by
  have hn : ∃ n : Nat, r.X * r.Y = (n : Int) ∧ 1 ≤ n ∧ n ≤ 144 := by
    unfold exX at hx; unfold exY at hy
    simp only [Bool.and_eq_true, decide_eq_true_eq] at hx hy
    exact ext_n hx.1 hx.2 hy.1 hy.2
  obtain ⟨n, hn, n0, n9⟩ := hn
  obtain ⟨a1, a2, rfl⟩ := h.W.shape
  obtain ⟨b1, b2, rfl⟩ := h.E.shape
  obtain ⟨d1, d2, rfl⟩ := h.G.shape
  obtain ⟨e1, e2, rfl⟩ := h.H.shape
  clear h
  unfold lenP at hl
  rw [hn] at hl
  have HX := Lib.hid hx
  have HY := Lib.hid hy
  clear hx hy
  generalize r.W.length = m0 at *
  generalize r.E.length = m1 at *
  generalize r.G.length = m2 at *
  generalize r.H.length = m3 at *
  by_cases g0 : m0 = n
  · skip
    by_cases g1 : m1 = n
    · skip
      by_cases g2 : m2 = n
      · skip
        have g3 : ¬ m3 = n := by intro e; subst e; simp [g0, g1, g2] at hl
        have e0 : (m0 : Int) = r.X * r.Y := by omega
        have e0b : ((m0 : Int) == r.X * r.Y) = true := by simp; omega
        have e0c : ((m0 : Int) != r.X * r.Y) = false := by simp; omega
        have e0d : ((m0 : Int) == (n : Int)) = true := by simp; omega
        have e0e : ((m0 : Int) != (n : Int)) = false := by simp; omega
        clear e0
        have e1 : (m1 : Int) = r.X * r.Y := by omega
        have e1b : ((m1 : Int) == r.X * r.Y) = true := by simp; omega
        have e1c : ((m1 : Int) != r.X * r.Y) = false := by simp; omega
        have e1d : ((m1 : Int) == (n : Int)) = true := by simp; omega
        have e1e : ((m1 : Int) != (n : Int)) = false := by simp; omega
        clear e1
        have e2 : (m2 : Int) = r.X * r.Y := by omega
        have e2b : ((m2 : Int) == r.X * r.Y) = true := by simp; omega
        have e2c : ((m2 : Int) != r.X * r.Y) = false := by simp; omega
        have e2d : ((m2 : Int) == (n : Int)) = true := by simp; omega
        have e2e : ((m2 : Int) != (n : Int)) = false := by simp; omega
        clear e2
        have f3b : ((m3 : Int) == r.X * r.Y) = false := by simp; omega
        have f3c : ((m3 : Int) != r.X * r.Y) = true := by simp; omega
        have f3d : ((m3 : Int) == (n : Int)) = false := by simp; omega
        have f3e : ((m3 : Int) != (n : Int)) = true := by simp; omega
        clear hl g0 g1 g2 g3
        have A := Lib.hid (Cells.made w (pvs r (.slice a1 m0 a2) (.slice b1 m1 b2) (.slice d1 m2 d2) (.slice e1 m3 e2)) 29)
        have Bw := Lib.hid (below_al1 w (.cells (pvs r (.slice a1 m0 a2) (.slice b1 m1 b2) (.slice d1 m2 d2) (.slice e1 m3 e2)).toArray 29))
        have HN := Lib.hid hn
        have N9 := Lib.hid n9
        go_enter Try.func61, Try.ntmps61
        have HXY : (exX r && exY r) = true := by rw [HX.out, HY.out]; rfl
        go_wp2_with fail
        refine (extentOf_any _ _ _ _ _ _ _).mono ?_
        rintro e w1 ⟨rfl, hb⟩
        have Bw := Lib.hid (below_step Bw.out hb); have A := Lib.hid (A.out.kept hb); have c0 := A.out.at 0 rfl; have c1 := A.out.at 1 rfl; have c2 := A.out.at 2 rfl; have c3 := A.out.at 3 rfl; have c4 := A.out.at 4 rfl; have c5 := A.out.at 5 rfl; clear hb
        go_wp2_with fail
        refine (isExtent_any _ _ _).mono ?_
        rw [exB HXY]
        rintro e w2 ⟨rfl, hb⟩
        clear c0 c1 c2 c3 c4 c5
        have Bw := Lib.hid (below_step Bw.out hb); have A := Lib.hid (A.out.kept hb); have c0 := A.out.at 0 rfl; have c1 := A.out.at 1 rfl; have c2 := A.out.at 2 rfl; have c3 := A.out.at 3 rfl; have c4 := A.out.at 4 rfl; have c5 := A.out.at 5 rfl; clear hb
        go_wp2_with fail
        refine (countOf_any _ _ n _ _ _ _ _ HN.out N9.out).mono ?_
        rintro e w3 ⟨rfl, hb⟩
        clear c0 c1 c2 c3 c4 c5
        have Bw := Lib.hid (below_step Bw.out hb); have A := Lib.hid (A.out.kept hb); have c0 := A.out.at 0 rfl; have c1 := A.out.at 1 rfl; have c2 := A.out.at 2 rfl; have c3 := A.out.at 3 rfl; have c4 := A.out.at 4 rfl; have c5 := A.out.at 5 rfl; clear hb
        go_wp2
        go_ret
        exact ⟨rfl, Bw.out⟩
      · skip
        have e0 : (m0 : Int) = r.X * r.Y := by omega
        have e0b : ((m0 : Int) == r.X * r.Y) = true := by simp; omega
        have e0c : ((m0 : Int) != r.X * r.Y) = false := by simp; omega
        have e0d : ((m0 : Int) == (n : Int)) = true := by simp; omega
        have e0e : ((m0 : Int) != (n : Int)) = false := by simp; omega
        clear e0
        have e1 : (m1 : Int) = r.X * r.Y := by omega
        have e1b : ((m1 : Int) == r.X * r.Y) = true := by simp; omega
        have e1c : ((m1 : Int) != r.X * r.Y) = false := by simp; omega
        have e1d : ((m1 : Int) == (n : Int)) = true := by simp; omega
        have e1e : ((m1 : Int) != (n : Int)) = false := by simp; omega
        clear e1
        have f2b : ((m2 : Int) == r.X * r.Y) = false := by simp; omega
        have f2c : ((m2 : Int) != r.X * r.Y) = true := by simp; omega
        have f2d : ((m2 : Int) == (n : Int)) = false := by simp; omega
        have f2e : ((m2 : Int) != (n : Int)) = true := by simp; omega
        clear hl g0 g1 g2
        have A := Lib.hid (Cells.made w (pvs r (.slice a1 m0 a2) (.slice b1 m1 b2) (.slice d1 m2 d2) (.slice e1 m3 e2)) 29)
        have Bw := Lib.hid (below_al1 w (.cells (pvs r (.slice a1 m0 a2) (.slice b1 m1 b2) (.slice d1 m2 d2) (.slice e1 m3 e2)).toArray 29))
        have HN := Lib.hid hn
        have N9 := Lib.hid n9
        go_enter Try.func61, Try.ntmps61
        have HXY : (exX r && exY r) = true := by rw [HX.out, HY.out]; rfl
        go_wp2_with fail
        refine (extentOf_any _ _ _ _ _ _ _).mono ?_
        rintro e w1 ⟨rfl, hb⟩
        have Bw := Lib.hid (below_step Bw.out hb); have A := Lib.hid (A.out.kept hb); have c0 := A.out.at 0 rfl; have c1 := A.out.at 1 rfl; have c2 := A.out.at 2 rfl; have c3 := A.out.at 3 rfl; have c4 := A.out.at 4 rfl; have c5 := A.out.at 5 rfl; clear hb
        go_wp2_with fail
        refine (isExtent_any _ _ _).mono ?_
        rw [exB HXY]
        rintro e w2 ⟨rfl, hb⟩
        clear c0 c1 c2 c3 c4 c5
        have Bw := Lib.hid (below_step Bw.out hb); have A := Lib.hid (A.out.kept hb); have c0 := A.out.at 0 rfl; have c1 := A.out.at 1 rfl; have c2 := A.out.at 2 rfl; have c3 := A.out.at 3 rfl; have c4 := A.out.at 4 rfl; have c5 := A.out.at 5 rfl; clear hb
        go_wp2_with fail
        refine (countOf_any _ _ n _ _ _ _ _ HN.out N9.out).mono ?_
        rintro e w3 ⟨rfl, hb⟩
        clear c0 c1 c2 c3 c4 c5
        have Bw := Lib.hid (below_step Bw.out hb); have A := Lib.hid (A.out.kept hb); have c0 := A.out.at 0 rfl; have c1 := A.out.at 1 rfl; have c2 := A.out.at 2 rfl; have c3 := A.out.at 3 rfl; have c4 := A.out.at 4 rfl; have c5 := A.out.at 5 rfl; clear hb
        go_wp2
        go_ret
        exact ⟨rfl, Bw.out⟩
    · skip
      have e0 : (m0 : Int) = r.X * r.Y := by omega
      have e0b : ((m0 : Int) == r.X * r.Y) = true := by simp; omega
      have e0c : ((m0 : Int) != r.X * r.Y) = false := by simp; omega
      have e0d : ((m0 : Int) == (n : Int)) = true := by simp; omega
      have e0e : ((m0 : Int) != (n : Int)) = false := by simp; omega
      clear e0
      have f1b : ((m1 : Int) == r.X * r.Y) = false := by simp; omega
      have f1c : ((m1 : Int) != r.X * r.Y) = true := by simp; omega
      have f1d : ((m1 : Int) == (n : Int)) = false := by simp; omega
      have f1e : ((m1 : Int) != (n : Int)) = true := by simp; omega
      clear hl g0 g1
      have A := Lib.hid (Cells.made w (pvs r (.slice a1 m0 a2) (.slice b1 m1 b2) (.slice d1 m2 d2) (.slice e1 m3 e2)) 29)
      have Bw := Lib.hid (below_al1 w (.cells (pvs r (.slice a1 m0 a2) (.slice b1 m1 b2) (.slice d1 m2 d2) (.slice e1 m3 e2)).toArray 29))
      have HN := Lib.hid hn
      have N9 := Lib.hid n9
      go_enter Try.func61, Try.ntmps61
      have HXY : (exX r && exY r) = true := by rw [HX.out, HY.out]; rfl
      go_wp2_with fail
      refine (extentOf_any _ _ _ _ _ _ _).mono ?_
      rintro e w1 ⟨rfl, hb⟩
      have Bw := Lib.hid (below_step Bw.out hb); have A := Lib.hid (A.out.kept hb); have c0 := A.out.at 0 rfl; have c1 := A.out.at 1 rfl; have c2 := A.out.at 2 rfl; have c3 := A.out.at 3 rfl; have c4 := A.out.at 4 rfl; have c5 := A.out.at 5 rfl; clear hb
      go_wp2_with fail
      refine (isExtent_any _ _ _).mono ?_
      rw [exB HXY]
      rintro e w2 ⟨rfl, hb⟩
      clear c0 c1 c2 c3 c4 c5
      have Bw := Lib.hid (below_step Bw.out hb); have A := Lib.hid (A.out.kept hb); have c0 := A.out.at 0 rfl; have c1 := A.out.at 1 rfl; have c2 := A.out.at 2 rfl; have c3 := A.out.at 3 rfl; have c4 := A.out.at 4 rfl; have c5 := A.out.at 5 rfl; clear hb
      go_wp2_with fail
      refine (countOf_any _ _ n _ _ _ _ _ HN.out N9.out).mono ?_
      rintro e w3 ⟨rfl, hb⟩
      clear c0 c1 c2 c3 c4 c5
      have Bw := Lib.hid (below_step Bw.out hb); have A := Lib.hid (A.out.kept hb); have c0 := A.out.at 0 rfl; have c1 := A.out.at 1 rfl; have c2 := A.out.at 2 rfl; have c3 := A.out.at 3 rfl; have c4 := A.out.at 4 rfl; have c5 := A.out.at 5 rfl; clear hb
      go_wp2
      go_ret
      exact ⟨rfl, Bw.out⟩
  · skip
    have f0b : ((m0 : Int) == r.X * r.Y) = false := by simp; omega
    have f0c : ((m0 : Int) != r.X * r.Y) = true := by simp; omega
    have f0d : ((m0 : Int) == (n : Int)) = false := by simp; omega
    have f0e : ((m0 : Int) != (n : Int)) = true := by simp; omega
    clear hl g0
    have A := Lib.hid (Cells.made w (pvs r (.slice a1 m0 a2) (.slice b1 m1 b2) (.slice d1 m2 d2) (.slice e1 m3 e2)) 29)
    have Bw := Lib.hid (below_al1 w (.cells (pvs r (.slice a1 m0 a2) (.slice b1 m1 b2) (.slice d1 m2 d2) (.slice e1 m3 e2)).toArray 29))
    have HN := Lib.hid hn
    have N9 := Lib.hid n9
    go_enter Try.func61, Try.ntmps61
    have HXY : (exX r && exY r) = true := by rw [HX.out, HY.out]; rfl
    go_wp2_with fail
    refine (extentOf_any _ _ _ _ _ _ _).mono ?_
    rintro e w1 ⟨rfl, hb⟩
    have Bw := Lib.hid (below_step Bw.out hb); have A := Lib.hid (A.out.kept hb); have c0 := A.out.at 0 rfl; have c1 := A.out.at 1 rfl; have c2 := A.out.at 2 rfl; have c3 := A.out.at 3 rfl; have c4 := A.out.at 4 rfl; have c5 := A.out.at 5 rfl; clear hb
    go_wp2_with fail
    refine (isExtent_any _ _ _).mono ?_
    rw [exB HXY]
    rintro e w2 ⟨rfl, hb⟩
    clear c0 c1 c2 c3 c4 c5
    have Bw := Lib.hid (below_step Bw.out hb); have A := Lib.hid (A.out.kept hb); have c0 := A.out.at 0 rfl; have c1 := A.out.at 1 rfl; have c2 := A.out.at 2 rfl; have c3 := A.out.at 3 rfl; have c4 := A.out.at 4 rfl; have c5 := A.out.at 5 rfl; clear hb
    go_wp2_with fail
    refine (countOf_any _ _ n _ _ _ _ _ HN.out N9.out).mono ?_
    rintro e w3 ⟨rfl, hb⟩
    clear c0 c1 c2 c3 c4 c5
    have Bw := Lib.hid (below_step Bw.out hb); have A := Lib.hid (A.out.kept hb); have c0 := A.out.at 0 rfl; have c1 := A.out.at 1 rfl; have c2 := A.out.at 2 rfl; have c3 := A.out.at 3 rfl; have c4 := A.out.at 4 rfl; have c5 := A.out.at 5 rfl; clear hb
    go_wp2
    go_ret
    exact ⟨rfl, Bw.out⟩

set_option maxHeartbeats 1600000 in
theorem implPl_ok (a b c d : Value) (r : PL) (w : World) (h : PRow w a b c d r) (hb : hPl r = true) : Calls Try.prog 61 #[.agg #[.int .i64 r.X, .int .i64 r.Y, a, b, c, d]] w (BolB (vPl r) w) := by
  have R := Lib.hid (fun w1 (hb : Below w.heap.size w w1) => h.below hb)
  obtain ⟨x1, x2, y1, y2, xy, lW, lE, lG, lH, n0, n9⟩ := PlN.of hb
  have HXY : Hid ((exX r && exY r) = true) := Lib.hid (by unfold exX exY; simp [x1, x2, y1, y2])
  rw [show vPl r = (r.W.all (fin .f32) && r.E.all pos && r.G.all (fin .f32)) from by unfold vPl; rw [hb]; simp]
  clear hb x1 x2 y1 y2
  obtain ⟨b0, k0, rfl⟩ := h.W.shape
  obtain ⟨b1, k1, rfl⟩ := h.E.shape
  obtain ⟨b2, k2, rfl⟩ := h.G.shape
  obtain ⟨b3, k3, rfl⟩ := h.H.shape
  rw [lE, lG, lH] at R ⊢
  clear h lE lG lH lW
  generalize r.W.length = n at *
  have HN := Lib.hid xy
  have N9 := Lib.hid n9
  clear xy
  have A := Lib.hid (Cells.made w (pvs r (.slice b0 n k0) (.slice b1 n k1) (.slice b2 n k2) (.slice b3 n k3)) 29)
  have Bw := Lib.hid (below_al1 w (.cells (pvs r (.slice b0 n k0) (.slice b1 n k1) (.slice b2 n k2) (.slice b3 n k3)).toArray 29))
  cases B0 : r.W.all (fin .f32)
  · skip
    go_enter Try.func61, Try.ntmps61
    go_wp2_with fail
    refine (extentOf_any _ _ _ _ _ _ _).mono ?_
    rintro e w1 ⟨rfl, hb⟩
    have Bw := Lib.hid (below_step Bw.out hb); have A := Lib.hid (A.out.kept hb); have c0 := A.out.at 0 rfl; have c1 := A.out.at 1 rfl; have c2 := A.out.at 2 rfl; have c3 := A.out.at 3 rfl; have c4 := A.out.at 4 rfl; have c5 := A.out.at 5 rfl; clear hb
    go_wp2_with fail
    refine (isExtent_any _ _ _).mono ?_
    rw [exB HXY.out]
    rintro e w2 ⟨rfl, hb⟩
    clear c0 c1 c2 c3 c4 c5
    have Bw := Lib.hid (below_step Bw.out hb); have A := Lib.hid (A.out.kept hb); have c0 := A.out.at 0 rfl; have c1 := A.out.at 1 rfl; have c2 := A.out.at 2 rfl; have c3 := A.out.at 3 rfl; have c4 := A.out.at 4 rfl; have c5 := A.out.at 5 rfl; clear hb
    go_wp2_with fail
    refine (countOf_any _ _ n _ _ _ _ _ HN.out N9.out).mono ?_
    rintro e w3 ⟨rfl, hb⟩
    clear c0 c1 c2 c3 c4 c5
    have Bw := Lib.hid (below_step Bw.out hb); have A := Lib.hid (A.out.kept hb); have c0 := A.out.at 0 rfl; have c1 := A.out.at 1 rfl; have c2 := A.out.at 2 rfl; have c3 := A.out.at 3 rfl; have c4 := A.out.at 4 rfl; have c5 := A.out.at 5 rfl; clear hb
    go_wp2_with (first | (go_at_call_of 101 b0; refine (allFin_any _ _ _ (R.out _ Bw.out).W).mono ?_; rw [B0]; rintro e w' ⟨rfl, hb⟩; have Bw := Lib.hid (below_step Bw.out hb); have A := Lib.hid (A.out.kept hb); have c0 := A.out.at 0 rfl; have c1 := A.out.at 1 rfl; have c2 := A.out.at 2 rfl; have c3 := A.out.at 3 rfl; have c4 := A.out.at 4 rfl; have c5 := A.out.at 5 rfl; clear hb))
    go_ret
    exact ⟨ret_b (by simp), Bw.out⟩
  · cases B1 : r.E.all pos
    · skip
      go_enter Try.func61, Try.ntmps61
      go_wp2_with fail
      refine (extentOf_any _ _ _ _ _ _ _).mono ?_
      rintro e w1 ⟨rfl, hb⟩
      have Bw := Lib.hid (below_step Bw.out hb); have A := Lib.hid (A.out.kept hb); have c0 := A.out.at 0 rfl; have c1 := A.out.at 1 rfl; have c2 := A.out.at 2 rfl; have c3 := A.out.at 3 rfl; have c4 := A.out.at 4 rfl; have c5 := A.out.at 5 rfl; clear hb
      go_wp2_with fail
      refine (isExtent_any _ _ _).mono ?_
      rw [exB HXY.out]
      rintro e w2 ⟨rfl, hb⟩
      clear c0 c1 c2 c3 c4 c5
      have Bw := Lib.hid (below_step Bw.out hb); have A := Lib.hid (A.out.kept hb); have c0 := A.out.at 0 rfl; have c1 := A.out.at 1 rfl; have c2 := A.out.at 2 rfl; have c3 := A.out.at 3 rfl; have c4 := A.out.at 4 rfl; have c5 := A.out.at 5 rfl; clear hb
      go_wp2_with fail
      refine (countOf_any _ _ n _ _ _ _ _ HN.out N9.out).mono ?_
      rintro e w3 ⟨rfl, hb⟩
      clear c0 c1 c2 c3 c4 c5
      have Bw := Lib.hid (below_step Bw.out hb); have A := Lib.hid (A.out.kept hb); have c0 := A.out.at 0 rfl; have c1 := A.out.at 1 rfl; have c2 := A.out.at 2 rfl; have c3 := A.out.at 3 rfl; have c4 := A.out.at 4 rfl; have c5 := A.out.at 5 rfl; clear hb
      go_wp2_with (first | (go_at_call_of 101 b0; refine (allFin_any _ _ _ (R.out _ Bw.out).W).mono ?_; rw [B0]; rintro e w' ⟨rfl, hb⟩; have Bw := Lib.hid (below_step Bw.out hb); have A := Lib.hid (A.out.kept hb); have c0 := A.out.at 0 rfl; have c1 := A.out.at 1 rfl; have c2 := A.out.at 2 rfl; have c3 := A.out.at 3 rfl; have c4 := A.out.at 4 rfl; have c5 := A.out.at 5 rfl; clear hb) | (go_at_call_of 101 b1; refine (allPos_any _ _ _ (R.out _ Bw.out).E).mono ?_; rw [B1]; rintro e w' ⟨rfl, hb⟩; have Bw := Lib.hid (below_step Bw.out hb); have A := Lib.hid (A.out.kept hb); have c0 := A.out.at 0 rfl; have c1 := A.out.at 1 rfl; have c2 := A.out.at 2 rfl; have c3 := A.out.at 3 rfl; have c4 := A.out.at 4 rfl; have c5 := A.out.at 5 rfl; clear hb))
      go_ret
      exact ⟨ret_b (by simp), Bw.out⟩
    · cases B2 : r.G.all (fin .f32)
      · skip
        go_enter Try.func61, Try.ntmps61
        go_wp2_with fail
        refine (extentOf_any _ _ _ _ _ _ _).mono ?_
        rintro e w1 ⟨rfl, hb⟩
        have Bw := Lib.hid (below_step Bw.out hb); have A := Lib.hid (A.out.kept hb); have c0 := A.out.at 0 rfl; have c1 := A.out.at 1 rfl; have c2 := A.out.at 2 rfl; have c3 := A.out.at 3 rfl; have c4 := A.out.at 4 rfl; have c5 := A.out.at 5 rfl; clear hb
        go_wp2_with fail
        refine (isExtent_any _ _ _).mono ?_
        rw [exB HXY.out]
        rintro e w2 ⟨rfl, hb⟩
        clear c0 c1 c2 c3 c4 c5
        have Bw := Lib.hid (below_step Bw.out hb); have A := Lib.hid (A.out.kept hb); have c0 := A.out.at 0 rfl; have c1 := A.out.at 1 rfl; have c2 := A.out.at 2 rfl; have c3 := A.out.at 3 rfl; have c4 := A.out.at 4 rfl; have c5 := A.out.at 5 rfl; clear hb
        go_wp2_with fail
        refine (countOf_any _ _ n _ _ _ _ _ HN.out N9.out).mono ?_
        rintro e w3 ⟨rfl, hb⟩
        clear c0 c1 c2 c3 c4 c5
        have Bw := Lib.hid (below_step Bw.out hb); have A := Lib.hid (A.out.kept hb); have c0 := A.out.at 0 rfl; have c1 := A.out.at 1 rfl; have c2 := A.out.at 2 rfl; have c3 := A.out.at 3 rfl; have c4 := A.out.at 4 rfl; have c5 := A.out.at 5 rfl; clear hb
        go_wp2_with (first | (go_at_call_of 101 b0; refine (allFin_any _ _ _ (R.out _ Bw.out).W).mono ?_; rw [B0]; rintro e w' ⟨rfl, hb⟩; have Bw := Lib.hid (below_step Bw.out hb); have A := Lib.hid (A.out.kept hb); have c0 := A.out.at 0 rfl; have c1 := A.out.at 1 rfl; have c2 := A.out.at 2 rfl; have c3 := A.out.at 3 rfl; have c4 := A.out.at 4 rfl; have c5 := A.out.at 5 rfl; clear hb) | (go_at_call_of 101 b1; refine (allPos_any _ _ _ (R.out _ Bw.out).E).mono ?_; rw [B1]; rintro e w' ⟨rfl, hb⟩; have Bw := Lib.hid (below_step Bw.out hb); have A := Lib.hid (A.out.kept hb); have c0 := A.out.at 0 rfl; have c1 := A.out.at 1 rfl; have c2 := A.out.at 2 rfl; have c3 := A.out.at 3 rfl; have c4 := A.out.at 4 rfl; have c5 := A.out.at 5 rfl; clear hb) | (go_at_call_of 101 b2; refine (allFin_any _ _ _ (R.out _ Bw.out).G).mono ?_; rw [B2]; rintro e w' ⟨rfl, hb⟩; have Bw := Lib.hid (below_step Bw.out hb); have A := Lib.hid (A.out.kept hb); have c0 := A.out.at 0 rfl; have c1 := A.out.at 1 rfl; have c2 := A.out.at 2 rfl; have c3 := A.out.at 3 rfl; have c4 := A.out.at 4 rfl; have c5 := A.out.at 5 rfl; clear hb))
        go_ret
        exact ⟨ret_b (by simp), Bw.out⟩
      · skip
        go_enter Try.func61, Try.ntmps61
        go_wp2_with fail
        refine (extentOf_any _ _ _ _ _ _ _).mono ?_
        rintro e w1 ⟨rfl, hb⟩
        have Bw := Lib.hid (below_step Bw.out hb); have A := Lib.hid (A.out.kept hb); have c0 := A.out.at 0 rfl; have c1 := A.out.at 1 rfl; have c2 := A.out.at 2 rfl; have c3 := A.out.at 3 rfl; have c4 := A.out.at 4 rfl; have c5 := A.out.at 5 rfl; clear hb
        go_wp2_with fail
        refine (isExtent_any _ _ _).mono ?_
        rw [exB HXY.out]
        rintro e w2 ⟨rfl, hb⟩
        clear c0 c1 c2 c3 c4 c5
        have Bw := Lib.hid (below_step Bw.out hb); have A := Lib.hid (A.out.kept hb); have c0 := A.out.at 0 rfl; have c1 := A.out.at 1 rfl; have c2 := A.out.at 2 rfl; have c3 := A.out.at 3 rfl; have c4 := A.out.at 4 rfl; have c5 := A.out.at 5 rfl; clear hb
        go_wp2_with fail
        refine (countOf_any _ _ n _ _ _ _ _ HN.out N9.out).mono ?_
        rintro e w3 ⟨rfl, hb⟩
        clear c0 c1 c2 c3 c4 c5
        have Bw := Lib.hid (below_step Bw.out hb); have A := Lib.hid (A.out.kept hb); have c0 := A.out.at 0 rfl; have c1 := A.out.at 1 rfl; have c2 := A.out.at 2 rfl; have c3 := A.out.at 3 rfl; have c4 := A.out.at 4 rfl; have c5 := A.out.at 5 rfl; clear hb
        go_wp2_with (first | (go_at_call_of 101 b0; refine (allFin_any _ _ _ (R.out _ Bw.out).W).mono ?_; rw [B0]; rintro e w' ⟨rfl, hb⟩; have Bw := Lib.hid (below_step Bw.out hb); have A := Lib.hid (A.out.kept hb); have c0 := A.out.at 0 rfl; have c1 := A.out.at 1 rfl; have c2 := A.out.at 2 rfl; have c3 := A.out.at 3 rfl; have c4 := A.out.at 4 rfl; have c5 := A.out.at 5 rfl; clear hb) | (go_at_call_of 101 b1; refine (allPos_any _ _ _ (R.out _ Bw.out).E).mono ?_; rw [B1]; rintro e w' ⟨rfl, hb⟩; have Bw := Lib.hid (below_step Bw.out hb); have A := Lib.hid (A.out.kept hb); have c0 := A.out.at 0 rfl; have c1 := A.out.at 1 rfl; have c2 := A.out.at 2 rfl; have c3 := A.out.at 3 rfl; have c4 := A.out.at 4 rfl; have c5 := A.out.at 5 rfl; clear hb) | (go_at_call_of 101 b2; refine (allFin_any _ _ _ (R.out _ Bw.out).G).mono ?_; rw [B2]; rintro e w' ⟨rfl, hb⟩; have Bw := Lib.hid (below_step Bw.out hb); have A := Lib.hid (A.out.kept hb); have c0 := A.out.at 0 rfl; have c1 := A.out.at 1 rfl; have c2 := A.out.at 2 rfl; have c3 := A.out.at 3 rfl; have c4 := A.out.at 4 rfl; have c5 := A.out.at 5 rfl; clear hb))
        go_ret
        exact ⟨ret_b (by simp), Bw.out⟩

theorem implPl_any (a b c d : Value) (r : PL) (w : World) (h : PRow w a b c d r) : Calls Try.prog 61 #[.agg #[.int .i64 r.X, .int .i64 r.Y, a, b, c, d]] w (BolB (vPl r) w) := by
  cases hx : exX r
  · rw [vPl_no (hPl_x hx)]; exact implPl_x a b c d r w h (by rw [hx]; rfl)
  · cases hy : exY r
    · rw [vPl_no (hPl_y hy)]; exact implPl_x a b c d r w h (by rw [hy]; simp)
    · cases hl : lenP r
      · rw [vPl_no (hPl_l hl)]; exact implPl_l a b c d r w h hx hy hl
      · exact implPl_ok a b c d r w h (by unfold hPl; rw [hx, hy, hl]; rfl)

end Go.Proofs.Ytkmfinegmkacpab
