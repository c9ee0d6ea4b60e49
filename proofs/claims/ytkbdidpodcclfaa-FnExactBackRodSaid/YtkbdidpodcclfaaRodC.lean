/- Copies of rods, their sizes, and the comparison of two rods. -/
import Derived.Test.YtkbdidpodcclfaaRod
import Derived.Test.YtkbdidpodcclfaaSlC
import Derived.Test.YtkbdidpodcclfaaPos
import Derived.Deep.RegionHeld3
namespace Go.Proofs.Ytkbdidpodcclfaa
open Go.RowKit

/-- the four blocks of a rod -/
structure RodAt (w : World) (p0 p1 p2 p3 : Nat) (r : RL) : Prop where
  W : Cells w p0 (fl r.W)
  E : Cells w p1 (fl r.E)
  H : Cells w p2 (fl r.H)
  T : Cells w p3 (fl r.T)
  o01 : p0 < p1
  o12 : p1 < p2
  o23 : p2 < p3
theorem RodAt.kept {w w' : World} {p0 p1 p2 p3 : Nat} {r : RL} (h : RodAt w p0 p1 p2 p3 r) (hb : Below w.heap.size w w') : RodAt w' p0 p1 p2 p3 r :=
  ⟨h.W.kept hb, h.E.kept hb, h.H.kept hb, h.T.kept hb, h.o01, h.o12, h.o23⟩
theorem RodAt.row {w : World} {p0 p1 p2 p3 : Nat} {r : RL} (h : RodAt w p0 p1 p2 p3 r) (hl : r.size ≤ 1048576) : RRow w (sl p0 r.W) (sl p1 r.E) (sl p2 r.H) (sl p3 r.T) r := by
  unfold RL.size at hl
  have hm : maxLen = 9223372036854775807 := rfl
  exact ⟨.of_cells h.W (by omega), .of_cells h.E (by omega), .of_cells h.H (by omega), .of_cells h.T (by omega)⟩
/-- a rod, by value, that reads so, in blocks of its own -/
def NewRod (r : RL) (w : World) (e : Ending) (w' : World) : Prop :=
  ∃ p0 p1 p2 p3, e = .returned (.agg #[sl p0 r.W, sl p1 r.E, sl p2 r.H, sl p3 r.T]) ∧ w.heap.size ≤ p0 ∧ RodAt w' p0 p1 p2 p3 r ∧ Below w.heap.size w w'

set_option maxHeartbeats 1600000 in
theorem toRod_any (a b c d : Value) (r : RL) (w : World) (h : RRow w a b c d r) (hl : r.size ≤ 1048576) : Calls Try.prog 18 #[.agg #[a, b, c, d]] w (NewRod r w) := by
  obtain ⟨hW, hE, hH, hT⟩ := h
  have HW := Lib.hid hW
  have HE := Lib.hid hE
  have HH := Lib.hid hH
  have HT := Lib.hid hT
  clear hW hE hH hT
  have lW : Hid (r.W.length ≤ 1048576) := Lib.hid (by unfold RL.size at hl; omega)
  have lE : Hid (r.E.length ≤ 1048576) := Lib.hid (by unfold RL.size at hl; omega)
  have lH : Hid (r.H.length ≤ 1048576) := Lib.hid (by unfold RL.size at hl; omega)
  have lT : Hid (r.T.length ≤ 1048576) := Lib.hid (by unfold RL.size at hl; omega)
  clear hl
  have A := Lib.hid (((Cells.made w [a, b, c, d] 31).al (.cells [Value.slice none 0 0, .slice none 0 0, .slice none 0 0, .slice none 0 0].toArray 25)).al (.cells [Value.slice none 0 0, .slice none 0 0, .slice none 0 0, .slice none 0 0].toArray 25))
  have Y := (Cells.made (w.alloc (.cells [a, b, c, d].toArray 31)) [.slice none 0 0, .slice none 0 0, .slice none 0 0, .slice none 0 0] 25).al (.cells [Value.slice none 0 0, .slice none 0 0, .slice none 0 0, .slice none 0 0].toArray 25)
  rw [show (w.alloc (.cells [a, b, c, d].toArray 31)).heap.size = w.heap.size + 1 from by simp] at Y
  have X := Cells.made ((w.alloc (.cells [a, b, c, d].toArray 31)).alloc (.cells [Value.slice none 0 0, .slice none 0 0, .slice none 0 0, .slice none 0 0].toArray 25)) [.slice none 0 0, .slice none 0 0, .slice none 0 0, .slice none 0 0] 25
  rw [show ((w.alloc (.cells [a, b, c, d].toArray 31)).alloc (.cells [Value.slice none 0 0, .slice none 0 0, .slice none 0 0, .slice none 0 0].toArray 25)).heap.size = w.heap.size + 1 + 1 from by simp] at X
  have Y := Lib.hid Y
  have X := Lib.hid X
  have Bw := Lib.hid (below_al3 w (.cells [a, b, c, d].toArray 31) (.cells [Value.slice none 0 0, .slice none 0 0, .slice none 0 0, .slice none 0 0].toArray 25) (.cells [Value.slice none 0 0, .slice none 0 0, .slice none 0 0, .slice none 0 0].toArray 25))
  go_enter Try.func18, Try.ntmps18
  go_wp2_with fail
  refine (toF_sl _ r.W _ (HW.out.below Bw.out) lW.out).mono ?_
  rintro _ w1 ⟨p0, rfl, hp, C0, hb⟩
  have q0 : Hid (w.heap.size + 3 ≤ p0) := Lib.hid (by simpa using hp)
  have A := Lib.hid (A.out.kept hb)
  have X := Lib.hid (X.out.kept hb)
  have Y := Lib.hid (Y.out.kept hb)
  have Bw := Lib.hid (below_step Bw.out hb)
  have C0 := Lib.hid C0
  clear hb hp
  have c0 := A.out.at 0 rfl
  have c1 := A.out.at 1 rfl
  have c2 := A.out.at 2 rfl
  have c3 := A.out.at 3 rfl
  have e0 := X.out.at 0 rfl
  have e1 := X.out.at 1 rfl
  have e2 := X.out.at 2 rfl
  have e3 := X.out.at 3 rfl
  have ef := X.out.fz
  go_wp2_with fail
  have Bw := Lib.hid (Bw.out.setCell (p := ⟨w.heap.size + 1 + 1, 0, none⟩) (by simp; omega) (sl p0 r.W))
  refine (toF_sl _ r.E _ (HE.out.below Bw.out) lE.out).mono ?_
  rintro _ w2 ⟨p1, rfl, hp, C1, hb⟩
  have q1 : Hid (p0 < p1) := Lib.hid (Nat.lt_of_lt_of_le C0.out.lt (by simpa using hp))
  have A := Lib.hid ((A.out.far (by omega) 0 (sl p0 r.W)).kept hb)
  have X := Lib.hid ((X.out.set 0 (by simp) (sl p0 r.W)).kept hb)
  have Y := Lib.hid ((Y.out.far (by omega) 0 (sl p0 r.W)).kept hb)
  have Bw := Lib.hid (below_step Bw.out hb)
  have C0 := Lib.hid ((C0.out.far (by have := q0.out; omega) 0 (sl p0 r.W)).kept hb)
  have C1 := Lib.hid C1
  clear hb hp
  have c0 := A.out.at 0 rfl
  have c1 := A.out.at 1 rfl
  have c2 := A.out.at 2 rfl
  have c3 := A.out.at 3 rfl
  have e0 := X.out.at 0 rfl
  have e1 := X.out.at 1 rfl
  have e2 := X.out.at 2 rfl
  have e3 := X.out.at 3 rfl
  have ef := X.out.fz
  go_wp2_with fail
  have Bw := Lib.hid (Bw.out.setCell (p := ⟨w.heap.size + 1 + 1, 1, none⟩) (by simp; omega) (sl p1 r.E))
  refine (toF_sl _ r.H _ (HH.out.below Bw.out) lH.out).mono ?_
  rintro _ w3 ⟨p2, rfl, hp, C2, hb⟩
  have q2 : Hid (p1 < p2) := Lib.hid (Nat.lt_of_lt_of_le C1.out.lt (by simpa using hp))
  have A := Lib.hid ((A.out.far (by omega) 1 (sl p1 r.E)).kept hb)
  have X := Lib.hid ((X.out.set 1 (by simp) (sl p1 r.E)).kept hb)
  have Y := Lib.hid ((Y.out.far (by omega) 1 (sl p1 r.E)).kept hb)
  have Bw := Lib.hid (below_step Bw.out hb)
  have C0 := Lib.hid ((C0.out.far (by have := q0.out; have := q1.out; omega) 1 (sl p1 r.E)).kept hb)
  have C1 := Lib.hid ((C1.out.far (by have := q0.out; have := q1.out; omega) 1 (sl p1 r.E)).kept hb)
  have C2 := Lib.hid C2
  clear hb hp
  have c0 := A.out.at 0 rfl
  have c1 := A.out.at 1 rfl
  have c2 := A.out.at 2 rfl
  have c3 := A.out.at 3 rfl
  have e0 := X.out.at 0 rfl
  have e1 := X.out.at 1 rfl
  have e2 := X.out.at 2 rfl
  have e3 := X.out.at 3 rfl
  have ef := X.out.fz
  go_wp2_with fail
  have Bw := Lib.hid (Bw.out.setCell (p := ⟨w.heap.size + 1 + 1, 2, none⟩) (by simp; omega) (sl p2 r.H))
  refine (toF_sl _ r.T _ (HT.out.below Bw.out) lT.out).mono ?_
  rintro _ w4 ⟨p3, rfl, hp, C3, hb⟩
  have q3 : Hid (p2 < p3) := Lib.hid (Nat.lt_of_lt_of_le C2.out.lt (by simpa using hp))
  have A := Lib.hid ((A.out.far (by omega) 2 (sl p2 r.H)).kept hb)
  have X := Lib.hid ((X.out.set 2 (by simp) (sl p2 r.H)).kept hb)
  have Y := Lib.hid ((Y.out.far (by omega) 2 (sl p2 r.H)).kept hb)
  have Bw := Lib.hid (below_step Bw.out hb)
  have C0 := Lib.hid ((C0.out.far (by have := q0.out; have := q1.out; have := q2.out; omega) 2 (sl p2 r.H)).kept hb)
  have C1 := Lib.hid ((C1.out.far (by have := q0.out; have := q1.out; have := q2.out; omega) 2 (sl p2 r.H)).kept hb)
  have C2 := Lib.hid ((C2.out.far (by have := q0.out; have := q1.out; have := q2.out; omega) 2 (sl p2 r.H)).kept hb)
  have C3 := Lib.hid C3
  clear hb hp
  have c0 := A.out.at 0 rfl
  have c1 := A.out.at 1 rfl
  have c2 := A.out.at 2 rfl
  have c3 := A.out.at 3 rfl
  have e0 := X.out.at 0 rfl
  have e1 := X.out.at 1 rfl
  have e2 := X.out.at 2 rfl
  have e3 := X.out.at 3 rfl
  have ef := X.out.fz
  have g0 := Y.out.at 0 rfl
  have g1 := Y.out.at 1 rfl
  have g2 := Y.out.at 2 rfl
  have g3 := Y.out.at 3 rfl
  have gf := Y.out.fz
  go_wp2
  have q0 := q0.out
  have q1 := q1.out
  have q2 := q2.out
  have q3 := q3.out
  refine bodyPost_ret (v := .agg #[sl p0 r.W, sl p1 r.E, sl p2 r.H, sl p3 r.T]) ?_ rfl ?_
  · rw [results_cell1 rfl]
    go_simp
  · exact ⟨p0, p1, p2, p3, rfl, by omega, ⟨((((C0.out.far (by omega) _ _).far (by omega) _ _).far (by omega) _ _).far (by omega) _ _).far (by omega) _ _, ((((C1.out.far (by omega) _ _).far (by omega) _ _).far (by omega) _ _).far (by omega) _ _).far (by omega) _ _, ((((C2.out.far (by omega) _ _).far (by omega) _ _).far (by omega) _ _).far (by omega) _ _).far (by omega) _ _, ((((C3.out.far (by omega) _ _).far (by omega) _ _).far (by omega) _ _).far (by omega) _ _).far (by omega) _ _, by omega, by omega, by omega⟩, ((((Bw.out.setCell (by simp; omega) _).setCell (by simp) _).setCell (by simp) _).setCell (by simp) _).setCell (by simp) _⟩

/-- two rods that are the same -/
structure SameRL (r r' : RL) : Prop where
  W : SameList r.W r'.W
  E : SameList r.E r'.E
  H : SameList r.H r'.H
  T : SameList r.T r'.T
theorem SameRL.refl (r : RL) : SameRL r r := ⟨.refl _, .refl _, .refl _, .refl _⟩

theorem eqRod_any (a b c d a' b' c' d' : Value) (r r' : RL) (w : World) (h : RRow w a b c d r) (h' : RRow w a' b' c' d' r') (hs : SameRL r r') :
    Calls Try.prog 13 #[.agg #[a, b, c, d], .agg #[a', b', c', d']] w (YesB w) := by
  have R := Lib.hid (fun w1 (hb : Below w.heap.size w w1) => h.below hb)
  have R' := Lib.hid (fun w1 (hb : Below w.heap.size w w1) => h'.below hb)
  have S := Lib.hid hs
  clear h h' hs
  go_enter Try.func13, Try.ntmps13
  go_wp2_with fail
  refine (eqF_any a a' _ _ _ (R.out _ (by first | exact below_al2 _ _ _ | exact below_drewN (below_al2 _ _ _) _)).W (R'.out _ (by first | exact below_al2 _ _ _ | exact below_drewN (below_al2 _ _ _) _)).W S.out.W).mono ?_
  rintro _ _ ⟨rfl, n1, rfl⟩
  go_wp2_with fail
  refine (eqF_any b b' _ _ _ (R.out _ (by first | exact below_al2 _ _ _ | exact below_drewN (below_al2 _ _ _) _)).E (R'.out _ (by first | exact below_al2 _ _ _ | exact below_drewN (below_al2 _ _ _) _)).E S.out.E).mono ?_
  rintro _ _ ⟨rfl, n2, rfl⟩
  go_wp2_with fail
  refine (eqF_any c c' _ _ _ (R.out _ (by first | exact below_al2 _ _ _ | exact below_drewN (below_al2 _ _ _) _)).H (R'.out _ (by first | exact below_al2 _ _ _ | exact below_drewN (below_al2 _ _ _) _)).H S.out.H).mono ?_
  rintro _ _ ⟨rfl, n3, rfl⟩
  go_wp2_with fail
  refine (eqF_any d d' _ _ _ (R.out _ (by first | exact below_al2 _ _ _ | exact below_drewN (below_al2 _ _ _) _)).T (R'.out _ (by first | exact below_al2 _ _ _ | exact below_drewN (below_al2 _ _ _) _)).T S.out.T).mono ?_
  rintro _ _ ⟨rfl, n4, rfl⟩
  go_wp2
  go_ret
  exact ⟨rfl, (by first | exact below_al2 _ _ _ | exact below_drewN (below_al2 _ _ _) _)⟩

theorem szRod_fit (a b c d : Value) (r : RL) (left : Nat) (w : World) (h : RRow w a b c d r) (hl : r.size ≤ left) (hm : left ≤ 1048576) :
    Calls Try.prog 16 #[.agg #[a, b, c, d], .int .i64 left] w fun e w' => e = .returned (.int .i64 ((left - r.size : Nat) : Int)) ∧ Below w.heap.size w w' := by
  obtain ⟨a1, a2, rfl⟩ := h.W.shape
  obtain ⟨b1, b2, rfl⟩ := h.E.shape
  obtain ⟨c1, c2, rfl⟩ := h.H.shape
  obtain ⟨d1, d2, rfl⟩ := h.T.shape
  clear h
  have e : Hid (left - r.W.length - r.E.length - r.H.length - r.T.length = left - r.size) := Lib.hid (by unfold RL.size; omega)
  unfold RL.size at hl
  have L1 : Hid (r.W.length ≤ left) := Lib.hid (by omega)
  have L2 : Hid (r.E.length ≤ left - r.W.length) := Lib.hid (by omega)
  have L3 : Hid (r.H.length ≤ left - r.W.length - r.E.length) := Lib.hid (by omega)
  have L4 : Hid (r.T.length ≤ left - r.W.length - r.E.length - r.H.length) := Lib.hid (by omega)
  have M := Lib.hid hm
  clear hl hm
  go_enter Try.func16, Try.ntmps16
  go_wp2_with fail
  refine (sz32_fit _ _ _ left _ L1.out M.out).mono ?_
  rintro _ _ ⟨rfl, rfl⟩
  go_wp2_with fail
  refine (sz32_fit _ _ _ (left - r.W.length) _ L2.out (Nat.le_trans (Nat.sub_le _ _) M.out)).mono ?_
  rintro _ _ ⟨rfl, rfl⟩
  go_wp2_with fail
  refine (sz32_fit _ _ _ (left - r.W.length - r.E.length) _ L3.out (by have := M.out; omega)).mono ?_
  rintro _ _ ⟨rfl, rfl⟩
  go_wp2_with fail
  refine (sz32_fit _ _ _ (left - r.W.length - r.E.length - r.H.length) _ L4.out (by have := M.out; omega)).mono ?_
  rintro _ _ ⟨rfl, rfl⟩
  go_wp2
  go_ret
  exact ⟨by rw [← e.out]; rfl, below_al1 _ _⟩

theorem szRod_over (a b c d : Value) (r : RL) (left : Nat) (w : World) (h : RRow w a b c d r) (hl : left < r.size) (hm : left ≤ 1048576) :
    Calls Try.prog 16 #[.agg #[a, b, c, d], .int .i64 left] w fun e w' => e = .returned (.int .i64 (-1)) ∧ Below w.heap.size w w' := by
  have N1 := Lib.hid h.W.len
  have N2 := Lib.hid h.E.len
  have N3 := Lib.hid h.H.len
  have N4 := Lib.hid h.T.len
  obtain ⟨a1, a2, rfl⟩ := h.W.shape
  obtain ⟨b1, b2, rfl⟩ := h.E.shape
  obtain ⟨c1, c2, rfl⟩ := h.H.shape
  obtain ⟨d1, d2, rfl⟩ := h.T.shape
  clear h
  unfold RL.size at hl
  by_cases g1 : r.W.length ≤ left
  · by_cases g2 : r.E.length ≤ left - r.W.length
    · by_cases g3 : r.H.length ≤ left - r.W.length - r.E.length
      · have L1 := Lib.hid g1
        have L2 := Lib.hid g2
        have L3 := Lib.hid g3
        have L4 : Hid (left - r.W.length - r.E.length - r.H.length < r.T.length) := Lib.hid (by omega)
        have M := Lib.hid hm
        clear hl hm g1 g2 g3
        go_enter Try.func16, Try.ntmps16
        go_wp2_with fail
        refine (sz32_fit _ _ _ left _ L1.out M.out).mono ?_
        rintro _ _ ⟨rfl, rfl⟩
        go_wp2_with fail
        refine (sz32_fit _ _ _ (left - r.W.length) _ L2.out (by have := M.out; omega)).mono ?_
        rintro _ _ ⟨rfl, rfl⟩
        go_wp2_with fail
        refine (sz32_fit _ _ _ (left - r.W.length - r.E.length) _ L3.out (by have := M.out; omega)).mono ?_
        rintro _ _ ⟨rfl, rfl⟩
        go_wp2_with fail
        refine (sz32_over _ _ _ (left - r.W.length - r.E.length - r.H.length) _ L4.out N4.out (by have := M.out; omega)).mono ?_
        rintro _ _ ⟨rfl, rfl⟩
        go_wp2
        go_ret
        exact ⟨rfl, below_al1 _ _⟩
      · have L1 := Lib.hid g1
        have L2 := Lib.hid g2
        have L3 : Hid (left - r.W.length - r.E.length < r.H.length) := Lib.hid (by omega)
        have M := Lib.hid hm
        clear hl hm g1 g2 g3
        go_enter Try.func16, Try.ntmps16
        go_wp2_with fail
        refine (sz32_fit _ _ _ left _ L1.out M.out).mono ?_
        rintro _ _ ⟨rfl, rfl⟩
        go_wp2_with fail
        refine (sz32_fit _ _ _ (left - r.W.length) _ L2.out (by have := M.out; omega)).mono ?_
        rintro _ _ ⟨rfl, rfl⟩
        go_wp2_with fail
        refine (sz32_over _ _ _ (left - r.W.length - r.E.length) _ L3.out N3.out (by have := M.out; omega)).mono ?_
        rintro _ _ ⟨rfl, rfl⟩
        go_wp2
        go_ret
        exact ⟨rfl, below_al1 _ _⟩
    · have L1 := Lib.hid g1
      have L2 : Hid (left - r.W.length < r.E.length) := Lib.hid (by omega)
      have M := Lib.hid hm
      clear hl hm g1 g2
      go_enter Try.func16, Try.ntmps16
      go_wp2_with fail
      refine (sz32_fit _ _ _ left _ L1.out M.out).mono ?_
      rintro _ _ ⟨rfl, rfl⟩
      go_wp2_with fail
      refine (sz32_over _ _ _ (left - r.W.length) _ L2.out N2.out (by have := M.out; omega)).mono ?_
      rintro _ _ ⟨rfl, rfl⟩
      go_wp2
      go_ret
      exact ⟨rfl, below_al1 _ _⟩
  · have L1 : Hid (left < r.W.length) := Lib.hid (by omega)
    have M := Lib.hid hm
    clear hl hm g1
    go_enter Try.func16, Try.ntmps16
    go_wp2_with fail
    refine (sz32_over _ _ _ left _ L1.out N1.out M.out).mono ?_
    rintro _ _ ⟨rfl, rfl⟩
    go_wp2
    go_ret
    exact ⟨rfl, below_al1 _ _⟩

end Go.Proofs.Ytkbdidpodcclfaa
