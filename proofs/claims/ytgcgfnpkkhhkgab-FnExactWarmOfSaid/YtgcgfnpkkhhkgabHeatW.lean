/- What is told of a heat of a stuff, handed back: both sides; the laws' walks. -/
import Derived.Test.YtgcgfnpkkhhkgabHeatE
import Derived.Test.YtgcgfnpkkhhkgabGiv2
namespace Go.Proofs.Ytgcgfnpkkhhkgab
open Go.RowKit
set_option linter.unusedVariables false

def told (s : SF) (h : Nat) : Bool := vStuff s && fin .f32 h
def tolS (s : SF) (h V : Nat) : Nat := bif told s h then ifF V else 0
def tolB (s : SF) (h V : Nat) : Bool := told s h && fin .f32 V
theorem GivT.no {s : SF} {h V : Nat} {w w' : World} (ht : told s h = false) (hb : Below w.heap.size w w') : GivB (tolS s h V) (tolB s h V) w (.returned (.tuple #[.float .f32 0, .bool false])) w' := by
  unfold tolS tolB; rw [ht]; exact GivB.no hb
theorem GivT.num {s : SF} {h V x : Nat} {w w' : World} (ht : told s h = true) (hx : cn .f32 x = V) (hb : Below w.heap.size w w') : GivB (tolS s h V) (tolB s h V) w (.returned (.tuple #[.float .f32 (ifF x), .bool (fin .f32 x)])) w' := by
  unfold tolS tolB; rw [ht]; exact GivB.num hx hb
theorem told_no1 {s : SF} {h : Nat} (a : vStuff s = false) : told s h = false := by unfold told; rw [a]; rfl
theorem told_no2 {s : SF} {h : Nat} (a : vStuff s = true) (b : fin .f32 h = false) : told s h = false := by unfold told; rw [a, b]; rfl
theorem told_yes {s : SF} {h : Nat} (a : vStuff s = true) (b : fin .f32 h = true) : told s h = true := by unfold told; rw [a, b]; rfl

set_option maxHeartbeats 800000 in
theorem specWarmOf_any (s : SF) (h : Nat) (w : World) : Calls Try.prog 18 #[.agg #[.float .f32 s.so, .float .f32 s.fl, .float .f32 s.es, .float .f32 s.ef, .float .f32 s.pt, .float .f32 s.la], .float .f32 h] w (GivB (tolS s h (warmF s h)) (tolB s h (warmF s h)) w) := by
  have A := Lib.hid (Cells.made w s.vs 26)
  have Bw := Lib.hid (below_al1 w (.cells #[.float .f32 s.so, .float .f32 s.fl, .float .f32 s.es, .float .f32 s.ef, .float .f32 s.pt, .float .f32 s.la] 26))
  cases S0 : vStuff s
  · have HS := Lib.hid S0
    clear S0
    go_enter Try.func18, Try.ntmps18
    go_wp2_with fail
    refine (specStuff_any s _ _ A.out).mono ?_
    rw [HS.out]
    rintro e w1 ⟨rfl, n1, rfl⟩
    go_wp2
    go_ret2
    exact GivT.no (told_no1 HS.out) (by repeat (first | exact Bw.out | exact Below.refl _ _ | refine Below.setCell ?_ (by first | exact Nat.le_refl _ | (simp; done) | (simp; omega) | omega) _ | refine below_drewN ?_ _ | refine Below.alloc ?_ (by first | exact Nat.le_refl _ | (simp; done) | (simp; omega) | omega) _))
  · cases F0 : fin .f32 h
    · have HS := Lib.hid S0
      have HF := Lib.hid F0
      clear S0 F0
      go_enter Try.func18, Try.ntmps18
      go_wp2_with fail
      refine (specStuff_any s _ _ A.out).mono ?_
      rw [HS.out]
      rintro e w1 ⟨rfl, n1, rfl⟩
      go_wp2_with fail
      refine (specFinite_any _ _).mono ?_
      rw [HF.out]
      rintro e w3 ⟨rfl, n2, rfl⟩
      go_wp2
      go_ret2
      exact GivT.no (told_no2 HS.out HF.out) (by repeat (first | exact Bw.out | exact Below.refl _ _ | refine Below.setCell ?_ (by first | exact Nat.le_refl _ | (simp; done) | (simp; omega) | omega) _ | refine below_drewN ?_ _ | refine Below.alloc ?_ (by first | exact Nat.le_refl _ | (simp; done) | (simp; omega) | omega) _))
    · have HS := Lib.hid S0
      have HF := Lib.hid F0
      clear S0 F0
      go_enter Try.func18, Try.ntmps18
      go_wp2_with fail
      refine (specStuff_any s _ _ A.out).mono ?_
      rw [HS.out]
      rintro e w1 ⟨rfl, n1, rfl⟩
      go_wp2_with fail
      refine (specFinite_any _ _).mono ?_
      rw [HF.out]
      rintro e w3 ⟨rfl, n2, rfl⟩
      go_wp2_with fail
      refine (specWarmV_any s h _ _ A.out.drewN).mono ?_
      rintro e w4 ⟨r, hr, rfl, n3, rfl⟩
      have HR := Lib.hid hr
      clear hr
      go_wp2_with fail
      refine (specNum_any _ _).mono ?_
      rintro e w5 ⟨rfl, n4, rfl⟩
      go_wp2
      go_ret2
      exact GivT.num (told_yes HS.out HF.out) HR.out (by repeat (first | exact Bw.out | exact Below.refl _ _ | refine Below.setCell ?_ (by first | exact Nat.le_refl _ | (simp; done) | (simp; omega) | omega) _ | refine below_drewN ?_ _ | refine Below.alloc ?_ (by first | exact Nat.le_refl _ | (simp; done) | (simp; omega) | omega) _))

set_option maxHeartbeats 800000 in
theorem toldWarm_any (s : SF) (h : Nat) (w : World) : Calls Try.prog 55 #[.agg #[.float .f32 s.so, .float .f32 s.fl, .float .f32 s.es, .float .f32 s.ef, .float .f32 s.pt, .float .f32 s.la], .float .f32 h, .func (.func 56) #[] #[]] w (GivB (tolS s h (warmF s h)) (tolB s h (warmF s h)) w) := by
  have A := Lib.hid (Cells.made w s.vs 26)
  have Bw := Lib.hid (below_al1 w (.cells #[.float .f32 s.so, .float .f32 s.fl, .float .f32 s.es, .float .f32 s.ef, .float .f32 s.pt, .float .f32 s.la] 26))
  cases S0 : vStuff s
  · have HS := Lib.hid S0
    clear S0
    go_enter Try.func55, Try.ntmps55
    go_wp2_with fail
    refine (implVStuff_any s _).mono ?_
    rw [HS.out]
    rintro e w2 ⟨rfl, hb⟩
    (first | (have Bw := Lib.hid (below_step Bw.out hb)) | (have Bw := Lib.hid (below_step Bw.out (below_undrew hb))) | (have Bw := Lib.hid (below_step Bw.out (below_unal hb))) | (have Bw := Lib.hid (below_step Bw.out (below_unal (below_undrew hb)))) | (have Bw := Lib.hid (below_step Bw.out (below_undrew (below_unal hb)))) | (have Bw := Lib.hid (below_step Bw.out (below_unal (below_unal hb)))))
    (first | (have A := Lib.hid (A.out.kept hb)) | (have A := Lib.hid (A.out.kept (below_undrew hb))) | (have A := Lib.hid (A.out.kept (below_unal hb))) | (have A := Lib.hid (A.out.kept (below_unal (below_undrew hb)))) | (have A := Lib.hid (A.out.kept (below_undrew (below_unal hb)))) | (have A := Lib.hid (A.out.kept (below_unal (below_unal hb)))))
    have hz := Bw.out.size
    clear hb
    go_wp2
    go_ret2
    exact GivT.no (told_no1 HS.out) (by repeat (first | exact Bw.out | exact Below.refl _ _ | refine Below.setCell ?_ (by first | exact Nat.le_refl _ | (simp; done) | (simp; omega) | omega) _ | refine below_drewN ?_ _ | refine Below.alloc ?_ (by first | exact Nat.le_refl _ | (simp; done) | (simp; omega) | omega) _))
  · cases F0 : fin .f32 h
    · have HS := Lib.hid S0
      have HF := Lib.hid F0
      clear S0 F0
      go_enter Try.func55, Try.ntmps55
      go_wp2_with fail
      refine (implVStuff_any s _).mono ?_
      rw [HS.out]
      rintro e w2 ⟨rfl, hb⟩
      (first | (have Bw := Lib.hid (below_step Bw.out hb)) | (have Bw := Lib.hid (below_step Bw.out (below_undrew hb))) | (have Bw := Lib.hid (below_step Bw.out (below_unal hb))) | (have Bw := Lib.hid (below_step Bw.out (below_unal (below_undrew hb)))) | (have Bw := Lib.hid (below_step Bw.out (below_undrew (below_unal hb)))) | (have Bw := Lib.hid (below_step Bw.out (below_unal (below_unal hb)))))
      (first | (have A := Lib.hid (A.out.kept hb)) | (have A := Lib.hid (A.out.kept (below_undrew hb))) | (have A := Lib.hid (A.out.kept (below_unal hb))) | (have A := Lib.hid (A.out.kept (below_unal (below_undrew hb)))) | (have A := Lib.hid (A.out.kept (below_undrew (below_unal hb)))) | (have A := Lib.hid (A.out.kept (below_unal (below_unal hb)))))
      have hz := Bw.out.size
      clear hb
      go_wp2_with fail
      refine (implFinite_any _ _).mono ?_
      rw [HF.out]
      rintro e w3 ⟨rfl, n2, rfl⟩
      go_wp2
      go_ret2
      exact GivT.no (told_no2 HS.out HF.out) (by repeat (first | exact Bw.out | exact Below.refl _ _ | refine Below.setCell ?_ (by first | exact Nat.le_refl _ | (simp; done) | (simp; omega) | omega) _ | refine below_drewN ?_ _ | refine Below.alloc ?_ (by first | exact Nat.le_refl _ | (simp; done) | (simp; omega) | omega) _))
    · have HS := Lib.hid S0
      have HF := Lib.hid F0
      clear S0 F0
      go_enter Try.func55, Try.ntmps55
      go_wp2_with fail
      refine (implVStuff_any s _).mono ?_
      rw [HS.out]
      rintro e w2 ⟨rfl, hb⟩
      (first | (have Bw := Lib.hid (below_step Bw.out hb)) | (have Bw := Lib.hid (below_step Bw.out (below_undrew hb))) | (have Bw := Lib.hid (below_step Bw.out (below_unal hb))) | (have Bw := Lib.hid (below_step Bw.out (below_unal (below_undrew hb)))) | (have Bw := Lib.hid (below_step Bw.out (below_undrew (below_unal hb)))) | (have Bw := Lib.hid (below_step Bw.out (below_unal (below_unal hb)))))
      (first | (have A := Lib.hid (A.out.kept hb)) | (have A := Lib.hid (A.out.kept (below_undrew hb))) | (have A := Lib.hid (A.out.kept (below_unal hb))) | (have A := Lib.hid (A.out.kept (below_unal (below_undrew hb)))) | (have A := Lib.hid (A.out.kept (below_undrew (below_unal hb)))) | (have A := Lib.hid (A.out.kept (below_unal (below_unal hb)))))
      have hz := Bw.out.size
      clear hb
      have c0 := A.out.at 0 rfl; have c1 := A.out.at 1 rfl; have c2 := A.out.at 2 rfl; have c3 := A.out.at 3 rfl; have c4 := A.out.at 4 rfl; have c5 := A.out.at 5 rfl
      go_wp2_with fail
      refine (implFinite_any _ _).mono ?_
      rw [HF.out]
      rintro e w3 ⟨rfl, n2, rfl⟩
      go_wp2_with fail
      refine (warmIn_any s _).mono ?_
      rintro e w4 ⟨rfl, rfl⟩
      go_wp2_with fail
      refine (litWarm_any s h _ _ (Cells.made _ s.vs 26)).mono ?_
      rintro e w5 ⟨r, hr, rfl, n3, rfl⟩
      have HR := Lib.hid hr
      clear hr
      go_wp2_with fail
      refine (implNum_any _ _).mono ?_
      rintro e w6 ⟨rfl, n4, rfl⟩
      go_wp2
      go_ret2
      exact GivT.num (told_yes HS.out HF.out) HR.out (by repeat (first | exact Bw.out | exact Below.refl _ _ | refine Below.setCell ?_ (by first | exact Nat.le_refl _ | (simp; done) | (simp; omega) | omega) _ | refine below_drewN ?_ _ | refine Below.alloc ?_ (by first | exact Nat.le_refl _ | (simp; done) | (simp; omega) | omega) _))

theorem implWarmOf_any (s : SF) (h : Nat) (w : World) : Calls Try.prog 19 #[.agg #[.float .f32 s.so, .float .f32 s.fl, .float .f32 s.es, .float .f32 s.ef, .float .f32 s.pt, .float .f32 s.la], .float .f32 h] w (GivB (tolS s h (warmF s h)) (tolB s h (warmF s h)) w) := by
  have Bw := Lib.hid (below_al1 w (.cells #[.float .f32 s.so, .float .f32 s.fl, .float .f32 s.es, .float .f32 s.ef, .float .f32 s.pt, .float .f32 s.la] 26))
  go_enter Try.func19, Try.ntmps19
  go_wp2_with fail
  refine (toldWarm_any s h _).mono ?_
  rintro e w2 ⟨r, hr, rfl, hb⟩
  have HR := Lib.hid hr
  (first | (have Bw := Lib.hid (below_step Bw.out hb)) | (have Bw := Lib.hid (below_step Bw.out (below_undrew hb))) | (have Bw := Lib.hid (below_step Bw.out (below_unal hb))) | (have Bw := Lib.hid (below_step Bw.out (below_unal (below_undrew hb)))) | (have Bw := Lib.hid (below_step Bw.out (below_undrew (below_unal hb)))) | (have Bw := Lib.hid (below_step Bw.out (below_unal (below_unal hb)))))
  clear hb hr
  go_wp2
  go_ret2
  exact ⟨r, HR.out, rfl, Bw.out⟩

set_option maxRecDepth 20000 in
theorem fnExactWarmOf_walk (s : SF) (h : Nat) (w : World) (_ : s.wf) (_ : (Lit.float .f32 h).wf = true) : Calls Try.prog 4 #[.agg #[.float .f32 s.so, .float .f32 s.fl, .float .f32 s.es, .float .f32 s.ef, .float .f32 s.pt, .float .f32 s.la], .float .f32 h] w (Tru w) := by
  have A := Lib.hid (Cells.made w s.vs 24)
  have Bw := Lib.hid (below_al1 w (.cells #[.float .f32 s.so, .float .f32 s.fl, .float .f32 s.es, .float .f32 s.ef, .float .f32 s.pt, .float .f32 s.la] 24))
  go_enter Try.func4, Try.ntmps4
  go_wp2_with fail
  refine (toStuff_any s _).mono ?_
  rintro e w1 ⟨rfl, hb⟩
  (first | (have Bw := Lib.hid (below_step Bw.out hb)) | (have Bw := Lib.hid (below_step Bw.out (below_undrew hb))) | (have Bw := Lib.hid (below_step Bw.out (below_unal hb))) | (have Bw := Lib.hid (below_step Bw.out (below_unal (below_undrew hb)))) | (have Bw := Lib.hid (below_step Bw.out (below_undrew (below_unal hb)))) | (have Bw := Lib.hid (below_step Bw.out (below_unal (below_unal hb)))))
  (first | (have A := Lib.hid (A.out.kept hb)) | (have A := Lib.hid (A.out.kept (below_undrew hb))) | (have A := Lib.hid (A.out.kept (below_unal hb))) | (have A := Lib.hid (A.out.kept (below_unal (below_undrew hb)))) | (have A := Lib.hid (A.out.kept (below_undrew (below_unal hb)))) | (have A := Lib.hid (A.out.kept (below_unal (below_unal hb)))))
  have c0 := A.out.at 0 rfl; have c1 := A.out.at 1 rfl; have c2 := A.out.at 2 rfl; have c3 := A.out.at 3 rfl; have c4 := A.out.at 4 rfl; have c5 := A.out.at 5 rfl
  clear hb
  go_wp2_with fail
  refine (specWarmOf_any s h _).mono ?_
  rintro _ w2 ⟨r1, hr1, rfl, hb⟩
  have R1 := Lib.hid hr1
  (first | (have Bw := Lib.hid (below_step Bw.out hb)) | (have Bw := Lib.hid (below_step Bw.out (below_undrew hb))) | (have Bw := Lib.hid (below_step Bw.out (below_unal hb))) | (have Bw := Lib.hid (below_step Bw.out (below_unal (below_undrew hb)))) | (have Bw := Lib.hid (below_step Bw.out (below_undrew (below_unal hb)))) | (have Bw := Lib.hid (below_step Bw.out (below_unal (below_unal hb)))))
  (first | (have A := Lib.hid (A.out.kept hb)) | (have A := Lib.hid (A.out.kept (below_undrew hb))) | (have A := Lib.hid (A.out.kept (below_unal hb))) | (have A := Lib.hid (A.out.kept (below_unal (below_undrew hb)))) | (have A := Lib.hid (A.out.kept (below_undrew (below_unal hb)))) | (have A := Lib.hid (A.out.kept (below_unal (below_unal hb)))))
  clear c0 c1 c2 c3 c4 c5
  have c0 := A.out.at 0 rfl; have c1 := A.out.at 1 rfl; have c2 := A.out.at 2 rfl; have c3 := A.out.at 3 rfl; have c4 := A.out.at 4 rfl; have c5 := A.out.at 5 rfl
  clear hb hr1
  go_wp2_with fail
  refine (toStuff_any s _).mono ?_
  rintro e w1 ⟨rfl, hb⟩
  (first | (have Bw := Lib.hid (below_step Bw.out hb)) | (have Bw := Lib.hid (below_step Bw.out (below_undrew hb))) | (have Bw := Lib.hid (below_step Bw.out (below_unal hb))) | (have Bw := Lib.hid (below_step Bw.out (below_unal (below_undrew hb)))) | (have Bw := Lib.hid (below_step Bw.out (below_undrew (below_unal hb)))) | (have Bw := Lib.hid (below_step Bw.out (below_unal (below_unal hb)))))
  (first | (have A := Lib.hid (A.out.kept hb)) | (have A := Lib.hid (A.out.kept (below_undrew hb))) | (have A := Lib.hid (A.out.kept (below_unal hb))) | (have A := Lib.hid (A.out.kept (below_unal (below_undrew hb)))) | (have A := Lib.hid (A.out.kept (below_undrew (below_unal hb)))) | (have A := Lib.hid (A.out.kept (below_unal (below_unal hb)))))
  have c0 := A.out.at 0 rfl; have c1 := A.out.at 1 rfl; have c2 := A.out.at 2 rfl; have c3 := A.out.at 3 rfl; have c4 := A.out.at 4 rfl; have c5 := A.out.at 5 rfl
  clear hb
  go_wp2_with fail
  refine (implWarmOf_any s h _).mono ?_
  rintro _ w4 ⟨r2, hr2, rfl, hb⟩
  have R2 := Lib.hid hr2
  (first | (have Bw := Lib.hid (below_step Bw.out hb)) | (have Bw := Lib.hid (below_step Bw.out (below_undrew hb))) | (have Bw := Lib.hid (below_step Bw.out (below_unal hb))) | (have Bw := Lib.hid (below_step Bw.out (below_unal (below_undrew hb)))) | (have Bw := Lib.hid (below_step Bw.out (below_undrew (below_unal hb)))) | (have Bw := Lib.hid (below_step Bw.out (below_unal (below_unal hb)))))
  clear hb hr2
  go_wp2_with (first | (refine wpList_up rfl Try.underlying22 Try.underlying32 _ rfl _ rfl ?_; intro _ _ _) | (go_at_call 20; refine (same_end (a := r2) (b := r1) _ (by assumption) (by assumption) (R2.out.trans R1.out.symm)).mono ?_; rintro e w' ⟨rfl, n, rfl⟩))
  go_ret
  exact Tru.below (below_drewN Bw.out _)

set_option maxHeartbeats 800000 in
theorem specPartOf_any (s : SF) (h : Nat) (w : World) : Calls Try.prog 21 #[.agg #[.float .f32 s.so, .float .f32 s.fl, .float .f32 s.es, .float .f32 s.ef, .float .f32 s.pt, .float .f32 s.la], .float .f32 h] w (GivB (tolS s h (partF s h)) (tolB s h (partF s h)) w) := by
  have A := Lib.hid (Cells.made w s.vs 26)
  have Bw := Lib.hid (below_al1 w (.cells #[.float .f32 s.so, .float .f32 s.fl, .float .f32 s.es, .float .f32 s.ef, .float .f32 s.pt, .float .f32 s.la] 26))
  cases S0 : vStuff s
  · have HS := Lib.hid S0
    clear S0
    go_enter Try.func21, Try.ntmps21
    go_wp2_with fail
    refine (specStuff_any s _ _ A.out).mono ?_
    rw [HS.out]
    rintro e w1 ⟨rfl, n1, rfl⟩
    go_wp2
    go_ret2
    exact GivT.no (told_no1 HS.out) (by repeat (first | exact Bw.out | exact Below.refl _ _ | refine Below.setCell ?_ (by first | exact Nat.le_refl _ | (simp; done) | (simp; omega) | omega) _ | refine below_drewN ?_ _ | refine Below.alloc ?_ (by first | exact Nat.le_refl _ | (simp; done) | (simp; omega) | omega) _))
  · cases F0 : fin .f32 h
    · have HS := Lib.hid S0
      have HF := Lib.hid F0
      clear S0 F0
      go_enter Try.func21, Try.ntmps21
      go_wp2_with fail
      refine (specStuff_any s _ _ A.out).mono ?_
      rw [HS.out]
      rintro e w1 ⟨rfl, n1, rfl⟩
      go_wp2_with fail
      refine (specFinite_any _ _).mono ?_
      rw [HF.out]
      rintro e w3 ⟨rfl, n2, rfl⟩
      go_wp2
      go_ret2
      exact GivT.no (told_no2 HS.out HF.out) (by repeat (first | exact Bw.out | exact Below.refl _ _ | refine Below.setCell ?_ (by first | exact Nat.le_refl _ | (simp; done) | (simp; omega) | omega) _ | refine below_drewN ?_ _ | refine Below.alloc ?_ (by first | exact Nat.le_refl _ | (simp; done) | (simp; omega) | omega) _))
    · have HS := Lib.hid S0
      have HF := Lib.hid F0
      clear S0 F0
      go_enter Try.func21, Try.ntmps21
      go_wp2_with fail
      refine (specStuff_any s _ _ A.out).mono ?_
      rw [HS.out]
      rintro e w1 ⟨rfl, n1, rfl⟩
      go_wp2_with fail
      refine (specFinite_any _ _).mono ?_
      rw [HF.out]
      rintro e w3 ⟨rfl, n2, rfl⟩
      go_wp2_with fail
      refine (specPartV_any s h _ _ A.out.drewN).mono ?_
      rintro e w4 ⟨r, hr, rfl, n3, rfl⟩
      have HR := Lib.hid hr
      clear hr
      go_wp2_with fail
      refine (specNum_any _ _).mono ?_
      rintro e w5 ⟨rfl, n4, rfl⟩
      go_wp2
      go_ret2
      exact GivT.num (told_yes HS.out HF.out) HR.out (by repeat (first | exact Bw.out | exact Below.refl _ _ | refine Below.setCell ?_ (by first | exact Nat.le_refl _ | (simp; done) | (simp; omega) | omega) _ | refine below_drewN ?_ _ | refine Below.alloc ?_ (by first | exact Nat.le_refl _ | (simp; done) | (simp; omega) | omega) _))

set_option maxHeartbeats 800000 in
theorem toldPart_any (s : SF) (h : Nat) (w : World) : Calls Try.prog 55 #[.agg #[.float .f32 s.so, .float .f32 s.fl, .float .f32 s.es, .float .f32 s.ef, .float .f32 s.pt, .float .f32 s.la], .float .f32 h, .func (.func 58) #[] #[]] w (GivB (tolS s h (partF s h)) (tolB s h (partF s h)) w) := by
  have A := Lib.hid (Cells.made w s.vs 26)
  have Bw := Lib.hid (below_al1 w (.cells #[.float .f32 s.so, .float .f32 s.fl, .float .f32 s.es, .float .f32 s.ef, .float .f32 s.pt, .float .f32 s.la] 26))
  cases S0 : vStuff s
  · have HS := Lib.hid S0
    clear S0
    go_enter Try.func55, Try.ntmps55
    go_wp2_with fail
    refine (implVStuff_any s _).mono ?_
    rw [HS.out]
    rintro e w2 ⟨rfl, hb⟩
    (first | (have Bw := Lib.hid (below_step Bw.out hb)) | (have Bw := Lib.hid (below_step Bw.out (below_undrew hb))) | (have Bw := Lib.hid (below_step Bw.out (below_unal hb))) | (have Bw := Lib.hid (below_step Bw.out (below_unal (below_undrew hb)))) | (have Bw := Lib.hid (below_step Bw.out (below_undrew (below_unal hb)))) | (have Bw := Lib.hid (below_step Bw.out (below_unal (below_unal hb)))))
    (first | (have A := Lib.hid (A.out.kept hb)) | (have A := Lib.hid (A.out.kept (below_undrew hb))) | (have A := Lib.hid (A.out.kept (below_unal hb))) | (have A := Lib.hid (A.out.kept (below_unal (below_undrew hb)))) | (have A := Lib.hid (A.out.kept (below_undrew (below_unal hb)))) | (have A := Lib.hid (A.out.kept (below_unal (below_unal hb)))))
    have hz := Bw.out.size
    clear hb
    go_wp2
    go_ret2
    exact GivT.no (told_no1 HS.out) (by repeat (first | exact Bw.out | exact Below.refl _ _ | refine Below.setCell ?_ (by first | exact Nat.le_refl _ | (simp; done) | (simp; omega) | omega) _ | refine below_drewN ?_ _ | refine Below.alloc ?_ (by first | exact Nat.le_refl _ | (simp; done) | (simp; omega) | omega) _))
  · cases F0 : fin .f32 h
    · have HS := Lib.hid S0
      have HF := Lib.hid F0
      clear S0 F0
      go_enter Try.func55, Try.ntmps55
      go_wp2_with fail
      refine (implVStuff_any s _).mono ?_
      rw [HS.out]
      rintro e w2 ⟨rfl, hb⟩
      (first | (have Bw := Lib.hid (below_step Bw.out hb)) | (have Bw := Lib.hid (below_step Bw.out (below_undrew hb))) | (have Bw := Lib.hid (below_step Bw.out (below_unal hb))) | (have Bw := Lib.hid (below_step Bw.out (below_unal (below_undrew hb)))) | (have Bw := Lib.hid (below_step Bw.out (below_undrew (below_unal hb)))) | (have Bw := Lib.hid (below_step Bw.out (below_unal (below_unal hb)))))
      (first | (have A := Lib.hid (A.out.kept hb)) | (have A := Lib.hid (A.out.kept (below_undrew hb))) | (have A := Lib.hid (A.out.kept (below_unal hb))) | (have A := Lib.hid (A.out.kept (below_unal (below_undrew hb)))) | (have A := Lib.hid (A.out.kept (below_undrew (below_unal hb)))) | (have A := Lib.hid (A.out.kept (below_unal (below_unal hb)))))
      have hz := Bw.out.size
      clear hb
      go_wp2_with fail
      refine (implFinite_any _ _).mono ?_
      rw [HF.out]
      rintro e w3 ⟨rfl, n2, rfl⟩
      go_wp2
      go_ret2
      exact GivT.no (told_no2 HS.out HF.out) (by repeat (first | exact Bw.out | exact Below.refl _ _ | refine Below.setCell ?_ (by first | exact Nat.le_refl _ | (simp; done) | (simp; omega) | omega) _ | refine below_drewN ?_ _ | refine Below.alloc ?_ (by first | exact Nat.le_refl _ | (simp; done) | (simp; omega) | omega) _))
    · have HS := Lib.hid S0
      have HF := Lib.hid F0
      clear S0 F0
      go_enter Try.func55, Try.ntmps55
      go_wp2_with fail
      refine (implVStuff_any s _).mono ?_
      rw [HS.out]
      rintro e w2 ⟨rfl, hb⟩
      (first | (have Bw := Lib.hid (below_step Bw.out hb)) | (have Bw := Lib.hid (below_step Bw.out (below_undrew hb))) | (have Bw := Lib.hid (below_step Bw.out (below_unal hb))) | (have Bw := Lib.hid (below_step Bw.out (below_unal (below_undrew hb)))) | (have Bw := Lib.hid (below_step Bw.out (below_undrew (below_unal hb)))) | (have Bw := Lib.hid (below_step Bw.out (below_unal (below_unal hb)))))
      (first | (have A := Lib.hid (A.out.kept hb)) | (have A := Lib.hid (A.out.kept (below_undrew hb))) | (have A := Lib.hid (A.out.kept (below_unal hb))) | (have A := Lib.hid (A.out.kept (below_unal (below_undrew hb)))) | (have A := Lib.hid (A.out.kept (below_undrew (below_unal hb)))) | (have A := Lib.hid (A.out.kept (below_unal (below_unal hb)))))
      have hz := Bw.out.size
      clear hb
      have c0 := A.out.at 0 rfl; have c1 := A.out.at 1 rfl; have c2 := A.out.at 2 rfl; have c3 := A.out.at 3 rfl; have c4 := A.out.at 4 rfl; have c5 := A.out.at 5 rfl
      go_wp2_with fail
      refine (implFinite_any _ _).mono ?_
      rw [HF.out]
      rintro e w3 ⟨rfl, n2, rfl⟩
      go_wp2_with fail
      refine (partIn_any s _).mono ?_
      rintro e w4 ⟨rfl, rfl⟩
      go_wp2_with fail
      refine (litPart_any s h _ _ (Cells.made _ s.vs 26)).mono ?_
      rintro e w5 ⟨r, hr, rfl, n3, rfl⟩
      have HR := Lib.hid hr
      clear hr
      go_wp2_with fail
      refine (implNum_any _ _).mono ?_
      rintro e w6 ⟨rfl, n4, rfl⟩
      go_wp2
      go_ret2
      exact GivT.num (told_yes HS.out HF.out) HR.out (by repeat (first | exact Bw.out | exact Below.refl _ _ | refine Below.setCell ?_ (by first | exact Nat.le_refl _ | (simp; done) | (simp; omega) | omega) _ | refine below_drewN ?_ _ | refine Below.alloc ?_ (by first | exact Nat.le_refl _ | (simp; done) | (simp; omega) | omega) _))

theorem implPartOf_any (s : SF) (h : Nat) (w : World) : Calls Try.prog 22 #[.agg #[.float .f32 s.so, .float .f32 s.fl, .float .f32 s.es, .float .f32 s.ef, .float .f32 s.pt, .float .f32 s.la], .float .f32 h] w (GivB (tolS s h (partF s h)) (tolB s h (partF s h)) w) := by
  have Bw := Lib.hid (below_al1 w (.cells #[.float .f32 s.so, .float .f32 s.fl, .float .f32 s.es, .float .f32 s.ef, .float .f32 s.pt, .float .f32 s.la] 26))
  go_enter Try.func22, Try.ntmps22
  go_wp2_with fail
  refine (toldPart_any s h _).mono ?_
  rintro e w2 ⟨r, hr, rfl, hb⟩
  have HR := Lib.hid hr
  (first | (have Bw := Lib.hid (below_step Bw.out hb)) | (have Bw := Lib.hid (below_step Bw.out (below_undrew hb))) | (have Bw := Lib.hid (below_step Bw.out (below_unal hb))) | (have Bw := Lib.hid (below_step Bw.out (below_unal (below_undrew hb)))) | (have Bw := Lib.hid (below_step Bw.out (below_undrew (below_unal hb)))) | (have Bw := Lib.hid (below_step Bw.out (below_unal (below_unal hb)))))
  clear hb hr
  go_wp2
  go_ret2
  exact ⟨r, HR.out, rfl, Bw.out⟩

set_option maxRecDepth 20000 in
theorem fnExactPartOf_walk (s : SF) (h : Nat) (w : World) (_ : s.wf) (_ : (Lit.float .f32 h).wf = true) : Calls Try.prog 5 #[.agg #[.float .f32 s.so, .float .f32 s.fl, .float .f32 s.es, .float .f32 s.ef, .float .f32 s.pt, .float .f32 s.la], .float .f32 h] w (Tru w) := by
  have A := Lib.hid (Cells.made w s.vs 24)
  have Bw := Lib.hid (below_al1 w (.cells #[.float .f32 s.so, .float .f32 s.fl, .float .f32 s.es, .float .f32 s.ef, .float .f32 s.pt, .float .f32 s.la] 24))
  go_enter Try.func5, Try.ntmps5
  go_wp2_with fail
  refine (toStuff_any s _).mono ?_
  rintro e w1 ⟨rfl, hb⟩
  (first | (have Bw := Lib.hid (below_step Bw.out hb)) | (have Bw := Lib.hid (below_step Bw.out (below_undrew hb))) | (have Bw := Lib.hid (below_step Bw.out (below_unal hb))) | (have Bw := Lib.hid (below_step Bw.out (below_unal (below_undrew hb)))) | (have Bw := Lib.hid (below_step Bw.out (below_undrew (below_unal hb)))) | (have Bw := Lib.hid (below_step Bw.out (below_unal (below_unal hb)))))
  (first | (have A := Lib.hid (A.out.kept hb)) | (have A := Lib.hid (A.out.kept (below_undrew hb))) | (have A := Lib.hid (A.out.kept (below_unal hb))) | (have A := Lib.hid (A.out.kept (below_unal (below_undrew hb)))) | (have A := Lib.hid (A.out.kept (below_undrew (below_unal hb)))) | (have A := Lib.hid (A.out.kept (below_unal (below_unal hb)))))
  have c0 := A.out.at 0 rfl; have c1 := A.out.at 1 rfl; have c2 := A.out.at 2 rfl; have c3 := A.out.at 3 rfl; have c4 := A.out.at 4 rfl; have c5 := A.out.at 5 rfl
  clear hb
  go_wp2_with fail
  refine (specPartOf_any s h _).mono ?_
  rintro _ w2 ⟨r1, hr1, rfl, hb⟩
  have R1 := Lib.hid hr1
  (first | (have Bw := Lib.hid (below_step Bw.out hb)) | (have Bw := Lib.hid (below_step Bw.out (below_undrew hb))) | (have Bw := Lib.hid (below_step Bw.out (below_unal hb))) | (have Bw := Lib.hid (below_step Bw.out (below_unal (below_undrew hb)))) | (have Bw := Lib.hid (below_step Bw.out (below_undrew (below_unal hb)))) | (have Bw := Lib.hid (below_step Bw.out (below_unal (below_unal hb)))))
  (first | (have A := Lib.hid (A.out.kept hb)) | (have A := Lib.hid (A.out.kept (below_undrew hb))) | (have A := Lib.hid (A.out.kept (below_unal hb))) | (have A := Lib.hid (A.out.kept (below_unal (below_undrew hb)))) | (have A := Lib.hid (A.out.kept (below_undrew (below_unal hb)))) | (have A := Lib.hid (A.out.kept (below_unal (below_unal hb)))))
  clear c0 c1 c2 c3 c4 c5
  have c0 := A.out.at 0 rfl; have c1 := A.out.at 1 rfl; have c2 := A.out.at 2 rfl; have c3 := A.out.at 3 rfl; have c4 := A.out.at 4 rfl; have c5 := A.out.at 5 rfl
  clear hb hr1
  go_wp2_with fail
  refine (toStuff_any s _).mono ?_
  rintro e w1 ⟨rfl, hb⟩
  (first | (have Bw := Lib.hid (below_step Bw.out hb)) | (have Bw := Lib.hid (below_step Bw.out (below_undrew hb))) | (have Bw := Lib.hid (below_step Bw.out (below_unal hb))) | (have Bw := Lib.hid (below_step Bw.out (below_unal (below_undrew hb)))) | (have Bw := Lib.hid (below_step Bw.out (below_undrew (below_unal hb)))) | (have Bw := Lib.hid (below_step Bw.out (below_unal (below_unal hb)))))
  (first | (have A := Lib.hid (A.out.kept hb)) | (have A := Lib.hid (A.out.kept (below_undrew hb))) | (have A := Lib.hid (A.out.kept (below_unal hb))) | (have A := Lib.hid (A.out.kept (below_unal (below_undrew hb)))) | (have A := Lib.hid (A.out.kept (below_undrew (below_unal hb)))) | (have A := Lib.hid (A.out.kept (below_unal (below_unal hb)))))
  have c0 := A.out.at 0 rfl; have c1 := A.out.at 1 rfl; have c2 := A.out.at 2 rfl; have c3 := A.out.at 3 rfl; have c4 := A.out.at 4 rfl; have c5 := A.out.at 5 rfl
  clear hb
  go_wp2_with fail
  refine (implPartOf_any s h _).mono ?_
  rintro _ w4 ⟨r2, hr2, rfl, hb⟩
  have R2 := Lib.hid hr2
  (first | (have Bw := Lib.hid (below_step Bw.out hb)) | (have Bw := Lib.hid (below_step Bw.out (below_undrew hb))) | (have Bw := Lib.hid (below_step Bw.out (below_unal hb))) | (have Bw := Lib.hid (below_step Bw.out (below_unal (below_undrew hb)))) | (have Bw := Lib.hid (below_step Bw.out (below_undrew (below_unal hb)))) | (have Bw := Lib.hid (below_step Bw.out (below_unal (below_unal hb)))))
  clear hb hr2
  go_wp2_with (first | (refine wpList_up rfl Try.underlying22 Try.underlying32 _ rfl _ rfl ?_; intro _ _ _) | (go_at_call 20; refine (same_end (a := r2) (b := r1) _ (by assumption) (by assumption) (R2.out.trans R1.out.symm)).mono ?_; rintro e w' ⟨rfl, n, rfl⟩))
  go_ret
  exact Tru.below (below_drewN Bw.out _)

set_option maxHeartbeats 800000 in
theorem specEaseOf_any (s : SF) (h : Nat) (w : World) : Calls Try.prog 25 #[.agg #[.float .f32 s.so, .float .f32 s.fl, .float .f32 s.es, .float .f32 s.ef, .float .f32 s.pt, .float .f32 s.la], .float .f32 h] w (GivB (tolS s h (easeF s h)) (tolB s h (easeF s h)) w) := by
  have A := Lib.hid (Cells.made w s.vs 26)
  have Bw := Lib.hid (below_al1 w (.cells #[.float .f32 s.so, .float .f32 s.fl, .float .f32 s.es, .float .f32 s.ef, .float .f32 s.pt, .float .f32 s.la] 26))
  cases S0 : vStuff s
  · have HS := Lib.hid S0
    clear S0
    go_enter Try.func25, Try.ntmps25
    go_wp2_with fail
    refine (specStuff_any s _ _ A.out).mono ?_
    rw [HS.out]
    rintro e w1 ⟨rfl, n1, rfl⟩
    go_wp2
    go_ret2
    exact GivT.no (told_no1 HS.out) (by repeat (first | exact Bw.out | exact Below.refl _ _ | refine Below.setCell ?_ (by first | exact Nat.le_refl _ | (simp; done) | (simp; omega) | omega) _ | refine below_drewN ?_ _ | refine Below.alloc ?_ (by first | exact Nat.le_refl _ | (simp; done) | (simp; omega) | omega) _))
  · cases F0 : fin .f32 h
    · have HS := Lib.hid S0
      have HF := Lib.hid F0
      clear S0 F0
      go_enter Try.func25, Try.ntmps25
      go_wp2_with fail
      refine (specStuff_any s _ _ A.out).mono ?_
      rw [HS.out]
      rintro e w1 ⟨rfl, n1, rfl⟩
      go_wp2_with fail
      refine (specFinite_any _ _).mono ?_
      rw [HF.out]
      rintro e w3 ⟨rfl, n2, rfl⟩
      go_wp2
      go_ret2
      exact GivT.no (told_no2 HS.out HF.out) (by repeat (first | exact Bw.out | exact Below.refl _ _ | refine Below.setCell ?_ (by first | exact Nat.le_refl _ | (simp; done) | (simp; omega) | omega) _ | refine below_drewN ?_ _ | refine Below.alloc ?_ (by first | exact Nat.le_refl _ | (simp; done) | (simp; omega) | omega) _))
    · have HS := Lib.hid S0
      have HF := Lib.hid F0
      clear S0 F0
      go_enter Try.func25, Try.ntmps25
      go_wp2_with fail
      refine (specStuff_any s _ _ A.out).mono ?_
      rw [HS.out]
      rintro e w1 ⟨rfl, n1, rfl⟩
      go_wp2_with fail
      refine (specFinite_any _ _).mono ?_
      rw [HF.out]
      rintro e w3 ⟨rfl, n2, rfl⟩
      go_wp2_with fail
      refine (specEaseV_any s h _ _ A.out.drewN).mono ?_
      rintro e w4 ⟨r, hr, rfl, n3, rfl⟩
      have HR := Lib.hid hr
      clear hr
      go_wp2_with fail
      refine (specNum_any _ _).mono ?_
      rintro e w5 ⟨rfl, n4, rfl⟩
      go_wp2
      go_ret2
      exact GivT.num (told_yes HS.out HF.out) HR.out (by repeat (first | exact Bw.out | exact Below.refl _ _ | refine Below.setCell ?_ (by first | exact Nat.le_refl _ | (simp; done) | (simp; omega) | omega) _ | refine below_drewN ?_ _ | refine Below.alloc ?_ (by first | exact Nat.le_refl _ | (simp; done) | (simp; omega) | omega) _))

set_option maxHeartbeats 800000 in
theorem toldEase_any (s : SF) (h : Nat) (w : World) : Calls Try.prog 55 #[.agg #[.float .f32 s.so, .float .f32 s.fl, .float .f32 s.es, .float .f32 s.ef, .float .f32 s.pt, .float .f32 s.la], .float .f32 h, .func (.func 65) #[] #[]] w (GivB (tolS s h (easeF s h)) (tolB s h (easeF s h)) w) := by
  have A := Lib.hid (Cells.made w s.vs 26)
  have Bw := Lib.hid (below_al1 w (.cells #[.float .f32 s.so, .float .f32 s.fl, .float .f32 s.es, .float .f32 s.ef, .float .f32 s.pt, .float .f32 s.la] 26))
  cases S0 : vStuff s
  · have HS := Lib.hid S0
    clear S0
    go_enter Try.func55, Try.ntmps55
    go_wp2_with fail
    refine (implVStuff_any s _).mono ?_
    rw [HS.out]
    rintro e w2 ⟨rfl, hb⟩
    (first | (have Bw := Lib.hid (below_step Bw.out hb)) | (have Bw := Lib.hid (below_step Bw.out (below_undrew hb))) | (have Bw := Lib.hid (below_step Bw.out (below_unal hb))) | (have Bw := Lib.hid (below_step Bw.out (below_unal (below_undrew hb)))) | (have Bw := Lib.hid (below_step Bw.out (below_undrew (below_unal hb)))) | (have Bw := Lib.hid (below_step Bw.out (below_unal (below_unal hb)))))
    (first | (have A := Lib.hid (A.out.kept hb)) | (have A := Lib.hid (A.out.kept (below_undrew hb))) | (have A := Lib.hid (A.out.kept (below_unal hb))) | (have A := Lib.hid (A.out.kept (below_unal (below_undrew hb)))) | (have A := Lib.hid (A.out.kept (below_undrew (below_unal hb)))) | (have A := Lib.hid (A.out.kept (below_unal (below_unal hb)))))
    have hz := Bw.out.size
    clear hb
    go_wp2
    go_ret2
    exact GivT.no (told_no1 HS.out) (by repeat (first | exact Bw.out | exact Below.refl _ _ | refine Below.setCell ?_ (by first | exact Nat.le_refl _ | (simp; done) | (simp; omega) | omega) _ | refine below_drewN ?_ _ | refine Below.alloc ?_ (by first | exact Nat.le_refl _ | (simp; done) | (simp; omega) | omega) _))
  · cases F0 : fin .f32 h
    · have HS := Lib.hid S0
      have HF := Lib.hid F0
      clear S0 F0
      go_enter Try.func55, Try.ntmps55
      go_wp2_with fail
      refine (implVStuff_any s _).mono ?_
      rw [HS.out]
      rintro e w2 ⟨rfl, hb⟩
      (first | (have Bw := Lib.hid (below_step Bw.out hb)) | (have Bw := Lib.hid (below_step Bw.out (below_undrew hb))) | (have Bw := Lib.hid (below_step Bw.out (below_unal hb))) | (have Bw := Lib.hid (below_step Bw.out (below_unal (below_undrew hb)))) | (have Bw := Lib.hid (below_step Bw.out (below_undrew (below_unal hb)))) | (have Bw := Lib.hid (below_step Bw.out (below_unal (below_unal hb)))))
      (first | (have A := Lib.hid (A.out.kept hb)) | (have A := Lib.hid (A.out.kept (below_undrew hb))) | (have A := Lib.hid (A.out.kept (below_unal hb))) | (have A := Lib.hid (A.out.kept (below_unal (below_undrew hb)))) | (have A := Lib.hid (A.out.kept (below_undrew (below_unal hb)))) | (have A := Lib.hid (A.out.kept (below_unal (below_unal hb)))))
      have hz := Bw.out.size
      clear hb
      go_wp2_with fail
      refine (implFinite_any _ _).mono ?_
      rw [HF.out]
      rintro e w3 ⟨rfl, n2, rfl⟩
      go_wp2
      go_ret2
      exact GivT.no (told_no2 HS.out HF.out) (by repeat (first | exact Bw.out | exact Below.refl _ _ | refine Below.setCell ?_ (by first | exact Nat.le_refl _ | (simp; done) | (simp; omega) | omega) _ | refine below_drewN ?_ _ | refine Below.alloc ?_ (by first | exact Nat.le_refl _ | (simp; done) | (simp; omega) | omega) _))
    · have HS := Lib.hid S0
      have HF := Lib.hid F0
      clear S0 F0
      go_enter Try.func55, Try.ntmps55
      go_wp2_with fail
      refine (implVStuff_any s _).mono ?_
      rw [HS.out]
      rintro e w2 ⟨rfl, hb⟩
      (first | (have Bw := Lib.hid (below_step Bw.out hb)) | (have Bw := Lib.hid (below_step Bw.out (below_undrew hb))) | (have Bw := Lib.hid (below_step Bw.out (below_unal hb))) | (have Bw := Lib.hid (below_step Bw.out (below_unal (below_undrew hb)))) | (have Bw := Lib.hid (below_step Bw.out (below_undrew (below_unal hb)))) | (have Bw := Lib.hid (below_step Bw.out (below_unal (below_unal hb)))))
      (first | (have A := Lib.hid (A.out.kept hb)) | (have A := Lib.hid (A.out.kept (below_undrew hb))) | (have A := Lib.hid (A.out.kept (below_unal hb))) | (have A := Lib.hid (A.out.kept (below_unal (below_undrew hb)))) | (have A := Lib.hid (A.out.kept (below_undrew (below_unal hb)))) | (have A := Lib.hid (A.out.kept (below_unal (below_unal hb)))))
      have hz := Bw.out.size
      clear hb
      have c0 := A.out.at 0 rfl; have c1 := A.out.at 1 rfl; have c2 := A.out.at 2 rfl; have c3 := A.out.at 3 rfl; have c4 := A.out.at 4 rfl; have c5 := A.out.at 5 rfl
      go_wp2_with fail
      refine (implFinite_any _ _).mono ?_
      rw [HF.out]
      rintro e w3 ⟨rfl, n2, rfl⟩
      go_wp2_with fail
      refine (easeIn_any s _).mono ?_
      rintro e w4 ⟨q, q2, q3, rfl, Q, X, Y, hb⟩
      have Q := Lib.hid Q
      have X := Lib.hid X
      have Y := Lib.hid Y
      (first | (have Bw := Lib.hid (below_step Bw.out hb)) | (have Bw := Lib.hid (below_step Bw.out (below_undrew hb))) | (have Bw := Lib.hid (below_step Bw.out (below_unal hb))) | (have Bw := Lib.hid (below_step Bw.out (below_unal (below_undrew hb)))) | (have Bw := Lib.hid (below_step Bw.out (below_undrew (below_unal hb)))) | (have Bw := Lib.hid (below_step Bw.out (below_unal (below_unal hb)))))
      clear hb
      go_wp2_with fail
      refine (litEase_any s h _ _ _ _ Q.out X.out Y.out).mono ?_
      rintro e w5 ⟨r, hr, rfl, n3, rfl⟩
      have HR := Lib.hid hr
      clear hr
      go_wp2_with fail
      refine (implNum_any _ _).mono ?_
      rintro e w6 ⟨rfl, n4, rfl⟩
      go_wp2
      go_ret2
      exact GivT.num (told_yes HS.out HF.out) HR.out (by repeat (first | exact Bw.out | exact Below.refl _ _ | refine Below.setCell ?_ (by first | exact Nat.le_refl _ | (simp; done) | (simp; omega) | omega) _ | refine below_drewN ?_ _ | refine Below.alloc ?_ (by first | exact Nat.le_refl _ | (simp; done) | (simp; omega) | omega) _))

theorem implEaseOf_any (s : SF) (h : Nat) (w : World) : Calls Try.prog 26 #[.agg #[.float .f32 s.so, .float .f32 s.fl, .float .f32 s.es, .float .f32 s.ef, .float .f32 s.pt, .float .f32 s.la], .float .f32 h] w (GivB (tolS s h (easeF s h)) (tolB s h (easeF s h)) w) := by
  have Bw := Lib.hid (below_al1 w (.cells #[.float .f32 s.so, .float .f32 s.fl, .float .f32 s.es, .float .f32 s.ef, .float .f32 s.pt, .float .f32 s.la] 26))
  go_enter Try.func26, Try.ntmps26
  go_wp2_with fail
  refine (toldEase_any s h _).mono ?_
  rintro e w2 ⟨r, hr, rfl, hb⟩
  have HR := Lib.hid hr
  (first | (have Bw := Lib.hid (below_step Bw.out hb)) | (have Bw := Lib.hid (below_step Bw.out (below_undrew hb))) | (have Bw := Lib.hid (below_step Bw.out (below_unal hb))) | (have Bw := Lib.hid (below_step Bw.out (below_unal (below_undrew hb)))) | (have Bw := Lib.hid (below_step Bw.out (below_undrew (below_unal hb)))) | (have Bw := Lib.hid (below_step Bw.out (below_unal (below_unal hb)))))
  clear hb hr
  go_wp2
  go_ret2
  exact ⟨r, HR.out, rfl, Bw.out⟩

set_option maxRecDepth 20000 in
theorem fnExactEaseOf_walk (s : SF) (h : Nat) (w : World) (_ : s.wf) (_ : (Lit.float .f32 h).wf = true) : Calls Try.prog 7 #[.agg #[.float .f32 s.so, .float .f32 s.fl, .float .f32 s.es, .float .f32 s.ef, .float .f32 s.pt, .float .f32 s.la], .float .f32 h] w (Tru w) := by
  have A := Lib.hid (Cells.made w s.vs 24)
  have Bw := Lib.hid (below_al1 w (.cells #[.float .f32 s.so, .float .f32 s.fl, .float .f32 s.es, .float .f32 s.ef, .float .f32 s.pt, .float .f32 s.la] 24))
  go_enter Try.func7, Try.ntmps7
  go_wp2_with fail
  refine (toStuff_any s _).mono ?_
  rintro e w1 ⟨rfl, hb⟩
  (first | (have Bw := Lib.hid (below_step Bw.out hb)) | (have Bw := Lib.hid (below_step Bw.out (below_undrew hb))) | (have Bw := Lib.hid (below_step Bw.out (below_unal hb))) | (have Bw := Lib.hid (below_step Bw.out (below_unal (below_undrew hb)))) | (have Bw := Lib.hid (below_step Bw.out (below_undrew (below_unal hb)))) | (have Bw := Lib.hid (below_step Bw.out (below_unal (below_unal hb)))))
  (first | (have A := Lib.hid (A.out.kept hb)) | (have A := Lib.hid (A.out.kept (below_undrew hb))) | (have A := Lib.hid (A.out.kept (below_unal hb))) | (have A := Lib.hid (A.out.kept (below_unal (below_undrew hb)))) | (have A := Lib.hid (A.out.kept (below_undrew (below_unal hb)))) | (have A := Lib.hid (A.out.kept (below_unal (below_unal hb)))))
  have c0 := A.out.at 0 rfl; have c1 := A.out.at 1 rfl; have c2 := A.out.at 2 rfl; have c3 := A.out.at 3 rfl; have c4 := A.out.at 4 rfl; have c5 := A.out.at 5 rfl
  clear hb
  go_wp2_with fail
  refine (specEaseOf_any s h _).mono ?_
  rintro _ w2 ⟨r1, hr1, rfl, hb⟩
  have R1 := Lib.hid hr1
  (first | (have Bw := Lib.hid (below_step Bw.out hb)) | (have Bw := Lib.hid (below_step Bw.out (below_undrew hb))) | (have Bw := Lib.hid (below_step Bw.out (below_unal hb))) | (have Bw := Lib.hid (below_step Bw.out (below_unal (below_undrew hb)))) | (have Bw := Lib.hid (below_step Bw.out (below_undrew (below_unal hb)))) | (have Bw := Lib.hid (below_step Bw.out (below_unal (below_unal hb)))))
  (first | (have A := Lib.hid (A.out.kept hb)) | (have A := Lib.hid (A.out.kept (below_undrew hb))) | (have A := Lib.hid (A.out.kept (below_unal hb))) | (have A := Lib.hid (A.out.kept (below_unal (below_undrew hb)))) | (have A := Lib.hid (A.out.kept (below_undrew (below_unal hb)))) | (have A := Lib.hid (A.out.kept (below_unal (below_unal hb)))))
  clear c0 c1 c2 c3 c4 c5
  have c0 := A.out.at 0 rfl; have c1 := A.out.at 1 rfl; have c2 := A.out.at 2 rfl; have c3 := A.out.at 3 rfl; have c4 := A.out.at 4 rfl; have c5 := A.out.at 5 rfl
  clear hb hr1
  go_wp2_with fail
  refine (toStuff_any s _).mono ?_
  rintro e w1 ⟨rfl, hb⟩
  (first | (have Bw := Lib.hid (below_step Bw.out hb)) | (have Bw := Lib.hid (below_step Bw.out (below_undrew hb))) | (have Bw := Lib.hid (below_step Bw.out (below_unal hb))) | (have Bw := Lib.hid (below_step Bw.out (below_unal (below_undrew hb)))) | (have Bw := Lib.hid (below_step Bw.out (below_undrew (below_unal hb)))) | (have Bw := Lib.hid (below_step Bw.out (below_unal (below_unal hb)))))
  (first | (have A := Lib.hid (A.out.kept hb)) | (have A := Lib.hid (A.out.kept (below_undrew hb))) | (have A := Lib.hid (A.out.kept (below_unal hb))) | (have A := Lib.hid (A.out.kept (below_unal (below_undrew hb)))) | (have A := Lib.hid (A.out.kept (below_undrew (below_unal hb)))) | (have A := Lib.hid (A.out.kept (below_unal (below_unal hb)))))
  have c0 := A.out.at 0 rfl; have c1 := A.out.at 1 rfl; have c2 := A.out.at 2 rfl; have c3 := A.out.at 3 rfl; have c4 := A.out.at 4 rfl; have c5 := A.out.at 5 rfl
  clear hb
  go_wp2_with fail
  refine (implEaseOf_any s h _).mono ?_
  rintro _ w4 ⟨r2, hr2, rfl, hb⟩
  have R2 := Lib.hid hr2
  (first | (have Bw := Lib.hid (below_step Bw.out hb)) | (have Bw := Lib.hid (below_step Bw.out (below_undrew hb))) | (have Bw := Lib.hid (below_step Bw.out (below_unal hb))) | (have Bw := Lib.hid (below_step Bw.out (below_unal (below_undrew hb)))) | (have Bw := Lib.hid (below_step Bw.out (below_undrew (below_unal hb)))) | (have Bw := Lib.hid (below_step Bw.out (below_unal (below_unal hb)))))
  clear hb hr2
  go_wp2_with (first | (refine wpList_up rfl Try.underlying22 Try.underlying32 _ rfl _ rfl ?_; intro _ _ _) | (go_at_call 20; refine (same_end (a := r2) (b := r1) _ (by assumption) (by assumption) (R2.out.trans R1.out.symm)).mono ?_; rintro e w' ⟨rfl, n, rfl⟩))
  go_ret
  exact Tru.below (below_drewN Bw.out _)

end Go.Proofs.Ytgcgfnpkkhhkgab
