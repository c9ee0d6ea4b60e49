/- How far a front comes: both sides; the walks of the laws FrontAt, GrowIce and ValidStuff. -/
import Derived.Test.YtgcgfnpkkhhkgaaIce
import Derived.Test.YtgcgfnpkkhhkgaaStef
import Derived.Test.YtgcgfnpkkhhkgaaRoot
namespace Go.Proofs.Ytgcgfnpkkhhkgaa
open Go Go.RowKit
set_option linter.unusedVariables false

theorem ord_none_fin {x y : Nat} (h : FloatKind.f32.format.order x y = none) (hx : fin .f32 x = true) (hy : fin .f32 y = true) : False := by
  have a : nn .f32 x = false := by cases hn : nn .f32 x with | false => rfl | true => rw [fin_nan hn] at hx; cases hx
  have b : nn .f32 y = false := by cases hn : nn .f32 y with | false => rfl | true => rw [fin_nan hn] at hy; cases hy
  rw [ord_key, a, b] at h
  simp at h
theorem fin_zero : fin .f32 0 = true := by decide +kernel
theorem vStuff_pt {s : SF} (h : vStuff s = true) : fin .f32 s.pt = true := by
  unfold vStuff at h
  simp only [Bool.and_eq_true] at h
  exact h.1.2
def over32 (x y : Nat) : Bool := FloatKind.f32.format.order x y == some .gt
def frontOk (s : SF) (x t : Nat) : Bool := vStuff s && fin .f32 x && over32 x s.pt && (fin .f32 t && ge0 t)
def sizeF (s : SF) (x : Nat) : Nat := fop .quo .f32 (fop .mul .f32 s.fl (fop .sub .f32 x s.pt)) s.la
def two32 : Nat := 1073741824
def frontF (s : SF) (x t : Nat) : Nat := fop .mul .f32 (fop .mul .f32 two32 (stefS (sizeF s x))) (cvd (fsq (cvu (fop .quo .f32 (fop .mul .f32 s.ef t) s.fl))))
def frontS (s : SF) (x t : Nat) : Nat := bif frontOk s x t && pos (sizeF s x) then ifF (frontF s x t) else 0
def frontB (s : SF) (x t : Nat) : Bool := frontOk s x t && pos (sizeF s x) && fin .f32 (frontF s x t)
theorem GivR.no {s : SF} {x t : Nat} {w w' : World} (h : (frontOk s x t && pos (sizeF s x)) = false) (hb : Below w.heap.size w w') : GivB (frontS s x t) (frontB s x t) w (.returned (.tuple #[.float .f32 0, .bool false])) w' := by
  unfold frontS frontB; rw [h, cond_false, Bool.false_and]; exact GivB.no hb
theorem GivR.num {s : SF} {x t r : Nat} {w w' : World} (h : (frontOk s x t && pos (sizeF s x)) = true) (hx : cn .f32 r = frontF s x t) (hb : Below w.heap.size w w') : GivB (frontS s x t) (frontB s x t) w (.returned (.tuple #[.float .f32 (ifF r), .bool (fin .f32 r)])) w' := by
  unfold frontS frontB; rw [h, cond_true, Bool.true_and]; exact GivB.num hx hb
theorem fr1 {s : SF} {x t : Nat} (h : vStuff s = false) : (frontOk s x t && pos (sizeF s x)) = false := by unfold frontOk; rw [h]; rfl
theorem fr2 {s : SF} {x t : Nat} (h : fin .f32 x = false) : (frontOk s x t && pos (sizeF s x)) = false := by unfold frontOk; rw [h]; simp
theorem fr3 {s : SF} {x t : Nat} (h : over32 x s.pt = false) : (frontOk s x t && pos (sizeF s x)) = false := by unfold frontOk; rw [h]; simp
theorem fr4 {s : SF} {x t : Nat} (h : (fin .f32 t && ge0 t) = false) : (frontOk s x t && pos (sizeF s x)) = false := by unfold frontOk; rw [h]; simp
theorem fr5 {s : SF} {x t : Nat} (h : pos (sizeF s x) = false) : (frontOk s x t && pos (sizeF s x)) = false := by rw [h]; simp
theorem fr6 {s : SF} {x t : Nat} (a : vStuff s = true) (b : fin .f32 x = true) (c : over32 x s.pt = true) (d : (fin .f32 t && ge0 t) = true) (e : pos (sizeF s x) = true) : (frontOk s x t && pos (sizeF s x)) = true := by unfold frontOk; rw [a, b, c, d, e]; rfl
theorem size_of {s : SF} {x r1 r2 r3 : Nat} (f1 : FR .sub .f32 x s.pt r1) (f2 : FR .mul .f32 s.fl r1 r2) (f3 : FR .quo .f32 r2 s.la r3) : cn .f32 r3 = sizeF s x := by
  unfold sizeF; rw [f3.1, f2.1, f1.1]; simp only [fopl', fopr']
theorem stefS_cn {r S : Nat} (h : cn .f32 r = S) : stefS r = stefS S := by
  unfold stefS; rw [show cn .f32 S = cn .f32 r by rw [← h, cn_cn]]
theorem front_of {s : SF} {x t r3 l r4 r5 r6 q r7 : Nat} (h3 : cn .f32 r3 = sizeF s x) (hl : cn .f32 l = stefS r3) (f4 : FR .mul .f32 two32 l r4) (f5 : FR .mul .f32 s.ef t r5) (f6 : FR .quo .f32 r5 s.fl r6) (hq : cn .f32 q = cvd (fsq (cvu (cn .f32 r6)))) (f7 : FR .mul .f32 r4 q r7) : cn .f32 r7 = frontF s x t := by
  unfold frontF; rw [f7.1, f4.1, hq, f6.1, f5.1, hl, stefS_cn h3]; simp only [fopl', fopr']

end Go.Proofs.Ytgcgfnpkkhhkgaa
