/- Tracks: copies. -/
import Derived.Test.YtabdinmodopadaaNmT
import Derived.Test.YtabdinmodopadaaHnd
import Derived.Test.YtabdinmodopadaaLstJ
namespace Go.Proofs.Ytabdinmodopadaa
open Go.RowKit
set_option linter.unusedVariables false

def tkB (s : ByteArray) (zs : List Int) : Bool := isN s && hns zs
def tkv (s : ByteArray) (b : Value) : List Value := [.string s, b]
def tkz : List Value := [.string ⟨#[]⟩, .slice none 0 0]
/-- a copy of a track, its list in a block of its own -/
def NewTk (s : ByteArray) (zs : List Int) (w : World) (e : Ending) (w' : World) : Prop := ∃ p, e = .returned (.agg #[.string s, .slice (some ⟨p, 0, none⟩) zs.length zs.length]) ∧ w.heap.size ≤ p ∧ RowJ w' p 0 zs ∧ Below w.heap.size w w'
theorem RowJ.far {w : World} {p q : Nat} {zs : List Int} (h : RowJ w p 0 zs) (hq : q ≠ p) (i : Nat) (v : Value) : RowJ (w.setCell ⟨q, i, none⟩ v) p 0 zs :=
  h.of_block (by simp [World.setCell, Array.getElem?_modify, hq])

set_option maxHeartbeats 800000 in
theorem toTrack_any (s : ByteArray) (b : Value) (zs : List Int) (w : World) (h : JRow w b zs) (hl : zs.length ≤ 1048576) : Calls Try.prog 25 #[.agg #[.string s, b]] w (NewTk s zs w) := by
  have HZ := Lib.hid h
  have LZ := Lib.hid hl
  clear h hl
  have A := Lib.hid (((Cells.made w (tkv s b) 37).al (.cells tkz.toArray 40)).al (.cells (tkv s (.slice none 0 0)).toArray 40))
  have Y := (Cells.made (w.alloc (.cells (tkv s b).toArray 37)) tkz 40).al (.cells (tkv s (.slice none 0 0)).toArray 40)
  rw [show (w.alloc (.cells (tkv s b).toArray 37)).heap.size = w.heap.size + 1 from by simp] at Y
  have X := Cells.made ((w.alloc (.cells (tkv s b).toArray 37)).alloc (.cells tkz.toArray 40)) (tkv s (.slice none 0 0)) 40
  rw [show ((w.alloc (.cells (tkv s b).toArray 37)).alloc (.cells tkz.toArray 40)).heap.size = w.heap.size + 1 + 1 from by simp] at X
  have Y := Lib.hid Y
  have X := Lib.hid X
  have Bw := Lib.hid (below_al3 w (.cells (tkv s b).toArray 37) (.cells tkz.toArray 40) (.cells (tkv s (.slice none 0 0)).toArray 40))
  go_enter Try.func25, Try.ntmps25
  go_wp2_with fail
  refine (toJ_own _ zs _ (HZ.out.below Bw.out) LZ.out).mono ?_
  rintro _ w1 ⟨rfl, hr, hb⟩
  have HP := Lib.hid X.out.lt
  have A1 := Lib.hid (A.out.kept hb)
  have X1 := Lib.hid (X.out.kept hb)
  have Y1 := Lib.hid (Y.out.kept hb)
  have B1 := Lib.hid (below_step Bw.out hb)
  have R := Lib.hid hr
  clear hr hb A X Y Bw
  generalize (World.alloc (World.alloc (World.alloc w _) _) _).heap.size = p at *
  have c0 := A1.out.at 0 rfl
  have c1 := A1.out.at 1 rfl
  have e0 := X1.out.at 0 rfl
  have e1 := X1.out.at 1 rfl
  have ef := X1.out.fz
  have g0 := Y1.out.at 0 rfl
  have g1 := Y1.out.at 1 rfl
  have gf := Y1.out.fz
  go_wp2
  have hpp := HP.out
  refine bodyPost_ret (v := .agg #[.string s, .slice (some ⟨p, 0, none⟩) zs.length zs.length]) ?_ rfl ?_
  · rw [results_cell1 rfl]
    go_simp
  · refine ⟨p, rfl, by omega, ?_, ?_⟩
    · iterate 3 (refine RowJ.far ?_ (by omega) _ _)
      exact R.out
    · iterate 3 (refine Below.setCell ?_ (by first | (simp; done) | (simp; omega)) _)
      exact B1.out

end Go.Proofs.Ytabdinmodopadaa
