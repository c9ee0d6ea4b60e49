/- A cup drawn from a list of bytes. -/
import Derived.Test.YtgcgfnpkkhhkgacDraw
import Derived.Test.YtgcgfnpkkhhkgacPos
import Derived.Laws.ResultCell
import Derived.Deep.RegionHeld3
import Derived.BigRegion
namespace Go.Proofs.Ytgcgfnpkkhhkgac
open Go.RowKit
set_option linter.unusedVariables false

/-- a cup of 1 to 200, which is valid -/
def CupD (w : World) (e : Ending) (w' : World) : Prop := ∃ m k : Int, e = .returned (.agg #[.int .i64 m, .int .i64 k]) ∧ 1 ≤ m ∧ m ≤ 200 ∧ -50 * m ≤ k ∧ k ≤ 180 * m ∧ Below w.heap.size w w'

theorem Src.below {g n c at' : Nat} {a : Option Addr} {w w' : World} (h : Src g a n c at' w) (hb : Below w.heap.size w w') : Src g a n c at' w' := by
  obtain ⟨s, h⟩ := h
  exact ⟨s, h.kept hb⟩
theorem Src.lt {g n c at' : Nat} {a : Option Addr} {w : World} (h : Src g a n c at' w) : g < w.heap.size := by
  obtain ⟨s, h⟩ := h
  exact h.lt

/-- a new source, of which it is known where it lies -/
theorem from_src (a : Option Addr) (n c : Nat) (w : World) : Calls Try.prog 100 #[.slice a n c] w fun e w' => ∃ g, e = .returned (.pointer (some ⟨g, 0, none⟩)) ∧ w.heap.size ≤ g ∧ Src g a n c 0 w' ∧ Below w.heap.size w w' :=
  (from_any a n c w).mono fun e w' ⟨he, hw⟩ => by
    subst hw
    exact ⟨_, he, Nat.le_refl _, ⟨0, Cells.made w [.slice a n c, .int .i64 0, .int .u64 0] _⟩, below_al1 _ _⟩

set_option maxHeartbeats 800000 in
set_option maxRecDepth 8000 in
theorem cup_any (a : Option Addr) (c : Nat) (zs : List Int) (w : World) (R : Code8 w.heap.size w a c zs) : Calls Try.prog 60 #[.slice a zs.length c] w (CupD w) := by
  have Z := Cells.made w [.int .i64 0, .int .i64 0] 70
  have R := R.below (below_al1 w (.cells [Value.int .i64 0, .int .i64 0].toArray 70))
  have Bw := Lib.hid (below_al1 w (.cells [Value.int .i64 0, .int .i64 0].toArray 70))
  have W0 : w.heap.size < (w.alloc (.cells [Value.int .i64 0, .int .i64 0].toArray 70)).heap.size := by simp
  go_enter Try.func60, Try.ntmps60
  go_wp2_with fail
  refine (from_src a _ c _).mono ?_
  rintro e w1 ⟨g, rfl, hg, S, hb⟩
  have hg0 : w.heap.size < g := Nat.lt_of_lt_of_le W0 hg
  have Bw := Lib.hid (below_step Bw.out hb)
  have R := (R.below hb).mono (Nat.le_of_lt hg0)
  have Z := Z.kept hb
  clear hb W0
  go_wp2_with fail
  refine (pick_any g a c 0 zs 200 _ S R (by omega) (by omega) (by omega)).mono ?_
  rintro e w2 ⟨x, rfl, hx0, hx1, ⟨k1, hk1, S⟩, T⟩
  have Bw := Lib.hid (Bw.out.trans (T.below (B := w.heap.size) (fun k hk => by omega) Bw.out.size))
  have R := R.tur T (fun k hk => by omega)
  have Z := T.cells Z (by omega)
  clear T
  go_wp2
  have X := Cells.made w2 [.int .i64 (1 + x), .int .i64 0] 70
  have hq : g < w2.heap.size := S.lt
  have ha := below_al1 w2 (.cells [Value.int .i64 (1 + x), .int .i64 0].toArray 70)
  have Bw := Lib.hid (below_step Bw.out ha)
  have R := R.below ha
  have Z := Z.kept ha
  have S := S.below ha
  clear ha
  have hx2 := Bw.out.size
  generalize hw3 : w2.alloc (.cells #[Value.int .i64 (1 + x), .int .i64 0] 70) = w3 at *
  have X : Cells w3 w2.heap.size [.int .i64 (1 + x), .int .i64 0] := X
  generalize w2.heap.size = q at *
  clear hw3
  have c0 := X.at 0 rfl; have c1 := X.at 1 rfl; have cf := X.fz
  have hw : IntKind.i64.wrap (IntKind.i64.wrap (230 * (1 + x)) + 1) = 230 * (1 + x) + 1 := by simp only [IntKind.wrap_i64]; omega
  have PK : Calls Try.prog 126 #[.pointer (some ⟨g, 0, none⟩), .int .i64 (IntKind.i64.wrap (IntKind.i64.wrap (230 * (1 + x)) + 1))] w3.drew (fun e w4 => ∃ y, e = .returned (.int .i64 y) ∧ 0 ≤ y ∧ y < 230 * (1 + x) + 1 ∧ Cells w4 q [.int .i64 (1 + x), .int .i64 0] ∧ Cells w4 w.heap.size [.int .i64 0, .int .i64 0] ∧ Below w.heap.size w w4) := by
    rw [hw]
    have hd : Below w3.heap.size w3 w3.drew := below_drewN (Below.refl _ _) 1
    refine (pick_any g a c _ zs (230 * (1 + x) + 1) _ (S.below hd) (R.below hd) (by omega) (by omega) (by omega)).mono ?_
    rintro e w4 ⟨y, rfl, hy0, hy1, _, T⟩
    exact ⟨y, rfl, hy0, hy1, T.cells (X.kept hd) (by omega), T.cells (Z.kept hd) (by omega), (below_step Bw.out hd).trans (T.below (fun k hk => by omega) (below_step Bw.out hd).size)⟩
  have PK := Lib.hid PK
  clear S R X Z hw
  go_region_held3 (fun w' => w'.cell? ⟨q, 0, none⟩ = some (.int .i64 (1 + x))) (first | exact c0 | exact (World.cell?_setCell_other _ _ _ _ (by intro e; cases e)).trans c0)
    ((go_at_call 126; refine PK.out.mono ?_; rintro e w4 ⟨y, rfl, hy0, hy1, X, Z, hb⟩; have Bw := Lib.hid hb; have X := Lib.hid X; have Z := Lib.hid Z; have c0 := X.out.at 0 rfl; have c1 := X.out.at 1 rfl; have cf := X.out.fz; clear hb))
  have hk : IntKind.i64.wrap (y - IntKind.i64.wrap (50 * (1 + x))) = y - 50 * (1 + x) := by simp only [IntKind.wrap_i64]; omega
  rw [hk]
  have hne : w.heap.size ≠ q := by omega
  have Z := Lib.hid (Z.out.far (q := q) (Ne.symm hne) 1 (.int .i64 (y - 50 * (1 + x))))
  have X := Lib.hid (X.out.set 1 (by simp) (.int .i64 (y - 50 * (1 + x))))
  have Bw := Lib.hid (Bw.out.setCell (p := ⟨q, 1, none⟩) (by show w.heap.size ≤ q; omega) (.int .i64 (y - 50 * (1 + x))))
  generalize hw5 : w4.setCell ⟨q, 1, none⟩ (.int .i64 (y - 50 * (1 + x))) = w5 at *
  have c0 := X.out.at 0 rfl; have c1 := X.out.at 1 rfl
  have z0 := Z.out.at 0 rfl; have z1 := Z.out.at 1 rfl; have zf := Z.out.fz
  clear PK hk hw5 cf
  go_wp2
  refine bodyPost_ret (v := .agg #[.int .i64 (1 + x), .int .i64 (y - 50 * (1 + x))]) ?_ rfl ?_
  · rw [results_cell1 rfl]
    go_simp
  · exact ⟨1 + x, y - 50 * (1 + x), rfl, by omega, by omega, by omega, by omega, (by repeat (first | exact Bw.out | exact Below.refl _ _ | refine Below.setCell ?_ (by first | exact Nat.le_refl _ | (simp; done) | (simp; omega) | omega) _ | refine below_drewN ?_ _ | refine Below.alloc ?_ (by first | exact Nat.le_refl _ | (simp; done) | (simp; omega) | omega) _))⟩
end Go.Proofs.Ytgcgfnpkkhhkgac
