/- Plates: their copies, their sizes, and the comparison of two plates. -/
import Derived.Test.YtbgldggaiefhoaaDoorBo
import Derived.Test.YtbgldggaiefhoaaDoorPos
import Derived.Test.YtbgldggaiefhoaaDoorLooseB
namespace Go.Proofs.YtbgldggaiefhoaaDoor
open Go.RowKit
set_option linter.unusedVariables false

/-- a plate: its width and height, warmths, eases, gains, and which cells are held -/
structure PL where
  X : Int
  Y : Int
  W : List Nat
  E : List Nat
  G : List Nat
  H : List Bool
def PL.size (r : PL) : Nat := r.W.length + r.E.length + r.G.length + r.H.length
/-- four slices read as the lists of a plate -/
structure PRow (w : World) (a b c d : Value) (r : PL) : Prop where
  W : FRow w a r.W
  E : FRow w b r.E
  G : FRow w c r.G
  H : BRow w d r.H
theorem PRow.below {w w' : World} {a b c d : Value} {r : PL} (h : PRow w a b c d r) (hb : Below w.heap.size w w') : PRow w' a b c d r :=
  ⟨h.W.below hb, h.E.below hb, h.G.below hb, h.H.below hb⟩
/-- the four blocks of a plate -/
structure PlateAt (w : World) (p0 p1 p2 p3 : Nat) (r : PL) : Prop where
  W : Cells w p0 (fl r.W)
  E : Cells w p1 (fl r.E)
  G : Cells w p2 (fl r.G)
  H : Cells w p3 (flb r.H)
  o01 : p0 < p1
  o12 : p1 < p2
  o23 : p2 < p3
theorem PlateAt.kept {w w' : World} {p0 p1 p2 p3 : Nat} {r : PL} (h : PlateAt w p0 p1 p2 p3 r) (hb : Below w.heap.size w w') : PlateAt w' p0 p1 p2 p3 r :=
  ⟨h.W.kept hb, h.E.kept hb, h.G.kept hb, h.H.kept hb, h.o01, h.o12, h.o23⟩
theorem PlateAt.row {w : World} {p0 p1 p2 p3 : Nat} {r : PL} (h : PlateAt w p0 p1 p2 p3 r) (hl : r.size ≤ 1048576) : PRow w (sl p0 r.W) (sl p1 r.E) (sl p2 r.G) (slb p3 r.H) r := by
  unfold PL.size at hl
  have hm : maxLen = 9223372036854775807 := rfl
  exact ⟨.of_cells h.W (by omega), .of_cells h.E (by omega), .of_cells h.G (by omega), .of_cells h.H (by omega)⟩
/-- a plate, by value, that reads so, in blocks of its own -/
def NewPlate (r : PL) (w : World) (e : Ending) (w' : World) : Prop :=
  ∃ p0 p1 p2 p3, e = .returned (.agg #[.int .i64 r.X, .int .i64 r.Y, sl p0 r.W, sl p1 r.E, sl p2 r.G, slb p3 r.H]) ∧ w.heap.size ≤ p0 ∧ PlateAt w' p0 p1 p2 p3 r ∧ Below w.heap.size w w'
/-- the cells of a plate -/
abbrev pvs (r : PL) (a b c d : Value) : List Value := [.int .i64 r.X, .int .i64 r.Y, a, b, c, d]
abbrev zpx (r : PL) : List Value := [.int .i64 r.X, .int .i64 r.Y, .slice none 0 0, .slice none 0 0, .slice none 0 0, .slice none 0 0]
abbrev zpl : List Value := [.int .i64 0, .int .i64 0, .slice none 0 0, .slice none 0 0, .slice none 0 0, .slice none 0 0]

theorem BRow.empty {w : World} {v : Value} (h : BRow w v []) : ∃ a c, v = .slice a 0 c := by
  rcases h with ⟨h, _⟩ | ⟨b, off, cap, rfl, _⟩
  · exact h
  · exact ⟨_, _, rfl⟩
end Go.Proofs.YtbgldggaiefhoaaDoor
