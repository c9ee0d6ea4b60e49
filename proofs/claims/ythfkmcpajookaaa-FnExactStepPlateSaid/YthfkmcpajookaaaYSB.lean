/- Several texts in one, for a claim holds 60 files at most: MkXp Facts Facts2 PlL Giv Giv2 Giv3 PlLay PB FactsP FactsP2 Copy OwnPS CloF OwnPI. -/
import Derived.Test.YthfkmcpajookaaaYSA
import Derived.StillTail
import Derived.Laws.OwnMore
import Derived.Laws.ResultCell
import Derived.Lib.SliceRun

/- The laws' marks on copies of arguments: lists, a plate. -/
namespace Go.Proofs.Ythfkmcpajookaaa
open Go.RowKit
set_option linter.unusedVariables false

/-- marks over a copy of an argument: only its block turns -/
theorem markXk (p k : Nat) (zs : List Nat) (w : World) (H : Cells w p (fl zs)) (hl : zs.length ≤ 1048576) (hk : k ≤ 16777216) :
    Calls Try.prog 40 #[sl p zs, .int .i64 (k : Int)] w fun e w' => e = .returned (.int .i64 ((k + zs.length : Nat) : Int)) ∧ Onl p w w' := by
  have HC : Hid (∃ ys : List Nat, ys.length = zs.length ∧ Cells w p (fl ys)) := Lib.hid ⟨zs, rfl, H⟩
  clear H
  unfold sl
  generalize zs.length = n at *
  go_enter Try.func40, Try.ntmps40
  go_wp2
  go_loopw [1, 5] (fun q i wr => ∃ j : Nat, j ≤ n ∧ i = .int .i64 j ∧ q = .int .i64 ((k + j : Nat) : Int) ∧ Hid (∃ ys : List Nat, ys.length = n ∧ Cells wr p (fl ys)) ∧ Hid (Onl p w wr)) (fun _ i _ => n - (intOf i).toNat)
  case atStart => exact ⟨0, Nat.zero_le _, rfl, rfl, HC, Lib.hid (Onl.refl p w)⟩
  case round =>
    obtain ⟨j, hj, rfl, rfl, hrow, hon⟩ := hrel
    by_cases hlt : j < n
    · obtain ⟨ys, hy, C⟩ := hrow.out
      have hjy : j < ys.length := by omega
      have e3 : wr.cell? ⟨p, j, none⟩ = some (.float .f32 (ys.getD j 0)) := C.at j (by simp [fl, hjy, List.getD_eq_getElem?_getD])
      have e4 : wr.frozen? ⟨p, j, none⟩ = false := C.fz j
      have C := Lib.hid C
      have HY := Lib.hid hy
      clear hrow hy
      generalize ys.getD j 0 = old at *
      have hi : (0 : Int) ≤ (j : Int) := by omega
      have hi' : (j : Int) < (n : Int) := by omega
      go_wp2
      go_roundw
      case rel =>
        refine ⟨j + 1, by omega, by go_num, by go_num, Lib.hid ⟨ys.set j (floatOfInt .f32 ((k + j : Nat) : Int)), by simpa using HY.out, ?_⟩, Lib.hid (Onl.setCell hon.out _ _)⟩
        have := C.out.set j (by simpa [fl] using hjy) (.float .f32 (floatOfInt .f32 ((k + j : Nat) : Int)))
        rw [show fl (ys.set j (floatOfInt .f32 ((k + j : Nat) : Int))) = (fl ys).set j (.float .f32 (floatOfInt .f32 ((k + j : Nat) : Int))) from by simp [fl, List.map_set]]
        simpa using this
      case measure => simp [intOf]; omega
    · have e := Lib.hid (show j = n by omega)
      go_wp2
      go_ret
      have := e.out
      subst this
      exact ⟨rfl, hon.out⟩
theorem markBk (p k : Nat) (zs : List Bool) (w : World) (H : Cells w p (flb zs)) (hl : zs.length ≤ 1048576) (hk : k ≤ 16777216) :
    Calls Try.prog 41 #[slb p zs, .int .i64 (k : Int)] w fun e w' => e = .returned (.int .i64 ((k + zs.length : Nat) : Int)) ∧ Onl p w w' := by
  have HC : Hid (∃ ys : List Bool, ys.length = zs.length ∧ Cells w p (flb ys)) := Lib.hid ⟨zs, rfl, H⟩
  clear H
  unfold slb
  generalize zs.length = n at *
  go_enter Try.func41, Try.ntmps41
  go_wp2
  go_loopw [1, 5] (fun q i wr => ∃ j : Nat, j ≤ n ∧ i = .int .i64 j ∧ q = .int .i64 ((k + j : Nat) : Int) ∧ Hid (∃ ys : List Bool, ys.length = n ∧ Cells wr p (flb ys)) ∧ Hid (Onl p w wr)) (fun _ i _ => n - (intOf i).toNat)
  case atStart => exact ⟨0, Nat.zero_le _, rfl, rfl, HC, Lib.hid (Onl.refl p w)⟩
  case round =>
    obtain ⟨j, hj, rfl, rfl, hrow, hon⟩ := hrel
    by_cases hlt : j < n
    · obtain ⟨ys, hy, C⟩ := hrow.out
      have hjy : j < ys.length := by omega
      have e3 : wr.cell? ⟨p, j, none⟩ = some (.bool (ys.getD j false)) := C.at j (by simp [flb, hjy, List.getD_eq_getElem?_getD])
      have e4 : wr.frozen? ⟨p, j, none⟩ = false := C.fz j
      have C := Lib.hid C
      have HY := Lib.hid hy
      clear hrow hy
      generalize ys.getD j false = old at *
      have hi : (0 : Int) ≤ (j : Int) := by omega
      have hi' : (j : Int) < (n : Int) := by omega
      go_wp2
      go_roundw
      case rel =>
        refine ⟨j + 1, by omega, by go_num, by go_num, Lib.hid ⟨ys.set j (((k : Int) + (j : Int)) % 3 == 0), by simpa using HY.out, ?_⟩, Lib.hid (Onl.setCell hon.out _ _)⟩
        have := C.out.set j (by simpa [flb] using hjy) (.bool (((k : Int) + (j : Int)) % 3 == 0))
        rw [show flb (ys.set j (((k : Int) + (j : Int)) % 3 == 0)) = (flb ys).set j (.bool (((k : Int) + (j : Int)) % 3 == 0)) from by simp [flb, List.map_set]]
        simpa using this
      case measure => simp [intOf]; omega
    · have e := Lib.hid (show j = n by omega)
      go_wp2
      go_ret
      have := e.out
      subst this
      exact ⟨rfl, hon.out⟩
theorem markJk (p k : Nat) (zs : List Int) (w : World) (H : Cells w p (flj zs)) (hl : zs.length ≤ 1048576) (hk : k ≤ 16777216) :
    Calls Try.prog 21 #[slj p zs, .int .i64 (k : Int)] w fun e w' => e = .returned (.int .i64 ((k + zs.length : Nat) : Int)) ∧ Onl p w w' := by
  have HC : Hid (∃ ys : List Int, ys.length = zs.length ∧ Cells w p (flj ys)) := Lib.hid ⟨zs, rfl, H⟩
  clear H
  unfold slj
  generalize zs.length = n at *
  go_enter Try.func21, Try.ntmps21
  go_wp2
  go_loopw [1, 5] (fun q i wr => ∃ j : Nat, j ≤ n ∧ i = .int .i64 j ∧ q = .int .i64 ((k + j : Nat) : Int) ∧ Hid (∃ ys : List Int, ys.length = n ∧ Cells wr p (flj ys)) ∧ Hid (Onl p w wr)) (fun _ i _ => n - (intOf i).toNat)
  case atStart => exact ⟨0, Nat.zero_le _, rfl, rfl, HC, Lib.hid (Onl.refl p w)⟩
  case round =>
    obtain ⟨j, hj, rfl, rfl, hrow, hon⟩ := hrel
    by_cases hlt : j < n
    · obtain ⟨ys, hy, C⟩ := hrow.out
      have hjy : j < ys.length := by omega
      have e3 : wr.cell? ⟨p, j, none⟩ = some (.int .i64 (ys.getD j 0)) := C.at j (by simp [flj, hjy, List.getD_eq_getElem?_getD])
      have e4 : wr.frozen? ⟨p, j, none⟩ = false := C.fz j
      have C := Lib.hid C
      have HY := Lib.hid hy
      clear hrow hy
      generalize ys.getD j 0 = old at *
      have hi : (0 : Int) ≤ (j : Int) := by omega
      have hi' : (j : Int) < (n : Int) := by omega
      go_wp2
      go_roundw
      case rel =>
        refine ⟨j + 1, by omega, by go_num, by go_num, Lib.hid ⟨ys.set j (((k + j : Nat) : Int)), by simpa using HY.out, ?_⟩, Lib.hid (Onl.setCell hon.out _ _)⟩
        have := C.out.set j (by simpa [flj] using hjy) (.int .i64 ((k + j : Nat) : Int))
        rw [show flj (ys.set j (((k + j : Nat) : Int))) = (flj ys).set j (.int .i64 ((k + j : Nat) : Int)) from by simp [flj, List.map_set]]
        simpa using this
      case measure => simp [intOf]; omega
    · have e := Lib.hid (show j = n by omega)
      go_wp2
      go_ret
      have := e.out
      subst this
      exact ⟨rfl, hon.out⟩
set_option maxHeartbeats 1600000 in
theorem markPlate_at (r : PL) (x0 x1 x2 x3 : Nat) (w : World) (V0 : PlateAt w x0 x1 x2 x3 r) (hl : r.size ≤ 1048576) :
    Calls Try.prog 13 #[.agg #[.int .i64 r.X, .int .i64 r.Y, sl x0 r.W, sl x1 r.E, sl x2 r.G, slb x3 r.H], .int .i64 1] w fun e w' => e = .returned (.int .i64 ((1 + r.size : Nat) : Int)) ∧ Tur (fun j => x0 ≤ j ∧ j ≤ x3) w w' := by
  have V := Lib.hid (V0.kept (below_al1 w (.cells (pvs r (sl x0 r.W) (sl x1 r.E) (sl x2 r.G) (slb x3 r.H)).toArray 26)))
  have A := Lib.hid (Cells.made w (pvs r (sl x0 r.W) (sl x1 r.E) (sl x2 r.G) (slb x3 r.H)) 26)
  have T := Lib.hid (Tur.of_below (S := fun j => x0 ≤ j ∧ j ≤ x3) (below_al1 w (.cells (pvs r (sl x0 r.W) (sl x1 r.E) (sl x2 r.G) (slb x3 r.H)).toArray 26)))
  have XL := Lib.hid V0.H.lt
  have o1 := V0.o01
  have o2 := V0.o12
  have o3 := V0.o23
  have O1 := Lib.hid o1
  have O2 := Lib.hid o2
  have O3 := Lib.hid o3
  clear V0 o1 o2 o3
  have VW := Lib.hid V.out.W
  have VE := Lib.hid V.out.E
  have VG := Lib.hid V.out.G
  have VH := Lib.hid V.out.H
  clear V
  have SZ : Hid (1 + r.W.length + r.E.length + r.G.length + r.H.length = 1 + r.size) := Lib.hid (by unfold PL.size; omega)
  unfold PL.size at hl
  have LW : Hid (r.W.length ≤ 1048576) := Lib.hid (by omega)
  have LE : Hid (r.E.length ≤ 1048576) := Lib.hid (by omega)
  have LG : Hid (r.G.length ≤ 1048576) := Lib.hid (by omega)
  have LH : Hid (r.H.length ≤ 1048576) := Lib.hid (by omega)
  clear hl
  have c0 := A.out.at 0 rfl; have c1 := A.out.at 1 rfl; have c2 := A.out.at 2 rfl; have c3 := A.out.at 3 rfl; have c4 := A.out.at 4 rfl; have c5 := A.out.at 5 rfl
  go_enter Try.func13, Try.ntmps13
  go_wp2_with fail
  refine (markXk x0 (1) r.W _ VW.out LW.out (by have := LW.out; have := LE.out; have := LG.out; omega)).mono ?_
  rintro _ w1 ⟨rfl, hon⟩
  have T0 := Tur.of_onl (S := (· = x0)) hon rfl
  have T := Lib.hid (T.out.trans (Tur.of_onl hon ⟨by have := O1.out; have := O2.out; have := O3.out; omega, by have := O1.out; have := O2.out; have := O3.out; omega⟩))
  have A := Lib.hid (T0.cells A.out (by intro e; have := XL.out; have := O1.out; have := O2.out; have := O3.out; omega))
  have VE := Lib.hid (T0.cells VE.out (by intro e; have := O1.out; have := O2.out; have := O3.out; omega))
  have VG := Lib.hid (T0.cells VG.out (by intro e; have := O1.out; have := O2.out; have := O3.out; omega))
  have VH := Lib.hid (T0.cells VH.out (by intro e; have := O1.out; have := O2.out; have := O3.out; omega))
  clear hon T0 c0 c1 c2 c3 c4 c5
  have c0 := A.out.at 0 rfl; have c1 := A.out.at 1 rfl; have c2 := A.out.at 2 rfl; have c3 := A.out.at 3 rfl; have c4 := A.out.at 4 rfl; have c5 := A.out.at 5 rfl
  go_wp2_with fail
  refine (markXk x1 (1 + r.W.length) r.E _ VE.out LE.out (by have := LW.out; have := LE.out; have := LG.out; omega)).mono ?_
  rintro _ w2 ⟨rfl, hon⟩
  have T1 := Tur.of_onl (S := (· = x1)) hon rfl
  have T := Lib.hid (T.out.trans (Tur.of_onl hon ⟨by have := O1.out; have := O2.out; have := O3.out; omega, by have := O1.out; have := O2.out; have := O3.out; omega⟩))
  have A := Lib.hid (T1.cells A.out (by intro e; have := XL.out; have := O1.out; have := O2.out; have := O3.out; omega))
  have VG := Lib.hid (T1.cells VG.out (by intro e; have := O1.out; have := O2.out; have := O3.out; omega))
  have VH := Lib.hid (T1.cells VH.out (by intro e; have := O1.out; have := O2.out; have := O3.out; omega))
  clear hon T1 c0 c1 c2 c3 c4 c5
  have c0 := A.out.at 0 rfl; have c1 := A.out.at 1 rfl; have c2 := A.out.at 2 rfl; have c3 := A.out.at 3 rfl; have c4 := A.out.at 4 rfl; have c5 := A.out.at 5 rfl
  go_wp2_with fail
  refine (markXk x2 (1 + r.W.length + r.E.length) r.G _ VG.out LG.out (by have := LW.out; have := LE.out; have := LG.out; omega)).mono ?_
  rintro _ w3 ⟨rfl, hon⟩
  have T2 := Tur.of_onl (S := (· = x2)) hon rfl
  have T := Lib.hid (T.out.trans (Tur.of_onl hon ⟨by have := O1.out; have := O2.out; have := O3.out; omega, by have := O1.out; have := O2.out; have := O3.out; omega⟩))
  have A := Lib.hid (T2.cells A.out (by intro e; have := XL.out; have := O1.out; have := O2.out; have := O3.out; omega))
  have VH := Lib.hid (T2.cells VH.out (by intro e; have := O1.out; have := O2.out; have := O3.out; omega))
  clear hon T2 c0 c1 c2 c3 c4 c5
  have c0 := A.out.at 0 rfl; have c1 := A.out.at 1 rfl; have c2 := A.out.at 2 rfl; have c3 := A.out.at 3 rfl; have c4 := A.out.at 4 rfl; have c5 := A.out.at 5 rfl
  go_wp2_with fail
  refine (markBk x3 (1 + r.W.length + r.E.length + r.G.length) r.H _ VH.out LH.out (by have := LW.out; have := LE.out; have := LG.out; omega)).mono ?_
  rintro _ w4 ⟨rfl, hon⟩
  have T3 := Tur.of_onl (S := (· = x3)) hon rfl
  have T := Lib.hid (T.out.trans (Tur.of_onl hon ⟨by have := O1.out; have := O2.out; have := O3.out; omega, by have := O1.out; have := O2.out; have := O3.out; omega⟩))
  have A := Lib.hid (T3.cells A.out (by intro e; have := XL.out; have := O1.out; have := O2.out; have := O3.out; omega))
  clear hon T3 c0 c1 c2 c3 c4 c5
  have c0 := A.out.at 0 rfl; have c1 := A.out.at 1 rfl; have c2 := A.out.at 2 rfl; have c3 := A.out.at 3 rfl; have c4 := A.out.at 4 rfl; have c5 := A.out.at 5 rfl
  go_wp2
  go_ret
  exact ⟨by rw [← SZ.out]; rfl, T.out⟩
end Go.Proofs.Ythfkmcpajookaaa

/- Drawn regions that make memory in any order: what a slot holds may bear a fact on the world (a block's cells) that stays true while nothing that was there turns. One walk in the order of the text serves every order; a tail (stores) runs in the order of the text. -/
namespace Go.Proofs.Ythfkmcpajookaaa
open Go.RowKit

section
variable {P : Program} {ops : Array Oper} {md : Region.Mode} {C : World → Prop} {T : Nat → Value → World → Prop}

/-- stays true while nothing that was there turns -/
def Pers (φ : World → Prop) : Prop := ∀ w w', φ w → Below w.heap.size w w' → φ w'

/-- which slots bear a fact on which value -/
abbrev SEnv := Nat → Value → Prop
def Facts (T : Nat → Value → World → Prop) (E : SEnv) (w : World) : Prop := ∀ d v, E d v → T d v w
def FNeed (T : Nat → Value → World → Prop) (ops : Array Oper) (o : Oper) (E : SEnv) (w : World) : Prop := ∀ d v, d ∈ o.looksAt ops → E d v → T d v w
def fNext (ops : Array Oper) (o : Oper) (E : SEnv) (a : Act) (v : Value) : SEnv := fun x u => E x u ∨ (Region.wanted o (yielded ops a.tmps) = true ∧ o.dst = some x ∧ u = v)

def FGoodR (P : Program) (T : Nat → Value → World → Prop) (o : Oper) (w : World) : Result Next → Prop
  | .ok (.value v) w' => Below w.heap.size w w' ∧ ∀ d, o.dst = some d → T d v w'
  | .ok .skip w' => Below w.heap.size w w' ∧ ∀ d, o.dst = some d → T d undef w'
  | .ok (.enter f args) w' => Below w.heap.size w w' ∧ Calls P f args w' (fun e w'' => ∃ v, e = .returned v ∧ Below w.heap.size w w'' ∧ ∀ d, o.dst = some d → T d v w'')
  | _ => False
def FValR (T : Nat → Value → World → Prop) (o : Oper) (v : Value) : Result Next → Prop
  | .ok (.value u) w' => v = u ∧ ∀ d, o.dst = some d → T d v w'
  | .ok .skip _ => v = undef
  | .ok (.enter _ _) _ => ∃ w', ∀ d, o.dst = some d → T d v w'
  | _ => False

def fGood (P : Program) (ops : Array Oper) (C : World → Prop) (T : Nat → Value → World → Prop) (o : Oper) (E : SEnv) (a : Act) : Prop :=
  Region.wanted o (yielded ops a.tmps) = true → ∀ w, C w → FNeed T ops o E w → FGoodR P T o w ((execOp a.eval o).run P w)
def fVal (P : Program) (ops : Array Oper) (C : World → Prop) (T : Nat → Value → World → Prop) (o : Oper) (E : SEnv) (a : Act) (v : Value) : Prop :=
  (Region.wanted o (yielded ops a.tmps) = true ∧ ∃ w, C w ∧ FNeed T ops o E w ∧ FValR T o v ((execOp a.eval o).run P w)) ∨ (Region.wanted o (yielded ops a.tmps) = false ∧ v = undef)

def wpFacts (P : Program) (ops : Array Oper) (C : World → Prop) (T : Nat → Value → World → Prop) (Q : SEnv → Act → Prop) : List Oper → SEnv → Act → Prop
  | [], E, a => Q E a
  | o :: rest, E, a => fGood P ops C T o E a ∧ ∀ v, fVal P ops C T o E a v → wpFacts P ops C T Q rest (fNext ops o E a v) (a.put o.dst v)

def fOp (P : Program) (ops : Array Oper) (C : World → Prop) (T : Nat → Value → World → Prop) (i : Nat) (K : SEnv → Act → Prop) (E : SEnv) (a : Act) : Prop :=
  match ops[i]? with
  | none => K E a
  | some o => fGood P ops C T o E a ∧ ∀ v, fVal P ops C T o E a v → K (fNext ops o E a v) (a.put o.dst v)

def Sat (C : World → Prop) (T : Nat → Value → World → Prop) (E : SEnv) : Prop := ∃ w, C w ∧ Facts T E w

/-- operations that only hand a value on: they may come as late as they like -/
def lateOp (o : Oper) : Bool := o.guard.isNone && match o.op with | .extract .. | .move _ | .assign _ => true | _ => false
def lateAt (ops : Array Oper) (late : List Nat) (i : Nat) : Bool := late.contains i && match ops[i]? with | some o => lateOp o | none => false

theorem late_all {o : Oper} {a : Act} (h : lateOp o = true) {v : Value} {w w' : World} (hr : (execOp a.eval o).run P w = .ok (.value v) w') : ∀ u, (execOp a.eval o).run P u = .ok (.value v) u := by
  simp only [lateOp, Bool.and_eq_true] at h
  obtain ⟨_, h⟩ := h
  unfold execOp at *
  cases e : o.op <;> simp only [e] at h hr ⊢ <;> first | (cases h; done) | skip
  case move x => intro u; cases hr; rfl
  case assign x => intro u; cases hr; rfl
  case extract t ix =>
    intro u
    revert hr
    simp only [Instr.extract]
    cases a.eval t with
    | tuple vs =>
      cases hv : vs[ix]? with
      | none => intro hr; simp [hv] at hr
      | some x => intro hr; simp only [hv] at hr ⊢; cases hr; rfl
    | _ => intro hr; cases hr

def wpAnyF (P : Program) (md : Region.Mode) (ops : Array Oper) (late : List Nat) (C : World → Prop) (T : Nat → Value → World → Prop) (n : Nat) (L : Array Bool → SEnv → Act → Prop) : Nat → Array Bool → SEnv → Act → Prop
  | 0, listed, E, a => Sat C T E → L listed E a
  | f + 1, listed, E, a => Sat C T E →
    (∃ m ∈ Region.ready md ops listed, m < n) ∧ ∀ i ∈ Region.ready md ops listed, (i < n → fOp P ops C T i (wpAnyF P md ops late C T n L f (listed.setIfInBounds i true)) E a) ∧
      (n ≤ i → ∀ m, m < n → listed.getD m true = false → lateAt ops late m = true)

theorem Facts.need {E : SEnv} {o : Oper} {w : World} (h : Facts T E w) : FNeed T ops o E w := fun d v _ hv => h d v hv
theorem Facts.next {E : SEnv} {o : Oper} {a : Act} {w w' : World} {v : Value} (hT : ∀ d v, Pers (T d v)) (h : Facts T E w) (hb : Below w.heap.size w w') (hv : Region.wanted o (yielded ops a.tmps) = true → ∀ d, o.dst = some d → T d v w') : Facts T (fNext ops o E a v) w' := by
  intro d u hu
  rcases hu with hu | ⟨hw, hd, rfl⟩
  · exact hT d u _ _ (h d u hu) hb
  · exact hv hw d hd

theorem wpOp_of_fOp {i : Nat} {E : SEnv} {a : Act} {K : SEnv → Act → Prop} {K' : Act → World → Prop} {Q' : Exit → Act → World → Prop} {w : World} (hpC : Pers C) (hpT : ∀ d v, Pers (T d v)) (hC : C w) (hF : Facts T E w)
    (h : ∀ E a w', C w' → Facts T E w' → K E a → K' a w') (hh : fOp P ops C T i K E a) : wpOp P ops Q' i K' a w := by
  unfold fOp at hh
  unfold wpOp
  split
  · rename_i ho; simp only [ho] at hh; exact h _ _ _ hC hF hh
  · rename_i o ho
    simp only [ho] at hh
    obtain ⟨hg, hv⟩ := hh
    split
    · rename_i hw
      refine .inl ?_
      have h1 := hg hw w hC hF.need
      have h2 : ∀ v, FValR T o v ((execOp a.eval o).run P w) → K (fNext ops o E a v) (a.put o.dst v) := fun v hv' => hv v (.inl ⟨hw, w, hC, hF.need, hv'⟩)
      unfold Oper.wp
      generalize (execOp a.eval o).run P w = r at *
      cases r with
      | ok n w' =>
        cases n <;> simp only [FGoodR] at h1 <;> simp only [Oper.upon]
        case value u => exact h _ _ _ (hpC _ _ hC h1.1) (hF.next hpT h1.1 fun _ d hd => h1.2 d hd) (h2 u ⟨rfl, h1.2⟩)
        case skip => exact h _ _ _ (hpC _ _ hC h1.1) (hF.next hpT h1.1 fun _ d hd => h1.2 d hd) (h2 undef rfl)
        case enter f args =>
          obtain ⟨hb, hc⟩ := h1
          exact hc.mono fun e w'' ⟨v, he, hb', ht⟩ => by subst he; exact h _ _ _ (hpC _ _ hC hb') (hF.next hpT hb' fun _ d hd => ht d hd) (h2 v ⟨w'', ht⟩)
      | halt x w' => simp only [FGoodR] at h1
    · rename_i hw
      have hw' : Region.wanted o (yielded ops a.tmps) = false := by simpa using hw
      exact h _ _ _ hC (hF.next hpT (Below.refl _ _) fun hb => absurd hb hw) (hv undef (.inr ⟨hw', rfl⟩))

def lateFreeB (md : Region.Mode) (ops : Array Oper) (late : List Nat) : Bool :=
  late.all fun m => match ops[m]? with
    | none => false
    | some om => (List.range ops.size).all fun j => j == m || match ops[j]? with
      | none => true
      | some oj => oj.after.any (fun e => Region.binds md e && e.on == m) || om.after.any (fun e => Region.binds md e && e.on == j) || om.apart ops oj

theorem late_free {late : List Nat} (h : lateFreeB md ops late = true) {m : Nat} {om : Oper} (hm : ops[m]? = some om) (hl : lateAt ops late m = true) {listed : Array Bool} (hr : m ∈ Region.ready md ops listed) :
    ∀ j oj, ops[j]? = some oj → j ≠ m → listed.getD j true = false → (∀ e ∈ oj.after, Region.binds md e = true → e.on ≠ m) → om.apart ops oj = true := by
  intro j oj hj hne hun hno
  simp only [lateAt, Bool.and_eq_true] at hl
  have h1 := List.all_eq_true.1 h m (by simpa using hl.1)
  simp only [hm, List.all_eq_true, List.mem_range] at h1
  have h2 := h1 j (Array.getElem?_eq_some_iff.1 hj).1
  simp only [hj, Bool.or_eq_true, beq_iff_eq, hne, false_or] at h2
  rcases h2 with (h2 | h2) | h2
  · obtain ⟨e, he, hb⟩ := Array.any_eq_true'.1 h2
    simp only [Bool.and_eq_true, beq_iff_eq] at hb
    exact absurd hb.2 (hno e he hb.1)
  · obtain ⟨e, he, hb⟩ := Array.any_eq_true'.1 h2
    simp only [Bool.and_eq_true, beq_iff_eq] at hb
    obtain ⟨_, o, ho, hall⟩ := mem_ready.1 hr
    have : o = om := Option.some.inj (ho.symm.trans hm)
    subst this
    have h3 := hall e he hb.1
    rw [hb.2, getD_both hun] at h3
    cases h3
  · exact h2

theorem wpAny_of_headF {late : List Nat} {n g : Nat} {L : Array Bool → SEnv → Act → Prop} {Q' : Exit → Act → World → Prop} (hpC : Pers C) (hpT : ∀ d v, Pers (T d v)) (hsel : ∀ (j : Nat) (o : Oper) cs b, ops[j]? = some o → o.op ≠ .select cs b) (hlf : lateFreeB md ops late = true)
    (hQ : ∀ (d : Option Nat) v c a w, Q' (.panic c) (a.put d v) w → Q' (.panic c) a w) (hL : ∀ listed E a w, C w → Facts T E w → L listed E a → wpAny P md ops Q' g listed a w) :
    ∀ (f : Nat) (listed : Array Bool) (E : SEnv) (a : Act) (w : World), C w → Facts T E w → wpAnyF P md ops late C T n L f listed E a → wpAny P md ops Q' (f + g) listed a w
  | 0, listed, E, a, w, hw, hF, h => by rw [Nat.zero_add]; exact hL _ _ _ _ hw hF (h ⟨w, hw, hF⟩)
  | f + 1, listed, E, a, w, hw, hF, h => by
    rw [show f + 1 + g = (f + g) + 1 by omega]
    obtain ⟨⟨m, hm, hmn⟩, h⟩ := h ⟨w, hw, hF⟩
    by_cases hx : ∀ i ∈ Region.ready md ops listed, i < n
    · exact ⟨fun h0 => (by rw [h0] at hm; cases hm), fun i hi => wpOp_of_fOp hpC hpT hw hF (fun E' a' w' hw' hF' h' => wpAny_of_headF hpC hpT hsel hlf hQ hL f _ E' a' w' hw' hF' h') ((h i hi).1 (hx i hi))⟩
    · obtain ⟨i, hx⟩ := Classical.not_forall.1 hx
      obtain ⟨hi, hin⟩ := Classical.not_imp.1 hx
      have hla := (h i hi).2 (by omega) m hmn (mem_ready.1 hm).1
      obtain ⟨_, om, hom, _⟩ := mem_ready.1 hm
      have hfo := (h m hm).1 hmn
      unfold fOp at hfo
      simp only [hom] at hfo
      obtain ⟨hg, hn⟩ := hfo
      have hlo : lateOp om = true := by simp only [lateAt, hom, Bool.and_eq_true] at hla; exact hla.2
      have hwant : Region.wanted om (yielded ops a.tmps) = true := by
        simp only [lateOp, Bool.and_eq_true, Option.isNone_iff_eq_none] at hlo
        simp [Region.wanted, hlo.1]
      have h1 := hg hwant w hw hF.need
      have hy : ∃ v, (execOp a.eval om).run P w = .ok (.value v) w := by
        generalize hr : (execOp a.eval om).run P w = r at h1
        cases r with
        | ok nx w' =>
          cases nx <;> simp only [FGoodR] at h1
          case value u => exact ⟨u, by rw [← hr]; exact late_all hlo hr w⟩
          case skip =>
            simp only [lateOp, Bool.and_eq_true] at hlo
            unfold execOp at hr
            cases e : om.op <;> simp only [e] at hlo hr <;> first | (cases hlo.2; done) | skip
            · cases hr
            · cases hr
            · rename_i t ix
              exfalso
              revert hr
              simp only [Instr.extract]
              cases a.eval t with
              | tuple vs => cases hv : vs[ix]? <;> (intro hr; simp [hv] at hr)
              | _ => intro hr; cases hr
          case enter f args =>
            simp only [lateOp, Bool.and_eq_true] at hlo
            unfold execOp at hr
            cases e : om.op <;> simp only [e] at hlo hr <;> first | (cases hlo.2; done) | skip
            · cases hr
            · cases hr
            · rename_i t ix
              exfalso
              revert hr
              simp only [Instr.extract]
              cases a.eval t with
              | tuple vs => cases hv : vs[ix]? <;> (intro hr; simp [hv] at hr)
              | _ => intro hr; cases hr
        | halt x w' => simp only [FGoodR] at h1
      obtain ⟨v, hv⟩ := hy
      have hall := late_all hlo hv
      rw [hv] at h1
      refine wpAny_first (v := v) hom hsel (hQ om.dst v) _ listed a w (late_free hlf hom hla hm) hm (.inl ⟨hwant, hall⟩) ?_
      exact wpAny_of_headF hpC hpT hsel hlf hQ hL f _ _ _ w hw (hF.next hpT (Below.refl _ _) fun _ => h1.2) (hn v (.inl ⟨hwant, w, hw, hF.need, by rw [hv]; exact ⟨rfl, h1.2⟩⟩))

/-- what another operation leaves does not touch what this one does -/
theorem FNeed_put {o p : Oper} {E : SEnv} {a : Act} {u : Value} {w : World} (h : ∀ d, p.dst = some d → d ∉ o.looksAt ops) : FNeed T ops o (fNext ops p E a u) w ↔ FNeed T ops o E w := by
  constructor
  · intro k d v hd hv; exact k d v hd (.inl hv)
  · intro k d v hd hv
    rcases hv with hv | ⟨_, he, _⟩
    · exact k d v hd hv
    · exact absurd hd (h d he)
theorem fGood_put {o p : Oper} {E : SEnv} {a : Act} {u : Value} (hs : ∀ cs b, o.op ≠ .select cs b) (h : ∀ d, p.dst = some d → d ∉ o.looksAt ops) : fGood P ops C T o (fNext ops p E a u) (a.put p.dst u) ↔ fGood P ops C T o E a := by
  unfold fGood
  rw [execOp_put o hs a p.dst u h, wanted_put o a p.dst u h]
  constructor
  · intro k hw w hC hN; exact k hw w hC ((FNeed_put h).2 hN)
  · intro k hw w hC hN; exact k hw w hC ((FNeed_put h).1 hN)
theorem fVal_put {o p : Oper} {E : SEnv} {a : Act} {u v : Value} (hs : ∀ cs b, o.op ≠ .select cs b) (h : ∀ d, p.dst = some d → d ∉ o.looksAt ops) : fVal P ops C T o (fNext ops p E a u) (a.put p.dst u) v ↔ fVal P ops C T o E a v := by
  unfold fVal
  rw [execOp_put o hs a p.dst u h, wanted_put o a p.dst u h]
  simp only [FNeed_put h]
theorem fNext_comm {o p : Oper} {E : SEnv} {a : Act} {u v : Value} (ho : ∀ d, p.dst = some d → d ∉ o.looksAt ops) (hp : ∀ d, o.dst = some d → d ∉ p.looksAt ops) :
    fNext ops o (fNext ops p E a u) (a.put p.dst u) v = fNext ops p (fNext ops o E a v) (a.put o.dst v) u := by
  unfold fNext
  rw [wanted_put o a p.dst u ho, wanted_put p a o.dst v hp]
  funext x y
  exact propext or_right_comm

/-- there is a value that it may leave, and a world for it -/
theorem some_fVal (hpC : Pers C) (hpT : ∀ d v, Pers (T d v)) {o : Oper} {E : SEnv} {a : Act} (hS : Sat C T E) (hg : fGood P ops C T o E a) : ∃ v, fVal P ops C T o E a v ∧ Sat C T (fNext ops o E a v) := by
  obtain ⟨w, hC, hF⟩ := hS
  by_cases h : Region.wanted o (yielded ops a.tmps) = true
  · have h3 := hg h w hC hF.need
    have : ∃ v, FValR T o v ((execOp a.eval o).run P w) ∧ ∃ w', Below w.heap.size w w' ∧ ∀ d, o.dst = some d → T d v w' := by
      generalize (execOp a.eval o).run P w = r at *
      cases r with
      | ok n w' =>
        cases n <;> simp only [FGoodR] at h3
        case value u => exact ⟨u, ⟨rfl, h3.2⟩, w', h3⟩
        case skip => exact ⟨undef, rfl, w', h3⟩
        case enter f args =>
          obtain ⟨e, w'', fr, ⟨v, _, hb, ht⟩, _⟩ := h3.2 []
          exact ⟨v, ⟨w'', ht⟩, w'', hb, ht⟩
      | halt x w' => simp only [FGoodR] at h3
    obtain ⟨v, hv, w', hb, ht⟩ := this
    exact ⟨v, .inl ⟨h, w, hC, hF.need, hv⟩, w', hpC _ _ hC hb, hF.next hpT hb fun _ => ht⟩
  · exact ⟨undef, .inr ⟨by simpa using h, rfl⟩, w, hC, hF.next hpT (Below.refl _ _) fun hb => absurd hb h⟩

theorem Sat.sub {E E' : SEnv} (h : Sat C T E') (hs : ∀ d v, E d v → E' d v) : Sat C T E := by
  obtain ⟨w, hC, hF⟩ := h
  exact ⟨w, hC, fun d v hv => hF d v (hs d v hv)⟩

theorem wpAnyF_first {late : List Nat} (hpC : Pers C) (hpT : ∀ d v, Pers (T d v)) {n i : Nat} {oi : Oper} {L : Array Bool → SEnv → Act → Prop} (hi : ops[i]? = some oi) (hsel : ∀ (j : Nat) (o : Oper) cs b, ops[j]? = some o → o.op ≠ .select cs b)
    (hw : ∀ listed, HeadInv md ops n listed → ∀ i, i < n → lateAt ops late i = false → listed.getD i true = false → ∀ t, n ≤ t → t ∉ Region.ready md ops listed) (hin : i < n)
    (hdone : ∀ listed E a, L listed E a → ∀ j ∈ Region.ready md ops listed, n ≤ j) :
    ∀ (f : Nat) (listed : Array Bool) (E : SEnv) (a : Act), HeadInv md ops n listed →
      (∀ j oj, ops[j]? = some oj → j ≠ i → listed.getD j true = false → (∀ e ∈ oj.after, Region.binds md e = true → e.on ≠ i) → oi.apart ops oj = true) →
      i ∈ Region.ready md ops listed → (Sat C T E → fGood P ops C T oi E a) →
      (∀ v, fVal P ops C T oi E a v → wpAnyF P md ops late C T n L f (listed.setIfInBounds i true) (fNext ops oi E a v) (a.put oi.dst v)) → wpAnyF P md ops late C T n L (f + 1) listed E a := by
  intro f
  induction f with
  | zero =>
    intro listed E a inv _ hr hy H hS
    have hy := hy hS
    have hun := (mem_ready.1 hr).1
    refine ⟨⟨i, hr, hin⟩, fun j hj => ⟨fun hjn => ?_, fun hjn m hm hmu => ?_⟩⟩
    case refine_2 =>
      cases hl : lateAt ops late m with
      | true => rfl
      | false => exact absurd hj (hw _ inv m hm hl hmu j hjn)
    by_cases hji : j = i
    · subst hji
      unfold fOp; simp only [hi]
      exact ⟨hy, H⟩
    · obtain ⟨v, hv, hS'⟩ := some_fVal hpC hpT hS hy
      have := hdone _ _ _ (H v hv hS') j (ready_mono hj hji)
      omega
  | succ f ih =>
    intro listed E a inv hfree hr hy H hS
    have hy := hy hS
    have hun := (mem_ready.1 hr).1
    refine ⟨⟨i, hr, hin⟩, fun j hj => ⟨fun hjn => ?_, fun hjn m hm hmu => ?_⟩⟩
    case refine_2 =>
      cases hl : lateAt ops late m with
      | true => rfl
      | false => exact absurd hj (hw _ inv m hm hl hmu j hjn)
    by_cases hji : j = i
    · subst hji
      unfold fOp; simp only [hi]
      exact ⟨hy, H⟩
    · obtain ⟨hjun, oj, hoj, hall⟩ := mem_ready.1 hj
      have hnot : ∀ e ∈ oj.after, Region.binds md e = true → e.on ≠ i := fun e he hb heq => by
        have h1 := hall e he hb
        rw [heq, getD_both hun] at h1
        cases h1
      have hap := hfree j oj hoj hji hjun hnot
      obtain ⟨q1, q2, q3⟩ := Oper.apart_spec hap
      have hfree' : ∀ k ok, ops[k]? = some ok → k ≠ i → (listed.setIfInBounds j true).getD k true = false →
          (∀ e ∈ ok.after, Region.binds md e = true → e.on ≠ i) → oi.apart ops ok = true := fun k ok hk hki hun hno => by
        refine hfree k ok hk hki ?_ hno
        by_cases hjk : j = k
        · subst hjk; exact hjun
        · rw [getD_set_ne true hjk] at hun; exact hun
      have si := fun cs b => hsel i oi cs b hi
      have sj := fun cs b => hsel j oj cs b hoj
      obtain ⟨v0, hv0, hS0⟩ := some_fVal hpC hpT hS hy
      have step : ∀ v, fVal P ops C T oi E a v → Sat C T (fNext ops oi E a v) → fGood P ops C T oj E a ∧ ∀ u, fVal P ops C T oj E a u → wpAnyF P md ops late C T n L f ((listed.setIfInBounds i true).setIfInBounds j true) (fNext ops oj (fNext ops oi E a v) (a.put oi.dst v) u) ((a.put oi.dst v).put oj.dst u) := fun v hv hs => by
        have h1 := ((H v hv hs).2 j (ready_mono hj hji)).1 hjn
        unfold fOp at h1
        simp only [hoj] at h1
        exact ⟨(fGood_put sj q1).1 h1.1, fun u hu => h1.2 u ((fVal_put sj q1).2 hu)⟩
      unfold fOp
      simp only [hoj]
      refine ⟨(step v0 hv0 hS0).1, fun u hu => ?_⟩
      refine ih (listed.setIfInBounds j true) (fNext ops oj E a u) (a.put oj.dst u) (inv.set hj hjn) hfree' (ready_mono hr (Ne.symm hji)) (fun _ => (fGood_put si q3).2 hy) fun v hv => ?_
      have hv' : fVal P ops C T oi E a v := (fVal_put si q3).1 hv
      rw [Array.setIfInBounds_comm _ _ hji, ← Act.put_comm a v u q2, fNext_comm q3 q1]
      have key := fun hs => (step v hv' hs).2 u hu
      have hsub : ∀ d x, fNext ops oi E a v d x → fNext ops oj (fNext ops oi E a v) (a.put oi.dst v) u d x := fun d x h => .inl h
      cases f with
      | zero => exact fun hs => key (hs.sub hsub) hs
      | succ f => exact fun hs => key (hs.sub hsub) hs

theorem wpAnyF_lex {late : List Nat} (hpC : Pers C) (hpT : ∀ d v, Pers (T d v)) {n g : Nat} {Lq : SEnv → Act → Prop} (hsel : Region.noSelect ops = true)
    (hw : ∀ listed, HeadInv md ops n listed → ∀ i, i < n → lateAt ops late i = false → listed.getD i true = false → ∀ t, n ≤ t → t ∉ Region.ready md ops listed) :
    ∀ (l : List Oper) (k : Nat) (listed : Array Bool) (E : SEnv) (a : Act), (∀ j, j < l.length → l[j]? = ops[k + j]?) → k + l.length = n → HeadInv md ops n listed →
    Region.lexHead md ops g l.length k listed = true → wpFacts P ops C T Lq l E a →
    wpAnyF P md ops late C T n (fun listed' E' a' => Region.seqB md ops g n listed' = true ∧ Lq E' a') l.length listed E a
  | [], k, listed, E, a, _, hk, _, hB, h => by
    have : k = n := by simpa using hk
    subst this
    exact fun _ => ⟨by simpa [Region.lexHead] using hB, h⟩
  | o :: l, k, listed, E, a, hl, hk, inv, hB, h => by
    have h0 : ops[k]? = some o := by simpa using (hl 0 (by simp)).symm
    simp only [List.length_cons, Region.lexHead, Bool.and_eq_true] at hB
    obtain ⟨⟨hr, hf⟩, hB'⟩ := hB
    have hkn : k < n := by simp only [List.length_cons] at hk; omega
    have hr' : k ∈ Region.ready md ops listed := by simpa using hr
    exact wpAnyF_first hpC hpT h0 (Region.noSelect_spec hsel) hw hkn (fun listed' E' a' hL => seqB_ready hL.1) l.length listed E a inv (Region.free_spec h0 hf) hr' (fun _ => h.1)
      (fun v hv => wpAnyF_lex hpC hpT hsel hw l (k + 1) _ _ _ (fun j hj => by have := hl (j + 1) (by simp; omega); simpa [Nat.add_assoc, Nat.add_comm 1 j] using this) (by simp only [List.length_cons] at hk; omega) (inv.set hr' hkn) hB' (h.2 v hv))

/-- each early operation of the head is waited for, up to operation n -/
def sinkE (md : Region.Mode) (ops : Array Oper) (late : List Nat) (n : Nat) : Bool :=
  (List.range n).all fun i => lateAt ops late i || (List.range (n + 1)).any fun j => decide (i < j) && (j == n || !lateAt ops late j) && Region.waitsFor md ops j i
theorem tail_waitsE {late : List Nat} {n : Nat} {listed : Array Bool} (hs : sinkE md ops late n = true) (hc : Region.chainB md ops n = true) (inv : HeadInv md ops n listed) :
    ∀ (d i : Nat), n - i = d → i < n → lateAt ops late i = false → listed.getD i true = false → ∀ t, n ≤ t → t ∉ Region.ready md ops listed := by
  intro d
  induction d using Nat.strongRecOn with
  | _ d ih =>
    intro i hd hi hl hun t ht hr
    obtain ⟨_, ot, hot, hall⟩ := mem_ready.1 hr
    have htlt : t < ops.size := (Array.getElem?_eq_some_iff.1 hot).1
    by_cases htn : t = n
    · subst htn
      have h1 := List.all_eq_true.1 hs i (List.mem_range.2 hi)
      rw [hl, Bool.false_or] at h1
      obtain ⟨j, hj, hj2⟩ := List.any_eq_true.1 h1
      simp only [Bool.and_eq_true, decide_eq_true_eq, Bool.or_eq_true, beq_iff_eq, Bool.not_eq_true'] at hj2
      obtain ⟨⟨hij, hjl⟩, hjw⟩ := hj2
      obtain ⟨oj, hoj, e, he, hb, hon⟩ := Region.waitsFor_spec hjw
      have hjle : j ≤ t := by have := List.mem_range.1 hj; omega
      by_cases hjt : j = t
      · subst hjt
        have : oj = ot := Option.some.inj (hoj.symm.trans hot)
        subst this
        have h2 := hall e he hb
        rw [hon, getD_both hun] at h2
        cases h2
      · cases hlj : listed.getD j false with
        | true =>
          have h2 := inv.closed j oj hoj hlj e he hb
          rw [hon, getD_both hun] at h2
          cases h2
        | false =>
          have hjs : j < listed.size := by rw [inv.size]; omega
          exact ih (t - j) (by omega) j rfl (by omega) (by rcases hjl with h | h; exact absurd h hjt; exact h) (getD_in hjs hlj) t (Nat.le_refl _) hr
    · have h1 := List.all_eq_true.1 hc t (List.mem_range.2 htlt)
      simp only [Bool.or_eq_true, decide_eq_true_eq] at h1
      rcases h1 with h1 | h1
      · omega
      · obtain ⟨o', ho', e, he, hb, hon⟩ := Region.waitsFor_spec h1
        have : o' = ot := Option.some.inj (ho'.symm.trans hot)
        subst this
        have h2 := hall e he hb
        rw [hon, getD_both (inv.tail (t - 1) (by omega) (by omega))] at h2
        cases h2

def factsTailB (md : Region.Mode) (ops : Array Oper) (late : List Nat) (n : Nat) : Bool :=
  Region.noSelect ops && decide (n < ops.size) && sinkE md ops late n && Region.chainB md ops n && lateFreeB md ops late && Region.lexHead md ops (ops.size - n) n 0 (Array.replicate ops.size false)

/-- the head in any order, the tail in the order of the text; operations of the head in 'late' only hand a value on -/
theorem wp_region_facts_tail {id : Nat} {Q : Exit → Act → World → Prop} {a : Act} {w : World} {l : List Oper} (n : Nat) (late : List Nat) (C : World → Prop) (T : Nat → Value → World → Prop) (hpC : Pers C) (hpT : ∀ d v, Pers (T d v)) (hC : C (w.drewN 1)) (hm : P.follows .mixedOrders = true) (hB : factsTailB .any l.toArray late n = true)
    (hQ : ∀ (d : Option Nat) v c a w, Q (.panic c) (a.put d v) w → Q (.panic c) a w)
    (h : wpFacts P l.toArray C T (fun E a' => ∀ w', C w' → Facts T E w' → wpList P l.toArray Q (l.drop n) a' w') (l.take n) (fun _ _ => False) a) : (Code.region id l.toArray true).wp P Q a w := by
  simp only [factsTailB, Bool.and_eq_true, decide_eq_true_eq] at hB
  obtain ⟨⟨⟨⟨⟨hsel, hn⟩, hs⟩, hc⟩, hlf⟩, hlex⟩ := hB
  have hn' : n < l.length := by simpa using hn
  have htl : (l.take n).length = n := by simp; omega
  have hdl : (l.drop n).length = l.toArray.size - n := by simp
  have inv0 : HeadInv .any l.toArray n (Array.replicate l.toArray.size false) :=
    ⟨by simp, fun j oj _ hl => (by rw [getD_replicate_false] at hl; cases hl), fun t _ ht => getD_in (by simpa using ht) (getD_replicate_false _ _)⟩
  have H := wpAnyF_lex (P := P) (C := C) (T := T) (md := .any) (g := l.toArray.size - n) (late := late) hpC hpT hsel (fun listed inv i hin hl hun => tail_waitsE hs hc inv _ i rfl hin hl hun) (l.take n) 0 _ _ a (fun j hj => by
    have hj' : j < n := by rw [htl] at hj; exact hj
    simp [hj']) (by simpa using htl) inv0 (by rw [htl]; exact hlex) h
  refine wp_region_any hm ?_
  have := wpAny_of_headF (Q' := Q) (g := l.toArray.size - n) hpC hpT (Region.noSelect_spec hsel) hlf hQ (fun listed E a' w' hw' hF' hL => by
    have := wpAny_of_seq (md := .any) (Q' := Q) (l.drop n) n listed a' w' (fun j => by simp [List.getElem?_drop]) (by rw [hdl]; exact hL.1) (hL.2 w' hw' hF')
    rwa [hdl] at this) _ _ _ _ (w.drewN 1) hC (fun _ _ h => h.elim) H
  rw [htl, show n + (l.toArray.size - n) = l.toArray.size by omega] at this
  exact this

def factsB (md : Region.Mode) (ops : Array Oper) (k : Nat) : Bool := Region.noSelect ops && Region.lexHead md ops 0 k 0 (Array.replicate k false)
/-- all in any order -/
theorem wp_region_facts {id : Nat} {Q : Exit → Act → World → Prop} {a : Act} {w : World} {l : List Oper} (C : World → Prop) (T : Nat → Value → World → Prop) (hpC : Pers C) (hpT : ∀ d v, Pers (T d v)) (hC : C (w.drewN 1)) (hm : P.follows .mixedOrders = true) (hB : factsB .any l.toArray l.length = true)
    (hQ : ∀ (d : Option Nat) v c a w, Q (.panic c) (a.put d v) w → Q (.panic c) a w)
    (h : wpFacts P l.toArray C T (fun E a' => ∀ w', C w' → Facts T E w' → Q .normal a' w') l (fun _ _ => False) a) : (Code.region id l.toArray true).wp P Q a w := by
  simp only [factsB, Bool.and_eq_true] at hB
  obtain ⟨hsel, hB⟩ := hB
  have inv0 : HeadInv .any l.toArray l.length (Array.replicate l.length false) :=
    ⟨by simp, fun j oj _ hl => (by rw [getD_replicate_false] at hl; cases hl), fun t h1 ht => absurd ht (by simpa using h1)⟩
  have H := wpAnyF_lex (P := P) (C := C) (T := T) (md := .any) (n := l.length) (g := 0) (late := []) hpC hpT hsel (fun listed inv i hin _ hun t ht hr => by
    obtain ⟨_, o, ho, _⟩ := mem_ready.1 hr
    have := (Array.getElem?_eq_some_iff.1 ho).1
    simp at this
    omega) l 0 _ _ a (fun j hj => by simp) (by simp) inv0 hB h
  refine wp_region_any hm ?_
  have := wpAny_of_headF (Q' := Q) (g := 0) hpC hpT (Region.noSelect_spec hsel) (by rfl) hQ (fun listed E a' w' hw' hF' hL => by
    unfold wpAny
    exact ⟨by simpa [Region.seqB] using hL.1, hL.2 w' hw' hF'⟩) _ _ _ _ (w.drewN 1) hC (fun _ _ h => h.elim) H
  rw [Nat.add_zero] at this
  simp only [List.size_toArray]
  exact this

/-! ### The steps -/
theorem wpFacts_mono {Q : SEnv → Act → Prop} (hQ : ∀ E E' a, (∀ d v, E d v → E' d v) → Q E a → Q E' a) : ∀ (l : List Oper) (E E' : SEnv) (a : Act), (∀ d v, E d v → E' d v) → wpFacts P ops C T Q l E a → wpFacts P ops C T Q l E' a
  | [], _, _, _, hs, h => hQ _ _ _ hs h
  | o :: l, E, E', a, hs, h => by
    refine ⟨fun hw w hC hN => h.1 hw w hC fun d v hd hv => hN d v hd (hs d v hv), fun v hv => ?_⟩
    refine wpFacts_mono hQ l (fNext ops o E a v) _ _ (fun d u hu => hu.imp (hs d u) id) (h.2 v ?_)
    rcases hv with ⟨hw, w, hC, hN, hv⟩ | hv
    · exact .inl ⟨hw, w, hC, fun d v hd hv => hN d v hd (hs d v hv), hv⟩
    · exact .inr hv

variable {Q : SEnv → Act → Prop} {a : Act} {o : Oper} {rest : List Oper} {E : SEnv}
def MonoQ (Q : SEnv → Act → Prop) : Prop := ∀ E E' a, (∀ d v, E d v → E' d v) → Q E a → Q E' a
theorem monoQ_end {K : Act → World → Prop} : MonoQ (fun E a' => ∀ w', C w' → Facts T E w' → K a' w') := fun _ _ _ hs h w' hC hF => h w' hC fun d v hv => hF d v (hs d v hv)

theorem wpFacts_nil (h : Q E a) : wpFacts P ops C T Q [] E a := h

/-- an operation whose value is known, and that bears no fact -/
theorem wpFacts_val (hgd : o.guard = none) (hQ : MonoQ Q) (hT : ∀ d, o.dst = some d → ∀ v w, T d v w) (v : Value) (hv : ∀ w, C w → ∃ w', Below w.heap.size w w' ∧ (execOp a.eval o).run P w = .ok (.value v) w')
    (h : ∀ K : Act → Prop, (∀ a, wpFacts P ops C T Q rest E a → K a) → K (a.put o.dst v)) : wpFacts P ops C T Q (o :: rest) E a := by
  have hw : Region.wanted o (yielded ops a.tmps) = true := by simp [Region.wanted, hgd]
  refine ⟨fun _ w hC _ => ?_, fun u hu => ?_⟩
  · obtain ⟨w', hb, e⟩ := hv w hC
    rw [e]; exact ⟨hb, fun d hd => hT d hd _ _⟩
  · rcases hu with ⟨_, w, hC, _, hu⟩ | ⟨hn, _⟩
    · obtain ⟨w', hb, e⟩ := hv w hC
      rw [e] at hu
      obtain ⟨rfl, _⟩ := hu
      exact wpFacts_mono hQ _ _ _ _ (fun d v h => .inl h) (h _ fun _ h => h)
    · rw [hw] at hn; cases hn

/-- an operation that hands back any of several values, or bears a fact -/
theorem wpFacts_some (hgd : o.guard = none) (d : Nat) (hd : o.dst = some d) (hv : ∀ w, C w → FNeed T ops o E w → ∃ v w', Below w.heap.size w w' ∧ T d v w' ∧ (execOp a.eval o).run P w = .ok (.value v) w')
    (h : ∀ v, (∃ w, T d v w) → wpFacts P ops C T Q rest (fun x u => E x u ∨ (x = d ∧ u = v)) (a.put o.dst v)) : wpFacts P ops C T Q (o :: rest) E a := by
  have hw : Region.wanted o (yielded ops a.tmps) = true := by simp [Region.wanted, hgd]
  refine ⟨fun _ w hC hN => ?_, fun u hu => ?_⟩
  · obtain ⟨v, w', hb, ht, e⟩ := hv w hC hN
    rw [e]; exact ⟨hb, fun d' hd' => by rw [hd] at hd'; cases hd'; exact ht⟩
  · have e : fNext ops o E a u = (fun x y => E x y ∨ (x = d ∧ y = u)) := by
      funext x y
      unfold fNext
      rw [hw, hd]
      refine propext (or_congr Iff.rfl ?_)
      constructor
      · rintro ⟨_, h1, h2⟩; cases h1; exact ⟨rfl, h2⟩
      · rintro ⟨rfl, h2⟩; exact ⟨rfl, rfl, h2⟩
    rw [e]
    rcases hu with ⟨_, w, hC, hN, hu⟩ | ⟨hn, _⟩
    · obtain ⟨v, w', hb, ht, e⟩ := hv w hC hN
      rw [e] at hu
      exact h u ⟨_, hu.2 d hd⟩
    · rw [hw] at hn; cases hn

/-- a call, by its contract -/
theorem wpFacts_call (hgd : o.guard = none) (d : Nat) (hd : o.dst = some d) (f : FuncId) (args : Array Value) (hr : ∀ w, (execOp a.eval o).run P w = .ok (.enter f args) w)
    (hc : ∀ w, C w → FNeed T ops o E w → Calls P f args w fun e w' => ∃ v, e = .returned v ∧ Below w.heap.size w w' ∧ T d v w')
    (h : ∀ v, (∃ w, T d v w) → wpFacts P ops C T Q rest (fun x u => E x u ∨ (x = d ∧ u = v)) (a.put o.dst v)) : wpFacts P ops C T Q (o :: rest) E a := by
  have hw : Region.wanted o (yielded ops a.tmps) = true := by simp [Region.wanted, hgd]
  refine ⟨fun _ w hC hN => ?_, fun u hu => ?_⟩
  · rw [hr w]
    exact ⟨Below.refl _ _, (hc w hC hN).mono fun e w' ⟨v, he, hb, ht⟩ => ⟨v, he, hb, fun d' hd' => by rw [hd] at hd'; cases hd'; exact ht⟩⟩
  · have e : fNext ops o E a u = (fun x y => E x y ∨ (x = d ∧ y = u)) := by
      funext x y
      unfold fNext
      rw [hw, hd]
      refine propext (or_congr Iff.rfl ?_)
      constructor
      · rintro ⟨_, h1, h2⟩; cases h1; exact ⟨rfl, h2⟩
      · rintro ⟨rfl, h2⟩; exact ⟨rfl, rfl, h2⟩
    rw [e]
    rcases hu with ⟨_, w, hC, hN, hu⟩ | ⟨hn, _⟩
    · rw [hr w] at hu
      obtain ⟨w', ht⟩ := hu
      exact h u ⟨w', ht d hd⟩
    · rw [hw] at hn; cases hn
end

/-- nothing that was there has turned: such a fact stays -/
theorem Pers.ext (w : World) : Pers (Ext w) := fun _ _ h hb => below_step h hb
theorem Pers.cells (p : Nat) (vs : List Value) : Pers (fun w => Cells w p vs) := fun _ _ h hb => h.kept hb
theorem Pers.true : Pers (fun _ => True) := fun _ _ _ _ => trivial
theorem Pers.ex {α : Sort _} {φ : α → World → Prop} (h : ∀ x, Pers (φ x)) : Pers (fun w => ∃ x, φ x w) := fun w w' ⟨x, hx⟩ hb => ⟨x, h x w w' hx hb⟩
theorem Pers.and {φ ψ : World → Prop} (h : Pers φ) (k : Pers ψ) : Pers (fun w => φ w ∧ ψ w) := fun w w' ⟨a, b⟩ hb => ⟨h w w' a hb, k w w' b hb⟩
theorem Pers.const (p : Prop) : Pers (fun _ => p) := fun _ _ h _ => h
end Go.Proofs.Ythfkmcpajookaaa

/- The facts that slots bear, as a list; the steps for them. -/
namespace Go.Proofs.Ythfkmcpajookaaa
open Go.RowKit
set_option linter.unusedVariables false

/-- a fact on a value and a world that stays true while nothing that was there turns -/
def Fct := {φ : Value → World → Prop // ∀ v, Pers (φ v)}
def TS : List (Nat × Fct) → Nat → Value → World → Prop
  | [], _, _, _ => True
  | (k, φ) :: l, d, v, w => (d = k → φ.1 v w) ∧ TS l d v w
theorem TS.pers : ∀ (l : List (Nat × Fct)) (d : Nat) (v : Value), Pers (TS l d v)
  | [], _, _ => Pers.true
  | (_, φ) :: l, d, v => fun w w' h hb => ⟨fun e => φ.2 v w w' (h.1 e) hb, TS.pers l d v w w' h.2 hb⟩
def TS.hasB : List (Nat × Fct) → Nat → Bool
  | [], _ => false
  | (k, _) :: l, d => d == k || TS.hasB l d
theorem TS.no : ∀ {l : List (Nat × Fct)} {d : Nat} (_ : TS.hasB l d = false) (v : Value) (w : World), TS l d v w
  | [], _, _, _, _ => trivial
  | (k, φ) :: l, d, h, v, w => by
    simp only [TS.hasB, Bool.or_eq_false_iff, beq_eq_false_iff_ne, ne_eq] at h
    exact ⟨fun e => absurd e h.1, TS.no h.2 v w⟩
def TS.findB : List (Nat × Fct) → Nat → Option Fct
  | [], _ => none
  | (k, φ) :: l, d => if d = k then (if TS.hasB l d then none else some φ) else TS.findB l d
theorem TS.mk : ∀ {l : List (Nat × Fct)} {d : Nat} {φ : Fct} (_ : TS.findB l d = some φ) {v : Value} {w : World} (_ : φ.1 v w), TS l d v w
  | [], _, _, h, _, _, _ => by cases h
  | (k, ψ) :: l, d, φ, h, v, w, hv => by
    unfold TS.findB at h
    split at h
    · rename_i e
      split at h
      · cases h
      · rename_i hb
        cases h
        exact ⟨fun _ => hv, TS.no (by simpa using hb) v w⟩
    · rename_i e
      exact ⟨fun e' => absurd e' e, TS.mk h hv⟩
theorem TS.get : ∀ {l : List (Nat × Fct)} {d : Nat} {φ : Fct} (_ : TS.findB l d = some φ) {v : Value} {w : World} (_ : TS l d v w), φ.1 v w
  | [], _, _, h, _, _, _ => by cases h
  | (k, ψ) :: l, d, φ, h, v, w, hv => by
    unfold TS.findB at h
    split at h
    · rename_i e
      split at h
      · cases h
      · cases h
        exact hv.1 e
    · exact TS.get h hv.2

/-- it is this value -/
def fIs (x : Value) : Fct := ⟨fun v _ => v = x, fun _ => Pers.const _⟩
/-- it points to a block, made since h, with these cells -/
def fBox (h : Nat) (vs : List Value) : Fct := ⟨fun v w => ∃ p, v = .pointer (some ⟨p, 0, none⟩) ∧ h ≤ p ∧ Cells w p vs, fun _ => Pers.ex fun _ => Pers.and (Pers.const _) (Pers.and (Pers.const _) (Pers.cells _ _))⟩
/-- it is a float, up to a not-a-number's bits -/
def fNum (k : FloatKind) (S : Nat) : Fct := ⟨fun v _ => ∃ r, cn k r = S ∧ v = .float k r, fun _ => Pers.const _⟩

theorem fact_of {l : List (Nat × Fct)} {E : SEnv} {w : World} {d : Nat} {φ : Fct} {v : Value} (hT : TS.findB l d = some φ) (hF : Facts (TS l) E w) (hE : E d v) : φ.1 v w := TS.get hT (hF d v hE)
theorem fact_box {l : List (Nat × Fct)} {E : SEnv} {w : World} {d h : Nat} {vs : List Value} {p : Nat} (hT : TS.findB l d = some (fBox h vs)) (hF : Facts (TS l) E w) (hE : E d (.pointer (some ⟨p, 0, none⟩))) : h ≤ p ∧ Cells w p vs := by
  obtain ⟨p', e, h1, h2⟩ := fact_of hT hF hE
  cases e
  exact ⟨h1, h2⟩

section
variable {P : Program} {ops : Array Oper} {C : World → Prop} {l : List (Nat × Fct)} {Q : SEnv → Act → Prop} {a : Act} {o : Oper} {rest : List Oper} {E : SEnv}

/-- an operation whose value is known -/
theorem wpF_val (hgd : o.guard = none) (hQ : MonoQ Q) (hT : ∀ d, o.dst = some d → TS.hasB l d = false) (v : Value) (hv : ∀ w, C w → (execOp a.eval o).run P w = .ok (.value v) w)
    (h : ∀ K : Act → Prop, (∀ a, wpFacts P ops C (TS l) Q rest E a → K a) → K (a.put o.dst v)) : wpFacts P ops C (TS l) Q (o :: rest) E a :=
  wpFacts_val hgd hQ (fun d hd v w => TS.no (hT d hd) v w) v (fun w hC => ⟨w, Below.refl _ _, hv w hC⟩) h

/-- an operation that makes a box -/
theorem wpF_alloc (hgd : o.guard = none) (d : Nat) (hd : o.dst = some d) (h0 : Nat) (vs : List Value) (t : TypeId) (hT : TS.findB l d = some (fBox h0 vs)) (hh : ∀ w, C w → h0 ≤ w.heap.size)
    (hv : ∀ w, (execOp a.eval o).run P w = .ok (.value (.pointer (some ⟨w.heap.size, 0, none⟩))) (w.alloc (.cells vs.toArray t)))
    (h : ∀ p : Nat, wpFacts P ops C (TS l) Q rest (fun x u => E x u ∨ (x = d ∧ u = .pointer (some ⟨p, 0, none⟩))) (a.put o.dst (.pointer (some ⟨p, 0, none⟩)))) : wpFacts P ops C (TS l) Q (o :: rest) E a :=
  wpFacts_some hgd d hd (fun w hC _ => ⟨_, _, below_al1 w _, TS.mk hT ⟨w.heap.size, rfl, hh w hC, Cells.made w vs t⟩, hv w⟩) (fun v ⟨_, hv⟩ => by
    obtain ⟨p, rfl, _⟩ := TS.get hT hv
    exact h p)

/-- a call whose value is known -/
theorem wpF_callV (hgd : o.guard = none) (d : Nat) (hd : o.dst = some d) (f : FuncId) (args : Array Value) (v : Value) (hT : TS.findB l d = some (fIs v)) (hr : ∀ w, (execOp a.eval o).run P w = .ok (.enter f args) w)
    (hc : ∀ w, C w → Calls P f args w fun e w' => e = .returned v ∧ Below w.heap.size w w')
    (h : wpFacts P ops C (TS l) Q rest (fun x u => E x u ∨ (x = d ∧ u = v)) (a.put o.dst v)) : wpFacts P ops C (TS l) Q (o :: rest) E a :=
  wpFacts_call hgd d hd f args hr (fun w hC _ => (hc w hC).mono fun e w' ⟨he, hb⟩ => ⟨v, he, hb, TS.mk hT rfl⟩) (fun u ⟨_, hu⟩ => by
    obtain rfl : u = v := TS.get hT hu
    exact h)

/-- a call that hands back a number -/
theorem wpF_callN (hgd : o.guard = none) (d : Nat) (hd : o.dst = some d) (f : FuncId) (args : Array Value) (k : FloatKind) (S : Nat) (hT : TS.findB l d = some (fNum k S)) (hr : ∀ w, (execOp a.eval o).run P w = .ok (.enter f args) w)
    (hc : ∀ w, C w → Calls P f args w fun e w' => ∃ r, cn k r = S ∧ e = .returned (.float k r) ∧ Below w.heap.size w w')
    (h : ∀ r, cn k r = S → wpFacts P ops C (TS l) Q rest (fun x u => E x u ∨ (x = d ∧ u = .float k r)) (a.put o.dst (.float k r))) : wpFacts P ops C (TS l) Q (o :: rest) E a :=
  wpFacts_call hgd d hd f args hr (fun w hC _ => (hc w hC).mono fun e w' ⟨r, hS, he, hb⟩ => ⟨_, he, hb, TS.mk hT ⟨r, hS, rfl⟩⟩) (fun u ⟨_, hu⟩ => by
    obtain ⟨r, hr, rfl⟩ := TS.get hT hu
    exact h r hr)

/-- a call that bears a fact -/
theorem wpF_callF (hgd : o.guard = none) (d : Nat) (hd : o.dst = some d) (f : FuncId) (args : Array Value) (φ : Fct) (hT : TS.findB l d = some φ) (hr : ∀ w, (execOp a.eval o).run P w = .ok (.enter f args) w)
    (hc : ∀ w, C w → FNeed (TS l) ops o E w → Calls P f args w fun e w' => ∃ v, e = .returned v ∧ Below w.heap.size w w' ∧ φ.1 v w')
    (h : ∀ v, (∃ w, φ.1 v w) → wpFacts P ops C (TS l) Q rest (fun x u => E x u ∨ (x = d ∧ u = v)) (a.put o.dst v)) : wpFacts P ops C (TS l) Q (o :: rest) E a :=
  wpFacts_call hgd d hd f args hr (fun w hC hN => (hc w hC hN).mono fun e w' ⟨v, he, hb, ht⟩ => ⟨v, he, hb, TS.mk hT ht⟩) (fun u ⟨w, hu⟩ => h u ⟨w, TS.get hT hu⟩)

/-- an operation on floats -/
theorem wpF_farith (hgd : o.guard = none) (d : Nat) (hd : o.dst = some d) (op : BinOp) (t : TypeId) (x y : Operand) (t' : TypeId) (ho : o.op = .binOp op t x y t') (hop : isArith op = true) (k : FloatKind) (m n : Nat)
    (hx : a.eval x = .float k m) (hy : a.eval y = .float k n) (S : Nat) (hT : TS.findB l d = some (fNum k S)) (hS : fop op k (cn k m) (cn k n) = S) (h : ∀ r, cn k r = S → wpFacts P ops C (TS l) Q rest (fun x u => E x u ∨ (x = d ∧ u = .float k r)) (a.put o.dst (.float k r))) : wpFacts P ops C (TS l) Q (o :: rest) E a := by
  refine wpFacts_some hgd d hd (fun w hC _ => ?_) (fun v ⟨_, hv⟩ => by
    obtain ⟨r, hr, rfl⟩ := TS.get hT hv
    exact h r hr)
  obtain ⟨r, j, hr, hw⟩ := run_farith (P := P) op hop t k m n w
  refine ⟨_, _, below_drewN (Below.refl _ _) j, TS.mk hT ⟨r, hr.1.trans hS, rfl⟩, ?_⟩
  have hg : (eqGuard op t x y (.float k m) (.float k n)) = pure () := by
    cases op <;> simp [isArith] at hop <;> rfl
  unfold execOp
  simp only [ho, hx, hy, hg, Sem.run_bind, Sem.run_pure, Result.andThen_ok, hw]
end
end Go.Proofs.Ythfkmcpajookaaa

/- What the walks of laws over plates that hand back a plate share. -/
namespace Go.Proofs.Ythfkmcpajookaaa
open Go.RowKit
set_option linter.unusedVariables false

theorem PlateAt.tur {S : Nat → Prop} {w w' : World} {p0 p1 p2 p3 : Nat} {r : PL} (h : PlateAt w p0 p1 p2 p3 r) (t : Tur S w w') (hS : ∀ j, p0 ≤ j → j ≤ p3 → ¬ S j) : PlateAt w' p0 p1 p2 p3 r := by
  have h1 := h.o01; have h2 := h.o12; have h3 := h.o23
  exact ⟨t.cells h.W (hS _ (by omega) (by omega)), t.cells h.E (hS _ (by omega) (by omega)), t.cells h.G (hS _ (by omega) (by omega)), t.cells h.H (hS _ (by omega) (by omega)), h.o01, h.o12, h.o23⟩
theorem eqJB64 (v v' : Value) (zs : List Int) (w : World) (h : JRow w v zs) (h' : JRow w v' zs) : Calls Try.prog 20 #[v, v'] w (fun e w2 => e = .returned (.bool true) ∧ Below w.heap.size w w2) :=
  (eqJJ_any v v' zs w h h').mono fun e w2 ⟨he, m, hm⟩ => ⟨he, by subst hm; exact below_drewN (Below.refl _ _) m⟩
theorem toJ_sl (v : Value) (zs : List Int) (w : World) (h : JRow w v zs) (hl : zs.length ≤ 1048576) : Calls Try.prog 18 #[v] w fun e w' => ∃ p, e = .returned (slj p zs) ∧ w.heap.size ≤ p ∧ Cells w' p (flj zs) ∧ Below w.heap.size w w' :=
  (toJ_new v zs w h hl).mono fun _ _ ⟨he, _, hb, hc⟩ => ⟨_, he, Nat.le_refl _, hc, hb⟩
abbrev pagV (x y : Int) (a b c d : Value) : Value := .agg #[.int .i64 x, .int .i64 y, a, b, c, d]
/-- it is a plate whose lists lie in blocks of their own -/
def fPlAt (r : PL) : Fct := ⟨fun v w => ∃ p0 p1 p2 p3, v = pagV r.X r.Y (sl p0 r.W) (sl p1 r.E) (sl p2 r.G) (slb p3 r.H) ∧ PlateAt w p0 p1 p2 p3 r, fun _ => Pers.ex fun _ => Pers.ex fun _ => Pers.ex fun _ => Pers.ex fun _ => Pers.and (Pers.const _) (fun _ _ h hb => h.kept hb)⟩
theorem fact_needP {l : List (Nat × Fct)} {ops : Array Oper} {o : Oper} {E : SEnv} {w : World} {d : Nat} {φ : Fct} {v : Value} (hT : TS.findB l d = some φ) (hN : FNeed (TS l) ops o E w) (hd : (o.looksAt ops).contains d = true) (hE : E d v) : φ.1 v w :=
  TS.get hT (hN d v (by simpa using hd) hE)
theorem plate_at {r : PL} {p0 p1 p2 p3 : Nat} {w : World} (h : (fPlAt r).1 (pagV r.X r.Y (sl p0 r.W) (sl p1 r.E) (sl p2 r.G) (slb p3 r.H)) w) : PlateAt w p0 p1 p2 p3 r := by
  obtain ⟨q0, q1, q2, q3, e, hc⟩ := h
  simp [pagV, sl, slb] at e
  obtain ⟨rfl, rfl, rfl, rfl⟩ := e
  exact hc
end Go.Proofs.Ythfkmcpajookaaa

/- A number, and whether it is finite: what functions hand back that may fail. -/
namespace Go.Proofs.Ythfkmcpajookaaa
open Go.RowKit

/-- a number if it is finite -/
def ifF (x : Nat) : Nat := if fin .f32 x then x else 0
theorem ifF_cn {x S : Nat} (h : cn .f32 x = S) : cn .f32 (ifF x) = ifF S ∧ fin .f32 x = fin .f32 S := by
  have hf : fin .f32 x = fin .f32 S := by rw [← h, fin_cn]
  refine ⟨?_, hf⟩
  unfold ifF
  rw [← hf]
  cases e : fin .f32 x
  · rfl
  · simp only [if_true]; exact h

/-- a number up to a not-a-number's bits, and a bool; nothing that was there has turned -/
def GivB (S : Nat) (b : Bool) (w : World) (e : Ending) (w' : World) : Prop := ∃ r, cn .f32 r = S ∧ e = .returned (.tuple #[.float .f32 r, .bool b]) ∧ Below w.heap.size w w'

theorem ret2_b {r : Nat} {b b' : Bool} (h : b = b') : Ending.returned (.tuple #[.float .f32 r, .bool b]) = Ending.returned (.tuple #[.float .f32 r, .bool b']) := by rw [h]
theorem GivB.num {x S : Nat} {w w' : World} (h : cn .f32 x = S) (hb : Below w.heap.size w w') : GivB (ifF S) (fin .f32 S) w (.returned (.tuple #[.float .f32 (ifF x), .bool (fin .f32 x)])) w' :=
  ⟨_, (ifF_cn h).1, ret2_b (ifF_cn h).2, hb⟩
theorem GivB.no {w w' : World} (hb : Below w.heap.size w w') : GivB 0 false w (.returned (.tuple #[.float .f32 0, .bool false])) w' := ⟨0, rfl, rfl, hb⟩

theorem specNum_any (x : Nat) (w : World) : Calls Try.prog 91 #[.float .f32 x] w fun e w' => e = .returned (.tuple #[.float .f32 (ifF x), .bool (fin .f32 x)]) ∧ ∃ n, w' = w.drewN n := by
  cases hf : fin .f32 x
  · go_enter Try.func91, Try.ntmps91
    go_wp2_with (go_at_call 47; refine (specFinite_any _ _).mono ?_; rw [hf]; rintro e w' ⟨rfl, n, rfl⟩)
    go_ret2
    exact ⟨by simp [ifF, hf], _, rfl⟩
  · go_enter Try.func91, Try.ntmps91
    go_wp2_with (go_at_call 47; refine (specFinite_any _ _).mono ?_; rw [hf]; rintro e w' ⟨rfl, n, rfl⟩)
    go_ret2
    exact ⟨by simp [ifF, hf], _, rfl⟩

end Go.Proofs.Ythfkmcpajookaaa

/- A number that is handed back with true. -/
namespace Go.Proofs.Ythfkmcpajookaaa
open Go.RowKit

theorem GivB.ok {x S : Nat} {w w' : World} (h : cn .f32 x = S) (hf : fin .f32 S = true) (hb : Below w.heap.size w w') : GivB S true w (.returned (.tuple #[.float .f32 (ifF x), .bool (fin .f32 x)])) w' := by
  have h1 := GivB.num h hb
  have e : ifF S = S := by unfold ifF; rw [hf]; rfl
  rw [e, hf] at h1
  exact h1
theorem GivB.yes {x S : Nat} {w w' : World} (h : cn .f32 x = S) (hb : Below w.heap.size w w') : GivB S true w (.returned (.tuple #[.float .f32 x, .bool true])) w' := ⟨x, h, rfl, hb⟩
end Go.Proofs.Ythfkmcpajookaaa

/- A number that is handed back where something is valid. -/
namespace Go.Proofs.Ythfkmcpajookaaa
open Go.RowKit
def cS (b : Bool) (V : Nat) : Nat := bif b then ifF V else 0
def cB (b : Bool) (V : Nat) : Bool := b && fin .f32 V
theorem cGiv_no {b : Bool} {V : Nat} {w w' : World} (h : b = false) (hb : Below w.heap.size w w') : GivB (cS b V) (cB b V) w (.returned (.tuple #[.float .f32 0, .bool false])) w' := by
  unfold cS cB; rw [h, cond_false, Bool.false_and]; exact GivB.no hb
theorem cGiv_yes {b : Bool} {V x : Nat} {w w' : World} (h : b = true) (hx : cn .f32 x = V) (hb : Below w.heap.size w w') : GivB (cS b V) (cB b V) w (.returned (.tuple #[.float .f32 (ifF x), .bool (fin .f32 x)])) w' := by
  unfold cS cB; rw [h, cond_true, Bool.true_and]; exact GivB.num hx hb
end Go.Proofs.Ythfkmcpajookaaa

/- The four lists of a plate by their cells. -/
namespace Go.Proofs.Ythfkmcpajookaaa
open Go.RowKit
set_option linter.unusedVariables false

/-- a 32-bit number up to a not-a-number's bits; nothing that was there has turned -/
def FlP (S : Nat) (w : World) (e : Ending) (w' : World) : Prop := ∃ x, cn .f32 x = S ∧ e = .returned (.float .f32 x) ∧ Below w.heap.size w w'
theorem pcn_fop (op : BinOp) (k : FloatKind) (x y : Nat) : cn k (fop op k x y) = fop op k x y := by
  unfold fop
  cases h : floatBits op k x y with
  | none => exact cn_of_nan (nn_qn k)
  | some r => exact cn_of_num (floatBits_num h)

theorem finP_nn {x : Nat} (h : fin .f32 x = true) : nn .f32 x = false := by cases hn : nn .f32 x with | false => rfl | true => rw [fin_nan hn] at h; cases h

structure PLay (w : World) (n b0 o0 b1 o1 b2 o2 b3 o3 : Nat) (r : PL) : Prop where
  W : ∀ i, i < n → w.cell? ⟨b0, o0 + i, none⟩ = some (.float .f32 (r.W.getD i 0))
  E : ∀ i, i < n → w.cell? ⟨b1, o1 + i, none⟩ = some (.float .f32 (r.E.getD i 0))
  G : ∀ i, i < n → w.cell? ⟨b2, o2 + i, none⟩ = some (.float .f32 (r.G.getD i 0))
  H : ∀ i, i < n → w.cell? ⟨b3, o3 + i, none⟩ = some (.bool (r.H.getD i false))
theorem PLay.below {w w' : World} {n b0 o0 b1 o1 b2 o2 b3 o3 : Nat} {r : PL} (h : PLay w n b0 o0 b1 o1 b2 o2 b3 o3 r) (hb : Below w.heap.size w w') : PLay w' n b0 o0 b1 o1 b2 o2 b3 o3 r :=
  ⟨fun i hi => Ext.cell hb (h.W i hi), fun i hi => Ext.cell hb (h.E i hi), fun i hi => Ext.cell hb (h.G i hi), fun i hi => Ext.cell hb (h.H i hi)⟩
/-- the four slices, n long -/
abbrev ps (b o n k : Nat) : Value := .slice (some ⟨b, o, none⟩) n k
theorem PRow.lay {w : World} {a b c d : Value} {r : PL} {n : Nat} (h : PRow w a b c d r) (hl : PlN r n) : ∃ b0 o0 k0 b1 o1 k1 b2 o2 k2 b3 o3 k3,
    a = .slice (some ⟨b0, o0, none⟩) n k0 ∧ b = .slice (some ⟨b1, o1, none⟩) n k1 ∧ c = .slice (some ⟨b2, o2, none⟩) n k2 ∧ d = .slice (some ⟨b3, o3, none⟩) n k3 ∧ PLay w n b0 o0 b1 o1 b2 o2 b3 o3 r := by
  obtain ⟨b0, o0, k0, rfl, h0⟩ := h.W.cells (by rw [hl.W]; exact hl.p)
  obtain ⟨b1, o1, k1, rfl, h1⟩ := h.E.cells (by rw [hl.E]; exact hl.p)
  obtain ⟨b2, o2, k2, rfl, h2⟩ := h.G.cells (by rw [hl.G]; exact hl.p)
  obtain ⟨b3, o3, k3, rfl, h3⟩ := h.H.cells (by rw [hl.H]; exact hl.p)
  rw [hl.W] at h0; rw [hl.E] at h1; rw [hl.G] at h2; rw [hl.H] at h3
  rw [hl.W, hl.E, hl.G, hl.H]
  exact ⟨_, _, _, _, _, _, _, _, _, _, _, _, rfl, rfl, rfl, rfl, h0, h1, h2, h3⟩
/-- .. with the row of a valid plate in any later world -/
theorem PLay.row {w : World} {n b0 o0 b1 o1 b2 o2 b3 o3 : Nat} {r : PL} (h : PLay w n b0 o0 b1 o1 b2 o2 b3 o3 r) (hl : PlN r n) (k0 k1 k2 k3 : Nat) :
    PRow w (ps b0 o0 n k0) (ps b1 o1 n k1) (ps b2 o2 n k2) (ps b3 o3 n k3) r := by
  have hm : maxLen = 9223372036854775807 := rfl
  have := hl.q
  refine ⟨.inr ⟨b0, o0, k0, by rw [hl.W], by rw [hl.W]; omega, by rw [hl.W]; exact h.W⟩, .inr ⟨b1, o1, k1, by rw [hl.E], by rw [hl.E]; omega, by rw [hl.E]; exact h.E⟩, .inr ⟨b2, o2, k2, by rw [hl.G], by rw [hl.G]; omega, by rw [hl.G]; exact h.G⟩, .inr ⟨b3, o3, k3, by rw [hl.H], by rw [hl.H]; omega, by rw [hl.H]; exact h.H⟩⟩
/-- the sum, from left to right, of what is told of those cells that are as told -/
def sumC (c : Nat → Bool) (f : Nat → Nat) (n : Nat) : Nat := (List.range n).foldl (fun s k => bif c k then fop .add .f32 s (f k) else s) (cn .f32 0)
theorem sumC_yes {c : Nat → Bool} {f : Nat → Nat} {k : Nat} (h : c k = true) : sumC c f (k + 1) = fop .add .f32 (sumC c f k) (f k) := by
  unfold sumC; rw [List.range_succ, List.foldl_append]; simp [h]
theorem sumC_no {c : Nat → Bool} {f : Nat → Nat} {k : Nat} (h : c k = false) : sumC c f (k + 1) = sumC c f k := by
  unfold sumC; rw [List.range_succ, List.foldl_append]; simp [h]
end Go.Proofs.Ythfkmcpajookaaa

/- Plates in four blocks that differ, by their blocks. -/
namespace Go.Proofs.Ythfkmcpajookaaa
open Go.RowKit
set_option linter.unusedVariables false

structure PB (h : Nat) (w : World) (g0 g1 g2 g3 n : Nat) (r : PL) : Prop where
  b0 : h ≤ g0
  b1 : h ≤ g1
  b2 : h ≤ g2
  b3 : h ≤ g3
  d01 : g0 ≠ g1
  d02 : g0 ≠ g2
  d03 : g0 ≠ g3
  d12 : g1 ≠ g2
  d13 : g1 ≠ g3
  d23 : g2 ≠ g3
  W : RowF w g0 0 r.W
  E : RowF w g1 0 r.E
  G : RowF w g2 0 r.G
  H : RowBo w g3 0 r.H
  lW : r.W.length = n
  lE : r.E.length = n
  lG : r.G.length = n
  lH : r.H.length = n
  p : 1 ≤ n
  q : n ≤ 144
theorem PB.kept {h : Nat} {w w' : World} {g0 g1 g2 g3 n : Nat} {r : PL} (P : PB h w g0 g1 g2 g3 n r) (hb : Below w.heap.size w w') : PB h w' g0 g1 g2 g3 n r :=
  ⟨P.b0, P.b1, P.b2, P.b3, P.d01, P.d02, P.d03, P.d12, P.d13, P.d23, P.W.of_block (hb.block _ P.W.lt), P.E.of_block (hb.block _ P.E.lt), P.G.of_block (hb.block _ P.G.lt), P.H.of_block (hb.block _ P.H.lt), P.lW, P.lE, P.lG, P.lH, P.p, P.q⟩
theorem PB.mono {h h' : Nat} {w : World} {g0 g1 g2 g3 n : Nat} {r : PL} (P : PB h w g0 g1 g2 g3 n r) (hh : h' ≤ h) : PB h' w g0 g1 g2 g3 n r :=
  ⟨Nat.le_trans hh P.b0, Nat.le_trans hh P.b1, Nat.le_trans hh P.b2, Nat.le_trans hh P.b3, P.d01, P.d02, P.d03, P.d12, P.d13, P.d23, P.W, P.E, P.G, P.H, P.lW, P.lE, P.lG, P.lH, P.p, P.q⟩
theorem PB.off {h : Nat} {w : World} {g0 g1 g2 g3 n : Nat} {r : PL} (P : PB h w g0 g1 g2 g3 n r) (q i : Nat) (u : Value) (h0 : g0 ≠ q) (h1 : g1 ≠ q) (h2 : g2 ≠ q) (h3 : g3 ≠ q) : PB h (w.setCell ⟨q, i, none⟩ u) g0 g1 g2 g3 n r :=
  ⟨P.b0, P.b1, P.b2, P.b3, P.d01, P.d02, P.d03, P.d12, P.d13, P.d23, P.W.of_block (Below.heap_setCell w ⟨q, i, none⟩ u _ h0), P.E.of_block (Below.heap_setCell w ⟨q, i, none⟩ u _ h1), P.G.of_block (Below.heap_setCell w ⟨q, i, none⟩ u _ h2), P.H.of_block (Below.heap_setCell w ⟨q, i, none⟩ u _ h3), P.lW, P.lE, P.lG, P.lH, P.p, P.q⟩
theorem PB.far {h : Nat} {w : World} {g0 g1 g2 g3 n : Nat} {r : PL} (P : PB h w g0 g1 g2 g3 n r) (q i : Nat) (u : Value) (hq : q < h) : PB h (w.setCell ⟨q, i, none⟩ u) g0 g1 g2 g3 n r :=
  P.off q i u (by have := P.b0; omega) (by have := P.b1; omega) (by have := P.b2; omega) (by have := P.b3; omega)
theorem PB.drewN {h : Nat} {w : World} {g0 g1 g2 g3 n : Nat} {r : PL} (P : PB h w g0 g1 g2 g3 n r) (m : Nat) : PB h (w.drewN m) g0 g1 g2 g3 n r :=
  P.kept (below_drewN (Below.refl _ _) m)
theorem PB.px {h : Nat} {w : World} {g0 g1 g2 g3 n : Nat} {r : PL} (P : PB h w g0 g1 g2 g3 n r) (c0 c1 c2 c3 : Nat) : PX h w.heap.size w (ps g0 0 n c0) (ps g1 0 n c1) (ps g2 0 n c2) (ps g3 0 n c3) r :=
  .inr ⟨g0, g1, g2, g3, ⟨P.b0, P.W.lt, P.b1, P.E.lt, P.b2, P.G.lt, P.b3, P.H.lt⟩, ⟨P.d01, P.d02, P.d03, P.d12, P.d13, P.d23⟩,
    .inr ⟨g0, 0, c0, by rw [P.lW], Nat.le_refl _, Nat.lt_succ_self _, P.W⟩, .inr ⟨g1, 0, c1, by rw [P.lE], Nat.le_refl _, Nat.lt_succ_self _, P.E⟩, .inr ⟨g2, 0, c2, by rw [P.lG], Nat.le_refl _, Nat.lt_succ_self _, P.G⟩, .inr ⟨g3, 0, c3, by rw [P.lH], Nat.le_refl _, Nat.lt_succ_self _, P.H⟩⟩
theorem PB.prow {h : Nat} {w : World} {g0 g1 g2 g3 n : Nat} {r : PL} (P : PB h w g0 g1 g2 g3 n r) (c0 c1 c2 c3 : Nat) : PRow w (ps g0 0 n c0) (ps g1 0 n c1) (ps g2 0 n c2) (ps g3 0 n c3) r :=
  (P.px c0 c1 c2 c3).prow (by have := P.lW; have := P.lE; have := P.lG; have := P.lH; have := P.q; unfold PL.size; omega)
theorem PB.setW {h : Nat} {w : World} {g0 g1 g2 g3 n : Nat} {r : PL} (P : PB h w g0 g1 g2 g3 n r) (i : Nat) (x : Nat) (hi : i < n) : PB h (w.setCell ⟨g0, i, none⟩ (.float .f32 x)) g0 g1 g2 g3 n { r with W := r.W.set i x } := by
  have hs := P.W.set i x (by rw [P.lW]; exact hi)
  rw [Nat.zero_add] at hs
  exact ⟨P.b0, P.b1, P.b2, P.b3, P.d01, P.d02, P.d03, P.d12, P.d13, P.d23, hs, P.E.of_block (Below.heap_setCell w ⟨g0, i, none⟩ _ g1 (Ne.symm P.d01)), P.G.of_block (Below.heap_setCell w ⟨g0, i, none⟩ _ g2 (Ne.symm P.d02)), P.H.of_block (Below.heap_setCell w ⟨g0, i, none⟩ _ g3 (Ne.symm P.d03)), by rw [← P.lW]; exact List.length_set, P.lE, P.lG, P.lH, P.p, P.q⟩
theorem PB.setE {h : Nat} {w : World} {g0 g1 g2 g3 n : Nat} {r : PL} (P : PB h w g0 g1 g2 g3 n r) (i : Nat) (x : Nat) (hi : i < n) : PB h (w.setCell ⟨g1, i, none⟩ (.float .f32 x)) g0 g1 g2 g3 n { r with E := r.E.set i x } := by
  have hs := P.E.set i x (by rw [P.lE]; exact hi)
  rw [Nat.zero_add] at hs
  exact ⟨P.b0, P.b1, P.b2, P.b3, P.d01, P.d02, P.d03, P.d12, P.d13, P.d23, P.W.of_block (Below.heap_setCell w ⟨g1, i, none⟩ _ g0 P.d01), hs, P.G.of_block (Below.heap_setCell w ⟨g1, i, none⟩ _ g2 (Ne.symm P.d12)), P.H.of_block (Below.heap_setCell w ⟨g1, i, none⟩ _ g3 (Ne.symm P.d13)), P.lW, by rw [← P.lE]; exact List.length_set, P.lG, P.lH, P.p, P.q⟩
theorem PB.setG {h : Nat} {w : World} {g0 g1 g2 g3 n : Nat} {r : PL} (P : PB h w g0 g1 g2 g3 n r) (i : Nat) (x : Nat) (hi : i < n) : PB h (w.setCell ⟨g2, i, none⟩ (.float .f32 x)) g0 g1 g2 g3 n { r with G := r.G.set i x } := by
  have hs := P.G.set i x (by rw [P.lG]; exact hi)
  rw [Nat.zero_add] at hs
  exact ⟨P.b0, P.b1, P.b2, P.b3, P.d01, P.d02, P.d03, P.d12, P.d13, P.d23, P.W.of_block (Below.heap_setCell w ⟨g2, i, none⟩ _ g0 P.d02), P.E.of_block (Below.heap_setCell w ⟨g2, i, none⟩ _ g1 P.d12), hs, P.H.of_block (Below.heap_setCell w ⟨g2, i, none⟩ _ g3 (Ne.symm P.d23)), P.lW, P.lE, by rw [← P.lG]; exact List.length_set, P.lH, P.p, P.q⟩
theorem PB.setH {h : Nat} {w : World} {g0 g1 g2 g3 n : Nat} {r : PL} (P : PB h w g0 g1 g2 g3 n r) (i : Nat) (x : Bool) (hi : i < n) : PB h (w.setCell ⟨g3, i, none⟩ (.bool x)) g0 g1 g2 g3 n { r with H := r.H.set i x } := by
  have hs := P.H.set i x (by rw [P.lH]; exact hi)
  rw [Nat.zero_add] at hs
  exact ⟨P.b0, P.b1, P.b2, P.b3, P.d01, P.d02, P.d03, P.d12, P.d13, P.d23, P.W.of_block (Below.heap_setCell w ⟨g3, i, none⟩ _ g0 P.d03), P.E.of_block (Below.heap_setCell w ⟨g3, i, none⟩ _ g1 P.d13), P.G.of_block (Below.heap_setCell w ⟨g3, i, none⟩ _ g2 P.d23), hs, P.lW, P.lE, P.lG, by rw [← P.lH]; exact List.length_set, P.p, P.q⟩
theorem Own.rowF {w : World} {b : Nat} {v : Value} {zs : List Nat} (h : Own w b v zs) (hn : 1 ≤ zs.length) : ∃ g c, v = .slice (some ⟨g, 0, none⟩) zs.length c ∧ b ≤ g ∧ RowF w g 0 zs ∧ v.ownBlock = some g := by
  obtain ⟨h1, h2⟩ := h
  rcases h2 with ⟨rfl, h0⟩ | ⟨g, cap, cur, e, hg, hc, _, _, hs, h3⟩
  · omega
  · refine ⟨g, cap, e, hg, ⟨cur, hc, fun i hi => ?_⟩, by rw [e]; rfl⟩
    have : (fl zs)[i]? = some (.float .f32 (zs.getD i 0)) := by simp [fl, hi, List.getD_eq_getElem?_getD]
    rw [← h3, List.getElem?_take, if_pos (by omega)] at this
    rw [Nat.zero_add]
    simpa using this
theorem OwnB.rowB {w : World} {b : Nat} {v : Value} {zs : List Bool} (h : OwnB w b v zs) (hn : 1 ≤ zs.length) : ∃ g c, v = .slice (some ⟨g, 0, none⟩) zs.length c ∧ b ≤ g ∧ RowBo w g 0 zs ∧ v.ownBlock = some g := by
  obtain ⟨h1, h2⟩ := h
  rcases h2 with ⟨rfl, h0⟩ | ⟨g, cap, cur, e, hg, hc, _, _, hs, h3⟩
  · omega
  · refine ⟨g, cap, e, hg, ⟨cur, hc, fun i hi => ?_⟩, by rw [e]; rfl⟩
    have : (flb zs)[i]? = some (.bool (zs.getD i false)) := by simp [flb, hi, List.getD_eq_getElem?_getD]
    rw [← h3, List.getElem?_take, if_pos (by omega)] at this
    rw [Nat.zero_add]
    simpa using this
theorem own_base {w : World} {b b' : Nat} {e : TypeId} {m : Nat} {v : Value} {n : Nat} {xs : List Value} (h : w.ownsRow b e m v n xs) (hb : b' ≤ b) : w.ownsRow b' e m v n xs := by
  refine ⟨h.1, ?_⟩
  rcases h.2 with h' | ⟨g, cap, cur, hv, hg, rest⟩
  · exact .inl h'
  · exact .inr ⟨g, cap, cur, hv, Nat.le_trans hb hg, rest⟩
theorem own_shape {w : World} {b : Nat} {e : TypeId} {m : Nat} {v : Value} {n : Nat} {xs : List Value} (h : w.ownsRow b e m v n xs) : ∃ a c, v = .slice a n c := by
  rcases h.2 with ⟨rfl, rfl⟩ | ⟨g, cap, cur, rfl, _⟩
  · exact ⟨_, _, rfl⟩
  · exact ⟨_, _, rfl⟩
theorem below_set6 {w w' : World} {B p : Nat} (h : Below B w w') (hp : B ≤ p) (x0 x1 x2 x3 x4 x5 : Value) : Below B w ((((((w'.setCell ⟨p, 0, none⟩ x0).setCell ⟨p, 1, none⟩ x1).setCell ⟨p, 2, none⟩ x2).setCell ⟨p, 3, none⟩ x3).setCell ⟨p, 4, none⟩ x4).setCell ⟨p, 5, none⟩ x5) :=
  (((((h.setCell (p := ⟨p, 0, none⟩) hp x0).setCell (p := ⟨p, 1, none⟩) hp x1).setCell (p := ⟨p, 2, none⟩) hp x2).setCell (p := ⟨p, 3, none⟩) hp x3).setCell (p := ⟨p, 4, none⟩) hp x4).setCell (p := ⟨p, 5, none⟩) hp x5
theorem PB.far6 {h : Nat} {w : World} {g0 g1 g2 g3 n : Nat} {r : PL} (P : PB h w g0 g1 g2 g3 n r) (q : Nat) (hq : q < h) (x0 x1 x2 x3 x4 x5 : Value) : PB h ((((((w.setCell ⟨q, 0, none⟩ x0).setCell ⟨q, 1, none⟩ x1).setCell ⟨q, 2, none⟩ x2).setCell ⟨q, 3, none⟩ x3).setCell ⟨q, 4, none⟩ x4).setCell ⟨q, 5, none⟩ x5) g0 g1 g2 g3 n r :=
  (((((P.far q 0 x0 hq).far q 1 x1 hq).far q 2 x2 hq).far q 3 x3 hq).far q 4 x4 hq).far q 5 x5 hq
end Go.Proofs.Ythfkmcpajookaaa

/- Drawn regions that make memory in any order: what a slot holds may bear a fact on the world (a block's cells) that stays true while nothing that was there turns. One walk in the order of the text serves every order; a tail (stores) runs in the order of the text. -/
namespace Go.Proofs.Ythfkmcpajookaaa.Pr
open Go.RowKit

/-- facts on what slots hold; what is told of a value when it is made; what two slots' values are to one another -/
structure TN where
  t : Nat → Value → World → Prop
  n : Nat → Value → World → World → Prop
  x : Nat → Value → Nat → Value → Prop
  ok : ∀ d v d' v' w w', t d v w → n d' v' w w' → x d v d' v'

section
variable {P : Program} {ops : Array Oper} {md : Region.Mode} {C : World → Prop} {T : TN}

/-- stays true while nothing that was there turns -/
def Pers (φ : World → Prop) : Prop := ∀ w w', φ w → Below w.heap.size w w' → φ w'

/-- which slots bear a fact on which value -/
abbrev SEnv := Nat → Value → Prop
def Facts (T : TN) (E : SEnv) (w : World) : Prop := (∀ d v, E d v → T.t d v w) ∧ ∀ d v d' v', E d v → E d' v' → d ≠ d' → T.x d v d' v' ∨ T.x d' v' d v
def FNeed (T : TN) (ops : Array Oper) (o : Oper) (E : SEnv) (w : World) : Prop := ∀ d v, d ∈ o.looksAt ops → E d v → T.t d v w
def fNext (ops : Array Oper) (o : Oper) (E : SEnv) (a : Act) (v : Value) : SEnv := fun x u => E x u ∨ (Region.wanted o (yielded ops a.tmps) = true ∧ o.dst = some x ∧ u = v)

def FGoodR (P : Program) (T : TN) (o : Oper) (w : World) : Result Next → Prop
  | .ok (.value v) w' => Below w.heap.size w w' ∧ ∀ d, o.dst = some d → T.t d v w' ∧ T.n d v w w'
  | .ok .skip w' => Below w.heap.size w w' ∧ ∀ d, o.dst = some d → T.t d undef w' ∧ T.n d undef w w'
  | .ok (.enter f args) w' => Below w.heap.size w w' ∧ Calls P f args w' (fun e w'' => ∃ v, e = .returned v ∧ Below w.heap.size w w'' ∧ ∀ d, o.dst = some d → (T.t d v w'' ∧ T.n d v w w''))
  | _ => False
def FValR (T : TN) (o : Oper) (v : Value) : Result Next → Prop
  | .ok (.value u) w' => v = u ∧ ∀ d, o.dst = some d → T.t d v w'
  | .ok .skip _ => v = undef
  | .ok (.enter _ _) _ => ∃ w', ∀ d, o.dst = some d → T.t d v w'
  | _ => False

def fGood (P : Program) (ops : Array Oper) (C : World → Prop) (T : TN) (o : Oper) (E : SEnv) (a : Act) : Prop :=
  Region.wanted o (yielded ops a.tmps) = true → ∀ w, C w → FNeed T ops o E w → FGoodR P T o w ((execOp a.eval o).run P w)
def fVal (P : Program) (ops : Array Oper) (C : World → Prop) (T : TN) (o : Oper) (E : SEnv) (a : Act) (v : Value) : Prop :=
  (Region.wanted o (yielded ops a.tmps) = true ∧ ∃ w, C w ∧ FNeed T ops o E w ∧ FValR T o v ((execOp a.eval o).run P w)) ∨ (Region.wanted o (yielded ops a.tmps) = false ∧ v = undef)

def wpFacts (P : Program) (ops : Array Oper) (C : World → Prop) (T : TN) (Q : SEnv → Act → Prop) : List Oper → SEnv → Act → Prop
  | [], E, a => Q E a
  | o :: rest, E, a => fGood P ops C T o E a ∧ ∀ v, fVal P ops C T o E a v → wpFacts P ops C T Q rest (fNext ops o E a v) (a.put o.dst v)

def fOp (P : Program) (ops : Array Oper) (C : World → Prop) (T : TN) (i : Nat) (K : SEnv → Act → Prop) (E : SEnv) (a : Act) : Prop :=
  match ops[i]? with
  | none => K E a
  | some o => fGood P ops C T o E a ∧ ∀ v, fVal P ops C T o E a v → K (fNext ops o E a v) (a.put o.dst v)

def Sat (C : World → Prop) (T : TN) (E : SEnv) : Prop := ∃ w, C w ∧ Facts T E w

/-- operations that only hand a value on: they may come as late as they like -/
def lateOp (o : Oper) : Bool := o.guard.isNone && match o.op with | .extract .. | .move _ | .assign _ => true | _ => false
def lateAt (ops : Array Oper) (late : List Nat) (i : Nat) : Bool := late.contains i && match ops[i]? with | some o => lateOp o | none => false

theorem late_all {o : Oper} {a : Act} (h : lateOp o = true) {v : Value} {w w' : World} (hr : (execOp a.eval o).run P w = .ok (.value v) w') : ∀ u, (execOp a.eval o).run P u = .ok (.value v) u := by
  simp only [lateOp, Bool.and_eq_true] at h
  obtain ⟨_, h⟩ := h
  unfold execOp at *
  cases e : o.op <;> simp only [e] at h hr ⊢ <;> first | (cases h; done) | skip
  case move x => intro u; cases hr; rfl
  case assign x => intro u; cases hr; rfl
  case extract t ix =>
    intro u
    revert hr
    simp only [Instr.extract]
    cases a.eval t with
    | tuple vs =>
      cases hv : vs[ix]? with
      | none => intro hr; simp [hv] at hr
      | some x => intro hr; simp only [hv] at hr ⊢; cases hr; rfl
    | _ => intro hr; cases hr

def wpAnyF (P : Program) (md : Region.Mode) (ops : Array Oper) (late : List Nat) (C : World → Prop) (T : TN) (n : Nat) (L : Array Bool → SEnv → Act → Prop) : Nat → Array Bool → SEnv → Act → Prop
  | 0, listed, E, a => Sat C T E → L listed E a
  | f + 1, listed, E, a => Sat C T E →
    (∃ m ∈ Region.ready md ops listed, m < n) ∧ ∀ i ∈ Region.ready md ops listed, (i < n → fOp P ops C T i (wpAnyF P md ops late C T n L f (listed.setIfInBounds i true)) E a) ∧
      (n ≤ i → ∀ m, m < n → listed.getD m true = false → lateAt ops late m = true)

theorem Facts.need {E : SEnv} {o : Oper} {w : World} (h : Facts T E w) : FNeed T ops o E w := fun d v _ hv => h.1 d v hv
theorem Facts.next {E : SEnv} {o : Oper} {a : Act} {w w' : World} {v : Value} (hT : ∀ d v, Pers (T.t d v)) (h : Facts T E w) (hb : Below w.heap.size w w') (hv : Region.wanted o (yielded ops a.tmps) = true → ∀ d, o.dst = some d → T.t d v w' ∧ T.n d v w w') : Facts T (fNext ops o E a v) w' := by
  refine ⟨fun d u hu => ?_, fun d u d' u' hu hu' hne => ?_⟩
  · rcases hu with hu | ⟨hw, hd, rfl⟩
    · exact hT d u _ _ (h.1 d u hu) hb
    · exact (hv hw d hd).1
  · rcases hu with hu | ⟨hw, hd, rfl⟩
    · rcases hu' with hu' | ⟨hw, hd, rfl⟩
      · exact h.2 d u d' u' hu hu' hne
      · exact .inl (T.ok _ _ _ _ _ _ (h.1 d u hu) (hv hw d' hd).2)
    · rcases hu' with hu' | ⟨_, hd', rfl⟩
      · exact .inr (T.ok _ _ _ _ _ _ (h.1 d' u' hu') (hv hw d hd).2)
      · rw [hd] at hd'; cases hd'; exact absurd rfl hne

theorem wpOp_of_fOp {i : Nat} {E : SEnv} {a : Act} {K : SEnv → Act → Prop} {K' : Act → World → Prop} {Q' : Exit → Act → World → Prop} {w : World} (hpC : Pers C) (hpT : ∀ d v, Pers (T.t d v)) (hC : C w) (hF : Facts T E w)
    (h : ∀ E a w', C w' → Facts T E w' → K E a → K' a w') (hh : fOp P ops C T i K E a) : wpOp P ops Q' i K' a w := by
  unfold fOp at hh
  unfold wpOp
  split
  · rename_i ho; simp only [ho] at hh; exact h _ _ _ hC hF hh
  · rename_i o ho
    simp only [ho] at hh
    obtain ⟨hg, hv⟩ := hh
    split
    · rename_i hw
      refine .inl ?_
      have h1 := hg hw w hC hF.need
      have h2 : ∀ v, FValR T o v ((execOp a.eval o).run P w) → K (fNext ops o E a v) (a.put o.dst v) := fun v hv' => hv v (.inl ⟨hw, w, hC, hF.need, hv'⟩)
      unfold Oper.wp
      generalize (execOp a.eval o).run P w = r at *
      cases r with
      | ok n w' =>
        cases n <;> simp only [FGoodR] at h1 <;> simp only [Oper.upon]
        case value u => exact h _ _ _ (hpC _ _ hC h1.1) (hF.next hpT h1.1 fun _ d hd => h1.2 d hd) (h2 u ⟨rfl, fun d hd => (h1.2 d hd).1⟩)
        case skip => exact h _ _ _ (hpC _ _ hC h1.1) (hF.next hpT h1.1 fun _ d hd => h1.2 d hd) (h2 undef rfl)
        case enter f args =>
          obtain ⟨hb, hc⟩ := h1
          exact hc.mono fun e w'' ⟨v, he, hb', ht⟩ => by subst he; exact h _ _ _ (hpC _ _ hC hb') (hF.next hpT hb' fun _ d hd => ht d hd) (h2 v ⟨w'', fun d hd => (ht d hd).1⟩)
      | halt x w' => simp only [FGoodR] at h1
    · rename_i hw
      have hw' : Region.wanted o (yielded ops a.tmps) = false := by simpa using hw
      exact h _ _ _ hC (hF.next hpT (Below.refl _ _) fun hb => absurd hb hw) (hv undef (.inr ⟨hw', rfl⟩))

def lateFreeB (md : Region.Mode) (ops : Array Oper) (late : List Nat) : Bool :=
  late.all fun m => match ops[m]? with
    | none => false
    | some om => (List.range ops.size).all fun j => j == m || match ops[j]? with
      | none => true
      | some oj => oj.after.any (fun e => Region.binds md e && e.on == m) || om.after.any (fun e => Region.binds md e && e.on == j) || om.apart ops oj

theorem late_free {late : List Nat} (h : lateFreeB md ops late = true) {m : Nat} {om : Oper} (hm : ops[m]? = some om) (hl : lateAt ops late m = true) {listed : Array Bool} (hr : m ∈ Region.ready md ops listed) :
    ∀ j oj, ops[j]? = some oj → j ≠ m → listed.getD j true = false → (∀ e ∈ oj.after, Region.binds md e = true → e.on ≠ m) → om.apart ops oj = true := by
  intro j oj hj hne hun hno
  simp only [lateAt, Bool.and_eq_true] at hl
  have h1 := List.all_eq_true.1 h m (by simpa using hl.1)
  simp only [hm, List.all_eq_true, List.mem_range] at h1
  have h2 := h1 j (Array.getElem?_eq_some_iff.1 hj).1
  simp only [hj, Bool.or_eq_true, beq_iff_eq, hne, false_or] at h2
  rcases h2 with (h2 | h2) | h2
  · obtain ⟨e, he, hb⟩ := Array.any_eq_true'.1 h2
    simp only [Bool.and_eq_true, beq_iff_eq] at hb
    exact absurd hb.2 (hno e he hb.1)
  · obtain ⟨e, he, hb⟩ := Array.any_eq_true'.1 h2
    simp only [Bool.and_eq_true, beq_iff_eq] at hb
    obtain ⟨_, o, ho, hall⟩ := mem_ready.1 hr
    have : o = om := Option.some.inj (ho.symm.trans hm)
    subst this
    have h3 := hall e he hb.1
    rw [hb.2, getD_both hun] at h3
    cases h3
  · exact h2

theorem wpAny_of_headF {late : List Nat} {n g : Nat} {L : Array Bool → SEnv → Act → Prop} {Q' : Exit → Act → World → Prop} (hpC : Pers C) (hpT : ∀ d v, Pers (T.t d v)) (hsel : ∀ (j : Nat) (o : Oper) cs b, ops[j]? = some o → o.op ≠ .select cs b) (hlf : lateFreeB md ops late = true)
    (hQ : ∀ (d : Option Nat) v c a w, Q' (.panic c) (a.put d v) w → Q' (.panic c) a w) (hL : ∀ listed E a w, C w → Facts T E w → L listed E a → wpAny P md ops Q' g listed a w) :
    ∀ (f : Nat) (listed : Array Bool) (E : SEnv) (a : Act) (w : World), C w → Facts T E w → wpAnyF P md ops late C T n L f listed E a → wpAny P md ops Q' (f + g) listed a w
  | 0, listed, E, a, w, hw, hF, h => by rw [Nat.zero_add]; exact hL _ _ _ _ hw hF (h ⟨w, hw, hF⟩)
  | f + 1, listed, E, a, w, hw, hF, h => by
    rw [show f + 1 + g = (f + g) + 1 by omega]
    obtain ⟨⟨m, hm, hmn⟩, h⟩ := h ⟨w, hw, hF⟩
    by_cases hx : ∀ i ∈ Region.ready md ops listed, i < n
    · exact ⟨fun h0 => (by rw [h0] at hm; cases hm), fun i hi => wpOp_of_fOp hpC hpT hw hF (fun E' a' w' hw' hF' h' => wpAny_of_headF hpC hpT hsel hlf hQ hL f _ E' a' w' hw' hF' h') ((h i hi).1 (hx i hi))⟩
    · obtain ⟨i, hx⟩ := Classical.not_forall.1 hx
      obtain ⟨hi, hin⟩ := Classical.not_imp.1 hx
      have hla := (h i hi).2 (by omega) m hmn (mem_ready.1 hm).1
      obtain ⟨_, om, hom, _⟩ := mem_ready.1 hm
      have hfo := (h m hm).1 hmn
      unfold fOp at hfo
      simp only [hom] at hfo
      obtain ⟨hg, hn⟩ := hfo
      have hlo : lateOp om = true := by simp only [lateAt, hom, Bool.and_eq_true] at hla; exact hla.2
      have hwant : Region.wanted om (yielded ops a.tmps) = true := by
        simp only [lateOp, Bool.and_eq_true, Option.isNone_iff_eq_none] at hlo
        simp [Region.wanted, hlo.1]
      have h1 := hg hwant w hw hF.need
      have hy : ∃ v, (execOp a.eval om).run P w = .ok (.value v) w := by
        generalize hr : (execOp a.eval om).run P w = r at h1
        cases r with
        | ok nx w' =>
          cases nx <;> simp only [FGoodR] at h1
          case value u => exact ⟨u, by rw [← hr]; exact late_all hlo hr w⟩
          case skip =>
            simp only [lateOp, Bool.and_eq_true] at hlo
            unfold execOp at hr
            cases e : om.op <;> simp only [e] at hlo hr <;> first | (cases hlo.2; done) | skip
            · cases hr
            · cases hr
            · rename_i t ix
              exfalso
              revert hr
              simp only [Instr.extract]
              cases a.eval t with
              | tuple vs => cases hv : vs[ix]? <;> (intro hr; simp [hv] at hr)
              | _ => intro hr; cases hr
          case enter f args =>
            simp only [lateOp, Bool.and_eq_true] at hlo
            unfold execOp at hr
            cases e : om.op <;> simp only [e] at hlo hr <;> first | (cases hlo.2; done) | skip
            · cases hr
            · cases hr
            · rename_i t ix
              exfalso
              revert hr
              simp only [Instr.extract]
              cases a.eval t with
              | tuple vs => cases hv : vs[ix]? <;> (intro hr; simp [hv] at hr)
              | _ => intro hr; cases hr
        | halt x w' => simp only [FGoodR] at h1
      obtain ⟨v, hv⟩ := hy
      have hall := late_all hlo hv
      rw [hv] at h1
      refine wpAny_first (v := v) hom hsel (hQ om.dst v) _ listed a w (late_free hlf hom hla hm) hm (.inl ⟨hwant, hall⟩) ?_
      exact wpAny_of_headF hpC hpT hsel hlf hQ hL f _ _ _ w hw (hF.next hpT (Below.refl _ _) fun _ => h1.2) (hn v (.inl ⟨hwant, w, hw, hF.need, by rw [hv]; exact ⟨rfl, fun d hd => (h1.2 d hd).1⟩⟩))

/-- what another operation leaves does not touch what this one does -/
theorem FNeed_put {o p : Oper} {E : SEnv} {a : Act} {u : Value} {w : World} (h : ∀ d, p.dst = some d → d ∉ o.looksAt ops) : FNeed T ops o (fNext ops p E a u) w ↔ FNeed T ops o E w := by
  constructor
  · intro k d v hd hv; exact k d v hd (.inl hv)
  · intro k d v hd hv
    rcases hv with hv | ⟨_, he, _⟩
    · exact k d v hd hv
    · exact absurd hd (h d he)
theorem fGood_put {o p : Oper} {E : SEnv} {a : Act} {u : Value} (hs : ∀ cs b, o.op ≠ .select cs b) (h : ∀ d, p.dst = some d → d ∉ o.looksAt ops) : fGood P ops C T o (fNext ops p E a u) (a.put p.dst u) ↔ fGood P ops C T o E a := by
  unfold fGood
  rw [execOp_put o hs a p.dst u h, wanted_put o a p.dst u h]
  constructor
  · intro k hw w hC hN; exact k hw w hC ((FNeed_put h).2 hN)
  · intro k hw w hC hN; exact k hw w hC ((FNeed_put h).1 hN)
theorem fVal_put {o p : Oper} {E : SEnv} {a : Act} {u v : Value} (hs : ∀ cs b, o.op ≠ .select cs b) (h : ∀ d, p.dst = some d → d ∉ o.looksAt ops) : fVal P ops C T o (fNext ops p E a u) (a.put p.dst u) v ↔ fVal P ops C T o E a v := by
  unfold fVal
  rw [execOp_put o hs a p.dst u h, wanted_put o a p.dst u h]
  simp only [FNeed_put h]
theorem fNext_comm {o p : Oper} {E : SEnv} {a : Act} {u v : Value} (ho : ∀ d, p.dst = some d → d ∉ o.looksAt ops) (hp : ∀ d, o.dst = some d → d ∉ p.looksAt ops) :
    fNext ops o (fNext ops p E a u) (a.put p.dst u) v = fNext ops p (fNext ops o E a v) (a.put o.dst v) u := by
  unfold fNext
  rw [wanted_put o a p.dst u ho, wanted_put p a o.dst v hp]
  funext x y
  exact propext or_right_comm

/-- there is a value that it may leave, and a world for it -/
theorem some_fVal (hpC : Pers C) (hpT : ∀ d v, Pers (T.t d v)) {o : Oper} {E : SEnv} {a : Act} (hS : Sat C T E) (hg : fGood P ops C T o E a) : ∃ v, fVal P ops C T o E a v ∧ Sat C T (fNext ops o E a v) := by
  obtain ⟨w, hC, hF⟩ := hS
  by_cases h : Region.wanted o (yielded ops a.tmps) = true
  · have h3 := hg h w hC hF.need
    have : ∃ v, FValR T o v ((execOp a.eval o).run P w) ∧ ∃ w', Below w.heap.size w w' ∧ ∀ d, o.dst = some d → T.t d v w' ∧ T.n d v w w' := by
      generalize (execOp a.eval o).run P w = r at *
      cases r with
      | ok n w' =>
        cases n <;> simp only [FGoodR] at h3
        case value u => exact ⟨u, ⟨rfl, fun d hd => (h3.2 d hd).1⟩, w', h3⟩
        case skip => exact ⟨undef, rfl, w', h3⟩
        case enter f args =>
          obtain ⟨e, w'', fr, ⟨v, _, hb, ht⟩, _⟩ := h3.2 []
          exact ⟨v, ⟨w'', fun d hd => (ht d hd).1⟩, w'', hb, ht⟩
      | halt x w' => simp only [FGoodR] at h3
    obtain ⟨v, hv, w', hb, ht⟩ := this
    exact ⟨v, .inl ⟨h, w, hC, hF.need, hv⟩, w', hpC _ _ hC hb, hF.next hpT hb fun _ => ht⟩
  · exact ⟨undef, .inr ⟨by simpa using h, rfl⟩, w, hC, hF.next hpT (Below.refl _ _) fun hb => absurd hb h⟩

theorem Sat.sub {E E' : SEnv} (h : Sat C T E') (hs : ∀ d v, E d v → E' d v) : Sat C T E := by
  obtain ⟨w, hC, hF⟩ := h
  exact ⟨w, hC, fun d v hv => hF.1 d v (hs d v hv), fun d v d' v' h h' => hF.2 d v d' v' (hs d v h) (hs d' v' h')⟩

theorem wpAnyF_first {late : List Nat} (hpC : Pers C) (hpT : ∀ d v, Pers (T.t d v)) {n i : Nat} {oi : Oper} {L : Array Bool → SEnv → Act → Prop} (hi : ops[i]? = some oi) (hsel : ∀ (j : Nat) (o : Oper) cs b, ops[j]? = some o → o.op ≠ .select cs b)
    (hw : ∀ listed, HeadInv md ops n listed → ∀ i, i < n → lateAt ops late i = false → listed.getD i true = false → ∀ t, n ≤ t → t ∉ Region.ready md ops listed) (hin : i < n)
    (hdone : ∀ listed E a, L listed E a → ∀ j ∈ Region.ready md ops listed, n ≤ j) :
    ∀ (f : Nat) (listed : Array Bool) (E : SEnv) (a : Act), HeadInv md ops n listed →
      (∀ j oj, ops[j]? = some oj → j ≠ i → listed.getD j true = false → (∀ e ∈ oj.after, Region.binds md e = true → e.on ≠ i) → oi.apart ops oj = true) →
      i ∈ Region.ready md ops listed → (Sat C T E → fGood P ops C T oi E a) →
      (∀ v, fVal P ops C T oi E a v → wpAnyF P md ops late C T n L f (listed.setIfInBounds i true) (fNext ops oi E a v) (a.put oi.dst v)) → wpAnyF P md ops late C T n L (f + 1) listed E a := by
  intro f
  induction f with
  | zero =>
    intro listed E a inv _ hr hy H hS
    have hy := hy hS
    have hun := (mem_ready.1 hr).1
    refine ⟨⟨i, hr, hin⟩, fun j hj => ⟨fun hjn => ?_, fun hjn m hm hmu => ?_⟩⟩
    case refine_2 =>
      cases hl : lateAt ops late m with
      | true => rfl
      | false => exact absurd hj (hw _ inv m hm hl hmu j hjn)
    by_cases hji : j = i
    · subst hji
      unfold fOp; simp only [hi]
      exact ⟨hy, H⟩
    · obtain ⟨v, hv, hS'⟩ := some_fVal hpC hpT hS hy
      have := hdone _ _ _ (H v hv hS') j (ready_mono hj hji)
      omega
  | succ f ih =>
    intro listed E a inv hfree hr hy H hS
    have hy := hy hS
    have hun := (mem_ready.1 hr).1
    refine ⟨⟨i, hr, hin⟩, fun j hj => ⟨fun hjn => ?_, fun hjn m hm hmu => ?_⟩⟩
    case refine_2 =>
      cases hl : lateAt ops late m with
      | true => rfl
      | false => exact absurd hj (hw _ inv m hm hl hmu j hjn)
    by_cases hji : j = i
    · subst hji
      unfold fOp; simp only [hi]
      exact ⟨hy, H⟩
    · obtain ⟨hjun, oj, hoj, hall⟩ := mem_ready.1 hj
      have hnot : ∀ e ∈ oj.after, Region.binds md e = true → e.on ≠ i := fun e he hb heq => by
        have h1 := hall e he hb
        rw [heq, getD_both hun] at h1
        cases h1
      have hap := hfree j oj hoj hji hjun hnot
      obtain ⟨q1, q2, q3⟩ := Oper.apart_spec hap
      have hfree' : ∀ k ok, ops[k]? = some ok → k ≠ i → (listed.setIfInBounds j true).getD k true = false →
          (∀ e ∈ ok.after, Region.binds md e = true → e.on ≠ i) → oi.apart ops ok = true := fun k ok hk hki hun hno => by
        refine hfree k ok hk hki ?_ hno
        by_cases hjk : j = k
        · subst hjk; exact hjun
        · rw [getD_set_ne true hjk] at hun; exact hun
      have si := fun cs b => hsel i oi cs b hi
      have sj := fun cs b => hsel j oj cs b hoj
      obtain ⟨v0, hv0, hS0⟩ := some_fVal hpC hpT hS hy
      have step : ∀ v, fVal P ops C T oi E a v → Sat C T (fNext ops oi E a v) → fGood P ops C T oj E a ∧ ∀ u, fVal P ops C T oj E a u → wpAnyF P md ops late C T n L f ((listed.setIfInBounds i true).setIfInBounds j true) (fNext ops oj (fNext ops oi E a v) (a.put oi.dst v) u) ((a.put oi.dst v).put oj.dst u) := fun v hv hs => by
        have h1 := ((H v hv hs).2 j (ready_mono hj hji)).1 hjn
        unfold fOp at h1
        simp only [hoj] at h1
        exact ⟨(fGood_put sj q1).1 h1.1, fun u hu => h1.2 u ((fVal_put sj q1).2 hu)⟩
      unfold fOp
      simp only [hoj]
      refine ⟨(step v0 hv0 hS0).1, fun u hu => ?_⟩
      refine ih (listed.setIfInBounds j true) (fNext ops oj E a u) (a.put oj.dst u) (inv.set hj hjn) hfree' (ready_mono hr (Ne.symm hji)) (fun _ => (fGood_put si q3).2 hy) fun v hv => ?_
      have hv' : fVal P ops C T oi E a v := (fVal_put si q3).1 hv
      rw [Array.setIfInBounds_comm _ _ hji, ← Act.put_comm a v u q2, fNext_comm q3 q1]
      have key := fun hs => (step v hv' hs).2 u hu
      have hsub : ∀ d x, fNext ops oi E a v d x → fNext ops oj (fNext ops oi E a v) (a.put oi.dst v) u d x := fun d x h => .inl h
      cases f with
      | zero => exact fun hs => key (hs.sub hsub) hs
      | succ f => exact fun hs => key (hs.sub hsub) hs

theorem wpAnyF_lex {late : List Nat} (hpC : Pers C) (hpT : ∀ d v, Pers (T.t d v)) {n g : Nat} {Lq : SEnv → Act → Prop} (hsel : Region.noSelect ops = true)
    (hw : ∀ listed, HeadInv md ops n listed → ∀ i, i < n → lateAt ops late i = false → listed.getD i true = false → ∀ t, n ≤ t → t ∉ Region.ready md ops listed) :
    ∀ (l : List Oper) (k : Nat) (listed : Array Bool) (E : SEnv) (a : Act), (∀ j, j < l.length → l[j]? = ops[k + j]?) → k + l.length = n → HeadInv md ops n listed →
    Region.lexHead md ops g l.length k listed = true → wpFacts P ops C T Lq l E a →
    wpAnyF P md ops late C T n (fun listed' E' a' => Region.seqB md ops g n listed' = true ∧ Lq E' a') l.length listed E a
  | [], k, listed, E, a, _, hk, _, hB, h => by
    have : k = n := by simpa using hk
    subst this
    exact fun _ => ⟨by simpa [Region.lexHead] using hB, h⟩
  | o :: l, k, listed, E, a, hl, hk, inv, hB, h => by
    have h0 : ops[k]? = some o := by simpa using (hl 0 (by simp)).symm
    simp only [List.length_cons, Region.lexHead, Bool.and_eq_true] at hB
    obtain ⟨⟨hr, hf⟩, hB'⟩ := hB
    have hkn : k < n := by simp only [List.length_cons] at hk; omega
    have hr' : k ∈ Region.ready md ops listed := by simpa using hr
    exact wpAnyF_first hpC hpT h0 (Region.noSelect_spec hsel) hw hkn (fun listed' E' a' hL => seqB_ready hL.1) l.length listed E a inv (Region.free_spec h0 hf) hr' (fun _ => h.1)
      (fun v hv => wpAnyF_lex hpC hpT hsel hw l (k + 1) _ _ _ (fun j hj => by have := hl (j + 1) (by simp; omega); simpa [Nat.add_assoc, Nat.add_comm 1 j] using this) (by simp only [List.length_cons] at hk; omega) (inv.set hr' hkn) hB' (h.2 v hv))

/-- each early operation of the head is waited for, up to operation n -/
def sinkE (md : Region.Mode) (ops : Array Oper) (late : List Nat) (n : Nat) : Bool :=
  (List.range n).all fun i => lateAt ops late i || (List.range (n + 1)).any fun j => decide (i < j) && (j == n || !lateAt ops late j) && Region.waitsFor md ops j i
theorem tail_waitsE {late : List Nat} {n : Nat} {listed : Array Bool} (hs : sinkE md ops late n = true) (hc : Region.chainB md ops n = true) (inv : HeadInv md ops n listed) :
    ∀ (d i : Nat), n - i = d → i < n → lateAt ops late i = false → listed.getD i true = false → ∀ t, n ≤ t → t ∉ Region.ready md ops listed := by
  intro d
  induction d using Nat.strongRecOn with
  | _ d ih =>
    intro i hd hi hl hun t ht hr
    obtain ⟨_, ot, hot, hall⟩ := mem_ready.1 hr
    have htlt : t < ops.size := (Array.getElem?_eq_some_iff.1 hot).1
    by_cases htn : t = n
    · subst htn
      have h1 := List.all_eq_true.1 hs i (List.mem_range.2 hi)
      rw [hl, Bool.false_or] at h1
      obtain ⟨j, hj, hj2⟩ := List.any_eq_true.1 h1
      simp only [Bool.and_eq_true, decide_eq_true_eq, Bool.or_eq_true, beq_iff_eq, Bool.not_eq_true'] at hj2
      obtain ⟨⟨hij, hjl⟩, hjw⟩ := hj2
      obtain ⟨oj, hoj, e, he, hb, hon⟩ := Region.waitsFor_spec hjw
      have hjle : j ≤ t := by have := List.mem_range.1 hj; omega
      by_cases hjt : j = t
      · subst hjt
        have : oj = ot := Option.some.inj (hoj.symm.trans hot)
        subst this
        have h2 := hall e he hb
        rw [hon, getD_both hun] at h2
        cases h2
      · cases hlj : listed.getD j false with
        | true =>
          have h2 := inv.closed j oj hoj hlj e he hb
          rw [hon, getD_both hun] at h2
          cases h2
        | false =>
          have hjs : j < listed.size := by rw [inv.size]; omega
          exact ih (t - j) (by omega) j rfl (by omega) (by rcases hjl with h | h; exact absurd h hjt; exact h) (getD_in hjs hlj) t (Nat.le_refl _) hr
    · have h1 := List.all_eq_true.1 hc t (List.mem_range.2 htlt)
      simp only [Bool.or_eq_true, decide_eq_true_eq] at h1
      rcases h1 with h1 | h1
      · omega
      · obtain ⟨o', ho', e, he, hb, hon⟩ := Region.waitsFor_spec h1
        have : o' = ot := Option.some.inj (ho'.symm.trans hot)
        subst this
        have h2 := hall e he hb
        rw [hon, getD_both (inv.tail (t - 1) (by omega) (by omega))] at h2
        cases h2

def factsTailB (md : Region.Mode) (ops : Array Oper) (late : List Nat) (n : Nat) : Bool :=
  Region.noSelect ops && decide (n < ops.size) && sinkE md ops late n && Region.chainB md ops n && lateFreeB md ops late && Region.lexHead md ops (ops.size - n) n 0 (Array.replicate ops.size false)

/-- the head in any order, the tail in the order of the text; operations of the head in 'late' only hand a value on -/
theorem wp_region_facts_tail {id : Nat} {Q : Exit → Act → World → Prop} {a : Act} {w : World} {l : List Oper} (n : Nat) (late : List Nat) (C : World → Prop) (T : TN) (hpC : Pers C) (hpT : ∀ d v, Pers (T.t d v)) (hC : C (w.drewN 1)) (hm : P.follows .mixedOrders = true) (hB : factsTailB .any l.toArray late n = true)
    (hQ : ∀ (d : Option Nat) v c a w, Q (.panic c) (a.put d v) w → Q (.panic c) a w)
    (h : wpFacts P l.toArray C T (fun E a' => ∀ w', C w' → Facts T E w' → wpList P l.toArray Q (l.drop n) a' w') (l.take n) (fun _ _ => False) a) : (Code.region id l.toArray true).wp P Q a w := by
  simp only [factsTailB, Bool.and_eq_true, decide_eq_true_eq] at hB
  obtain ⟨⟨⟨⟨⟨hsel, hn⟩, hs⟩, hc⟩, hlf⟩, hlex⟩ := hB
  have hn' : n < l.length := by simpa using hn
  have htl : (l.take n).length = n := by simp; omega
  have hdl : (l.drop n).length = l.toArray.size - n := by simp
  have inv0 : HeadInv .any l.toArray n (Array.replicate l.toArray.size false) :=
    ⟨by simp, fun j oj _ hl => (by rw [getD_replicate_false] at hl; cases hl), fun t _ ht => getD_in (by simpa using ht) (getD_replicate_false _ _)⟩
  have H := wpAnyF_lex (P := P) (C := C) (T := T) (md := .any) (g := l.toArray.size - n) (late := late) hpC hpT hsel (fun listed inv i hin hl hun => tail_waitsE hs hc inv _ i rfl hin hl hun) (l.take n) 0 _ _ a (fun j hj => by
    have hj' : j < n := by rw [htl] at hj; exact hj
    simp [hj']) (by simpa using htl) inv0 (by rw [htl]; exact hlex) h
  refine wp_region_any hm ?_
  have := wpAny_of_headF (Q' := Q) (g := l.toArray.size - n) hpC hpT (Region.noSelect_spec hsel) hlf hQ (fun listed E a' w' hw' hF' hL => by
    have := wpAny_of_seq (md := .any) (Q' := Q) (l.drop n) n listed a' w' (fun j => by simp [List.getElem?_drop]) (by rw [hdl]; exact hL.1) (hL.2 w' hw' hF')
    rwa [hdl] at this) _ _ _ _ (w.drewN 1) hC ⟨fun _ _ h => h.elim, fun _ _ _ _ h => h.elim⟩ H
  rw [htl, show n + (l.toArray.size - n) = l.toArray.size by omega] at this
  exact this

def factsB (md : Region.Mode) (ops : Array Oper) (k : Nat) : Bool := Region.noSelect ops && Region.lexHead md ops 0 k 0 (Array.replicate k false)
/-- all in any order -/
theorem wp_region_facts {id : Nat} {Q : Exit → Act → World → Prop} {a : Act} {w : World} {l : List Oper} (C : World → Prop) (T : TN) (hpC : Pers C) (hpT : ∀ d v, Pers (T.t d v)) (hC : C (w.drewN 1)) (hm : P.follows .mixedOrders = true) (hB : factsB .any l.toArray l.length = true)
    (hQ : ∀ (d : Option Nat) v c a w, Q (.panic c) (a.put d v) w → Q (.panic c) a w)
    (h : wpFacts P l.toArray C T (fun E a' => ∀ w', C w' → Facts T E w' → Q .normal a' w') l (fun _ _ => False) a) : (Code.region id l.toArray true).wp P Q a w := by
  simp only [factsB, Bool.and_eq_true] at hB
  obtain ⟨hsel, hB⟩ := hB
  have inv0 : HeadInv .any l.toArray l.length (Array.replicate l.length false) :=
    ⟨by simp, fun j oj _ hl => (by rw [getD_replicate_false] at hl; cases hl), fun t h1 ht => absurd ht (by simpa using h1)⟩
  have H := wpAnyF_lex (P := P) (C := C) (T := T) (md := .any) (n := l.length) (g := 0) (late := []) hpC hpT hsel (fun listed inv i hin _ hun t ht hr => by
    obtain ⟨_, o, ho, _⟩ := mem_ready.1 hr
    have := (Array.getElem?_eq_some_iff.1 ho).1
    simp at this
    omega) l 0 _ _ a (fun j hj => by simp) (by simp) inv0 hB h
  refine wp_region_any hm ?_
  have := wpAny_of_headF (Q' := Q) (g := 0) hpC hpT (Region.noSelect_spec hsel) (by rfl) hQ (fun listed E a' w' hw' hF' hL => by
    unfold wpAny
    exact ⟨by simpa [Region.seqB] using hL.1, hL.2 w' hw' hF'⟩) _ _ _ _ (w.drewN 1) hC ⟨fun _ _ h => h.elim, fun _ _ _ _ h => h.elim⟩ H
  rw [Nat.add_zero] at this
  simp only [List.size_toArray]
  exact this

/-! ### The steps -/
theorem wpFacts_mono {Q : SEnv → Act → Prop} (hQ : ∀ E E' a, (∀ d v, E d v → E' d v) → Q E a → Q E' a) : ∀ (l : List Oper) (E E' : SEnv) (a : Act), (∀ d v, E d v → E' d v) → wpFacts P ops C T Q l E a → wpFacts P ops C T Q l E' a
  | [], _, _, _, hs, h => hQ _ _ _ hs h
  | o :: l, E, E', a, hs, h => by
    refine ⟨fun hw w hC hN => h.1 hw w hC fun d v hd hv => hN d v hd (hs d v hv), fun v hv => ?_⟩
    refine wpFacts_mono hQ l (fNext ops o E a v) _ _ (fun d u hu => hu.imp (hs d u) id) (h.2 v ?_)
    rcases hv with ⟨hw, w, hC, hN, hv⟩ | hv
    · exact .inl ⟨hw, w, hC, fun d v hd hv => hN d v hd (hs d v hv), hv⟩
    · exact .inr hv

variable {Q : SEnv → Act → Prop} {a : Act} {o : Oper} {rest : List Oper} {E : SEnv}
def MonoQ (Q : SEnv → Act → Prop) : Prop := ∀ E E' a, (∀ d v, E d v → E' d v) → Q E a → Q E' a
theorem monoQ_end {K : Act → World → Prop} : MonoQ (fun E a' => ∀ w', C w' → Facts T E w' → K a' w') := fun _ _ _ hs h w' hC hF => h w' hC ⟨fun d v hv => hF.1 d v (hs d v hv), fun d v d' v' h1 h2 => hF.2 d v d' v' (hs d v h1) (hs d' v' h2)⟩

theorem wpFacts_nil (h : Q E a) : wpFacts P ops C T Q [] E a := h

/-- an operation whose value is known, and that bears no fact -/
theorem wpFacts_val (hgd : o.guard = none) (hQ : MonoQ Q) (hT : ∀ d, o.dst = some d → ∀ v w w0, T.t d v w ∧ T.n d v w0 w) (v : Value) (hv : ∀ w, C w → ∃ w', Below w.heap.size w w' ∧ (execOp a.eval o).run P w = .ok (.value v) w')
    (h : ∀ K : Act → Prop, (∀ a, wpFacts P ops C T Q rest E a → K a) → K (a.put o.dst v)) : wpFacts P ops C T Q (o :: rest) E a := by
  have hw : Region.wanted o (yielded ops a.tmps) = true := by simp [Region.wanted, hgd]
  refine ⟨fun _ w hC _ => ?_, fun u hu => ?_⟩
  · obtain ⟨w', hb, e⟩ := hv w hC
    rw [e]; exact ⟨hb, fun d hd => hT d hd _ _ _⟩
  · rcases hu with ⟨_, w, hC, _, hu⟩ | ⟨hn, _⟩
    · obtain ⟨w', hb, e⟩ := hv w hC
      rw [e] at hu
      obtain ⟨rfl, _⟩ := hu
      exact wpFacts_mono hQ _ _ _ _ (fun d v h => .inl h) (h _ fun _ h => h)
    · rw [hw] at hn; cases hn

/-- an operation that hands back any of several values, or bears a fact -/
theorem wpFacts_some (hgd : o.guard = none) (d : Nat) (hd : o.dst = some d) (hv : ∀ w, C w → FNeed T ops o E w → ∃ v w', Below w.heap.size w w' ∧ (T.t d v w' ∧ T.n d v w w') ∧ (execOp a.eval o).run P w = .ok (.value v) w')
    (h : ∀ v, (∃ w, T.t d v w) → wpFacts P ops C T Q rest (fun x u => E x u ∨ (x = d ∧ u = v)) (a.put o.dst v)) : wpFacts P ops C T Q (o :: rest) E a := by
  have hw : Region.wanted o (yielded ops a.tmps) = true := by simp [Region.wanted, hgd]
  refine ⟨fun _ w hC hN => ?_, fun u hu => ?_⟩
  · obtain ⟨v, w', hb, ht, e⟩ := hv w hC hN
    rw [e]; exact ⟨hb, fun d' hd' => by rw [hd] at hd'; cases hd'; exact ht⟩
  · have e : fNext ops o E a u = (fun x y => E x y ∨ (x = d ∧ y = u)) := by
      funext x y
      unfold fNext
      rw [hw, hd]
      refine propext (or_congr Iff.rfl ?_)
      constructor
      · rintro ⟨_, h1, h2⟩; cases h1; exact ⟨rfl, h2⟩
      · rintro ⟨rfl, h2⟩; exact ⟨rfl, rfl, h2⟩
    rw [e]
    rcases hu with ⟨_, w, hC, hN, hu⟩ | ⟨hn, _⟩
    · obtain ⟨v, w', hb, ht, e⟩ := hv w hC hN
      rw [e] at hu
      exact h u ⟨_, hu.2 d hd⟩
    · rw [hw] at hn; cases hn

/-- a call, by its contract -/
theorem wpFacts_call (hgd : o.guard = none) (d : Nat) (hd : o.dst = some d) (f : FuncId) (args : Array Value) (hr : ∀ w, (execOp a.eval o).run P w = .ok (.enter f args) w)
    (hc : ∀ w, C w → FNeed T ops o E w → Calls P f args w fun e w' => ∃ v, e = .returned v ∧ Below w.heap.size w w' ∧ T.t d v w' ∧ T.n d v w w')
    (h : ∀ v, (∃ w, T.t d v w) → wpFacts P ops C T Q rest (fun x u => E x u ∨ (x = d ∧ u = v)) (a.put o.dst v)) : wpFacts P ops C T Q (o :: rest) E a := by
  have hw : Region.wanted o (yielded ops a.tmps) = true := by simp [Region.wanted, hgd]
  refine ⟨fun _ w hC hN => ?_, fun u hu => ?_⟩
  · rw [hr w]
    exact ⟨Below.refl _ _, (hc w hC hN).mono fun e w' ⟨v, he, hb, ht⟩ => ⟨v, he, hb, fun d' hd' => by rw [hd] at hd'; cases hd'; exact ht⟩⟩
  · have e : fNext ops o E a u = (fun x y => E x y ∨ (x = d ∧ y = u)) := by
      funext x y
      unfold fNext
      rw [hw, hd]
      refine propext (or_congr Iff.rfl ?_)
      constructor
      · rintro ⟨_, h1, h2⟩; cases h1; exact ⟨rfl, h2⟩
      · rintro ⟨rfl, h2⟩; exact ⟨rfl, rfl, h2⟩
    rw [e]
    rcases hu with ⟨_, w, hC, hN, hu⟩ | ⟨hn, _⟩
    · rw [hr w] at hu
      obtain ⟨w', ht⟩ := hu
      exact h u ⟨w', ht d hd⟩
    · rw [hw] at hn; cases hn
end

/-- nothing that was there has turned: such a fact stays -/
theorem Pers.ext (w : World) : Pers (Ext w) := fun _ _ h hb => below_step h hb
theorem Pers.cells (p : Nat) (vs : List Value) : Pers (fun w => Cells w p vs) := fun _ _ h hb => h.kept hb
theorem Pers.true : Pers (fun _ => True) := fun _ _ _ _ => trivial
theorem Pers.ex {α : Sort _} {φ : α → World → Prop} (h : ∀ x, Pers (φ x)) : Pers (fun w => ∃ x, φ x w) := fun w w' ⟨x, hx⟩ hb => ⟨x, h x w w' hx hb⟩
theorem Pers.and {φ ψ : World → Prop} (h : Pers φ) (k : Pers ψ) : Pers (fun w => φ w ∧ ψ w) := fun w w' ⟨a, b⟩ hb => ⟨h w w' a hb, k w w' b hb⟩
theorem Pers.const (p : Prop) : Pers (fun _ => p) := fun _ _ h _ => h
end Go.Proofs.Ythfkmcpajookaaa.Pr

/- The facts that slots bear, as a list, with slots whose blocks lie apart; the steps for them. -/
namespace Go.Proofs.Ythfkmcpajookaaa.Pr
open Go.RowKit
set_option linter.unusedVariables false

/-- a fact on a value and a world that stays true while nothing that was there turns -/
def Fct := {φ : Value → World → Prop // ∀ v, Pers (φ v)}
def TS : List (Nat × Fct) → Nat → Value → World → Prop
  | [], _, _, _ => True
  | (k, φ) :: l, d, v, w => (d = k → φ.1 v w) ∧ TS l d v w
theorem TS.pers : ∀ (l : List (Nat × Fct)) (d : Nat) (v : Value), Pers (TS l d v)
  | [], _, _ => Pers.true
  | (_, φ) :: l, d, v => fun w w' h hb => ⟨fun e => φ.2 v w w' (h.1 e) hb, TS.pers l d v w w' h.2 hb⟩
def TS.hasB : List (Nat × Fct) → Nat → Bool
  | [], _ => false
  | (k, _) :: l, d => d == k || TS.hasB l d
theorem TS.no : ∀ {l : List (Nat × Fct)} {d : Nat} (_ : TS.hasB l d = false) (v : Value) (w : World), TS l d v w
  | [], _, _, _, _ => trivial
  | (k, φ) :: l, d, h, v, w => by
    simp only [TS.hasB, Bool.or_eq_false_iff, beq_eq_false_iff_ne, ne_eq] at h
    exact ⟨fun e => absurd e h.1, TS.no h.2 v w⟩
def TS.findB : List (Nat × Fct) → Nat → Option Fct
  | [], _ => none
  | (k, φ) :: l, d => if d = k then (if TS.hasB l d then none else some φ) else TS.findB l d
theorem TS.mk : ∀ {l : List (Nat × Fct)} {d : Nat} {φ : Fct} (_ : TS.findB l d = some φ) {v : Value} {w : World} (_ : φ.1 v w), TS l d v w
  | [], _, _, h, _, _, _ => by cases h
  | (k, ψ) :: l, d, φ, h, v, w, hv => by
    unfold TS.findB at h
    split at h
    · rename_i e
      split at h
      · cases h
      · rename_i hb
        cases h
        exact ⟨fun _ => hv, TS.no (by simpa using hb) v w⟩
    · rename_i e
      exact ⟨fun e' => absurd e' e, TS.mk h hv⟩
theorem TS.get : ∀ {l : List (Nat × Fct)} {d : Nat} {φ : Fct} (_ : TS.findB l d = some φ) {v : Value} {w : World} (_ : TS l d v w), φ.1 v w
  | [], _, _, h, _, _, _ => by cases h
  | (k, ψ) :: l, d, φ, h, v, w, hv => by
    unfold TS.findB at h
    split at h
    · rename_i e
      split at h
      · cases h
      · cases h
        exact hv.1 e
    · exact TS.get h hv.2

/-- it is this value -/
def fIs (x : Value) : Fct := ⟨fun v _ => v = x, fun _ => Pers.const _⟩
/-- it points to a block, made since h, with these cells -/
def fBox (h : Nat) (vs : List Value) : Fct := ⟨fun v w => ∃ p, v = .pointer (some ⟨p, 0, none⟩) ∧ h ≤ p ∧ Cells w p vs, fun _ => Pers.ex fun _ => Pers.and (Pers.const _) (Pers.and (Pers.const _) (Pers.cells _ _))⟩
/-- it is a float, up to a not-a-number's bits -/
def fNum (k : FloatKind) (S : Nat) : Fct := ⟨fun v _ => ∃ r, cn k r = S ∧ v = .float k r, fun _ => Pers.const _⟩


/-- the facts of l; the slots of D hold slices in blocks of their own -/
def TND (l : List (Nat × Fct)) (D : List Nat) : TN where
  t d v w := TS l d v w ∧ (D.contains d = true → ∀ g, v.ownBlock = some g → g < w.heap.size)
  n d v w w' := D.contains d = true → ∀ g, v.ownBlock = some g → w.heap.size ≤ g
  x d v d' v' := D.contains d = true → D.contains d' = true → ∀ g g', v.ownBlock = some g → v'.ownBlock = some g' → g < g'
  ok d v d' v' w w' ht hn h h' g g' e e' := Nat.lt_of_lt_of_le (ht.2 h g e) (hn h' g' e')
theorem TND.pers (l : List (Nat × Fct)) (D : List Nat) (d : Nat) (v : Value) : Pers ((TND l D).t d v) := fun w w' h hb => ⟨TS.pers l d v w w' h.1 hb, fun hd g e => Nat.lt_of_lt_of_le (h.2 hd g e) hb.size⟩
theorem fact_of {l : List (Nat × Fct)} {D : List Nat} {E : SEnv} {w : World} {d : Nat} {φ : Fct} {v : Value} (hT : TS.findB l d = some φ) (hF : Facts (TND l D) E w) (hE : E d v) : φ.1 v w := TS.get hT (hF.1 d v hE).1
/-- two slots of D: their blocks differ -/
theorem fact_apart {l : List (Nat × Fct)} {D : List Nat} {E : SEnv} {w : World} {d d' : Nat} {v v' : Value} {g g' : Nat} (hd : D.contains d = true) (hd' : D.contains d' = true) (hne : d ≠ d') (hF : Facts (TND l D) E w) (hE : E d v) (hE' : E d' v') (e : v.ownBlock = some g) (e' : v'.ownBlock = some g') : g ≠ g' := by
  rcases hF.2 d v d' v' hE hE' hne with h | h
  · exact Nat.ne_of_lt (h hd hd' g g' e e')
  · exact Ne.symm (Nat.ne_of_lt (h hd' hd g' g e' e))

section
variable {P : Program} {ops : Array Oper} {C : World → Prop} {l : List (Nat × Fct)} {D : List Nat} {Q : SEnv → Act → Prop} {a : Act} {o : Oper} {rest : List Oper} {E : SEnv}

/-- an operation whose value is known -/
theorem wpF_val (hgd : o.guard = none) (hQ : MonoQ Q) (hT : ∀ d, o.dst = some d → TS.hasB l d = false ∧ D.contains d = false) (v : Value) (hv : ∀ w, C w → (execOp a.eval o).run P w = .ok (.value v) w)
    (h : ∀ K : Act → Prop, (∀ a, wpFacts P ops C (TND l D) Q rest E a → K a) → K (a.put o.dst v)) : wpFacts P ops C (TND l D) Q (o :: rest) E a :=
  wpFacts_val hgd hQ (fun d hd v w w0 => ⟨⟨TS.no (hT d hd).1 v w, fun h => by rw [(hT d hd).2] at h; cases h⟩, fun h => by rw [(hT d hd).2] at h; cases h⟩) v (fun w hC => ⟨w, Below.refl _ _, hv w hC⟩) h

/-- a call that hands back a slice in a block of its own -/
theorem wpF_callO (hgd : o.guard = none) (d : Nat) (hd : o.dst = some d) (f : FuncId) (args : Array Value) (φ : Fct) (hT : TS.findB l d = some φ) (hr : ∀ w, (execOp a.eval o).run P w = .ok (.enter f args) w)
    (hc : ∀ w, C w → FNeed (TND l D) ops o E w → Calls P f args w fun e w' => ∃ v, e = .returned v ∧ Below w.heap.size w w' ∧ φ.1 v w' ∧ ∀ g, v.ownBlock = some g → w.heap.size ≤ g ∧ g < w'.heap.size)
    (h : ∀ v, (∃ w, φ.1 v w) → wpFacts P ops C (TND l D) Q rest (fun x u => E x u ∨ (x = d ∧ u = v)) (a.put o.dst v)) : wpFacts P ops C (TND l D) Q (o :: rest) E a :=
  wpFacts_call hgd d hd f args hr (fun w hC hN => (hc w hC hN).mono fun e w' ⟨v, he, hb, ht, hg⟩ => ⟨v, he, hb, ⟨TS.mk hT ht, fun _ g e => (hg g e).2⟩, fun _ g e => (hg g e).1⟩) (fun u ⟨w, hu⟩ => h u ⟨w, TS.get hT hu.1⟩)
end
end Go.Proofs.Ythfkmcpajookaaa.Pr

/- A copy of a list, as the specification makes it. -/
namespace Go.Proofs.Ythfkmcpajookaaa
open Go.RowKit
set_option linter.unusedVariables false

/-- a whole list appended -/
theorem wpList_cat32 {ops : Array Oper} {rest : List Oper} {o : Oper} {a : Act} {Q : Exit → Act → World → Prop} {w : World} (hgd : o.guard = none) (s x : Operand)
    (ho : o.op = .call { callee := .builtin .append, args := #[s, x], argTypes := #[23, 23] })
    (base : Nat) (v : Value) (zs ys : List Nat) (hs : a.eval s = v) (hown : Own w base v zs) (q off c : Nat) (hx : a.eval x = .slice (some ⟨q, off, none⟩) ys.length c) (hq : ∀ i, i < ys.length → w.cell? ⟨q, off + i, none⟩ = some (.float .f32 (ys.getD i 0)))
    (hk : zs.length ≤ 1048576) (hk2 : ys.length ≤ 1048576) (hbase : base ≤ w.heap.size)
    (h : ∀ v' w', Own w' base v' (zs ++ ys) → Below base w w' → wpList Try.prog ops Q rest (a.put o.dst v') w') : wpList Try.prog ops Q (o :: rest) a w := by
  obtain ⟨i, hi, hz, hsz, hby⟩ := info32
  have hm : maxLen = 9223372036854775807 := rfl
  refine wpList_append_own w hgd s x _ ho base 22 i (.float .f32 0) 1 4 Try.underlying23 hi hz hsz hby rfl (by decide) v zs.length (fl zs) hs hown ⟨q, off, none⟩ ys.length c (fl ys) hx (by simp [fl]) (fun j u hj => ?_) (fun u hu => ?_) (by omega) (by omega) hbase (fun v' w' h1 h2 _ => ?_)
  · have hjl : j < ys.length := by
      by_cases hl : j < ys.length
      · exact hl
      · rw [List.getElem?_eq_none (by simpa [fl] using hl)] at hj
        cases hj
    have e : u = .float .f32 (ys.getD j 0) := by
      simp [fl, hjl] at hj
      simp [← hj, List.getD_eq_getElem?_getD, hjl]
    rw [e]
    have h2 := hq j hjl
    by_cases hj0 : j = 0
    · subst hj0
      first | (simp [Addr.add]; done) | simpa [Addr.add] using h2
    · first | (simp [Addr.add, hj0]; done) | simpa [Addr.add, hj0] using h2
  · simp [fl] at hu
    obtain ⟨z, _, rfl⟩ := hu
    rfl
  · refine h v' w' ?_ ((Below.refl base w).grown h2 hbase (fun k hk => (World.ownsRow.lt hown k hk).1))
    unfold Own
    simpa [fl] using h1

theorem specCopy_any (v : Value) (zs : List Nat) (w : World) (h : FRow w v zs) (hn : 1 ≤ zs.length) (hl : zs.length ≤ 1048576) :
    Calls Try.prog 71 #[v] w fun e w' => ∃ v', e = .returned v' ∧ Own w' w.heap.size v' zs ∧ Below w.heap.size w w' := by
  obtain ⟨b, off, c, rfl, hc⟩ := h.cells hn
  have HC : ∀ w', Below w.heap.size w w' → ∀ i, i < zs.length → w'.cell? ⟨b, off + i, none⟩ = some (.float .f32 (zs.getD i 0)) := by
    intro w' hb
    obtain ⟨b', o', c', e, hc'⟩ := (h.below hb).cells hn
    cases e
    exact hc'
  have HC := Lib.hid HC
  have O0 := Lib.hid (Own.empty w w.heap.size (Nat.le_refl _))
  have HL := Lib.hid hl
  clear h hl hn hc
  go_enter Try.func71, Try.ntmps71
  go_wp2_with (at_builtin; refine wpList_cat32 rfl _ _ rfl w.heap.size _ [] zs rfl O0.out b off c rfl (HC.out _ (below_al1 _ _)) (by simp) HL.out (by simp) ?_; intro v' w1 hown hb; have O1 := Lib.hid hown; have B1 := Lib.hid hb; clear hown hb)
  go_ret
  exact ⟨_, rfl, O1.out, (below_al1 _ _).trans B1.out⟩
end Go.Proofs.Ythfkmcpajookaaa

/- A plate of its own, as the specification copies it. -/
namespace Go.Proofs.Ythfkmcpajookaaa
open Go.RowKit
set_option linter.unusedVariables false

theorem RowF.ne_int {w : World} {g q : Nat} {zs : List Nat} {x : Int} {vs : List Value} (h : RowF w g 0 zs) (hn : 1 ≤ zs.length) (C : Cells w q (.int .i64 x :: vs)) : g ≠ q := by
  intro e
  subst e
  have h1 := h.cell (i := 0) (by omega)
  have h2 := C.at 0 rfl
  rw [Nat.add_zero] at h1
  rw [h1] at h2
  cases h2
namespace Pr
def fOwn (h : Nat) (zs : List Nat) : Fct := ⟨fun v w => Own w h v zs, fun _ _ _ h hb => h.kept hb⟩
theorem wpF_alloc {P : Program} {ops : Array Oper} {C : World → Prop} {l : List (Nat × Fct)} {D : List Nat} {Q : SEnv → Act → Prop} {a : Act} {o : Oper} {rest : List Oper} {E : SEnv} (hgd : o.guard = none) (d : Nat) (hd : o.dst = some d) (hD : D.contains d = false) (h0 : Nat) (vs : List Value) (t : TypeId) (hT : TS.findB l d = some (fBox h0 vs)) (hh : ∀ w, C w → h0 ≤ w.heap.size)
    (hv : ∀ w, (execOp a.eval o).run P w = .ok (.value (.pointer (some ⟨w.heap.size, 0, none⟩))) (w.alloc (.cells vs.toArray t)))
    (h : ∀ p : Nat, wpFacts P ops C (TND l D) Q rest (fun x u => E x u ∨ (x = d ∧ u = .pointer (some ⟨p, 0, none⟩))) (a.put o.dst (.pointer (some ⟨p, 0, none⟩)))) : wpFacts P ops C (TND l D) Q (o :: rest) E a :=
  wpFacts_some hgd d hd (fun w hC _ => ⟨_, _, below_al1 w _, ⟨⟨TS.mk hT ⟨w.heap.size, rfl, hh w hC, Cells.made w vs t⟩, fun hd' => by rw [hD] at hd'; cases hd'⟩, fun hd' => by rw [hD] at hd'; cases hd'⟩, hv w⟩) (fun v ⟨_, hv⟩ => by
    obtain ⟨p, rfl, _⟩ := TS.get hT hv.1
    exact h p)
set_option maxRecDepth 10000 in
set_option maxHeartbeats 3200000 in
theorem specOwnP_any (a b c d : Value) (r : PL) (n p : Nat) (w : World) (A0 : Cells w p (pvs r a b c d)) (h : PRow w a b c d r) (LN : PlN r n) :
    Calls Try.prog 48 #[.pointer (some ⟨p, 0, none⟩)] w fun e w' => ∃ g0 g1 g2 g3 c0 c1 c2 c3, e = .returned (.agg #[.int .i64 r.X, .int .i64 r.Y, ps g0 0 n c0, ps g1 0 n c1, ps g2 0 n c2, ps g3 0 n c3]) ∧ PB (w.heap.size + 1) w' g0 g1 g2 g3 n r ∧ Below w.heap.size w w' := by
  obtain ⟨b0, o0, k0, rfl, v0⟩ := h.W.cells (by rw [LN.W]; exact LN.p)
  obtain ⟨b1, o1, k1, rfl, v1⟩ := h.E.cells (by rw [LN.E]; exact LN.p)
  obtain ⟨b2, o2, k2, rfl, v2⟩ := h.G.cells (by rw [LN.G]; exact LN.p)
  obtain ⟨b3, o3, k3, rfl, v3⟩ := h.H.cells (by rw [LN.H]; exact LN.p)
  have VW := Lib.hid (fun w' (hb : Below w.heap.size w w') i (hi : i < r.W.length) => (hb.cell (p := ⟨b0, o0 + i, none⟩) (cell_lt (v0 i hi))).trans (v0 i hi))
  have VE := Lib.hid (fun w' (hb : Below w.heap.size w w') i (hi : i < r.E.length) => (hb.cell (p := ⟨b1, o1 + i, none⟩) (cell_lt (v1 i hi))).trans (v1 i hi))
  have VG := Lib.hid (fun w' (hb : Below w.heap.size w w') i (hi : i < r.G.length) => (hb.cell (p := ⟨b2, o2 + i, none⟩) (cell_lt (v2 i hi))).trans (v2 i hi))
  have VH := Lib.hid (fun w' (hb : Below w.heap.size w w') i (hi : i < r.H.length) => (hb.cell (p := ⟨b3, o3 + i, none⟩) (cell_lt (v3 i hi))).trans (v3 i hi))
  have LW : Hid (r.W.length ≤ 1048576) := Lib.hid (by rw [LN.W]; exact Nat.le_trans LN.q (by decide))
  have LE : Hid (r.E.length ≤ 1048576) := Lib.hid (by rw [LN.E]; exact Nat.le_trans LN.q (by decide))
  have LG : Hid (r.G.length ≤ 1048576) := Lib.hid (by rw [LN.G]; exact Nat.le_trans LN.q (by decide))
  have LH : Hid (r.H.length ≤ 1048576) := Lib.hid (by rw [LN.H]; exact Nat.le_trans LN.q (by decide))
  have H := Lib.hid (fun w1 (hb : Below w.heap.size w w1) => h.below hb)
  have PL0 : Hid (p < w.heap.size) := Lib.hid A0.lt
  have Bw := Lib.hid (below_al1 w (.cells zpl.toArray 26))
  have A := Lib.hid (A0.al (.cells zpl.toArray 26))
  have R := Lib.hid (Cells.made w zpl 26)
  have hs0 : Hid ((w.alloc (.cells zpl.toArray 26)).heap.size = w.heap.size + 1) := Lib.hid (by simp)
  have FACT := Lib.hid (fun w1 (hw : Ext (w.alloc (.cells zpl.toArray 26)) w1) => And.intro (hw.cell (A.out.at 0 rfl)) (And.intro (hw.cell (A.out.at 1 rfl)) (And.intro (hw.cell (A.out.at 2 rfl)) (And.intro (hw.cell (A.out.at 3 rfl)) (And.intro (hw.cell (A.out.at 4 rfl)) (hw.cell (A.out.at 5 rfl)))))))
  have LN := Lib.hid LN
  clear h v0 v1 v2 v3 A0
  go_enter Try.func48, Try.ntmps48
  go_wp2
  refine wp_region_facts_tail 20 [] (Ext (w.alloc (.cells zpl.toArray 26))) (TND [(16, fOwn (w.heap.size + 1) r.W), (21, fOwn (w.heap.size + 1) r.E), (3, fBox (w.heap.size + 1) zpl)] [16, 21]) (Pers.ext _) (TND.pers _ _) (Ext.start _) (by kernel_rfl) (by kernel_rfl) (by intro d v c a w h; cases d <;> exact h) ?_
  simp only [List.take_succ_cons, List.take_zero, List.drop_succ_cons, List.drop_zero]
  repeat (refine wpF_val rfl monoQ_end (by rintro _ ⟨⟩; exact ⟨rfl, rfl⟩) ?_ (fun w1 hw1 => ?_) (fun K hK => ?_); rotate_left; (focus (have hF := FACT.out w1 hw1; go_simp; first | done | rfl)); go_simp; refine hK _ ?_; clear hK K)
  refine wpF_callO rfl 16 rfl 71 #[.slice (some ⟨b0, o0, none⟩) r.W.length k0] (fOwn (w.heap.size + 1) r.W) rfl (fun w1 => ?_) (fun w1 hC hN => ?_) (fun v1 hv1 => ?_)
  · go_simp
  · refine (specCopy_any _ r.W w1 (H.out w1 (below_step Bw.out hC)).W (by rw [LN.out.W]; exact LN.out.p) (by rw [LN.out.W]; exact Nat.le_trans LN.out.q (by decide))).mono ?_
    rintro e w2 ⟨v', rfl, ho, hb⟩
    exact ⟨_, rfl, hb, own_base ho (by have h1 := hs0.out; have h2 := hC.size; omega), fun g e => World.ownsRow.lt ho g e⟩
  obtain ⟨w5, hv1⟩ := hv1
  obtain ⟨i16, j16, rfl⟩ := own_shape hv1
  clear hv1 w5
  repeat (refine wpF_val rfl monoQ_end (by rintro _ ⟨⟩; exact ⟨rfl, rfl⟩) ?_ (fun w1 hw1 => ?_) (fun K hK => ?_); rotate_left; (focus (have hF := FACT.out w1 hw1; go_simp; first | done | rfl)); go_simp; refine hK _ ?_; clear hK K)
  refine wpF_callO rfl 21 rfl 71 #[.slice (some ⟨b1, o1, none⟩) r.E.length k1] (fOwn (w.heap.size + 1) r.E) rfl (fun w1 => ?_) (fun w1 hC hN => ?_) (fun v1 hv1 => ?_)
  · go_simp
  · refine (specCopy_any _ r.E w1 (H.out w1 (below_step Bw.out hC)).E (by rw [LN.out.E]; exact LN.out.p) (by rw [LN.out.E]; exact Nat.le_trans LN.out.q (by decide))).mono ?_
    rintro e w2 ⟨v', rfl, ho, hb⟩
    exact ⟨_, rfl, hb, own_base ho (by have h1 := hs0.out; have h2 := hC.size; omega), fun g e => World.ownsRow.lt ho g e⟩
  obtain ⟨w5, hv1⟩ := hv1
  obtain ⟨i21, j21, rfl⟩ := own_shape hv1
  clear hv1 w5
  repeat (refine wpF_val rfl monoQ_end (by rintro _ ⟨⟩; exact ⟨rfl, rfl⟩) ?_ (fun w1 hw1 => ?_) (fun K hK => ?_); rotate_left; (focus (have hF := FACT.out w1 hw1; go_simp; first | done | rfl)); go_simp; refine hK _ ?_; clear hK K)
  refine wpF_alloc rfl 3 rfl rfl (w.heap.size + 1) zpl 26 rfl (fun w1 hw1 => by have h1 := hs0.out; have h2 := hw1.size; omega) (fun w1 => ?_) (fun q => ?_)
  · go_simp
  repeat (refine wpF_val rfl monoQ_end (by rintro _ ⟨⟩; exact ⟨rfl, rfl⟩) ?_ (fun w1 hw1 => ?_) (fun K hK => ?_); rotate_left; (focus (have hF := FACT.out w1 hw1; go_simp; first | done | rfl)); go_simp; refine hK _ ?_; clear hK K)
  refine wpFacts_nil ?_
  intro w3 hC hF
  have o0 := Lib.hid (show Own w3 (w.heap.size + 1) (.slice i16 r.W.length j16) r.W from fact_of (d := 16) rfl hF (by repeat (first | exact Or.inr ⟨rfl, rfl⟩ | refine Or.inl ?_)))
  have o1 := Lib.hid (show Own w3 (w.heap.size + 1) (.slice i21 r.E.length j21) r.E from fact_of (d := 21) rfl hF (by repeat (first | exact Or.inr ⟨rfl, rfl⟩ | refine Or.inl ?_)))
  have p01 := Lib.hid (fun g g' (e : Value.ownBlock (.slice i16 r.W.length j16) = some g) (e' : Value.ownBlock (.slice i21 r.E.length j21) = some g') => fact_apart (d := 16) (d' := 21) rfl rfl (by decide) hF (by repeat (first | exact Or.inr ⟨rfl, rfl⟩ | refine Or.inl ?_)) (by repeat (first | exact Or.inr ⟨rfl, rfl⟩ | refine Or.inl ?_)) e e')
  have bx := (show (fBox (w.heap.size + 1) zpl).1 (.pointer (some ⟨q, 0, none⟩)) w3 from fact_of (d := 3) rfl hF (by repeat (first | exact Or.inr ⟨rfl, rfl⟩ | refine Or.inl ?_)))
  obtain ⟨q', eq', hq, C1⟩ := bx
  cases eq'
  have R := Lib.hid (R.out.kept hC)
  have A := Lib.hid (A.out.kept hC)
  have Bw := Lib.hid (below_step Bw.out hC)
  obtain ⟨g0, c0, e0, hg0, hr0, ow0⟩ := o0.out.rowF (by rw [LN.out.W]; exact LN.out.p)
  obtain ⟨g1, c1, e1, hg1, hr1, ow1⟩ := o1.out.rowF (by rw [LN.out.E]; exact LN.out.p)
  have d01 := Lib.hid (p01.out _ _ ow0 ow1)
  have n0 := hr0.ne_int (by rw [LN.out.W]; exact LN.out.p) C1
  have n1 := hr1.ne_int (by rw [LN.out.E]; exact LN.out.p) C1
  have hpq : ¬ q = p := by have := PL0.out; omega
  have hwq : ¬ q = w.heap.size := by omega
  have C2 := C1.fz
  have z0 := C1.at 0 rfl; have z1 := C1.at 1 rfl; have z2 := C1.at 2 rfl; have z3 := C1.at 3 rfl; have z4 := C1.at 4 rfl; have z5 := C1.at 5 rfl
  obtain ⟨w4, hw4⟩ : ∃ w4, ((((((w3.setCell ⟨q, 0, none⟩ (.int .i64 r.X)).setCell ⟨q, 1, none⟩ (.int .i64 r.Y)).setCell ⟨q, 2, none⟩ (.slice i16 r.W.length j16)).setCell ⟨q, 3, none⟩ (.slice i21 r.E.length j21)).setCell ⟨q, 4, none⟩ (.slice none 0 0)).setCell ⟨q, 5, none⟩ (.slice none 0 0)) = w4 := ⟨_, rfl⟩
  have HW4 := Lib.hid hw4
  have D := Lib.hid (show Cells w4 q [.int .i64 r.X, .int .i64 r.Y, .slice i16 r.W.length j16, .slice i21 r.E.length j21, .slice none 0 0, .slice none 0 0] by rw [← hw4]; exact ((((((((((((C1).set 0 (by simp) (.int .i64 r.X))).set 1 (by simp) (.int .i64 r.Y))).set 2 (by simp) (.slice i16 r.W.length j16))).set 3 (by simp) (.slice i21 r.E.length j21))).set 4 (by simp) (.slice none 0 0))).set 5 (by simp) (.slice none 0 0)))
  have A4 := A.out
  have A := ((((((((((((A.out).far (q := q) hpq 0 (.int .i64 r.X))).far (q := q) hpq 1 (.int .i64 r.Y))).far (q := q) hpq 2 (.slice i16 r.W.length j16))).far (q := q) hpq 3 (.slice i21 r.E.length j21))).far (q := q) hpq 4 (.slice none 0 0))).far (q := q) hpq 5 (.slice none 0 0))
  have R := ((((((((((((R.out).far (q := q) hwq 0 (.int .i64 r.X))).far (q := q) hwq 1 (.int .i64 r.Y))).far (q := q) hwq 2 (.slice i16 r.W.length j16))).far (q := q) hwq 3 (.slice i21 r.E.length j21))).far (q := q) hwq 4 (.slice none 0 0))).far (q := q) hwq 5 (.slice none 0 0))
  have F0 := ((((((hr0).of_block (Below.heap_setCell w3 ⟨q, 0, none⟩ (.int .i64 r.X) _ n0)).of_block (Below.heap_setCell (w3.setCell ⟨q, 0, none⟩ (.int .i64 r.X)) ⟨q, 1, none⟩ (.int .i64 r.Y) _ n0)).of_block (Below.heap_setCell ((w3.setCell ⟨q, 0, none⟩ (.int .i64 r.X)).setCell ⟨q, 1, none⟩ (.int .i64 r.Y)) ⟨q, 2, none⟩ (.slice i16 r.W.length j16) _ n0)).of_block (Below.heap_setCell (((w3.setCell ⟨q, 0, none⟩ (.int .i64 r.X)).setCell ⟨q, 1, none⟩ (.int .i64 r.Y)).setCell ⟨q, 2, none⟩ (.slice i16 r.W.length j16)) ⟨q, 3, none⟩ (.slice i21 r.E.length j21) _ n0)).of_block (Below.heap_setCell ((((w3.setCell ⟨q, 0, none⟩ (.int .i64 r.X)).setCell ⟨q, 1, none⟩ (.int .i64 r.Y)).setCell ⟨q, 2, none⟩ (.slice i16 r.W.length j16)).setCell ⟨q, 3, none⟩ (.slice i21 r.E.length j21)) ⟨q, 4, none⟩ (.slice none 0 0) _ n0)).of_block (Below.heap_setCell (((((w3.setCell ⟨q, 0, none⟩ (.int .i64 r.X)).setCell ⟨q, 1, none⟩ (.int .i64 r.Y)).setCell ⟨q, 2, none⟩ (.slice i16 r.W.length j16)).setCell ⟨q, 3, none⟩ (.slice i21 r.E.length j21)).setCell ⟨q, 4, none⟩ (.slice none 0 0)) ⟨q, 5, none⟩ (.slice none 0 0) _ n0)
  have F1 := ((((((hr1).of_block (Below.heap_setCell w3 ⟨q, 0, none⟩ (.int .i64 r.X) _ n1)).of_block (Below.heap_setCell (w3.setCell ⟨q, 0, none⟩ (.int .i64 r.X)) ⟨q, 1, none⟩ (.int .i64 r.Y) _ n1)).of_block (Below.heap_setCell ((w3.setCell ⟨q, 0, none⟩ (.int .i64 r.X)).setCell ⟨q, 1, none⟩ (.int .i64 r.Y)) ⟨q, 2, none⟩ (.slice i16 r.W.length j16) _ n1)).of_block (Below.heap_setCell (((w3.setCell ⟨q, 0, none⟩ (.int .i64 r.X)).setCell ⟨q, 1, none⟩ (.int .i64 r.Y)).setCell ⟨q, 2, none⟩ (.slice i16 r.W.length j16)) ⟨q, 3, none⟩ (.slice i21 r.E.length j21) _ n1)).of_block (Below.heap_setCell ((((w3.setCell ⟨q, 0, none⟩ (.int .i64 r.X)).setCell ⟨q, 1, none⟩ (.int .i64 r.Y)).setCell ⟨q, 2, none⟩ (.slice i16 r.W.length j16)).setCell ⟨q, 3, none⟩ (.slice i21 r.E.length j21)) ⟨q, 4, none⟩ (.slice none 0 0) _ n1)).of_block (Below.heap_setCell (((((w3.setCell ⟨q, 0, none⟩ (.int .i64 r.X)).setCell ⟨q, 1, none⟩ (.int .i64 r.Y)).setCell ⟨q, 2, none⟩ (.slice i16 r.W.length j16)).setCell ⟨q, 3, none⟩ (.slice i21 r.E.length j21)).setCell ⟨q, 4, none⟩ (.slice none 0 0)) ⟨q, 5, none⟩ (.slice none 0 0) _ n1)
  have Bw := below_set6 Bw.out (p := q) (by omega) (.int .i64 r.X) (.int .i64 r.Y) (.slice i16 r.W.length j16) (.slice i21 r.E.length j21) (.slice none 0 0) (.slice none 0 0)
  rw [hw4] at R F0 F1 Bw
  have cA4 := A.at 4 rfl
  rw [hw4] at A
  have R := Lib.hid R
  have F0 := Lib.hid F0
  have F1 := Lib.hid F1
  have Bw := Lib.hid Bw
  have A := Lib.hid A
  have NE0 := Lib.hid n0
  have NE1 := Lib.hid n1
  have E01 := Lib.hid (And.intro e0 e1)
  have GQ := Lib.hid (And.intro hq (And.intro hg0 hg1))
  clear hF hC FACT o0 o1 p01 hr0 hr1 ow0 ow1 hw4 e0 e1 hg0 hg1 n0 n1 C1
  go_wp2_with fail
  rw [show ((((((w3.setCell ⟨q, 0, none⟩ (.int .i64 r.X)).setCell ⟨q, 1, none⟩ (.int .i64 r.Y)).setCell ⟨q, 2, none⟩ (.slice i16 r.W.length j16)).setCell ⟨q, 3, none⟩ (.slice i21 r.E.length j21)).setCell ⟨q, 4, none⟩ (.slice none 0 0)).setCell ⟨q, 5, none⟩ (.slice none 0 0)) = w4 from HW4.out]
  refine (specCopy_any _ r.G _ (H.out _ Bw.out).G (by rw [LN.out.G]; exact LN.out.p) (by rw [LN.out.G]; exact Nat.le_trans LN.out.q (by decide))).mono ?_
  rintro _ w5 ⟨v2, rfl, hO, hb⟩
  obtain ⟨g2, c2, e2, hg2, hr2, _⟩ := hO.rowF (by rw [LN.out.G]; exact LN.out.p)
  subst e2
  clear z0 z1 z2 z3 z4 z5 C2 cA4 A4
  have L4 := Lib.hid (And.intro F0.out.lt (And.intro F1.out.lt D.out.lt))
  have R := R.out.kept hb
  have A := A.out.kept hb
  have D := D.out.kept hb
  have F0 := F0.out.of_block (hb.block _ F0.out.lt)
  have F1 := F1.out.of_block (hb.block _ F1.out.lt)
  have Bw := below_step Bw.out hb
  have df := D.fz
  have dd4 := D.at 4 rfl
  have hq2 : g2 ≠ q := by have := L4.out.2.2; omega
  obtain ⟨w6, hw6⟩ : ∃ w6, w5.setCell ⟨q, 4, none⟩ (.slice (some ⟨g2, 0, none⟩) r.G.length c2) = w6 := ⟨_, rfl⟩
  have HW6 := Lib.hid hw6
  have D6 := D.set 4 (by simp) (.slice (some ⟨g2, 0, none⟩) r.G.length c2)
  have R6 := R.far (q := q) hwq 4 (.slice (some ⟨g2, 0, none⟩) r.G.length c2)
  have A6 := A.far (q := q) hpq 4 (.slice (some ⟨g2, 0, none⟩) r.G.length c2)
  have F06 := F0.of_block (Below.heap_setCell w5 ⟨q, 4, none⟩ (.slice (some ⟨g2, 0, none⟩) r.G.length c2) g0 NE0.out)
  have F16 := F1.of_block (Below.heap_setCell w5 ⟨q, 4, none⟩ (.slice (some ⟨g2, 0, none⟩) r.G.length c2) g1 (NE1.out))
  have F26 := hr2.of_block (Below.heap_setCell w5 ⟨q, 4, none⟩ (.slice (some ⟨g2, 0, none⟩) r.G.length c2) g2 hq2)
  have Bw6 := Bw.setCell (p := ⟨q, 4, none⟩) (by have := GQ.out.1; show w.heap.size ≤ q; omega) (.slice (some ⟨g2, 0, none⟩) r.G.length c2)
  rw [hw6] at D6 R6 A6 F06 F16 F26 Bw6
  have cA5 := ((A.far (q := q) hpq 4 (.slice (some ⟨g2, 0, none⟩) r.G.length c2)).al (.cells #[] 4)).at 5 rfl
  have SZ6 : w6.heap.size = w5.heap.size := by rw [← hw6]; simp
  have G2 := Lib.hid hg2
  have S45 := Lib.hid hb.size
  have HQ2 := Lib.hid hq2
  have HC := Lib.hid (VH.out _ (Bw6.alloc Bw6.size (.cells #[] 4)))
  have O0 := OwnB.empty w6 w6.heap.size (Nat.le_refl _)
  rw [SZ6] at O0
  have O0 := Lib.hid O0
  have SZ6 := Lib.hid SZ6
  have D := Lib.hid D6
  have R := Lib.hid R6
  have F0 := Lib.hid F06
  have F1 := Lib.hid F16
  have F2 := Lib.hid F26
  have Bw := Lib.hid Bw6
  clear D6 R6 A6 F06 F16 F26 Bw6 hr2 hb hO hw6 A
  go_wp2_with (at_builtin; rw [show w5.setCell ⟨q, 4, none⟩ (.slice (some ⟨g2, 0, none⟩) r.G.length c2) = w6 from HW6.out]; refine wpList_catB rfl _ _ rfl w5.heap.size _ [] r.H rfl O0.out b3 o3 k3 rfl HC.out (by simp) LH.out (by have := SZ6.out; simp; omega) ?_; intro v3 w8 hown hb; have O3 := Lib.hid hown; have B3 := Lib.hid hb; clear hown hb; have B8 := Lib.hid ((below_al1 w6 (.cells #[] 4)).trans (by rw [SZ6.out]; exact B3.out)); have D := Lib.hid (D.out.kept B8.out); obtain ⟨x3, y3, rfl⟩ := own_shape O3.out; have c5 := D.out.at 5 rfl; have cf := D.out.fz; have cc0 := D.out.at 0 rfl; have cc1 := D.out.at 1 rfl; have cc2 := D.out.at 2 rfl; have cc3 := D.out.at 3 rfl; have cc4 := D.out.at 4 rfl; have R := Lib.hid (R.out.kept B8.out); have rr0 := R.out.at 0 rfl; have rr1 := R.out.at 1 rfl; have rr2 := R.out.at 2 rfl; have rr3 := R.out.at 3 rfl; have rr4 := R.out.at 4 rfl; have rr5 := R.out.at 5 rfl; have rrf := R.out.fz)
  refine bodyPost_ret (v := .agg #[.int .i64 r.X, .int .i64 r.Y, .slice i16 r.W.length j16, .slice i21 r.E.length j21, .slice (some ⟨g2, 0, none⟩) r.G.length c2, .slice x3 r.H.length y3]) ?_ rfl ?_
  · rw [results_cell1 rfl]
    go_simp
  · obtain ⟨g3, c3, e3, hg3, hr3, _⟩ := O3.out.rowB (by show 1 ≤ ([] ++ r.H).length; rw [List.nil_append, LN.out.H]; exact LN.out.p)
    obtain ⟨e0, e1⟩ := E01.out
    obtain ⟨h4, h5, h6⟩ := L4.out
    obtain ⟨h7, h8, h9⟩ := GQ.out
    have h10 := S45.out
    have h11 := G2.out
    have h12 := F2.out.lt
    rw [SZ6.out] at h12
    have LN := LN.out
    have P8 : PB (w.heap.size + 1) w8 g0 g1 g2 g3 n r := ⟨h8, h9, by omega, by omega, d01.out, by omega, by omega, by omega, by omega, by omega, F0.out.of_block (B8.out.block _ F0.out.lt), F1.out.of_block (B8.out.block _ F1.out.lt), F2.out.of_block (B8.out.block _ F2.out.lt), hr3, LN.W, LN.E, LN.G, LN.H, LN.p, LN.q⟩
    have P9 := P8.off q 5 (.slice x3 r.H.length y3) NE0.out NE1.out HQ2.out (by omega)
    have Bz := (below_step Bw.out B8.out).setCell (p := ⟨q, 5, none⟩) (by show w.heap.size ≤ q; omega) (.slice x3 r.H.length y3)
    have e3' : Value.slice x3 r.H.length y3 = .slice (some ⟨g3, 0, none⟩) r.H.length c3 := e3
    rw [LN.W] at e0; rw [LN.E] at e1; rw [LN.H] at e3'
    rw [LN.W, LN.E, LN.G, LN.H] at *
    refine ⟨g0, g1, g2, g3, c0, c1, c2, c3, by rw [e0, e1, e3'], P9.far6 _ (Nat.lt_succ_self _) _ _ _ _ _ _, below_set6 Bz (Nat.le_refl _) _ _ _ _ _ _⟩
end Pr
end Go.Proofs.Ythfkmcpajookaaa

/- Copies of lists, as the library makes them: numbers. -/
namespace Go.Proofs.Ythfkmcpajookaaa
open Go.RowKit
set_option linter.unusedVariables false

/-- a whole list appended -/
theorem wpList_catF {ops : Array Oper} {rest : List Oper} {o : Oper} {a : Act} {Q : Exit → Act → World → Prop} {w : World} (hgd : o.guard = none) (s x : Operand)
    (ho : o.op = .call { callee := .builtin .append, args := #[s, x], argTypes := #[23, 23] })
    (base : Nat) (v : Value) (zs ys : List Nat) (hs : a.eval s = v) (hown : Own w base v zs) (q off c : Nat) (hx : a.eval x = .slice (some ⟨q, off, none⟩) ys.length c) (hq : ∀ i, i < ys.length → w.cell? ⟨q, off + i, none⟩ = some (.float .f32 (ys.getD i 0)))
    (hk : zs.length ≤ 1048576) (hk2 : ys.length ≤ 1048576) (hbase : base ≤ w.heap.size)
    (h : ∀ v' w', Own w' base v' (zs ++ ys) → Below base w w' → wpList Try.prog ops Q rest (a.put o.dst v') w') : wpList Try.prog ops Q (o :: rest) a w := by
  obtain ⟨i, hi, hz, hsz, hby⟩ := info32
  have hm : maxLen = 9223372036854775807 := rfl
  refine wpList_append_own w hgd s x _ ho base 22 i (.float .f32 0) 1 4 Try.underlying23 hi hz hsz hby rfl (by decide) v zs.length (fl zs) hs hown ⟨q, off, none⟩ ys.length c (fl ys) hx (by simp [fl]) (fun j u hj => ?_) (fun u hu => ?_) (by omega) (by omega) hbase (fun v' w' h1 h2 _ => ?_)
  · have hjl : j < ys.length := by
      by_cases hl : j < ys.length
      · exact hl
      · rw [List.getElem?_eq_none (by simpa [fl] using hl)] at hj
        cases hj
    have e : u = .float .f32 (ys.getD j 0) := by
      simp [fl, hjl] at hj
      simp [← hj, List.getD_eq_getElem?_getD, hjl]
    rw [e]
    have h2 := hq j hjl
    by_cases hj0 : j = 0
    · subst hj0
      first | (simp [Addr.add]; done) | simpa [Addr.add] using h2
    · first | (simp [Addr.add, hj0]; done) | simpa [Addr.add, hj0] using h2
  · simp [fl] at hu
    obtain ⟨z, _, rfl⟩ := hu
    rfl
  · refine h v' w' ?_ ((Below.refl base w).grown h2 hbase (fun k hk => (World.ownsRow.lt hown k hk).1))
    unfold Own
    simpa [fl] using h1

theorem cloneF_any (q off c : Nat) (zs : List Nat) (w : World) (hc : ∀ i, i < zs.length → w.cell? ⟨q, off + i, none⟩ = some (.float .f32 (zs.getD i 0))) (hl : zs.length ≤ 1048576) :
    Calls Try.prog 79 #[.slice (some ⟨q, off, none⟩) zs.length c] w fun e w' => ∃ v', e = .returned v' ∧ Own w' w.heap.size v' zs ∧ Below w.heap.size w w' := by
  have qT : ∀ (w : World) (a : Option Addr) (n c n' c' : Nat), (binOp .eql 23 (.slice a n c) (.slice none n' c')).run Try.prog w = .ok (.bool a.isNone) w := fun w a n c n' c' => Lib.run_eql_slice_nil w _ _ a n c n' c' Try.underlying23
  have HC := Lib.hid (fun w' (hb : Below w.heap.size w w') i (hi : i < zs.length) => (hb.cell (p := ⟨q, off + i, none⟩) (cell_lt (hc i hi))).trans (hc i hi))
  have O0 := Lib.hid (Own.empty w w.heap.size (Nat.le_refl _))
  have HL := Lib.hid hl
  clear hc hl
  go_enter Try.func79, Try.ntmps79
  go_wp2_with (at_builtin; refine wpList_catF rfl _ _ rfl w.heap.size _ [] zs rfl O0.out q off c rfl (HC.out _ (below_al1 _ _)) (by simp) HL.out (by simp) ?_; intro v' w1 hown hb; have O1 := Lib.hid hown; have B1 := Lib.hid hb; clear hown hb)
  go_ret
  exact ⟨_, rfl, O1.out, (below_al1 _ _).trans B1.out⟩
end Go.Proofs.Ythfkmcpajookaaa

/- A plate of its own, as the program copies it. -/
namespace Go.Proofs.Ythfkmcpajookaaa
open Go.RowKit
set_option linter.unusedVariables false

namespace Pr
def fOwI (h : Nat) (zs : List Nat) : Fct := ⟨fun v w => Own w h v zs, fun _ _ _ h hb => h.kept hb⟩
def fOwIB (h : Nat) (zs : List Bool) : Fct := ⟨fun v w => OwnB w h v zs, fun _ _ _ h hb => h.kept hb⟩
set_option maxRecDepth 10000 in
set_option maxHeartbeats 3200000 in
theorem copyPl_any (a b c d : Value) (r : PL) (n : Nat) (w : World) (h : PRow w a b c d r) (LN : PlN r n) :
    Calls Try.prog 66 #[.agg #[.int .i64 r.X, .int .i64 r.Y, a, b, c, d]] w fun e w' => ∃ g0 g1 g2 g3 c0 c1 c2 c3, e = .returned (.agg #[.int .i64 r.X, .int .i64 r.Y, ps g0 0 n c0, ps g1 0 n c1, ps g2 0 n c2, ps g3 0 n c3]) ∧ PB (w.heap.size + 2) w' g0 g1 g2 g3 n r ∧ Below w.heap.size w w' := by
  obtain ⟨b0, o0, k0, rfl, v0⟩ := h.W.cells (by rw [LN.W]; exact LN.p)
  obtain ⟨b1, o1, k1, rfl, v1⟩ := h.E.cells (by rw [LN.E]; exact LN.p)
  obtain ⟨b2, o2, k2, rfl, v2⟩ := h.G.cells (by rw [LN.G]; exact LN.p)
  obtain ⟨b3, o3, k3, rfl, v3⟩ := h.H.cells (by rw [LN.H]; exact LN.p)
  have VW := Lib.hid (fun w' (hb : Below w.heap.size w w') i (hi : i < r.W.length) => (hb.cell (p := ⟨b0, o0 + i, none⟩) (cell_lt (v0 i hi))).trans (v0 i hi))
  have VE := Lib.hid (fun w' (hb : Below w.heap.size w w') i (hi : i < r.E.length) => (hb.cell (p := ⟨b1, o1 + i, none⟩) (cell_lt (v1 i hi))).trans (v1 i hi))
  have VG := Lib.hid (fun w' (hb : Below w.heap.size w w') i (hi : i < r.G.length) => (hb.cell (p := ⟨b2, o2 + i, none⟩) (cell_lt (v2 i hi))).trans (v2 i hi))
  have VH := Lib.hid (fun w' (hb : Below w.heap.size w w') i (hi : i < r.H.length) => (hb.cell (p := ⟨b3, o3 + i, none⟩) (cell_lt (v3 i hi))).trans (v3 i hi))
  have LW : Hid (r.W.length ≤ 1048576) := Lib.hid (by rw [LN.W]; exact Nat.le_trans LN.q (by decide))
  have LE : Hid (r.E.length ≤ 1048576) := Lib.hid (by rw [LN.E]; exact Nat.le_trans LN.q (by decide))
  have LG : Hid (r.G.length ≤ 1048576) := Lib.hid (by rw [LN.G]; exact Nat.le_trans LN.q (by decide))
  have LH : Hid (r.H.length ≤ 1048576) := Lib.hid (by rw [LN.H]; exact Nat.le_trans LN.q (by decide))
  have Bw := Lib.hid (below_al2 w (.cells [Value.int .i64 r.X, .int .i64 r.Y, .slice (some ⟨b0, o0, none⟩) r.W.length k0, .slice (some ⟨b1, o1, none⟩) r.E.length k1, .slice (some ⟨b2, o2, none⟩) r.G.length k2, .slice (some ⟨b3, o3, none⟩) r.H.length k3].toArray 26) (.cells zpl.toArray 26))
  have A := Lib.hid ((Cells.made w [.int .i64 r.X, .int .i64 r.Y, .slice (some ⟨b0, o0, none⟩) r.W.length k0, .slice (some ⟨b1, o1, none⟩) r.E.length k1, .slice (some ⟨b2, o2, none⟩) r.G.length k2, .slice (some ⟨b3, o3, none⟩) r.H.length k3] 26).al (.cells zpl.toArray 26))
  have R := Cells.made (w.alloc (.cells [Value.int .i64 r.X, .int .i64 r.Y, .slice (some ⟨b0, o0, none⟩) r.W.length k0, .slice (some ⟨b1, o1, none⟩) r.E.length k1, .slice (some ⟨b2, o2, none⟩) r.G.length k2, .slice (some ⟨b3, o3, none⟩) r.H.length k3].toArray 26)) zpl 26
  rw [show (w.alloc (.cells [Value.int .i64 r.X, .int .i64 r.Y, .slice (some ⟨b0, o0, none⟩) r.W.length k0, .slice (some ⟨b1, o1, none⟩) r.E.length k1, .slice (some ⟨b2, o2, none⟩) r.G.length k2, .slice (some ⟨b3, o3, none⟩) r.H.length k3].toArray 26)).heap.size = w.heap.size + 1 from by simp] at R
  have R := Lib.hid R
  have hs0 : Hid (((w.alloc (.cells [Value.int .i64 r.X, .int .i64 r.Y, .slice (some ⟨b0, o0, none⟩) r.W.length k0, .slice (some ⟨b1, o1, none⟩) r.E.length k1, .slice (some ⟨b2, o2, none⟩) r.G.length k2, .slice (some ⟨b3, o3, none⟩) r.H.length k3].toArray 26)).alloc (.cells zpl.toArray 26)).heap.size = w.heap.size + 2) := Lib.hid (by simp)
  have FACT := Lib.hid (fun w1 (hw : Ext ((w.alloc (.cells [Value.int .i64 r.X, .int .i64 r.Y, .slice (some ⟨b0, o0, none⟩) r.W.length k0, .slice (some ⟨b1, o1, none⟩) r.E.length k1, .slice (some ⟨b2, o2, none⟩) r.G.length k2, .slice (some ⟨b3, o3, none⟩) r.H.length k3].toArray 26)).alloc (.cells zpl.toArray 26)) w1) => And.intro (hw.cell (A.out.at 0 rfl)) (And.intro (hw.cell (A.out.at 1 rfl)) (And.intro (hw.cell (A.out.at 2 rfl)) (And.intro (hw.cell (A.out.at 3 rfl)) (And.intro (hw.cell (A.out.at 4 rfl)) (hw.cell (A.out.at 5 rfl)))))))
  have LN := Lib.hid LN
  clear h v0 v1 v2 v3
  go_enter Try.func66, Try.ntmps66
  go_wp2
  refine wp_region_facts_tail 17 [] (Ext ((w.alloc (.cells [Value.int .i64 r.X, .int .i64 r.Y, .slice (some ⟨b0, o0, none⟩) r.W.length k0, .slice (some ⟨b1, o1, none⟩) r.E.length k1, .slice (some ⟨b2, o2, none⟩) r.G.length k2, .slice (some ⟨b3, o3, none⟩) r.H.length k3].toArray 26)).alloc (.cells zpl.toArray 26))) (TND [(9, fOwI (w.heap.size + 2) r.W), (12, fOwI (w.heap.size + 2) r.E), (15, fOwI (w.heap.size + 2) r.G), (18, fOwIB (w.heap.size + 2) r.H)] [9, 12, 15, 18]) (Pers.ext _) (TND.pers _ _) (Ext.start _) (by kernel_rfl) (by kernel_rfl) (by intro d v c a w h; cases d <;> exact h) ?_
  simp only [List.take_succ_cons, List.take_zero, List.drop_succ_cons, List.drop_zero]
  repeat (refine wpF_val rfl monoQ_end (by rintro _ ⟨⟩; exact ⟨rfl, rfl⟩) ?_ (fun w1 hw1 => ?_) (fun K hK => ?_); rotate_left; (focus (have hF := FACT.out w1 hw1; go_simp; first | done | rfl)); go_simp; refine hK _ ?_; clear hK K)
  refine wpF_callO rfl 9 rfl 79 #[.slice (some ⟨b0, o0, none⟩) r.W.length k0] (fOwI (w.heap.size + 2) r.W) rfl (fun w1 => ?_) (fun w1 hC hN => ?_) (fun v1 hv1 => ?_)
  · go_simp
  · refine (cloneF_any b0 o0 _ r.W w1 (VW.out w1 (below_step Bw.out hC)) LW.out).mono ?_
    rintro e w2 ⟨v', rfl, ho, hb⟩
    exact ⟨_, rfl, hb, own_base ho (by have h1 := hs0.out; have h2 := hC.size; omega), fun g e => World.ownsRow.lt ho g e⟩
  obtain ⟨w5, hv1⟩ := hv1
  obtain ⟨i9, j9, rfl⟩ := own_shape hv1
  clear hv1 w5
  repeat (refine wpF_val rfl monoQ_end (by rintro _ ⟨⟩; exact ⟨rfl, rfl⟩) ?_ (fun w1 hw1 => ?_) (fun K hK => ?_); rotate_left; (focus (have hF := FACT.out w1 hw1; go_simp; first | done | rfl)); go_simp; refine hK _ ?_; clear hK K)
  refine wpF_callO rfl 12 rfl 79 #[.slice (some ⟨b1, o1, none⟩) r.E.length k1] (fOwI (w.heap.size + 2) r.E) rfl (fun w1 => ?_) (fun w1 hC hN => ?_) (fun v1 hv1 => ?_)
  · go_simp
  · refine (cloneF_any b1 o1 _ r.E w1 (VE.out w1 (below_step Bw.out hC)) LE.out).mono ?_
    rintro e w2 ⟨v', rfl, ho, hb⟩
    exact ⟨_, rfl, hb, own_base ho (by have h1 := hs0.out; have h2 := hC.size; omega), fun g e => World.ownsRow.lt ho g e⟩
  obtain ⟨w5, hv1⟩ := hv1
  obtain ⟨i12, j12, rfl⟩ := own_shape hv1
  clear hv1 w5
  repeat (refine wpF_val rfl monoQ_end (by rintro _ ⟨⟩; exact ⟨rfl, rfl⟩) ?_ (fun w1 hw1 => ?_) (fun K hK => ?_); rotate_left; (focus (have hF := FACT.out w1 hw1; go_simp; first | done | rfl)); go_simp; refine hK _ ?_; clear hK K)
  refine wpF_callO rfl 15 rfl 79 #[.slice (some ⟨b2, o2, none⟩) r.G.length k2] (fOwI (w.heap.size + 2) r.G) rfl (fun w1 => ?_) (fun w1 hC hN => ?_) (fun v1 hv1 => ?_)
  · go_simp
  · refine (cloneF_any b2 o2 _ r.G w1 (VG.out w1 (below_step Bw.out hC)) LG.out).mono ?_
    rintro e w2 ⟨v', rfl, ho, hb⟩
    exact ⟨_, rfl, hb, own_base ho (by have h1 := hs0.out; have h2 := hC.size; omega), fun g e => World.ownsRow.lt ho g e⟩
  obtain ⟨w5, hv1⟩ := hv1
  obtain ⟨i15, j15, rfl⟩ := own_shape hv1
  clear hv1 w5
  repeat (refine wpF_val rfl monoQ_end (by rintro _ ⟨⟩; exact ⟨rfl, rfl⟩) ?_ (fun w1 hw1 => ?_) (fun K hK => ?_); rotate_left; (focus (have hF := FACT.out w1 hw1; go_simp; first | done | rfl)); go_simp; refine hK _ ?_; clear hK K)
  refine wpF_callO rfl 18 rfl 80 #[.slice (some ⟨b3, o3, none⟩) r.H.length k3] (fOwIB (w.heap.size + 2) r.H) rfl (fun w1 => ?_) (fun w1 hC hN => ?_) (fun v1 hv1 => ?_)
  · go_simp
  · refine (cloneB_any b3 o3 _ r.H w1 (VH.out w1 (below_step Bw.out hC)) LH.out).mono ?_
    rintro e w2 ⟨v', rfl, ho, hb⟩
    exact ⟨_, rfl, hb, own_base ho (by have h1 := hs0.out; have h2 := hC.size; omega), fun g e => World.ownsRow.lt ho g e⟩
  obtain ⟨w5, hv1⟩ := hv1
  obtain ⟨i18, j18, rfl⟩ := own_shape hv1
  clear hv1 w5
  repeat (refine wpF_val rfl monoQ_end (by rintro _ ⟨⟩; exact ⟨rfl, rfl⟩) ?_ (fun w1 hw1 => ?_) (fun K hK => ?_); rotate_left; (focus (have hF := FACT.out w1 hw1; go_simp; first | done | rfl)); go_simp; refine hK _ ?_; clear hK K)
  refine wpFacts_nil ?_
  intro w9 hC hF
  have o0 := Lib.hid (show Own w9 (w.heap.size + 2) (.slice i9 r.W.length j9) r.W from fact_of (d := 9) rfl hF (by repeat (first | exact Or.inr ⟨rfl, rfl⟩ | refine Or.inl ?_)))
  have o1 := Lib.hid (show Own w9 (w.heap.size + 2) (.slice i12 r.E.length j12) r.E from fact_of (d := 12) rfl hF (by repeat (first | exact Or.inr ⟨rfl, rfl⟩ | refine Or.inl ?_)))
  have o2 := Lib.hid (show Own w9 (w.heap.size + 2) (.slice i15 r.G.length j15) r.G from fact_of (d := 15) rfl hF (by repeat (first | exact Or.inr ⟨rfl, rfl⟩ | refine Or.inl ?_)))
  have o3 := Lib.hid (show OwnB w9 (w.heap.size + 2) (.slice i18 r.H.length j18) r.H from fact_of (d := 18) rfl hF (by repeat (first | exact Or.inr ⟨rfl, rfl⟩ | refine Or.inl ?_)))
  have p01 := Lib.hid (fun g g' (e : Value.ownBlock (.slice i9 r.W.length j9) = some g) (e' : Value.ownBlock (.slice i12 r.E.length j12) = some g') => fact_apart (d := 9) (d' := 12) rfl rfl (by decide) hF (by repeat (first | exact Or.inr ⟨rfl, rfl⟩ | refine Or.inl ?_)) (by repeat (first | exact Or.inr ⟨rfl, rfl⟩ | refine Or.inl ?_)) e e')
  have p02 := Lib.hid (fun g g' (e : Value.ownBlock (.slice i9 r.W.length j9) = some g) (e' : Value.ownBlock (.slice i15 r.G.length j15) = some g') => fact_apart (d := 9) (d' := 15) rfl rfl (by decide) hF (by repeat (first | exact Or.inr ⟨rfl, rfl⟩ | refine Or.inl ?_)) (by repeat (first | exact Or.inr ⟨rfl, rfl⟩ | refine Or.inl ?_)) e e')
  have p03 := Lib.hid (fun g g' (e : Value.ownBlock (.slice i9 r.W.length j9) = some g) (e' : Value.ownBlock (.slice i18 r.H.length j18) = some g') => fact_apart (d := 9) (d' := 18) rfl rfl (by decide) hF (by repeat (first | exact Or.inr ⟨rfl, rfl⟩ | refine Or.inl ?_)) (by repeat (first | exact Or.inr ⟨rfl, rfl⟩ | refine Or.inl ?_)) e e')
  have p12 := Lib.hid (fun g g' (e : Value.ownBlock (.slice i12 r.E.length j12) = some g) (e' : Value.ownBlock (.slice i15 r.G.length j15) = some g') => fact_apart (d := 12) (d' := 15) rfl rfl (by decide) hF (by repeat (first | exact Or.inr ⟨rfl, rfl⟩ | refine Or.inl ?_)) (by repeat (first | exact Or.inr ⟨rfl, rfl⟩ | refine Or.inl ?_)) e e')
  have p13 := Lib.hid (fun g g' (e : Value.ownBlock (.slice i12 r.E.length j12) = some g) (e' : Value.ownBlock (.slice i18 r.H.length j18) = some g') => fact_apart (d := 12) (d' := 18) rfl rfl (by decide) hF (by repeat (first | exact Or.inr ⟨rfl, rfl⟩ | refine Or.inl ?_)) (by repeat (first | exact Or.inr ⟨rfl, rfl⟩ | refine Or.inl ?_)) e e')
  have p23 := Lib.hid (fun g g' (e : Value.ownBlock (.slice i15 r.G.length j15) = some g) (e' : Value.ownBlock (.slice i18 r.H.length j18) = some g') => fact_apart (d := 15) (d' := 18) rfl rfl (by decide) hF (by repeat (first | exact Or.inr ⟨rfl, rfl⟩ | refine Or.inl ?_)) (by repeat (first | exact Or.inr ⟨rfl, rfl⟩ | refine Or.inl ?_)) e e')
  have R := Lib.hid (R.out.kept hC)
  have Bw := Lib.hid (below_step Bw.out hC)
  clear hF hC A FACT VW VE VG VH
  have r0 := R.out.at 0 rfl; have r1 := R.out.at 1 rfl; have r2 := R.out.at 2 rfl; have r3 := R.out.at 3 rfl; have r4 := R.out.at 4 rfl; have r5 := R.out.at 5 rfl; have rf := R.out.fz
  go_wp2
  refine bodyPost_ret (v := .agg #[.int .i64 r.X, .int .i64 r.Y, .slice i9 r.W.length j9, .slice i12 r.E.length j12, .slice i15 r.G.length j15, .slice i18 r.H.length j18]) ?_ rfl ?_
  · rw [results_cell1 rfl]
    go_simp
  ·
    obtain ⟨g0, e0, eq0, hg0, hr0, ow0⟩ := o0.out.rowF (by rw [LN.out.W]; exact LN.out.p)
    obtain ⟨g1, e1, eq1, hg1, hr1, ow1⟩ := o1.out.rowF (by rw [LN.out.E]; exact LN.out.p)
    obtain ⟨g2, e2, eq2, hg2, hr2, ow2⟩ := o2.out.rowF (by rw [LN.out.G]; exact LN.out.p)
    obtain ⟨g3, e3, eq3, hg3, hr3, ow3⟩ := o3.out.rowB (by rw [LN.out.H]; exact LN.out.p)
    have q01 := p01.out _ _ ow0 ow1; have q02 := p02.out _ _ ow0 ow2; have q03 := p03.out _ _ ow0 ow3; have q12 := p12.out _ _ ow1 ow2; have q13 := p13.out _ _ ow1 ow3; have q23 := p23.out _ _ ow2 ow3
    have LN := LN.out
    rw [LN.W] at eq0; rw [LN.E] at eq1; rw [LN.G] at eq2; rw [LN.H] at eq3
    rw [LN.W, LN.E, LN.G, LN.H]
    have Q : PB (w.heap.size + 2) w9 g0 g1 g2 g3 n r := ⟨hg0, hg1, hg2, hg3, q01, q02, q03, q12, q13, q23, hr0, hr1, hr2, hr3, LN.W, LN.E, LN.G, LN.H, LN.p, LN.q⟩
    refine ⟨g0, g1, g2, g3, e0, e1, e2, e3, by rw [eq0, eq1, eq2, eq3], Q.far6 _ (by omega) _ _ _ _ _ _, below_set6 Bw.out (by omega) _ _ _ _ _ _⟩
end Pr
end Go.Proofs.Ythfkmcpajookaaa
