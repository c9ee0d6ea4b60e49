/- Several texts in one, for a claim holds 60 files at most: EndR Facts Facts2 EndN Pof EndP EndA EndT EndS EndW TabsE7 AndSh. -/
import Derived.Test.YtncjkhdnpioinaaDoorYA
import Derived.BigRegion
import Derived.StillTail
import Derived.Defers
import Derived.Recover
import Derived.Laws.ResultCell
import Derived.HandedShaped
import Derived.Handed
import Derived.Shelf.Vars
import Derived.Lay

/- Ends read from a text: the program's reader. -/
namespace Go.Proofs.YtncjkhdnpioinaaDoor
open Go.RowKit
set_option linter.unusedVariables false

theorem needE_yes (k : Int) (x y : Nat) (w : World) : Calls Tryd.prog 75 #[endV k x y, .bool true] w fun e w' => e = .returned (endV k x y) ∧ Below w.heap.size w w' := by
  unfold endV
  go_enter Tryd.func75, Tryd.ntmps75
  go_wp2_with (go_at_call 114; refine (refuse_yes _).mono ?_; rintro e w' ⟨rfl, rfl⟩)
  refine bodyPost_ret (v := .agg #[.int .i64 k, .float .f32 x, .float .f32 y]) ?_ rfl ?_
  · rw [results_cell1 rfl]
    go_simp
  · exact ⟨rfl, (by repeat (first | exact Below.refl _ _ | refine Below.setCell ?_ (by first | exact Nat.le_refl _ | (simp; done) | (simp; omega) | omega) _ | refine below_drewN ?_ _ | refine Below.alloc ?_ (by first | exact Nat.le_refl _ | (simp; done) | (simp; omega) | omega) _))⟩
theorem needE_no (k : Int) (x y : Nat) (w : World) : Calls Tryd.prog 75 #[endV k x y, .bool false] w fun e w' => e = rfP ∧ Below w.heap.size w w' := by
  unfold endV
  go_enter Tryd.func75, Tryd.ntmps75
  go_wp2_with (go_at_call 114; refine (refuse_no _).mono ?_; rintro e w' ⟨rfl, rfl⟩)
  exact ⟨rfl, rfl, (by repeat (first | exact Below.refl _ _ | refine Below.setCell ?_ (by first | exact Nat.le_refl _ | (simp; done) | (simp; omega) | omega) _ | refine below_drewN ?_ _ | refine Below.alloc ?_ (by first | exact Nat.le_refl _ | (simp; done) | (simp; omega) | omega) _))⟩

abbrev enX (L : List Nat) : Nat := L.getD 0 0
abbrev enY (L : List Nat) : Nat := L.getD 1 0
def eOk (s t : ByteArray) : Bool := rdOk s && (decide (nlOk t = true ∧ (nlL t).length = 2) && vEnd (rdV s) (enX (nlL t)) (enY (nlL t)))

set_option maxHeartbeats 3200000 in
set_option maxRecDepth 10000 in
theorem endR_yes (p : Nat) (m : UInt8) (ps : List ByteArray) (c : Int) (w : World) (h : PrSt w p m ps c) (hM : Kp MaxP p w) (hT : Kp TabsE p w) (hc : -100 ≤ c) (hc2 : c ≤ 2000000) (hk : eOk (hdP ps) (hdP ps.tail) = true) :
    Calls Tryd.prog 70 #[.pointer (some ⟨p, 0, none⟩)] w fun e w' => e = .returned (endV (rdV (hdP ps)) (enX (nlL (hdP ps.tail))) (enY (nlL (hdP ps.tail)))) ∧ PrSt w' p m ps.tail.tail (c - 1 - 1) ∧ Tur (Pt p) w w' := by
  unfold eOk at hk
  rw [Bool.and_eq_true, Bool.and_eq_true, decide_eq_true_eq] at hk
  obtain ⟨k1, ⟨k2, k3⟩, k4⟩ := hk
  have hp := h.lt
  have Q0 := Lib.hid (Cells.made w [.int .i64 0, .float .f32 0, .float .f32 0] 48)
  have B0 := below_al1 w (.cells [Value.int .i64 0, .float .f32 0, .float .f32 0].toArray 48)
  have T0 := Lib.hid (Tur.of_below (S := Pt p) B0)
  have HP := Lib.hid (h.kept B0)
  have HM := Lib.hid hM
  have HTa := Lib.hid hT
  have HR := Lib.hid (fun s w1 hs hT => implRd_any s w1 hs hT)
  have HL := Lib.hid (fun w1 (h1 : PrSt w1 p m ps.tail (c - 1)) hM => listOf_yes p m ps.tail (c - 1) 2 w1 h1 hM (by omega) (by omega) k2 k3)
  have HTk := Lib.hid (fun w1 (h1 : PrSt w1 p m ps c) hM => take_any p m ps c w1 h1 hM (by omega) (by omega))
  have IE := Lib.hid (fun w1 => implVEnd_any (rdV (hdP ps)) (enX (nlL (hdP ps.tail))) (enY (nlL (hdP ps.tail))) w1)
  rw [k4] at IE
  obtain ⟨s, hs⟩ : ∃ s, hdP ps = s := ⟨_, rfl⟩
  obtain ⟨L, hL⟩ : ∃ L, nlL (hdP ps.tail) = L := ⟨_, rfl⟩
  rw [hs] at HTk IE k1 ⊢
  rw [hL] at HL IE ⊢
  obtain ⟨n, hn⟩ : ∃ n, rdV s = n := ⟨_, rfl⟩
  rw [hn] at IE ⊢
  have HN := Lib.hid hn
  have hL2 : L.length = 2 := by rw [← hL]; exact k3
  have HL2 := Lib.hid hL2
  have HK1 := Lib.hid k1
  have NE := Lib.hid (fun w1 => needE_yes n (enX L) (enY L) w1)
  unfold endV at IE NE ⊢
  obtain ⟨x, hx⟩ : ∃ x, enX L = x := ⟨_, rfl⟩
  obtain ⟨y, hy⟩ : ∃ y, enY L = y := ⟨_, rfl⟩
  rw [hx, hy] at IE NE ⊢
  have HX := Lib.hid hx
  have HY := Lib.hid hy
  have HPL := Lib.hid hp
  clear h hM hT k1 k2 k3 k4 hs hL hn hL2 B0 hx hy hp
  go_enter Tryd.func70, Tryd.ntmps70
  go_wp2_with fail
  refine (HTk.out _ HP.out (HM.out.step T0.out).self).mono ?_
  rintro e w1 ⟨rfl, hsz, hp, ho⟩
  have t1 := Tur.of_onl (S := Pt p) ho rfl
  have P1 := Lib.hid hp
  have T1 := Lib.hid (T0.out.trans t1)
  have Q1 := Lib.hid (t1.cells Q0.out (by intro e; have e' : w.heap.size = p := e; have := HPL.out; omega))
  clear hp ho t1
  have HT1 := Lib.hid ((HTa.out.step T1.out).self)
  go_wp2_with fail
  refine (HR.out s w1 hsz HT1.out).mono ?_
  rintro e w2 ⟨rfl, hb⟩
  rw [HN.out, HK1.out]
  have P2 := Lib.hid (P1.out.kept hb)
  have T2 := Lib.hid (T1.out.trans (Tur.of_below hb))
  have Q2 := Lib.hid (Q1.out.kept hb)
  clear hb
  go_wp2_with (go_at_call 71; refine (needI_yes _ _).mono ?_; rintro e w' ⟨rfl, rfl⟩)
  refine (HL.out _ P2.out (HM.out.step T2.out)).mono ?_
  rintro e w3 ⟨v, rfl, hr, hp, ht⟩
  have P3 := Lib.hid hp
  have T3 := Lib.hid (T2.out.trans ht)
  have Q3 := Lib.hid (ht.cells Q2.out (by intro e; have e' : w.heap.size = p := e; have := HPL.out; omega))
  clear hp ht
  rcases hr with ⟨_, hz⟩ | ⟨g, o, cap, rfl, hg, hr⟩
  · have := HL2.out; rw [hz] at this; simp at this
  have z0 : w3.cell? ⟨g, o, none⟩ = some (.float .f32 x) := by rw [← HX.out]; exact hr.cell (i := 0) (by have := HL2.out; omega)
  have z1 : w3.cell? ⟨g, o + 1, none⟩ = some (.float .f32 y) := by rw [← HY.out]; exact hr.cell (i := 1) (by have := HL2.out; omega)
  rw [HL2.out]
  have y0 := ((below_al1 w3 (.cells #[.int .i64 0, .float .f32 0, .float .f32 0] 48)).cell (p := ⟨g, o, none⟩) (cell_lt z0)).trans z0
  have y1 := ((below_al1 w3 (.cells #[.int .i64 0, .float .f32 0, .float .f32 0] 48)).cell (p := ⟨g, o + 1, none⟩) (cell_lt z1)).trans z1
  clear hr hg
  have EW : Hid (∀ w4, w4 = (w3.alloc (.cells #[.int .i64 n, .float .f32 x, .float .f32 y] 48)).drew → Cells w4 w3.heap.size [.int .i64 n, .float .f32 x, .float .f32 y] ∧ Cells w4 w.heap.size [.int .i64 0, .float .f32 0, .float .f32 0] ∧ PrSt w4 p m ps.tail.tail (c - 1 - 1) ∧ Tur (Pt p) w w4) := Lib.hid (fun w4 e => by
    have b := below_al1 w3 (.cells #[.int .i64 n, .float .f32 x, .float .f32 y] 48)
    have b4 : Below w3.heap.size w3 w4 := by rw [e]; exact below_drewN b 1
    refine ⟨?_, Q3.out.kept b4, P3.out.kept b4, T3.out.trans (Tur.of_below b4)⟩
    rw [e]
    exact (Cells.made w3 [.int .i64 n, .float .f32 x, .float .f32 y] 48).drewN (n := 1))
  have hne : ¬ w3.heap.size = w.heap.size := by have := T3.out.size; have := Q3.out.lt; omega
  go_wp2
  go_region
  obtain ⟨w4, hw4⟩ : ∃ w4, w4 = (w3.alloc (.cells #[.int .i64 n, .float .f32 x, .float .f32 y] 48)).drew := ⟨_, rfl⟩
  rw [← hw4]
  obtain ⟨hE, hQ, hP, hT⟩ := EW.out w4 hw4
  clear hw4 EW z0 z1 y0 y1 Q3 P3 T3 Q2 P2 T2 Q1 P1 T1
  have E := Lib.hid hE
  have Q := Lib.hid hQ
  have P4 := Lib.hid hP
  have T4 := Lib.hid hT
  have B4 := Lib.hid (Below.refl w4.heap.size w4)
  have d0 := hE.at 0 rfl; have d1 := hE.at 1 rfl; have d2 := hE.at 2 rfl
  clear hE hQ hP hT
  go_wp2
  go_region_with (first
    | (go_at_call 76; refine (IE.out _).mono ?_; rintro _ w5 ⟨rfl, hb⟩; have B4 := Lib.hid (below_step (below_drewN B4.out 1) hb); clear d0 d1 d2; have hE := E.out.kept B4.out; have d0 := hE.at 0 rfl; have d1 := hE.at 1 rfl; have d2 := hE.at 2 rfl; clear hE hb)
    | (go_at_call 75; refine (NE.out _).mono ?_; rintro _ w6 ⟨rfl, hb⟩; have B4 := Lib.hid (below_step B4.out hb); have hQ := Q.out.kept B4.out; have q0 := hQ.at 0 rfl; have q1 := hQ.at 1 rfl; have q2 := hQ.at 2 rfl; have qf := hQ.fz; clear hQ hb))
  all_goals
    have hqp : w.heap.size ≠ p := by have := HPL.out; omega
    have HF1 := Lib.hid ((((P4.out.kept B4.out).far hqp 0 (.int .i64 n)).far hqp 1 (.float .f32 x)).far hqp 2 (.float .f32 y))
    have HF2 := Lib.hid ((((T4.out.trans (Tur.of_below B4.out)).setNew (Nat.le_refl _) 0 (.int .i64 n)).setNew (Nat.le_refl _) 1 (.float .f32 x)).setNew (Nat.le_refl _) 2 (.float .f32 y))
    go_wp2
    refine bodyPost_ret (v := .agg #[.int .i64 n, .float .f32 x, .float .f32 y]) ?_ rfl ?_
    · rw [results_cell1 rfl]
      go_simp
    · exact ⟨rfl, HF1.out, HF2.out⟩
end Go.Proofs.YtncjkhdnpioinaaDoor

/- Drawn regions that make memory in any order: what a slot holds may bear a fact on the world (a block's cells) that stays true while nothing that was there turns. One walk in the order of the text serves every order; a tail (stores) runs in the order of the text. -/
namespace Go.Proofs.YtncjkhdnpioinaaDoor
open Go.RowKit

section
variable {P : Program} {ops : Array Oper} {md : Region.Mode} {C : World → Prop} {T : Nat → Value → World → Prop}

/-- stays true while nothing that was there turns -/
def Pers (φ : World → Prop) : Prop := ∀ w w', φ w → Below w.heap.size w w' → φ w'

/-- which slots bear a fact on which value -/
abbrev SEnv := Nat → Value → Prop
def Facts (T : Nat → Value → World → Prop) (E : SEnv) (w : World) : Prop := ∀ d v, E d v → T d v w
def FNeed (T : Nat → Value → World → Prop) (ops : Array Oper) (o : Oper) (E : SEnv) (w : World) : Prop := ∀ d v, d ∈ o.looksAt ops → E d v → T d v w
def fNext (ops : Array Oper) (o : Oper) (E : SEnv) (a : Act) (v : Value) : SEnv := fun x u => E x u ∨ (Region.wanted o (yielded ops a.tmps) = true ∧ o.dst = some x ∧ u = v)

def FGoodR (P : Program) (T : Nat → Value → World → Prop) (o : Oper) (w : World) : Result Next → Prop
  | .ok (.value v) w' => Below w.heap.size w w' ∧ ∀ d, o.dst = some d → T d v w'
  | .ok .skip w' => Below w.heap.size w w' ∧ ∀ d, o.dst = some d → T d undef w'
  | .ok (.enter f args) w' => Below w.heap.size w w' ∧ Calls P f args w' (fun e w'' => ∃ v, e = .returned v ∧ Below w.heap.size w w'' ∧ ∀ d, o.dst = some d → T d v w'')
  | _ => False
def FValR (T : Nat → Value → World → Prop) (o : Oper) (v : Value) : Result Next → Prop
  | .ok (.value u) w' => v = u ∧ ∀ d, o.dst = some d → T d v w'
  | .ok .skip _ => v = undef
  | .ok (.enter _ _) _ => ∃ w', ∀ d, o.dst = some d → T d v w'
  | _ => False

def fGood (P : Program) (ops : Array Oper) (C : World → Prop) (T : Nat → Value → World → Prop) (o : Oper) (E : SEnv) (a : Act) : Prop :=
  Region.wanted o (yielded ops a.tmps) = true → ∀ w, C w → FNeed T ops o E w → FGoodR P T o w ((execOp a.eval o).run P w)
def fVal (P : Program) (ops : Array Oper) (C : World → Prop) (T : Nat → Value → World → Prop) (o : Oper) (E : SEnv) (a : Act) (v : Value) : Prop :=
  (Region.wanted o (yielded ops a.tmps) = true ∧ ∃ w, C w ∧ FNeed T ops o E w ∧ FValR T o v ((execOp a.eval o).run P w)) ∨ (Region.wanted o (yielded ops a.tmps) = false ∧ v = undef)

def wpFacts (P : Program) (ops : Array Oper) (C : World → Prop) (T : Nat → Value → World → Prop) (Q : SEnv → Act → Prop) : List Oper → SEnv → Act → Prop
  | [], E, a => Q E a
  | o :: rest, E, a => fGood P ops C T o E a ∧ ∀ v, fVal P ops C T o E a v → wpFacts P ops C T Q rest (fNext ops o E a v) (a.put o.dst v)

def fOp (P : Program) (ops : Array Oper) (C : World → Prop) (T : Nat → Value → World → Prop) (i : Nat) (K : SEnv → Act → Prop) (E : SEnv) (a : Act) : Prop :=
  match ops[i]? with
  | none => K E a
  | some o => fGood P ops C T o E a ∧ ∀ v, fVal P ops C T o E a v → K (fNext ops o E a v) (a.put o.dst v)

def Sat (C : World → Prop) (T : Nat → Value → World → Prop) (E : SEnv) : Prop := ∃ w, C w ∧ Facts T E w

/-- operations that only hand a value on: they may come as late as they like -/
def lateOp (o : Oper) : Bool := o.guard.isNone && match o.op with | .extract .. | .move _ | .assign _ => true | _ => false
def lateAt (ops : Array Oper) (late : List Nat) (i : Nat) : Bool := late.contains i && match ops[i]? with | some o => lateOp o | none => false

theorem late_all {o : Oper} {a : Act} (h : lateOp o = true) {v : Value} {w w' : World} (hr : (execOp a.eval o).run P w = .ok (.value v) w') : ∀ u, (execOp a.eval o).run P u = .ok (.value v) u := by
  simp only [lateOp, Bool.and_eq_true] at h
  obtain ⟨_, h⟩ := h
  unfold execOp at *
  cases e : o.op <;> simp only [e] at h hr ⊢ <;> first | (cases h; done) | skip
  case move x => intro u; cases hr; rfl
  case assign x => intro u; cases hr; rfl
  case extract t ix =>
    intro u
    revert hr
    simp only [Instr.extract]
    cases a.eval t with
    | tuple vs =>
      cases hv : vs[ix]? with
      | none => intro hr; simp [hv] at hr
      | some x => intro hr; simp only [hv] at hr ⊢; cases hr; rfl
    | _ => intro hr; cases hr

def wpAnyF (P : Program) (md : Region.Mode) (ops : Array Oper) (late : List Nat) (C : World → Prop) (T : Nat → Value → World → Prop) (n : Nat) (L : Array Bool → SEnv → Act → Prop) : Nat → Array Bool → SEnv → Act → Prop
  | 0, listed, E, a => Sat C T E → L listed E a
  | f + 1, listed, E, a => Sat C T E →
    (∃ m ∈ Region.ready md ops listed, m < n) ∧ ∀ i ∈ Region.ready md ops listed, (i < n → fOp P ops C T i (wpAnyF P md ops late C T n L f (listed.setIfInBounds i true)) E a) ∧
      (n ≤ i → ∀ m, m < n → listed.getD m true = false → lateAt ops late m = true)

theorem Facts.need {E : SEnv} {o : Oper} {w : World} (h : Facts T E w) : FNeed T ops o E w := fun d v _ hv => h d v hv
theorem Facts.next {E : SEnv} {o : Oper} {a : Act} {w w' : World} {v : Value} (hT : ∀ d v, Pers (T d v)) (h : Facts T E w) (hb : Below w.heap.size w w') (hv : Region.wanted o (yielded ops a.tmps) = true → ∀ d, o.dst = some d → T d v w') : Facts T (fNext ops o E a v) w' := by
  intro d u hu
  rcases hu with hu | ⟨hw, hd, rfl⟩
  · exact hT d u _ _ (h d u hu) hb
  · exact hv hw d hd

theorem wpOp_of_fOp {i : Nat} {E : SEnv} {a : Act} {K : SEnv → Act → Prop} {K' : Act → World → Prop} {Q' : Exit → Act → World → Prop} {w : World} (hpC : Pers C) (hpT : ∀ d v, Pers (T d v)) (hC : C w) (hF : Facts T E w)
    (h : ∀ E a w', C w' → Facts T E w' → K E a → K' a w') (hh : fOp P ops C T i K E a) : wpOp P ops Q' i K' a w := by
  unfold fOp at hh
  unfold wpOp
  split
  · rename_i ho; simp only [ho] at hh; exact h _ _ _ hC hF hh
  · rename_i o ho
    simp only [ho] at hh
    obtain ⟨hg, hv⟩ := hh
    split
    · rename_i hw
      refine .inl ?_
      have h1 := hg hw w hC hF.need
      have h2 : ∀ v, FValR T o v ((execOp a.eval o).run P w) → K (fNext ops o E a v) (a.put o.dst v) := fun v hv' => hv v (.inl ⟨hw, w, hC, hF.need, hv'⟩)
      unfold Oper.wp
      generalize (execOp a.eval o).run P w = r at *
      cases r with
      | ok n w' =>
        cases n <;> simp only [FGoodR] at h1 <;> simp only [Oper.upon]
        case value u => exact h _ _ _ (hpC _ _ hC h1.1) (hF.next hpT h1.1 fun _ d hd => h1.2 d hd) (h2 u ⟨rfl, h1.2⟩)
        case skip => exact h _ _ _ (hpC _ _ hC h1.1) (hF.next hpT h1.1 fun _ d hd => h1.2 d hd) (h2 undef rfl)
        case enter f args =>
          obtain ⟨hb, hc⟩ := h1
          exact hc.mono fun e w'' ⟨v, he, hb', ht⟩ => by subst he; exact h _ _ _ (hpC _ _ hC hb') (hF.next hpT hb' fun _ d hd => ht d hd) (h2 v ⟨w'', ht⟩)
      | halt x w' => simp only [FGoodR] at h1
    · rename_i hw
      have hw' : Region.wanted o (yielded ops a.tmps) = false := by simpa using hw
      exact h _ _ _ hC (hF.next hpT (Below.refl _ _) fun hb => absurd hb hw) (hv undef (.inr ⟨hw', rfl⟩))

def lateFreeB (md : Region.Mode) (ops : Array Oper) (late : List Nat) : Bool :=
  late.all fun m => match ops[m]? with
    | none => false
    | some om => (List.range ops.size).all fun j => j == m || match ops[j]? with
      | none => true
      | some oj => oj.after.any (fun e => Region.binds md e && e.on == m) || om.after.any (fun e => Region.binds md e && e.on == j) || om.apart ops oj

theorem late_free {late : List Nat} (h : lateFreeB md ops late = true) {m : Nat} {om : Oper} (hm : ops[m]? = some om) (hl : lateAt ops late m = true) {listed : Array Bool} (hr : m ∈ Region.ready md ops listed) :
    ∀ j oj, ops[j]? = some oj → j ≠ m → listed.getD j true = false → (∀ e ∈ oj.after, Region.binds md e = true → e.on ≠ m) → om.apart ops oj = true := by
  intro j oj hj hne hun hno
  simp only [lateAt, Bool.and_eq_true] at hl
  have h1 := List.all_eq_true.1 h m (by simpa using hl.1)
  simp only [hm, List.all_eq_true, List.mem_range] at h1
  have h2 := h1 j (Array.getElem?_eq_some_iff.1 hj).1
  simp only [hj, Bool.or_eq_true, beq_iff_eq, hne, false_or] at h2
  rcases h2 with (h2 | h2) | h2
  · obtain ⟨e, he, hb⟩ := Array.any_eq_true'.1 h2
    simp only [Bool.and_eq_true, beq_iff_eq] at hb
    exact absurd hb.2 (hno e he hb.1)
  · obtain ⟨e, he, hb⟩ := Array.any_eq_true'.1 h2
    simp only [Bool.and_eq_true, beq_iff_eq] at hb
    obtain ⟨_, o, ho, hall⟩ := mem_ready.1 hr
    have : o = om := Option.some.inj (ho.symm.trans hm)
    subst this
    have h3 := hall e he hb.1
    rw [hb.2, getD_both hun] at h3
    cases h3
  · exact h2

theorem wpAny_of_headF {late : List Nat} {n g : Nat} {L : Array Bool → SEnv → Act → Prop} {Q' : Exit → Act → World → Prop} (hpC : Pers C) (hpT : ∀ d v, Pers (T d v)) (hsel : ∀ (j : Nat) (o : Oper) cs b, ops[j]? = some o → o.op ≠ .select cs b) (hlf : lateFreeB md ops late = true)
    (hQ : ∀ (d : Option Nat) v c a w, Q' (.panic c) (a.put d v) w → Q' (.panic c) a w) (hL : ∀ listed E a w, C w → Facts T E w → L listed E a → wpAny P md ops Q' g listed a w) :
    ∀ (f : Nat) (listed : Array Bool) (E : SEnv) (a : Act) (w : World), C w → Facts T E w → wpAnyF P md ops late C T n L f listed E a → wpAny P md ops Q' (f + g) listed a w
  | 0, listed, E, a, w, hw, hF, h => by rw [Nat.zero_add]; exact hL _ _ _ _ hw hF (h ⟨w, hw, hF⟩)
  | f + 1, listed, E, a, w, hw, hF, h => by
    rw [show f + 1 + g = (f + g) + 1 by omega]
    obtain ⟨⟨m, hm, hmn⟩, h⟩ := h ⟨w, hw, hF⟩
    by_cases hx : ∀ i ∈ Region.ready md ops listed, i < n
    · exact ⟨fun h0 => (by rw [h0] at hm; cases hm), fun i hi => wpOp_of_fOp hpC hpT hw hF (fun E' a' w' hw' hF' h' => wpAny_of_headF hpC hpT hsel hlf hQ hL f _ E' a' w' hw' hF' h') ((h i hi).1 (hx i hi))⟩
    · obtain ⟨i, hx⟩ := Classical.not_forall.1 hx
      obtain ⟨hi, hin⟩ := Classical.not_imp.1 hx
      have hla := (h i hi).2 (by omega) m hmn (mem_ready.1 hm).1
      obtain ⟨_, om, hom, _⟩ := mem_ready.1 hm
      have hfo := (h m hm).1 hmn
      unfold fOp at hfo
      simp only [hom] at hfo
      obtain ⟨hg, hn⟩ := hfo
      have hlo : lateOp om = true := by simp only [lateAt, hom, Bool.and_eq_true] at hla; exact hla.2
      have hwant : Region.wanted om (yielded ops a.tmps) = true := by
        simp only [lateOp, Bool.and_eq_true, Option.isNone_iff_eq_none] at hlo
        simp [Region.wanted, hlo.1]
      have h1 := hg hwant w hw hF.need
      have hy : ∃ v, (execOp a.eval om).run P w = .ok (.value v) w := by
        generalize hr : (execOp a.eval om).run P w = r at h1
        cases r with
        | ok nx w' =>
          cases nx <;> simp only [FGoodR] at h1
          case value u => exact ⟨u, by rw [← hr]; exact late_all hlo hr w⟩
          case skip =>
            simp only [lateOp, Bool.and_eq_true] at hlo
            unfold execOp at hr
            cases e : om.op <;> simp only [e] at hlo hr <;> first | (cases hlo.2; done) | skip
            · cases hr
            · cases hr
            · rename_i t ix
              exfalso
              revert hr
              simp only [Instr.extract]
              cases a.eval t with
              | tuple vs => cases hv : vs[ix]? <;> (intro hr; simp [hv] at hr)
              | _ => intro hr; cases hr
          case enter f args =>
            simp only [lateOp, Bool.and_eq_true] at hlo
            unfold execOp at hr
            cases e : om.op <;> simp only [e] at hlo hr <;> first | (cases hlo.2; done) | skip
            · cases hr
            · cases hr
            · rename_i t ix
              exfalso
              revert hr
              simp only [Instr.extract]
              cases a.eval t with
              | tuple vs => cases hv : vs[ix]? <;> (intro hr; simp [hv] at hr)
              | _ => intro hr; cases hr
        | halt x w' => simp only [FGoodR] at h1
      obtain ⟨v, hv⟩ := hy
      have hall := late_all hlo hv
      rw [hv] at h1
      refine wpAny_first (v := v) hom hsel (hQ om.dst v) _ listed a w (late_free hlf hom hla hm) hm (.inl ⟨hwant, hall⟩) ?_
      exact wpAny_of_headF hpC hpT hsel hlf hQ hL f _ _ _ w hw (hF.next hpT (Below.refl _ _) fun _ => h1.2) (hn v (.inl ⟨hwant, w, hw, hF.need, by rw [hv]; exact ⟨rfl, h1.2⟩⟩))

/-- what another operation leaves does not touch what this one does -/
theorem FNeed_put {o p : Oper} {E : SEnv} {a : Act} {u : Value} {w : World} (h : ∀ d, p.dst = some d → d ∉ o.looksAt ops) : FNeed T ops o (fNext ops p E a u) w ↔ FNeed T ops o E w := by
  constructor
  · intro k d v hd hv; exact k d v hd (.inl hv)
  · intro k d v hd hv
    rcases hv with hv | ⟨_, he, _⟩
    · exact k d v hd hv
    · exact absurd hd (h d he)
theorem fGood_put {o p : Oper} {E : SEnv} {a : Act} {u : Value} (hs : ∀ cs b, o.op ≠ .select cs b) (h : ∀ d, p.dst = some d → d ∉ o.looksAt ops) : fGood P ops C T o (fNext ops p E a u) (a.put p.dst u) ↔ fGood P ops C T o E a := by
  unfold fGood
  rw [execOp_put o hs a p.dst u h, wanted_put o a p.dst u h]
  constructor
  · intro k hw w hC hN; exact k hw w hC ((FNeed_put h).2 hN)
  · intro k hw w hC hN; exact k hw w hC ((FNeed_put h).1 hN)
theorem fVal_put {o p : Oper} {E : SEnv} {a : Act} {u v : Value} (hs : ∀ cs b, o.op ≠ .select cs b) (h : ∀ d, p.dst = some d → d ∉ o.looksAt ops) : fVal P ops C T o (fNext ops p E a u) (a.put p.dst u) v ↔ fVal P ops C T o E a v := by
  unfold fVal
  rw [execOp_put o hs a p.dst u h, wanted_put o a p.dst u h]
  simp only [FNeed_put h]
theorem fNext_comm {o p : Oper} {E : SEnv} {a : Act} {u v : Value} (ho : ∀ d, p.dst = some d → d ∉ o.looksAt ops) (hp : ∀ d, o.dst = some d → d ∉ p.looksAt ops) :
    fNext ops o (fNext ops p E a u) (a.put p.dst u) v = fNext ops p (fNext ops o E a v) (a.put o.dst v) u := by
  unfold fNext
  rw [wanted_put o a p.dst u ho, wanted_put p a o.dst v hp]
  funext x y
  exact propext or_right_comm

/-- there is a value that it may leave, and a world for it -/
theorem some_fVal (hpC : Pers C) (hpT : ∀ d v, Pers (T d v)) {o : Oper} {E : SEnv} {a : Act} (hS : Sat C T E) (hg : fGood P ops C T o E a) : ∃ v, fVal P ops C T o E a v ∧ Sat C T (fNext ops o E a v) := by
  obtain ⟨w, hC, hF⟩ := hS
  by_cases h : Region.wanted o (yielded ops a.tmps) = true
  · have h3 := hg h w hC hF.need
    have : ∃ v, FValR T o v ((execOp a.eval o).run P w) ∧ ∃ w', Below w.heap.size w w' ∧ ∀ d, o.dst = some d → T d v w' := by
      generalize (execOp a.eval o).run P w = r at *
      cases r with
      | ok n w' =>
        cases n <;> simp only [FGoodR] at h3
        case value u => exact ⟨u, ⟨rfl, h3.2⟩, w', h3⟩
        case skip => exact ⟨undef, rfl, w', h3⟩
        case enter f args =>
          obtain ⟨e, w'', fr, ⟨v, _, hb, ht⟩, _⟩ := h3.2 []
          exact ⟨v, ⟨w'', ht⟩, w'', hb, ht⟩
      | halt x w' => simp only [FGoodR] at h3
    obtain ⟨v, hv, w', hb, ht⟩ := this
    exact ⟨v, .inl ⟨h, w, hC, hF.need, hv⟩, w', hpC _ _ hC hb, hF.next hpT hb fun _ => ht⟩
  · exact ⟨undef, .inr ⟨by simpa using h, rfl⟩, w, hC, hF.next hpT (Below.refl _ _) fun hb => absurd hb h⟩

theorem Sat.sub {E E' : SEnv} (h : Sat C T E') (hs : ∀ d v, E d v → E' d v) : Sat C T E := by
  obtain ⟨w, hC, hF⟩ := h
  exact ⟨w, hC, fun d v hv => hF d v (hs d v hv)⟩

theorem wpAnyF_first {late : List Nat} (hpC : Pers C) (hpT : ∀ d v, Pers (T d v)) {n i : Nat} {oi : Oper} {L : Array Bool → SEnv → Act → Prop} (hi : ops[i]? = some oi) (hsel : ∀ (j : Nat) (o : Oper) cs b, ops[j]? = some o → o.op ≠ .select cs b)
    (hw : ∀ listed, HeadInv md ops n listed → ∀ i, i < n → lateAt ops late i = false → listed.getD i true = false → ∀ t, n ≤ t → t ∉ Region.ready md ops listed) (hin : i < n)
    (hdone : ∀ listed E a, L listed E a → ∀ j ∈ Region.ready md ops listed, n ≤ j) :
    ∀ (f : Nat) (listed : Array Bool) (E : SEnv) (a : Act), HeadInv md ops n listed →
      (∀ j oj, ops[j]? = some oj → j ≠ i → listed.getD j true = false → (∀ e ∈ oj.after, Region.binds md e = true → e.on ≠ i) → oi.apart ops oj = true) →
      i ∈ Region.ready md ops listed → (Sat C T E → fGood P ops C T oi E a) →
      (∀ v, fVal P ops C T oi E a v → wpAnyF P md ops late C T n L f (listed.setIfInBounds i true) (fNext ops oi E a v) (a.put oi.dst v)) → wpAnyF P md ops late C T n L (f + 1) listed E a := by
  intro f
  induction f with
  | zero =>
    intro listed E a inv _ hr hy H hS
    have hy := hy hS
    have hun := (mem_ready.1 hr).1
    refine ⟨⟨i, hr, hin⟩, fun j hj => ⟨fun hjn => ?_, fun hjn m hm hmu => ?_⟩⟩
    case refine_2 =>
      cases hl : lateAt ops late m with
      | true => rfl
      | false => exact absurd hj (hw _ inv m hm hl hmu j hjn)
    by_cases hji : j = i
    · subst hji
      unfold fOp; simp only [hi]
      exact ⟨hy, H⟩
    · obtain ⟨v, hv, hS'⟩ := some_fVal hpC hpT hS hy
      have := hdone _ _ _ (H v hv hS') j (ready_mono hj hji)
      omega
  | succ f ih =>
    intro listed E a inv hfree hr hy H hS
    have hy := hy hS
    have hun := (mem_ready.1 hr).1
    refine ⟨⟨i, hr, hin⟩, fun j hj => ⟨fun hjn => ?_, fun hjn m hm hmu => ?_⟩⟩
    case refine_2 =>
      cases hl : lateAt ops late m with
      | true => rfl
      | false => exact absurd hj (hw _ inv m hm hl hmu j hjn)
    by_cases hji : j = i
    · subst hji
      unfold fOp; simp only [hi]
      exact ⟨hy, H⟩
    · obtain ⟨hjun, oj, hoj, hall⟩ := mem_ready.1 hj
      have hnot : ∀ e ∈ oj.after, Region.binds md e = true → e.on ≠ i := fun e he hb heq => by
        have h1 := hall e he hb
        rw [heq, getD_both hun] at h1
        cases h1
      have hap := hfree j oj hoj hji hjun hnot
      obtain ⟨q1, q2, q3⟩ := Oper.apart_spec hap
      have hfree' : ∀ k ok, ops[k]? = some ok → k ≠ i → (listed.setIfInBounds j true).getD k true = false →
          (∀ e ∈ ok.after, Region.binds md e = true → e.on ≠ i) → oi.apart ops ok = true := fun k ok hk hki hun hno => by
        refine hfree k ok hk hki ?_ hno
        by_cases hjk : j = k
        · subst hjk; exact hjun
        · rw [getD_set_ne true hjk] at hun; exact hun
      have si := fun cs b => hsel i oi cs b hi
      have sj := fun cs b => hsel j oj cs b hoj
      obtain ⟨v0, hv0, hS0⟩ := some_fVal hpC hpT hS hy
      have step : ∀ v, fVal P ops C T oi E a v → Sat C T (fNext ops oi E a v) → fGood P ops C T oj E a ∧ ∀ u, fVal P ops C T oj E a u → wpAnyF P md ops late C T n L f ((listed.setIfInBounds i true).setIfInBounds j true) (fNext ops oj (fNext ops oi E a v) (a.put oi.dst v) u) ((a.put oi.dst v).put oj.dst u) := fun v hv hs => by
        have h1 := ((H v hv hs).2 j (ready_mono hj hji)).1 hjn
        unfold fOp at h1
        simp only [hoj] at h1
        exact ⟨(fGood_put sj q1).1 h1.1, fun u hu => h1.2 u ((fVal_put sj q1).2 hu)⟩
      unfold fOp
      simp only [hoj]
      refine ⟨(step v0 hv0 hS0).1, fun u hu => ?_⟩
      refine ih (listed.setIfInBounds j true) (fNext ops oj E a u) (a.put oj.dst u) (inv.set hj hjn) hfree' (ready_mono hr (Ne.symm hji)) (fun _ => (fGood_put si q3).2 hy) fun v hv => ?_
      have hv' : fVal P ops C T oi E a v := (fVal_put si q3).1 hv
      rw [Array.setIfInBounds_comm _ _ hji, ← Act.put_comm a v u q2, fNext_comm q3 q1]
      have key := fun hs => (step v hv' hs).2 u hu
      have hsub : ∀ d x, fNext ops oi E a v d x → fNext ops oj (fNext ops oi E a v) (a.put oi.dst v) u d x := fun d x h => .inl h
      cases f with
      | zero => exact fun hs => key (hs.sub hsub) hs
      | succ f => exact fun hs => key (hs.sub hsub) hs

theorem wpAnyF_lex {late : List Nat} (hpC : Pers C) (hpT : ∀ d v, Pers (T d v)) {n g : Nat} {Lq : SEnv → Act → Prop} (hsel : Region.noSelect ops = true)
    (hw : ∀ listed, HeadInv md ops n listed → ∀ i, i < n → lateAt ops late i = false → listed.getD i true = false → ∀ t, n ≤ t → t ∉ Region.ready md ops listed) :
    ∀ (l : List Oper) (k : Nat) (listed : Array Bool) (E : SEnv) (a : Act), (∀ j, j < l.length → l[j]? = ops[k + j]?) → k + l.length = n → HeadInv md ops n listed →
    Region.lexHead md ops g l.length k listed = true → wpFacts P ops C T Lq l E a →
    wpAnyF P md ops late C T n (fun listed' E' a' => Region.seqB md ops g n listed' = true ∧ Lq E' a') l.length listed E a
  | [], k, listed, E, a, _, hk, _, hB, h => by
    have : k = n := by simpa using hk
    subst this
    exact fun _ => ⟨by simpa [Region.lexHead] using hB, h⟩
  | o :: l, k, listed, E, a, hl, hk, inv, hB, h => by
    have h0 : ops[k]? = some o := by simpa using (hl 0 (by simp)).symm
    simp only [List.length_cons, Region.lexHead, Bool.and_eq_true] at hB
    obtain ⟨⟨hr, hf⟩, hB'⟩ := hB
    have hkn : k < n := by simp only [List.length_cons] at hk; omega
    have hr' : k ∈ Region.ready md ops listed := by simpa using hr
    exact wpAnyF_first hpC hpT h0 (Region.noSelect_spec hsel) hw hkn (fun listed' E' a' hL => seqB_ready hL.1) l.length listed E a inv (Region.free_spec h0 hf) hr' (fun _ => h.1)
      (fun v hv => wpAnyF_lex hpC hpT hsel hw l (k + 1) _ _ _ (fun j hj => by have := hl (j + 1) (by simp; omega); simpa [Nat.add_assoc, Nat.add_comm 1 j] using this) (by simp only [List.length_cons] at hk; omega) (inv.set hr' hkn) hB' (h.2 v hv))

/-- each early operation of the head is waited for, up to operation n -/
def sinkE (md : Region.Mode) (ops : Array Oper) (late : List Nat) (n : Nat) : Bool :=
  (List.range n).all fun i => lateAt ops late i || (List.range (n + 1)).any fun j => decide (i < j) && (j == n || !lateAt ops late j) && Region.waitsFor md ops j i
theorem tail_waitsE {late : List Nat} {n : Nat} {listed : Array Bool} (hs : sinkE md ops late n = true) (hc : Region.chainB md ops n = true) (inv : HeadInv md ops n listed) :
    ∀ (d i : Nat), n - i = d → i < n → lateAt ops late i = false → listed.getD i true = false → ∀ t, n ≤ t → t ∉ Region.ready md ops listed := by
  intro d
  induction d using Nat.strongRecOn with
  | _ d ih =>
    intro i hd hi hl hun t ht hr
    obtain ⟨_, ot, hot, hall⟩ := mem_ready.1 hr
    have htlt : t < ops.size := (Array.getElem?_eq_some_iff.1 hot).1
    by_cases htn : t = n
    · subst htn
      have h1 := List.all_eq_true.1 hs i (List.mem_range.2 hi)
      rw [hl, Bool.false_or] at h1
      obtain ⟨j, hj, hj2⟩ := List.any_eq_true.1 h1
      simp only [Bool.and_eq_true, decide_eq_true_eq, Bool.or_eq_true, beq_iff_eq, Bool.not_eq_true'] at hj2
      obtain ⟨⟨hij, hjl⟩, hjw⟩ := hj2
      obtain ⟨oj, hoj, e, he, hb, hon⟩ := Region.waitsFor_spec hjw
      have hjle : j ≤ t := by have := List.mem_range.1 hj; omega
      by_cases hjt : j = t
      · subst hjt
        have : oj = ot := Option.some.inj (hoj.symm.trans hot)
        subst this
        have h2 := hall e he hb
        rw [hon, getD_both hun] at h2
        cases h2
      · cases hlj : listed.getD j false with
        | true =>
          have h2 := inv.closed j oj hoj hlj e he hb
          rw [hon, getD_both hun] at h2
          cases h2
        | false =>
          have hjs : j < listed.size := by rw [inv.size]; omega
          exact ih (t - j) (by omega) j rfl (by omega) (by rcases hjl with h | h; exact absurd h hjt; exact h) (getD_in hjs hlj) t (Nat.le_refl _) hr
    · have h1 := List.all_eq_true.1 hc t (List.mem_range.2 htlt)
      simp only [Bool.or_eq_true, decide_eq_true_eq] at h1
      rcases h1 with h1 | h1
      · omega
      · obtain ⟨o', ho', e, he, hb, hon⟩ := Region.waitsFor_spec h1
        have : o' = ot := Option.some.inj (ho'.symm.trans hot)
        subst this
        have h2 := hall e he hb
        rw [hon, getD_both (inv.tail (t - 1) (by omega) (by omega))] at h2
        cases h2

def factsTailB (md : Region.Mode) (ops : Array Oper) (late : List Nat) (n : Nat) : Bool :=
  Region.noSelect ops && decide (n < ops.size) && sinkE md ops late n && Region.chainB md ops n && lateFreeB md ops late && Region.lexHead md ops (ops.size - n) n 0 (Array.replicate ops.size false)

/-- the head in any order, the tail in the order of the text; operations of the head in 'late' only hand a value on -/
theorem wp_region_facts_tail {id : Nat} {Q : Exit → Act → World → Prop} {a : Act} {w : World} {l : List Oper} (n : Nat) (late : List Nat) (C : World → Prop) (T : Nat → Value → World → Prop) (hpC : Pers C) (hpT : ∀ d v, Pers (T d v)) (hC : C (w.drewN 1)) (hm : P.follows .mixedOrders = true) (hB : factsTailB .any l.toArray late n = true)
    (hQ : ∀ (d : Option Nat) v c a w, Q (.panic c) (a.put d v) w → Q (.panic c) a w)
    (h : wpFacts P l.toArray C T (fun E a' => ∀ w', C w' → Facts T E w' → wpList P l.toArray Q (l.drop n) a' w') (l.take n) (fun _ _ => False) a) : (Code.region id l.toArray true).wp P Q a w := by
  simp only [factsTailB, Bool.and_eq_true, decide_eq_true_eq] at hB
  obtain ⟨⟨⟨⟨⟨hsel, hn⟩, hs⟩, hc⟩, hlf⟩, hlex⟩ := hB
  have hn' : n < l.length := by simpa using hn
  have htl : (l.take n).length = n := by simp; omega
  have hdl : (l.drop n).length = l.toArray.size - n := by simp
  have inv0 : HeadInv .any l.toArray n (Array.replicate l.toArray.size false) :=
    ⟨by simp, fun j oj _ hl => (by rw [getD_replicate_false] at hl; cases hl), fun t _ ht => getD_in (by simpa using ht) (getD_replicate_false _ _)⟩
  have H := wpAnyF_lex (P := P) (C := C) (T := T) (md := .any) (g := l.toArray.size - n) (late := late) hpC hpT hsel (fun listed inv i hin hl hun => tail_waitsE hs hc inv _ i rfl hin hl hun) (l.take n) 0 _ _ a (fun j hj => by
    have hj' : j < n := by rw [htl] at hj; exact hj
    simp [hj']) (by simpa using htl) inv0 (by rw [htl]; exact hlex) h
  refine wp_region_any hm ?_
  have := wpAny_of_headF (Q' := Q) (g := l.toArray.size - n) hpC hpT (Region.noSelect_spec hsel) hlf hQ (fun listed E a' w' hw' hF' hL => by
    have := wpAny_of_seq (md := .any) (Q' := Q) (l.drop n) n listed a' w' (fun j => by simp [List.getElem?_drop]) (by rw [hdl]; exact hL.1) (hL.2 w' hw' hF')
    rwa [hdl] at this) _ _ _ _ (w.drewN 1) hC (fun _ _ h => h.elim) H
  rw [htl, show n + (l.toArray.size - n) = l.toArray.size by omega] at this
  exact this

def factsB (md : Region.Mode) (ops : Array Oper) (k : Nat) : Bool := Region.noSelect ops && Region.lexHead md ops 0 k 0 (Array.replicate k false)
/-- all in any order -/
theorem wp_region_facts {id : Nat} {Q : Exit → Act → World → Prop} {a : Act} {w : World} {l : List Oper} (C : World → Prop) (T : Nat → Value → World → Prop) (hpC : Pers C) (hpT : ∀ d v, Pers (T d v)) (hC : C (w.drewN 1)) (hm : P.follows .mixedOrders = true) (hB : factsB .any l.toArray l.length = true)
    (hQ : ∀ (d : Option Nat) v c a w, Q (.panic c) (a.put d v) w → Q (.panic c) a w)
    (h : wpFacts P l.toArray C T (fun E a' => ∀ w', C w' → Facts T E w' → Q .normal a' w') l (fun _ _ => False) a) : (Code.region id l.toArray true).wp P Q a w := by
  simp only [factsB, Bool.and_eq_true] at hB
  obtain ⟨hsel, hB⟩ := hB
  have inv0 : HeadInv .any l.toArray l.length (Array.replicate l.length false) :=
    ⟨by simp, fun j oj _ hl => (by rw [getD_replicate_false] at hl; cases hl), fun t h1 ht => absurd ht (by simpa using h1)⟩
  have H := wpAnyF_lex (P := P) (C := C) (T := T) (md := .any) (n := l.length) (g := 0) (late := []) hpC hpT hsel (fun listed inv i hin _ hun t ht hr => by
    obtain ⟨_, o, ho, _⟩ := mem_ready.1 hr
    have := (Array.getElem?_eq_some_iff.1 ho).1
    simp at this
    omega) l 0 _ _ a (fun j hj => by simp) (by simp) inv0 hB h
  refine wp_region_any hm ?_
  have := wpAny_of_headF (Q' := Q) (g := 0) hpC hpT (Region.noSelect_spec hsel) (by rfl) hQ (fun listed E a' w' hw' hF' hL => by
    unfold wpAny
    exact ⟨by simpa [Region.seqB] using hL.1, hL.2 w' hw' hF'⟩) _ _ _ _ (w.drewN 1) hC (fun _ _ h => h.elim) H
  rw [Nat.add_zero] at this
  simp only [List.size_toArray]
  exact this

/-! ### The steps -/
theorem wpFacts_mono {Q : SEnv → Act → Prop} (hQ : ∀ E E' a, (∀ d v, E d v → E' d v) → Q E a → Q E' a) : ∀ (l : List Oper) (E E' : SEnv) (a : Act), (∀ d v, E d v → E' d v) → wpFacts P ops C T Q l E a → wpFacts P ops C T Q l E' a
  | [], _, _, _, hs, h => hQ _ _ _ hs h
  | o :: l, E, E', a, hs, h => by
    refine ⟨fun hw w hC hN => h.1 hw w hC fun d v hd hv => hN d v hd (hs d v hv), fun v hv => ?_⟩
    refine wpFacts_mono hQ l (fNext ops o E a v) _ _ (fun d u hu => hu.imp (hs d u) id) (h.2 v ?_)
    rcases hv with ⟨hw, w, hC, hN, hv⟩ | hv
    · exact .inl ⟨hw, w, hC, fun d v hd hv => hN d v hd (hs d v hv), hv⟩
    · exact .inr hv

variable {Q : SEnv → Act → Prop} {a : Act} {o : Oper} {rest : List Oper} {E : SEnv}
def MonoQ (Q : SEnv → Act → Prop) : Prop := ∀ E E' a, (∀ d v, E d v → E' d v) → Q E a → Q E' a
theorem monoQ_end {K : Act → World → Prop} : MonoQ (fun E a' => ∀ w', C w' → Facts T E w' → K a' w') := fun _ _ _ hs h w' hC hF => h w' hC fun d v hv => hF d v (hs d v hv)

theorem wpFacts_nil (h : Q E a) : wpFacts P ops C T Q [] E a := h

/-- an operation whose value is known, and that bears no fact -/
theorem wpFacts_val (hgd : o.guard = none) (hQ : MonoQ Q) (hT : ∀ d, o.dst = some d → ∀ v w, T d v w) (v : Value) (hv : ∀ w, C w → ∃ w', Below w.heap.size w w' ∧ (execOp a.eval o).run P w = .ok (.value v) w')
    (h : ∀ K : Act → Prop, (∀ a, wpFacts P ops C T Q rest E a → K a) → K (a.put o.dst v)) : wpFacts P ops C T Q (o :: rest) E a := by
  have hw : Region.wanted o (yielded ops a.tmps) = true := by simp [Region.wanted, hgd]
  refine ⟨fun _ w hC _ => ?_, fun u hu => ?_⟩
  · obtain ⟨w', hb, e⟩ := hv w hC
    rw [e]; exact ⟨hb, fun d hd => hT d hd _ _⟩
  · rcases hu with ⟨_, w, hC, _, hu⟩ | ⟨hn, _⟩
    · obtain ⟨w', hb, e⟩ := hv w hC
      rw [e] at hu
      obtain ⟨rfl, _⟩ := hu
      exact wpFacts_mono hQ _ _ _ _ (fun d v h => .inl h) (h _ fun _ h => h)
    · rw [hw] at hn; cases hn

/-- an operation that hands back any of several values, or bears a fact -/
theorem wpFacts_some (hgd : o.guard = none) (d : Nat) (hd : o.dst = some d) (hv : ∀ w, C w → FNeed T ops o E w → ∃ v w', Below w.heap.size w w' ∧ T d v w' ∧ (execOp a.eval o).run P w = .ok (.value v) w')
    (h : ∀ v, (∃ w, T d v w) → wpFacts P ops C T Q rest (fun x u => E x u ∨ (x = d ∧ u = v)) (a.put o.dst v)) : wpFacts P ops C T Q (o :: rest) E a := by
  have hw : Region.wanted o (yielded ops a.tmps) = true := by simp [Region.wanted, hgd]
  refine ⟨fun _ w hC hN => ?_, fun u hu => ?_⟩
  · obtain ⟨v, w', hb, ht, e⟩ := hv w hC hN
    rw [e]; exact ⟨hb, fun d' hd' => by rw [hd] at hd'; cases hd'; exact ht⟩
  · have e : fNext ops o E a u = (fun x y => E x y ∨ (x = d ∧ y = u)) := by
      funext x y
      unfold fNext
      rw [hw, hd]
      refine propext (or_congr Iff.rfl ?_)
      constructor
      · rintro ⟨_, h1, h2⟩; cases h1; exact ⟨rfl, h2⟩
      · rintro ⟨rfl, h2⟩; exact ⟨rfl, rfl, h2⟩
    rw [e]
    rcases hu with ⟨_, w, hC, hN, hu⟩ | ⟨hn, _⟩
    · obtain ⟨v, w', hb, ht, e⟩ := hv w hC hN
      rw [e] at hu
      exact h u ⟨_, hu.2 d hd⟩
    · rw [hw] at hn; cases hn

/-- a call, by its contract -/
theorem wpFacts_call (hgd : o.guard = none) (d : Nat) (hd : o.dst = some d) (f : FuncId) (args : Array Value) (hr : ∀ w, (execOp a.eval o).run P w = .ok (.enter f args) w)
    (hc : ∀ w, C w → FNeed T ops o E w → Calls P f args w fun e w' => ∃ v, e = .returned v ∧ Below w.heap.size w w' ∧ T d v w')
    (h : ∀ v, (∃ w, T d v w) → wpFacts P ops C T Q rest (fun x u => E x u ∨ (x = d ∧ u = v)) (a.put o.dst v)) : wpFacts P ops C T Q (o :: rest) E a := by
  have hw : Region.wanted o (yielded ops a.tmps) = true := by simp [Region.wanted, hgd]
  refine ⟨fun _ w hC hN => ?_, fun u hu => ?_⟩
  · rw [hr w]
    exact ⟨Below.refl _ _, (hc w hC hN).mono fun e w' ⟨v, he, hb, ht⟩ => ⟨v, he, hb, fun d' hd' => by rw [hd] at hd'; cases hd'; exact ht⟩⟩
  · have e : fNext ops o E a u = (fun x y => E x y ∨ (x = d ∧ y = u)) := by
      funext x y
      unfold fNext
      rw [hw, hd]
      refine propext (or_congr Iff.rfl ?_)
      constructor
      · rintro ⟨_, h1, h2⟩; cases h1; exact ⟨rfl, h2⟩
      · rintro ⟨rfl, h2⟩; exact ⟨rfl, rfl, h2⟩
    rw [e]
    rcases hu with ⟨_, w, hC, hN, hu⟩ | ⟨hn, _⟩
    · rw [hr w] at hu
      obtain ⟨w', ht⟩ := hu
      exact h u ⟨w', ht d hd⟩
    · rw [hw] at hn; cases hn
end

/-- nothing that was there has turned: such a fact stays -/
theorem Pers.ext (w : World) : Pers (Ext w) := fun _ _ h hb => below_step h hb
theorem Pers.cells (p : Nat) (vs : List Value) : Pers (fun w => Cells w p vs) := fun _ _ h hb => h.kept hb
theorem Pers.true : Pers (fun _ => True) := fun _ _ _ _ => trivial
theorem Pers.ex {α : Sort _} {φ : α → World → Prop} (h : ∀ x, Pers (φ x)) : Pers (fun w => ∃ x, φ x w) := fun w w' ⟨x, hx⟩ hb => ⟨x, h x w w' hx hb⟩
theorem Pers.and {φ ψ : World → Prop} (h : Pers φ) (k : Pers ψ) : Pers (fun w => φ w ∧ ψ w) := fun w w' ⟨a, b⟩ hb => ⟨h w w' a hb, k w w' b hb⟩
theorem Pers.const (p : Prop) : Pers (fun _ => p) := fun _ _ h _ => h
end Go.Proofs.YtncjkhdnpioinaaDoor

/- The facts that slots bear, as a list; the steps for them. -/
namespace Go.Proofs.YtncjkhdnpioinaaDoor
open Go.RowKit
set_option linter.unusedVariables false

/-- a fact on a value and a world that stays true while nothing that was there turns -/
def Fct := {φ : Value → World → Prop // ∀ v, Pers (φ v)}
def TS : List (Nat × Fct) → Nat → Value → World → Prop
  | [], _, _, _ => True
  | (k, φ) :: l, d, v, w => (d = k → φ.1 v w) ∧ TS l d v w
theorem TS.pers : ∀ (l : List (Nat × Fct)) (d : Nat) (v : Value), Pers (TS l d v)
  | [], _, _ => Pers.true
  | (_, φ) :: l, d, v => fun w w' h hb => ⟨fun e => φ.2 v w w' (h.1 e) hb, TS.pers l d v w w' h.2 hb⟩
def TS.hasB : List (Nat × Fct) → Nat → Bool
  | [], _ => false
  | (k, _) :: l, d => d == k || TS.hasB l d
theorem TS.no : ∀ {l : List (Nat × Fct)} {d : Nat} (_ : TS.hasB l d = false) (v : Value) (w : World), TS l d v w
  | [], _, _, _, _ => trivial
  | (k, φ) :: l, d, h, v, w => by
    simp only [TS.hasB, Bool.or_eq_false_iff, beq_eq_false_iff_ne, ne_eq] at h
    exact ⟨fun e => absurd e h.1, TS.no h.2 v w⟩
def TS.findB : List (Nat × Fct) → Nat → Option Fct
  | [], _ => none
  | (k, φ) :: l, d => if d = k then (if TS.hasB l d then none else some φ) else TS.findB l d
theorem TS.mk : ∀ {l : List (Nat × Fct)} {d : Nat} {φ : Fct} (_ : TS.findB l d = some φ) {v : Value} {w : World} (_ : φ.1 v w), TS l d v w
  | [], _, _, h, _, _, _ => by cases h
  | (k, ψ) :: l, d, φ, h, v, w, hv => by
    unfold TS.findB at h
    split at h
    · rename_i e
      split at h
      · cases h
      · rename_i hb
        cases h
        exact ⟨fun _ => hv, TS.no (by simpa using hb) v w⟩
    · rename_i e
      exact ⟨fun e' => absurd e' e, TS.mk h hv⟩
theorem TS.get : ∀ {l : List (Nat × Fct)} {d : Nat} {φ : Fct} (_ : TS.findB l d = some φ) {v : Value} {w : World} (_ : TS l d v w), φ.1 v w
  | [], _, _, h, _, _, _ => by cases h
  | (k, ψ) :: l, d, φ, h, v, w, hv => by
    unfold TS.findB at h
    split at h
    · rename_i e
      split at h
      · cases h
      · cases h
        exact hv.1 e
    · exact TS.get h hv.2

/-- it is this value -/
def fIs (x : Value) : Fct := ⟨fun v _ => v = x, fun _ => Pers.const _⟩
/-- it points to a block, made since h, with these cells -/
def fBox (h : Nat) (vs : List Value) : Fct := ⟨fun v w => ∃ p, v = .pointer (some ⟨p, 0, none⟩) ∧ h ≤ p ∧ Cells w p vs, fun _ => Pers.ex fun _ => Pers.and (Pers.const _) (Pers.and (Pers.const _) (Pers.cells _ _))⟩
/-- it is a float, up to a not-a-number's bits -/
def fNum (k : FloatKind) (S : Nat) : Fct := ⟨fun v _ => ∃ r, cn k r = S ∧ v = .float k r, fun _ => Pers.const _⟩

theorem fact_of {l : List (Nat × Fct)} {E : SEnv} {w : World} {d : Nat} {φ : Fct} {v : Value} (hT : TS.findB l d = some φ) (hF : Facts (TS l) E w) (hE : E d v) : φ.1 v w := TS.get hT (hF d v hE)
theorem fact_box {l : List (Nat × Fct)} {E : SEnv} {w : World} {d h : Nat} {vs : List Value} {p : Nat} (hT : TS.findB l d = some (fBox h vs)) (hF : Facts (TS l) E w) (hE : E d (.pointer (some ⟨p, 0, none⟩))) : h ≤ p ∧ Cells w p vs := by
  obtain ⟨p', e, h1, h2⟩ := fact_of hT hF hE
  cases e
  exact ⟨h1, h2⟩

section
variable {P : Program} {ops : Array Oper} {C : World → Prop} {l : List (Nat × Fct)} {Q : SEnv → Act → Prop} {a : Act} {o : Oper} {rest : List Oper} {E : SEnv}

/-- an operation whose value is known -/
theorem wpF_val (hgd : o.guard = none) (hQ : MonoQ Q) (hT : ∀ d, o.dst = some d → TS.hasB l d = false) (v : Value) (hv : ∀ w, C w → (execOp a.eval o).run P w = .ok (.value v) w)
    (h : ∀ K : Act → Prop, (∀ a, wpFacts P ops C (TS l) Q rest E a → K a) → K (a.put o.dst v)) : wpFacts P ops C (TS l) Q (o :: rest) E a :=
  wpFacts_val hgd hQ (fun d hd v w => TS.no (hT d hd) v w) v (fun w hC => ⟨w, Below.refl _ _, hv w hC⟩) h

/-- an operation that makes a box -/
theorem wpF_alloc (hgd : o.guard = none) (d : Nat) (hd : o.dst = some d) (h0 : Nat) (vs : List Value) (t : TypeId) (hT : TS.findB l d = some (fBox h0 vs)) (hh : ∀ w, C w → h0 ≤ w.heap.size)
    (hv : ∀ w, (execOp a.eval o).run P w = .ok (.value (.pointer (some ⟨w.heap.size, 0, none⟩))) (w.alloc (.cells vs.toArray t)))
    (h : ∀ p : Nat, wpFacts P ops C (TS l) Q rest (fun x u => E x u ∨ (x = d ∧ u = .pointer (some ⟨p, 0, none⟩))) (a.put o.dst (.pointer (some ⟨p, 0, none⟩)))) : wpFacts P ops C (TS l) Q (o :: rest) E a :=
  wpFacts_some hgd d hd (fun w hC _ => ⟨_, _, below_al1 w _, TS.mk hT ⟨w.heap.size, rfl, hh w hC, Cells.made w vs t⟩, hv w⟩) (fun v ⟨_, hv⟩ => by
    obtain ⟨p, rfl, _⟩ := TS.get hT hv
    exact h p)

/-- a call whose value is known -/
theorem wpF_callV (hgd : o.guard = none) (d : Nat) (hd : o.dst = some d) (f : FuncId) (args : Array Value) (v : Value) (hT : TS.findB l d = some (fIs v)) (hr : ∀ w, (execOp a.eval o).run P w = .ok (.enter f args) w)
    (hc : ∀ w, C w → Calls P f args w fun e w' => e = .returned v ∧ Below w.heap.size w w')
    (h : wpFacts P ops C (TS l) Q rest (fun x u => E x u ∨ (x = d ∧ u = v)) (a.put o.dst v)) : wpFacts P ops C (TS l) Q (o :: rest) E a :=
  wpFacts_call hgd d hd f args hr (fun w hC _ => (hc w hC).mono fun e w' ⟨he, hb⟩ => ⟨v, he, hb, TS.mk hT rfl⟩) (fun u ⟨_, hu⟩ => by
    obtain rfl : u = v := TS.get hT hu
    exact h)

/-- a call that hands back a number -/
theorem wpF_callN (hgd : o.guard = none) (d : Nat) (hd : o.dst = some d) (f : FuncId) (args : Array Value) (k : FloatKind) (S : Nat) (hT : TS.findB l d = some (fNum k S)) (hr : ∀ w, (execOp a.eval o).run P w = .ok (.enter f args) w)
    (hc : ∀ w, C w → Calls P f args w fun e w' => ∃ r, cn k r = S ∧ e = .returned (.float k r) ∧ Below w.heap.size w w')
    (h : ∀ r, cn k r = S → wpFacts P ops C (TS l) Q rest (fun x u => E x u ∨ (x = d ∧ u = .float k r)) (a.put o.dst (.float k r))) : wpFacts P ops C (TS l) Q (o :: rest) E a :=
  wpFacts_call hgd d hd f args hr (fun w hC _ => (hc w hC).mono fun e w' ⟨r, hS, he, hb⟩ => ⟨_, he, hb, TS.mk hT ⟨r, hS, rfl⟩⟩) (fun u ⟨_, hu⟩ => by
    obtain ⟨r, hr, rfl⟩ := TS.get hT hu
    exact h r hr)

/-- a call that bears a fact -/
theorem wpF_callF (hgd : o.guard = none) (d : Nat) (hd : o.dst = some d) (f : FuncId) (args : Array Value) (φ : Fct) (hT : TS.findB l d = some φ) (hr : ∀ w, (execOp a.eval o).run P w = .ok (.enter f args) w)
    (hc : ∀ w, C w → FNeed (TS l) ops o E w → Calls P f args w fun e w' => ∃ v, e = .returned v ∧ Below w.heap.size w w' ∧ φ.1 v w')
    (h : ∀ v, (∃ w, φ.1 v w) → wpFacts P ops C (TS l) Q rest (fun x u => E x u ∨ (x = d ∧ u = v)) (a.put o.dst v)) : wpFacts P ops C (TS l) Q (o :: rest) E a :=
  wpFacts_call hgd d hd f args hr (fun w hC hN => (hc w hC hN).mono fun e w' ⟨v, he, hb, ht⟩ => ⟨v, he, hb, TS.mk hT ht⟩) (fun u ⟨w, hu⟩ => h u ⟨w, TS.get hT hu⟩)

/-- an operation on floats -/
theorem wpF_farith (hgd : o.guard = none) (d : Nat) (hd : o.dst = some d) (op : BinOp) (t : TypeId) (x y : Operand) (t' : TypeId) (ho : o.op = .binOp op t x y t') (hop : isArith op = true) (k : FloatKind) (m n : Nat)
    (hx : a.eval x = .float k m) (hy : a.eval y = .float k n) (S : Nat) (hT : TS.findB l d = some (fNum k S)) (hS : fop op k (cn k m) (cn k n) = S) (h : ∀ r, cn k r = S → wpFacts P ops C (TS l) Q rest (fun x u => E x u ∨ (x = d ∧ u = .float k r)) (a.put o.dst (.float k r))) : wpFacts P ops C (TS l) Q (o :: rest) E a := by
  refine wpFacts_some hgd d hd (fun w hC _ => ?_) (fun v ⟨_, hv⟩ => by
    obtain ⟨r, hr, rfl⟩ := TS.get hT hv
    exact h r hr)
  obtain ⟨r, j, hr, hw⟩ := run_farith (P := P) op hop t k m n w
  refine ⟨_, _, below_drewN (Below.refl _ _) j, TS.mk hT ⟨r, hr.1.trans hS, rfl⟩, ?_⟩
  have hg : (eqGuard op t x y (.float k m) (.float k n)) = pure () := by
    cases op <;> simp [isArith] at hop <;> rfl
  unfold execOp
  simp only [ho, hx, hy, hg, Sem.run_bind, Sem.run_pure, Result.andThen_ok, hw]
end
end Go.Proofs.YtncjkhdnpioinaaDoor

/- Ends read from a text: where the program's reader refuses. -/
namespace Go.Proofs.YtncjkhdnpioinaaDoor
open Go.RowKit
set_option linter.unusedVariables false

set_option maxHeartbeats 3200000 in
set_option maxRecDepth 10000 in
theorem endR_rd (p : Nat) (m : UInt8) (ps : List ByteArray) (c : Int) (w : World) (h : PrSt w p m ps c) (hM : Kp MaxP p w) (hT : Kp TabsE p w) (hc : -100 ≤ c) (hc2 : c ≤ 2000000) (k1 : rdOk (hdP ps) = false) :
    Calls Tryd.prog 70 #[.pointer (some ⟨p, 0, none⟩)] w fun e w' => e = rfP ∧ Tur (Pt p) w w' := by
  have hp := h.lt
  have Q0 := Lib.hid (Cells.made w [.int .i64 0, .float .f32 0, .float .f32 0] 48)
  have B0 := below_al1 w (.cells [Value.int .i64 0, .float .f32 0, .float .f32 0].toArray 48)
  have T0 := Lib.hid (Tur.of_below (S := Pt p) B0)
  have HP := Lib.hid (h.kept B0)
  have HM := Lib.hid hM
  have HTa := Lib.hid hT
  have HR := Lib.hid (fun s w1 hs hT => implRd_any s w1 hs hT)
  have HTk := Lib.hid (fun w1 (h1 : PrSt w1 p m ps c) hM => take_any p m ps c w1 h1 hM (by omega) (by omega))
  obtain ⟨s, hs⟩ : ∃ s, hdP ps = s := ⟨_, rfl⟩
  rw [hs] at HTk k1
  obtain ⟨n, hn⟩ : ∃ n, rdV s = n := ⟨_, rfl⟩
  have HN := Lib.hid hn
  have HK1 := Lib.hid k1
  have HPL := Lib.hid hp
  clear h hM hT k1 hs hn B0 hp
  go_enter Tryd.func70, Tryd.ntmps70
  go_wp2_with fail
  refine (HTk.out _ HP.out (HM.out.step T0.out).self).mono ?_
  rintro e w1 ⟨rfl, hsz, hp, ho⟩
  have t1 := Tur.of_onl (S := Pt p) ho rfl
  have P1 := Lib.hid hp
  have T1 := Lib.hid (T0.out.trans t1)
  have Q1 := Lib.hid (t1.cells Q0.out (by intro e; have e' : w.heap.size = p := e; have := HPL.out; omega))
  clear hp ho t1
  have HT1 := Lib.hid ((HTa.out.step T1.out).self)
  go_wp2_with fail
  refine (HR.out s w1 hsz HT1.out).mono ?_
  rintro e w2 ⟨rfl, hb⟩
  rw [HN.out, HK1.out]
  have P2 := Lib.hid (P1.out.kept hb)
  have T2 := Lib.hid (T1.out.trans (Tur.of_below hb))
  have Q2 := Lib.hid (Q1.out.kept hb)
  clear hb
  go_wp2_with (go_at_call 71; refine (needI_no _ _).mono ?_; rintro e w' ⟨rfl, rfl⟩)
  exact ⟨rfl, rfl, T2.out⟩
set_option maxHeartbeats 3200000 in
set_option maxRecDepth 10000 in
theorem endR_nl (p : Nat) (m : UInt8) (ps : List ByteArray) (c : Int) (w : World) (h : PrSt w p m ps c) (hM : Kp MaxP p w) (hT : Kp TabsE p w) (hc : -100 ≤ c) (hc2 : c ≤ 2000000) (k1 : rdOk (hdP ps) = true) (k2 : ¬ (nlOk (hdP ps.tail) = true ∧ (nlL (hdP ps.tail)).length = 2)) :
    Calls Tryd.prog 70 #[.pointer (some ⟨p, 0, none⟩)] w fun e w' => e = rfP ∧ Tur (Pt p) w w' := by
  have hp := h.lt
  have Q0 := Lib.hid (Cells.made w [.int .i64 0, .float .f32 0, .float .f32 0] 48)
  have B0 := below_al1 w (.cells [Value.int .i64 0, .float .f32 0, .float .f32 0].toArray 48)
  have T0 := Lib.hid (Tur.of_below (S := Pt p) B0)
  have HP := Lib.hid (h.kept B0)
  have HM := Lib.hid hM
  have HTa := Lib.hid hT
  have HR := Lib.hid (fun s w1 hs hT => implRd_any s w1 hs hT)
  have HL := Lib.hid (fun w1 (h1 : PrSt w1 p m ps.tail (c - 1)) hM => listOf_no p m ps.tail (c - 1) 2 w1 h1 hM (by omega) (by omega) k2)
  have HTk := Lib.hid (fun w1 (h1 : PrSt w1 p m ps c) hM => take_any p m ps c w1 h1 hM (by omega) (by omega))
  obtain ⟨s, hs⟩ : ∃ s, hdP ps = s := ⟨_, rfl⟩
  rw [hs] at HTk k1
  obtain ⟨n, hn⟩ : ∃ n, rdV s = n := ⟨_, rfl⟩
  have HN := Lib.hid hn
  have HK1 := Lib.hid k1
  have HPL := Lib.hid hp
  clear h hM hT k1 k2 hs hn B0 hp
  go_enter Tryd.func70, Tryd.ntmps70
  go_wp2_with fail
  refine (HTk.out _ HP.out (HM.out.step T0.out).self).mono ?_
  rintro e w1 ⟨rfl, hsz, hp, ho⟩
  have t1 := Tur.of_onl (S := Pt p) ho rfl
  have P1 := Lib.hid hp
  have T1 := Lib.hid (T0.out.trans t1)
  have Q1 := Lib.hid (t1.cells Q0.out (by intro e; have e' : w.heap.size = p := e; have := HPL.out; omega))
  clear hp ho t1
  have HT1 := Lib.hid ((HTa.out.step T1.out).self)
  go_wp2_with fail
  refine (HR.out s w1 hsz HT1.out).mono ?_
  rintro e w2 ⟨rfl, hb⟩
  rw [HN.out, HK1.out]
  have P2 := Lib.hid (P1.out.kept hb)
  have T2 := Lib.hid (T1.out.trans (Tur.of_below hb))
  have Q2 := Lib.hid (Q1.out.kept hb)
  clear hb
  go_wp2_with (go_at_call 71; refine (needI_yes _ _).mono ?_; rintro e w' ⟨rfl, rfl⟩)
  refine (HL.out _ P2.out (HM.out.step T2.out)).mono ?_
  rintro e w3 ⟨rfl, ht⟩
  have T3 := Lib.hid (T2.out.trans ht)
  clear ht
  exact ⟨rfl, rfl, T3.out⟩
set_option maxHeartbeats 3200000 in
set_option maxRecDepth 10000 in
theorem endR_bad (p : Nat) (m : UInt8) (ps : List ByteArray) (c : Int) (w : World) (h : PrSt w p m ps c) (hM : Kp MaxP p w) (hT : Kp TabsE p w) (hc : -100 ≤ c) (hc2 : c ≤ 2000000) (k1 : rdOk (hdP ps) = true) (k2 : nlOk (hdP ps.tail) = true) (k3 : (nlL (hdP ps.tail)).length = 2) (k4 : vEnd (rdV (hdP ps)) (enX (nlL (hdP ps.tail))) (enY (nlL (hdP ps.tail))) = false) :
    Calls Tryd.prog 70 #[.pointer (some ⟨p, 0, none⟩)] w fun e w' => e = rfP ∧ Tur (Pt p) w w' := by
  have hp := h.lt
  have Q0 := Lib.hid (Cells.made w [.int .i64 0, .float .f32 0, .float .f32 0] 48)
  have B0 := below_al1 w (.cells [Value.int .i64 0, .float .f32 0, .float .f32 0].toArray 48)
  have T0 := Lib.hid (Tur.of_below (S := Pt p) B0)
  have HP := Lib.hid (h.kept B0)
  have HM := Lib.hid hM
  have HTa := Lib.hid hT
  have HR := Lib.hid (fun s w1 hs hT => implRd_any s w1 hs hT)
  have HL := Lib.hid (fun w1 (h1 : PrSt w1 p m ps.tail (c - 1)) hM => listOf_yes p m ps.tail (c - 1) 2 w1 h1 hM (by omega) (by omega) k2 k3)
  have HTk := Lib.hid (fun w1 (h1 : PrSt w1 p m ps c) hM => take_any p m ps c w1 h1 hM (by omega) (by omega))
  have IE := Lib.hid (fun w1 => implVEnd_any (rdV (hdP ps)) (enX (nlL (hdP ps.tail))) (enY (nlL (hdP ps.tail))) w1)
  rw [k4] at IE
  obtain ⟨s, hs⟩ : ∃ s, hdP ps = s := ⟨_, rfl⟩
  obtain ⟨L, hL⟩ : ∃ L, nlL (hdP ps.tail) = L := ⟨_, rfl⟩
  rw [hs] at HTk IE k1
  rw [hL] at HL IE
  obtain ⟨n, hn⟩ : ∃ n, rdV s = n := ⟨_, rfl⟩
  rw [hn] at IE
  have HN := Lib.hid hn
  have hL2 : L.length = 2 := by rw [← hL]; exact k3
  have HL2 := Lib.hid hL2
  have HK1 := Lib.hid k1
  have NE := Lib.hid (fun w1 => needE_no n (enX L) (enY L) w1)
  unfold endV at IE NE
  obtain ⟨x, hx⟩ : ∃ x, enX L = x := ⟨_, rfl⟩
  obtain ⟨y, hy⟩ : ∃ y, enY L = y := ⟨_, rfl⟩
  rw [hx, hy] at IE NE
  have HX := Lib.hid hx
  have HY := Lib.hid hy
  have HPL := Lib.hid hp
  clear h hM hT k1 k2 k3 k4 hs hL hn hL2 B0 hx hy hp
  go_enter Tryd.func70, Tryd.ntmps70
  go_wp2_with fail
  refine (HTk.out _ HP.out (HM.out.step T0.out).self).mono ?_
  rintro e w1 ⟨rfl, hsz, hp, ho⟩
  have t1 := Tur.of_onl (S := Pt p) ho rfl
  have P1 := Lib.hid hp
  have T1 := Lib.hid (T0.out.trans t1)
  have Q1 := Lib.hid (t1.cells Q0.out (by intro e; have e' : w.heap.size = p := e; have := HPL.out; omega))
  clear hp ho t1
  have HT1 := Lib.hid ((HTa.out.step T1.out).self)
  go_wp2_with fail
  refine (HR.out s w1 hsz HT1.out).mono ?_
  rintro e w2 ⟨rfl, hb⟩
  rw [HN.out, HK1.out]
  have P2 := Lib.hid (P1.out.kept hb)
  have T2 := Lib.hid (T1.out.trans (Tur.of_below hb))
  have Q2 := Lib.hid (Q1.out.kept hb)
  clear hb
  go_wp2_with (go_at_call 71; refine (needI_yes _ _).mono ?_; rintro e w' ⟨rfl, rfl⟩)
  refine (HL.out _ P2.out (HM.out.step T2.out)).mono ?_
  rintro e w3 ⟨v, rfl, hr, hp, ht⟩
  have P3 := Lib.hid hp
  have T3 := Lib.hid (T2.out.trans ht)
  have Q3 := Lib.hid (ht.cells Q2.out (by intro e; have e' : w.heap.size = p := e; have := HPL.out; omega))
  clear hp ht
  rcases hr with ⟨_, hz⟩ | ⟨g, o, cap, rfl, hg, hr⟩
  · have := HL2.out; rw [hz] at this; simp at this
  have z0 : w3.cell? ⟨g, o, none⟩ = some (.float .f32 x) := by rw [← HX.out]; exact hr.cell (i := 0) (by have := HL2.out; omega)
  have z1 : w3.cell? ⟨g, o + 1, none⟩ = some (.float .f32 y) := by rw [← HY.out]; exact hr.cell (i := 1) (by have := HL2.out; omega)
  rw [HL2.out]
  have y0 := ((below_al1 w3 (.cells #[.int .i64 0, .float .f32 0, .float .f32 0] 48)).cell (p := ⟨g, o, none⟩) (cell_lt z0)).trans z0
  have y1 := ((below_al1 w3 (.cells #[.int .i64 0, .float .f32 0, .float .f32 0] 48)).cell (p := ⟨g, o + 1, none⟩) (cell_lt z1)).trans z1
  clear hr hg
  have EW : Hid (∀ w4, w4 = (w3.alloc (.cells #[.int .i64 n, .float .f32 x, .float .f32 y] 48)).drew → Cells w4 w3.heap.size [.int .i64 n, .float .f32 x, .float .f32 y] ∧ Cells w4 w.heap.size [.int .i64 0, .float .f32 0, .float .f32 0] ∧ PrSt w4 p m ps.tail.tail (c - 1 - 1) ∧ Tur (Pt p) w w4) := Lib.hid (fun w4 e => by
    have b := below_al1 w3 (.cells #[.int .i64 n, .float .f32 x, .float .f32 y] 48)
    have b4 : Below w3.heap.size w3 w4 := by rw [e]; exact below_drewN b 1
    refine ⟨?_, Q3.out.kept b4, P3.out.kept b4, T3.out.trans (Tur.of_below b4)⟩
    rw [e]
    exact (Cells.made w3 [.int .i64 n, .float .f32 x, .float .f32 y] 48).drewN (n := 1))
  have hne : ¬ w3.heap.size = w.heap.size := by have := T3.out.size; have := Q3.out.lt; omega
  go_wp2
  go_region
  obtain ⟨w4, hw4⟩ : ∃ w4, w4 = (w3.alloc (.cells #[.int .i64 n, .float .f32 x, .float .f32 y] 48)).drew := ⟨_, rfl⟩
  rw [← hw4]
  obtain ⟨hE, hQ, hP, hT⟩ := EW.out w4 hw4
  clear hw4 EW z0 z1 y0 y1 Q3 P3 T3 Q2 P2 T2 Q1 P1 T1
  have E := Lib.hid hE
  have Q := Lib.hid hQ
  have P4 := Lib.hid hP
  have T4 := Lib.hid hT
  have B4 := Lib.hid (Below.refl w4.heap.size w4)
  have d0 := hE.at 0 rfl; have d1 := hE.at 1 rfl; have d2 := hE.at 2 rfl
  clear hE hQ hP hT
  have FACT := Lib.hid (fun w1 (hw : Ext w4 w1) => And.intro (hw.cell d0) (And.intro (hw.cell d1) (hw.cell d2)))
  clear d0 d1 d2
  go_wp2
  refine wp_region_facts_tail 3 [] (Ext w4) (TS [(24, fIs (.bool false))]) (Pers.ext _) (TS.pers _) (Ext.start _) (by kernel_rfl) (by kernel_rfl) (by intro d v c a w h; cases d <;> exact h) ?_
  simp only [List.take_succ_cons, List.take_zero, List.drop_succ_cons, List.drop_zero]
  repeat (refine wpF_val rfl monoQ_end (by rintro _ ⟨⟩; rfl) ?_ (fun w1 hw1 => ?_) (fun K hK => ?_); rotate_left; (focus (have hF := FACT.out w1 hw1; go_simp; first | done | rfl)); go_simp; refine hK _ ?_; clear hK K)
  refine wpF_callF rfl 24 rfl 76 #[.agg #[.int .i64 n, .float .f32 x, .float .f32 y]] (fIs (.bool false)) rfl (fun w1 => ?_) (fun w1 hC hN => ?_) (fun v1 hv1 => ?_)
  · go_simp
  · refine (IE.out w1).mono ?_
    rintro _ w2 ⟨rfl, hb⟩
    exact ⟨_, rfl, hb, rfl⟩
  obtain ⟨_, rfl⟩ := hv1
  refine wpFacts_nil ?_
  intro w5 hb5 _
  have B5 := Lib.hid hb5
  clear hb5
  go_wp2_with (go_at_call 75; refine (NE.out _).mono ?_; rintro e w6 ⟨rfl, hb⟩; exact ⟨rfl, rfl, T4.out.trans (Tur.of_below (below_step B5.out hb))⟩)
theorem endR_no (p : Nat) (m : UInt8) (ps : List ByteArray) (c : Int) (w : World) (h : PrSt w p m ps c) (hM : Kp MaxP p w) (hT : Kp TabsE p w) (hc : -100 ≤ c) (hc2 : c ≤ 2000000) (hk : eOk (hdP ps) (hdP ps.tail) = false) :
    Calls Tryd.prog 70 #[.pointer (some ⟨p, 0, none⟩)] w fun e w' => e = rfP ∧ Tur (Pt p) w w' := by
  cases k1 : rdOk (hdP ps) with
  | false => exact endR_rd p m ps c w h hM hT hc hc2 k1
  | true =>
    by_cases k2 : nlOk (hdP ps.tail) = true ∧ (nlL (hdP ps.tail)).length = 2
    · refine endR_bad p m ps c w h hM hT hc hc2 k1 k2.1 k2.2 ?_
      unfold eOk at hk
      rw [k1, decide_eq_true k2] at hk
      simpa using hk
    · exact endR_nl p m ps c w h hM hT hc hc2 k1 k2
end Go.Proofs.YtncjkhdnpioinaaDoor

/- The program's reader of parts: how it starts. -/
namespace Go.Proofs.YtncjkhdnpioinaaDoor
open Go.RowKit
set_option linter.unusedVariables false

theorem partsOf_any (t : ByteArray) (m : UInt8) (w : World) (ht : t.size ≤ 1048576) (hM : MaxP w) : Calls Tryd.prog 156 #[.string t, .string (mkZ m)] w fun e w' => e = .returned (.agg #[.string (mkZ m), .string t, .int .i64 ((cutZ m t).length : Nat)]) ∧ Below w.heap.size w w' := by
  obtain ⟨mm, hm⟩ := hM
  have B0 := below_al1 w (.cells #[.string ⟨#[]⟩, .string ⟨#[]⟩, .int .i64 0] 164)
  have HC := Lib.hid (fun w1 (hb : Below w.heap.size w w1) => Tryd.strings_Count_any t (mkZ m) mm w1 (by omega) ((hb.cell (p := ⟨2, 0, none⟩) (cell_lt hm)).trans hm) (Nat.le_refl 1))
  have hl := cutZ_length m t
  have hle := cutZ_le m t
  obtain ⟨k, hk⟩ : ∃ k, Lib.countB t (mkZ m) = k := ⟨_, rfl⟩
  rw [hk] at HC hl
  rw [hl] at hle ⊢
  have e1 : IntKind.i64.wrap ((k : Int) + 1) = (k : Int) + 1 := by unfold IntKind.wrap; simp [IntKind.bits, IntKind.signed]; omega
  have BB := Lib.hid B0
  clear hm hk hl B0
  go_enter Tryd.func156, Tryd.ntmps156
  go_wp2_with fail
  refine (HC.out _ BB.out).mono ?_
  rintro e w1 ⟨rfl, rfl⟩
  go_wp2
  refine bodyPost_ret (v := .agg #[.string (mkZ m), .string t, .int .i64 ((k + 1 : Nat) : Int)]) ?_ rfl ?_
  · rw [results_cell1 rfl]
    go_simp
  · exact ⟨rfl, (by repeat (first | exact Below.refl _ _ | refine Below.setCell ?_ (by first | exact Nat.le_refl _ | (simp; done) | (simp; omega) | omega) _ | refine below_drewN ?_ _ | refine Below.alloc ?_ (by first | exact Nat.le_refl _ | (simp; done) | (simp; omega) | omega) _))⟩
end Go.Proofs.YtncjkhdnpioinaaDoor

/- Ends read from a text: the parts read by the program. -/
namespace Go.Proofs.YtncjkhdnpioinaaDoor
open Go.RowKit
set_option linter.unusedVariables false

def reOk (m : UInt8) (t : ByteArray) : Bool := eOk (hdP (cutZ m t)) (hdP (cutZ m t).tail) && decide ((cutZ m t).length = 2)
set_option maxHeartbeats 3200000 in
set_option maxRecDepth 10000 in
theorem rpE_yes (t : ByteArray) (m : UInt8) (k : Int) (x y : Nat) (w : World) (ht : t.size ≤ 1048576) (hM : MaxP w) (hT : TabsE w) (hk : eOk (hdP (cutZ m t)) (hdP (cutZ m t).tail) = true)
    (h1 : rdV (hdP (cutZ m t)) = k) (h2 : enX (nlL (hdP (cutZ m t).tail)) = x) (h3 : enY (nlL (hdP (cutZ m t).tail)) = y) (h2c : (cutZ m t).length = 2) :
    Calls Tryd.prog 123 #[.string t, .string (mkZ m), .func (.func 70) #[] #[]] w fun e w' => e = .returned (endV k x y) ∧ Below w.heap.size w w' := by
  have B0 := below_al1 w (.cells #[.int .i64 0, .float .f32 0, .float .f32 0] 48)
  have Q0 := Lib.hid (Cells.made w [.int .i64 0, .float .f32 0, .float .f32 0] 48)
  have HP := Lib.hid (fun w1 hM => partsOf_any t m w1 ht hM)
  have HMb := Lib.hid (hM.below B0)
  have HM := Lib.hid hM
  have HT := Lib.hid hT
  have hle := cutZ_le m t
  have HR := Lib.hid (fun p w1 h a b => endR_yes p m (cutZ m t) ((cutZ m t).length : Nat) w1 h a b (by omega) (by omega) hk)
  have HS := Lib.hid (fun w1 p (h : Cells w1 p [.string (mkZ m), .string t, .int .i64 ((cutZ m t).length : Nat)]) => PrSt.start h ht)
  have NY := Lib.hid (fun w1 => needE_yes k x y w1)
  have NN := Lib.hid (fun w1 => needE_no k x y w1)
  rw [h1, h2, h3] at HR
  have BB := Lib.hid B0
  obtain ⟨c, hc⟩ : ∃ c, (cutZ m t).length = c := ⟨_, rfl⟩
  obtain ⟨ps, hps⟩ : ∃ ps, cutZ m t = ps := ⟨_, rfl⟩
  rw [hc] at HP HR HS hle h2c
  rw [hps] at HR HS
  unfold endV at HR NY NN ⊢
  have H2C := Lib.hid h2c
  clear hM hT hk h1 h2 h3 hc hps B0 h2c
  go_enter Tryd.func123, Tryd.ntmps123
  go_wp2_with fail
  refine (HP.out _ HMb.out).mono ?_
  rintro e w1 ⟨rfl, hb⟩
  have Q1 := Lib.hid (Q0.out.kept hb)
  have B1 := Lib.hid (below_step BB.out hb)
  have CP := Lib.hid (Cells.made w1 [.string (mkZ m), .string t, .int .i64 c] 164)
  have B2 := Lib.hid (below_step B1.out (below_al1 w1 (.cells [Value.string (mkZ m), .string t, .int .i64 c].toArray 164)))
  have Q2 := Lib.hid (Q1.out.al (.cells [Value.string (mkZ m), .string t, .int .i64 c].toArray 164))
  have hsz := B1.out.size
  have HMk := Lib.hid (Kp.of (fun _ _ h b => MaxP.below h b) HM.out B2.out hsz)
  have HTk := Lib.hid (Kp.of (fun _ _ h b => TabsE.below h b) HT.out B2.out hsz)
  have HRx := Lib.hid (HR.out w1.heap.size _ (HS.out _ _ CP.out) HMk.out HTk.out)
  have hqp : w.heap.size < w1.heap.size := by have := Q1.out.lt; omega
  clear hb
  go_wp2_with fail
  refine HRx.out.mono ?_
  rintro e w2 ⟨rfl, hp, ht2⟩
  obtain ⟨r, hC, _, _⟩ := hp
  have Q3 := Lib.hid (ht2.cells Q2.out (by intro e; have e' : w.heap.size = w1.heap.size := e; omega))
  have B3 := Lib.hid (B2.out.trans (ht2.below (B := w.heap.size) (fun k hk => by have e : k = w1.heap.size := hk; omega) (by simp; omega)))
  have z2 := hC.at 2 rfl
  have zlt := hC.lt
  have zw : (w2.alloc (.cells #[.int .i64 k, .float .f32 x, .float .f32 y] 48)).cell? ⟨w1.heap.size, 2, none⟩ = some (.int .i64 (c - 1 - 1)) := ((below_al1 w2 _).cell (p := ⟨w1.heap.size, 2, none⟩) zlt).trans z2
  have B4 := Lib.hid (B3.out.trans ((below_al1 w2 (.cells #[.int .i64 k, .float .f32 x, .float .f32 y] 48)).mono B3.out.size))
  have Q4 := Lib.hid (Q3.out.al (.cells #[.int .i64 k, .float .f32 x, .float .f32 y] 48))
  clear ht2 hC
  have q : ((c : Int) - 1 - 1 == 0) = true := by have := H2C.out; simp; omega
  go_wp2_with (go_at_call 75; refine (NY.out _).mono ?_; rintro e w3 ⟨rfl, hb⟩; have B5 := Lib.hid (below_step B4.out hb); have hQ := Q4.out.kept hb; have q0 := hQ.at 0 rfl; have q1 := hQ.at 1 rfl; have q2 := hQ.at 2 rfl; have qf := hQ.fz; clear hQ hb)
  have HF := Lib.hid (((B5.out.setCell (p := ⟨w.heap.size, 0, none⟩) (Nat.le_refl _) (.int .i64 k)).setCell (p := ⟨w.heap.size, 1, none⟩) (Nat.le_refl _) (.float .f32 x)).setCell (p := ⟨w.heap.size, 2, none⟩) (Nat.le_refl _) (.float .f32 y))
  refine bodyPost_ret (v := .agg #[.int .i64 k, .float .f32 x, .float .f32 y]) ?_ rfl ?_
  · rw [results_cell1 rfl]
    go_simp
  · exact ⟨rfl, HF.out⟩
set_option maxHeartbeats 3200000 in
set_option maxRecDepth 10000 in
theorem rpE_len (t : ByteArray) (m : UInt8) (k : Int) (x y : Nat) (w : World) (ht : t.size ≤ 1048576) (hM : MaxP w) (hT : TabsE w) (hk : eOk (hdP (cutZ m t)) (hdP (cutZ m t).tail) = true)
    (h1 : rdV (hdP (cutZ m t)) = k) (h2 : enX (nlL (hdP (cutZ m t).tail)) = x) (h3 : enY (nlL (hdP (cutZ m t).tail)) = y) (h2c : ¬ (cutZ m t).length = 2) :
    Calls Tryd.prog 123 #[.string t, .string (mkZ m), .func (.func 70) #[] #[]] w fun e w' => e = rfP ∧ Below w.heap.size w w' := by
  have B0 := below_al1 w (.cells #[.int .i64 0, .float .f32 0, .float .f32 0] 48)
  have Q0 := Lib.hid (Cells.made w [.int .i64 0, .float .f32 0, .float .f32 0] 48)
  have HP := Lib.hid (fun w1 hM => partsOf_any t m w1 ht hM)
  have HMb := Lib.hid (hM.below B0)
  have HM := Lib.hid hM
  have HT := Lib.hid hT
  have hle := cutZ_le m t
  have HR := Lib.hid (fun p w1 h a b => endR_yes p m (cutZ m t) ((cutZ m t).length : Nat) w1 h a b (by omega) (by omega) hk)
  have HS := Lib.hid (fun w1 p (h : Cells w1 p [.string (mkZ m), .string t, .int .i64 ((cutZ m t).length : Nat)]) => PrSt.start h ht)
  have NY := Lib.hid (fun w1 => needE_yes k x y w1)
  have NN := Lib.hid (fun w1 => needE_no k x y w1)
  rw [h1, h2, h3] at HR
  have BB := Lib.hid B0
  obtain ⟨c, hc⟩ : ∃ c, (cutZ m t).length = c := ⟨_, rfl⟩
  obtain ⟨ps, hps⟩ : ∃ ps, cutZ m t = ps := ⟨_, rfl⟩
  rw [hc] at HP HR HS hle h2c
  rw [hps] at HR HS
  unfold endV at HR NY NN
  have H2C := Lib.hid h2c
  clear hM hT hk h1 h2 h3 hc hps B0 h2c
  go_enter Tryd.func123, Tryd.ntmps123
  go_wp2_with fail
  refine (HP.out _ HMb.out).mono ?_
  rintro e w1 ⟨rfl, hb⟩
  have Q1 := Lib.hid (Q0.out.kept hb)
  have B1 := Lib.hid (below_step BB.out hb)
  have CP := Lib.hid (Cells.made w1 [.string (mkZ m), .string t, .int .i64 c] 164)
  have B2 := Lib.hid (below_step B1.out (below_al1 w1 (.cells [Value.string (mkZ m), .string t, .int .i64 c].toArray 164)))
  have Q2 := Lib.hid (Q1.out.al (.cells [Value.string (mkZ m), .string t, .int .i64 c].toArray 164))
  have hsz := B1.out.size
  have HMk := Lib.hid (Kp.of (fun _ _ h b => MaxP.below h b) HM.out B2.out hsz)
  have HTk := Lib.hid (Kp.of (fun _ _ h b => TabsE.below h b) HT.out B2.out hsz)
  have HRx := Lib.hid (HR.out w1.heap.size _ (HS.out _ _ CP.out) HMk.out HTk.out)
  have hqp : w.heap.size < w1.heap.size := by have := Q1.out.lt; omega
  clear hb
  go_wp2_with fail
  refine HRx.out.mono ?_
  rintro e w2 ⟨rfl, hp, ht2⟩
  obtain ⟨r, hC, _, _⟩ := hp
  have Q3 := Lib.hid (ht2.cells Q2.out (by intro e; have e' : w.heap.size = w1.heap.size := e; omega))
  have B3 := Lib.hid (B2.out.trans (ht2.below (B := w.heap.size) (fun k hk => by have e : k = w1.heap.size := hk; omega) (by simp; omega)))
  have z2 := hC.at 2 rfl
  have zlt := hC.lt
  have zw : (w2.alloc (.cells #[.int .i64 k, .float .f32 x, .float .f32 y] 48)).cell? ⟨w1.heap.size, 2, none⟩ = some (.int .i64 (c - 1 - 1)) := ((below_al1 w2 _).cell (p := ⟨w1.heap.size, 2, none⟩) zlt).trans z2
  have B4 := Lib.hid (B3.out.trans ((below_al1 w2 (.cells #[.int .i64 k, .float .f32 x, .float .f32 y] 48)).mono B3.out.size))
  have Q4 := Lib.hid (Q3.out.al (.cells #[.int .i64 k, .float .f32 x, .float .f32 y] 48))
  clear ht2 hC
  have q : ((c : Int) - 1 - 1 == 0) = false := by have := H2C.out; simp; omega
  go_wp2_with (go_at_call 75; refine (NN.out _).mono ?_; rintro e w3 ⟨rfl, hb⟩; exact ⟨rfl, rfl, below_step B4.out hb⟩)
theorem rpE_no (t : ByteArray) (m : UInt8) (w : World) (ht : t.size ≤ 1048576) (hM : MaxP w) (hT : TabsE w) (hk : eOk (hdP (cutZ m t)) (hdP (cutZ m t).tail) = false) :
    Calls Tryd.prog 123 #[.string t, .string (mkZ m), .func (.func 70) #[] #[]] w fun e w' => e = rfP ∧ Below w.heap.size w w' := by
  have B0 := below_al1 w (.cells #[.int .i64 0, .float .f32 0, .float .f32 0] 48)
  have HP := Lib.hid (fun w1 hM => partsOf_any t m w1 ht hM)
  have HMb := Lib.hid (hM.below B0)
  have HM := Lib.hid hM
  have HT := Lib.hid hT
  have hle := cutZ_le m t
  have HR := Lib.hid (fun p w1 h a b => endR_no p m (cutZ m t) ((cutZ m t).length : Nat) w1 h a b (by omega) (by omega) hk)
  have HS := Lib.hid (fun w1 p (h : Cells w1 p [.string (mkZ m), .string t, .int .i64 ((cutZ m t).length : Nat)]) => PrSt.start h ht)
  have BB := Lib.hid B0
  obtain ⟨c, hc⟩ : ∃ c, (cutZ m t).length = c := ⟨_, rfl⟩
  obtain ⟨ps, hps⟩ : ∃ ps, cutZ m t = ps := ⟨_, rfl⟩
  rw [hc] at HP HR HS
  rw [hps] at HR HS
  clear hM hT hk hc hps B0 hle
  go_enter Tryd.func123, Tryd.ntmps123
  go_wp2_with fail
  refine (HP.out _ HMb.out).mono ?_
  rintro e w1 ⟨rfl, hb⟩
  have B1 := Lib.hid (below_step BB.out hb)
  have CP := Lib.hid (Cells.made w1 [.string (mkZ m), .string t, .int .i64 c] 164)
  have B2 := Lib.hid (below_step B1.out (below_al1 w1 (.cells [Value.string (mkZ m), .string t, .int .i64 c].toArray 164)))
  have hsz := B1.out.size
  have HMk := Lib.hid (Kp.of (fun _ _ h b => MaxP.below h b) HM.out B2.out hsz)
  have HTk := Lib.hid (Kp.of (fun _ _ h b => TabsE.below h b) HT.out B2.out hsz)
  have HRx := Lib.hid (HR.out w1.heap.size _ (HS.out _ _ CP.out) HMk.out HTk.out)
  have FIN := Lib.hid (fun w2 (ht2 : Tur (Pt w1.heap.size) (w1.alloc (.cells [Value.string (mkZ m), .string t, .int .i64 c].toArray 164)) w2) => B2.out.trans (ht2.below (B := w.heap.size) (fun k hk => by have e : k = w1.heap.size := hk; omega) (by simp; omega)))
  clear hb
  go_wp2_with fail
  refine HRx.out.mono ?_
  rintro e w2 ⟨rfl, ht2⟩
  exact ⟨rfl, rfl, FIN.out _ ht2⟩
end Go.Proofs.YtncjkhdnpioinaaDoor

/- Ends read from a text: refusals that are caught. -/
namespace Go.Proofs.YtncjkhdnpioinaaDoor
open Go.RowKit
set_option linter.unusedVariables false

theorem as_rf (w : World) : (Instr.typeAssert rfV 20 73 true).run Tryd.prog w = .ok (.tuple #[rfV, .bool true]) w := by kernel_rfl
theorem as_nil (w : World) : (Instr.typeAssert .nilIface 20 73 true).run Tryd.prog w = .ok (.tuple #[.nilIface, .bool false]) w := by kernel_rfl
set_option maxRecDepth 8000 in
theorem catchE_panic (b : Nat) (older : List PanicEntry) (w : World) (hc : w.cell? ⟨b, 0, none⟩ = some .nilIface) (hz : w.frozen? ⟨b, 0, none⟩ = false) :
    CallsD Tryd.prog 164 #[.pointer (some ⟨b, 0, none⟩)] (.panicking ({ v := rfV, recovered := false } :: older)) w fun e u' w' =>
      e = .returned (.tuple #[]) ∧ u' = .panicking ({ v := rfV, recovered := true } :: older) ∧ w' = w.setCell ⟨b, 0, none⟩ rfV := by
  refine callsD_of_wpS Tryd.func164 rfl fun c₀ cs hu => ?_
  apply wpS_seq
  apply wpS_region
  simp [wpOpsS, go_sem, recoverD, hu, Tryd.ntmps164, Exit.thenS, as_rf]
  apply wpS_seq
  apply wpS_region
  simp [wpOpsS, go_sem, Exit.thenS]
  refine wpS_cond (t := true) (by simp [Act.eval, Array.replicate]) ?_
  simp only [if_true]
  apply wpS_region
  simp [wpOpsS, go_sem, hc, hz, bodyPostS, results, Tryd.results164]
set_option maxRecDepth 8000 in
theorem catchE_idle (b : Nat) (w : World) :
    CallsD Tryd.prog 164 #[.pointer (some ⟨b, 0, none⟩)] .returning w fun e u' w' => e = .returned (.tuple #[]) ∧ u' = .returning ∧ w' = w := by
  refine callsD_of_wpS Tryd.func164 rfl fun c₀ cs hu => ?_
  apply wpS_seq
  apply wpS_region
  simp [wpOpsS, go_sem, recoverD, hu, Tryd.ntmps164, Exit.thenS, as_nil]
  apply wpS_seq
  apply wpS_region
  simp [wpOpsS, go_sem, Exit.thenS]
  refine wpS_cond (t := false) (by simp [Act.eval, Array.replicate]) ?_
  simp only [Bool.false_eq_true, if_false]
  refine wpS_of_wp (wp_skip ?_)
  cases c₀
  simp_all [bodyPostS, results, Tryd.results164]
end Go.Proofs.YtncjkhdnpioinaaDoor

/- Ends read from a text: the program. -/
namespace Go.Proofs.YtncjkhdnpioinaaDoor
open Go.RowKit
set_option linter.unusedVariables false

theorem results_cell2 {fn : Func} {p q : Tmp} {ty ty' : TypeId} (h : fn.results = #[.cell p ty, .cell q ty']) (tmps : Array Value) (P : Program) (w : World) :
    (results fn tmps).run P w = ((asAddr (tmps.getD p undef)).run P w).andThen fun a w₁ => ((loadVar ty a).run P w₁).andThen fun v w₂ => ((asAddr (tmps.getD q undef)).run P w₂).andThen fun b w₃ => ((loadVar ty' b).run P w₃).andThen fun u w₄ => .ok (.tuple #[v, u]) w₄ := by
  simp only [results, h]
  simp [Sem.run_bind, Result.andThen]
abbrev rdFnE (a b c : Nat) : Value := .func (.func 122) #[] #[.pointer (some ⟨a, 0, none⟩), .pointer (some ⟨b, 0, none⟩), .pointer (some ⟨c, 0, none⟩)]
structure RtC (w : World) (a b c : Nat) (m : UInt8) (t : ByteArray) (f : Value) : Prop where
  t : w.cell? ⟨a, 0, none⟩ = some (.string t)
  m : w.cell? ⟨b, 0, none⟩ = some (.string (mkZ m))
  f : w.cell? ⟨c, 0, none⟩ = some f
theorem RtC.kept {w w' : World} {a b c : Nat} {m : UInt8} {t : ByteArray} {f : Value} (h : RtC w a b c m t f) (hb : Below w.heap.size w w') : RtC w' a b c m t f :=
  ⟨(hb.cell (p := ⟨a, 0, none⟩) (cell_lt h.t)).trans h.t, (hb.cell (p := ⟨b, 0, none⟩) (cell_lt h.m)).trans h.m, (hb.cell (p := ⟨c, 0, none⟩) (cell_lt h.f)).trans h.f⟩

abbrev reV (m : UInt8) (t : ByteArray) : Value := endV (rdV (hdP (cutZ m t))) (enX (nlL (hdP (cutZ m t).tail))) (enY (nlL (hdP (cutZ m t).tail)))
theorem rp_yes (t : ByteArray) (m : UInt8) (w : World) (ht : t.size ≤ 1048576) (hM : MaxP w) (hT : TabsE w) (hk : reOk m t = true) :
    Calls Tryd.prog 123 #[.string t, .string (mkZ m), .func (.func 70) #[] #[]] w fun e w' => e = .returned (reV m t) ∧ Below w.heap.size w w' := by
  unfold reOk at hk
  rw [Bool.and_eq_true, decide_eq_true_eq] at hk
  exact rpE_yes t m _ _ _ w ht hM hT hk.1 rfl rfl rfl hk.2
theorem rp_no (t : ByteArray) (m : UInt8) (w : World) (ht : t.size ≤ 1048576) (hM : MaxP w) (hT : TabsE w) (hk : reOk m t = false) :
    Calls Tryd.prog 123 #[.string t, .string (mkZ m), .func (.func 70) #[] #[]] w fun e w' => e = rfP ∧ Below w.heap.size w w' := by
  cases h : eOk (hdP (cutZ m t)) (hdP (cutZ m t).tail) with
  | false => exact rpE_no t m w ht hM hT h
  | true =>
    refine rpE_len t m _ _ _ w ht hM hT h rfl rfl rfl (fun e => ?_)
    unfold reOk at hk
    rw [h, decide_eq_true e] at hk
    cases hk
set_option maxHeartbeats 1600000 in
theorem rt1_yes (t : ByteArray) (m : UInt8) (a b c : Nat) (w : World) (hC : RtC w a b c m t (.func (.func 70) #[] #[])) (ht : t.size ≤ 1048576) (hM : MaxP w) (hT : TabsE w) (hk : reOk m t = true) :
    Calls Tryd.prog 122 #[.pointer (some ⟨a, 0, none⟩), .pointer (some ⟨b, 0, none⟩), .pointer (some ⟨c, 0, none⟩)] w fun e w' => e = .returned (reV m t) ∧ Below w.heap.size w w' := by
  have B0 := below_al1 w (.cells #[.int .i64 0, .float .f32 0, .float .f32 0] 48)
  have Q0 := Lib.hid (Cells.made w [.int .i64 0, .float .f32 0, .float .f32 0] 48)
  have HR := Lib.hid (rp_yes t m _ ht (hM.below B0) (hT.below B0) hk)
  obtain ⟨c0, c1, c2⟩ := hC.kept B0
  have BB := Lib.hid B0
  unfold reV endV at HR ⊢
  obtain ⟨k, e1⟩ : ∃ k, rdV (hdP (cutZ m t)) = k := ⟨_, rfl⟩
  obtain ⟨x, e2⟩ : ∃ x, enX (nlL (hdP (cutZ m t).tail)) = x := ⟨_, rfl⟩
  obtain ⟨y, e3⟩ : ∃ y, enY (nlL (hdP (cutZ m t).tail)) = y := ⟨_, rfl⟩
  rw [e1, e2, e3] at HR ⊢
  clear hC hM hT hk B0 e1 e2 e3
  go_enter Tryd.func122, Tryd.ntmps122
  go_wp2_with (go_at_call 123; refine HR.out.mono ?_; rintro e w3 ⟨rfl, hb⟩; have B5 := Lib.hid (below_step BB.out hb); have hQ := Q0.out.kept hb; have q0 := hQ.at 0 rfl; have q1 := hQ.at 1 rfl; have q2 := hQ.at 2 rfl; have qf := hQ.fz; clear hQ hb)
  have HF := Lib.hid (((B5.out.setCell (p := ⟨w.heap.size, 0, none⟩) (Nat.le_refl _) (.int .i64 k)).setCell (p := ⟨w.heap.size, 1, none⟩) (Nat.le_refl _) (.float .f32 x)).setCell (p := ⟨w.heap.size, 2, none⟩) (Nat.le_refl _) (.float .f32 y))
  refine bodyPost_ret (v := .agg #[.int .i64 k, .float .f32 x, .float .f32 y]) ?_ rfl ?_
  · rw [results_cell1 rfl]
    go_simp
  · exact ⟨rfl, HF.out⟩
theorem rt1_no (t : ByteArray) (m : UInt8) (a b c : Nat) (w : World) (hC : RtC w a b c m t (.func (.func 70) #[] #[])) (ht : t.size ≤ 1048576) (hM : MaxP w) (hT : TabsE w) (hk : reOk m t = false) :
    Calls Tryd.prog 122 #[.pointer (some ⟨a, 0, none⟩), .pointer (some ⟨b, 0, none⟩), .pointer (some ⟨c, 0, none⟩)] w fun e w' => e = rfP ∧ Below w.heap.size w w' := by
  have B0 := below_al1 w (.cells #[.int .i64 0, .float .f32 0, .float .f32 0] 48)
  have HR := Lib.hid (rp_no t m _ ht (hM.below B0) (hT.below B0) hk)
  obtain ⟨c0, c1, c2⟩ := hC.kept B0
  have BB := Lib.hid B0
  clear hC hM hT hk B0
  go_enter Tryd.func122, Tryd.ntmps122
  go_wp2_with (go_at_call 123; refine HR.out.mono ?_; rintro e w3 ⟨rfl, hb⟩; exact ⟨rfl, rfl, below_step BB.out hb⟩)

set_option maxHeartbeats 1600000 in
set_option maxRecDepth 8000 in
theorem att_yes (t : ByteArray) (m : UInt8) (a b c : Nat) (w : World) (hC : RtC w a b c m t (.func (.func 70) #[] #[])) (ht : t.size ≤ 1048576) (hM : MaxP w) (hT : TabsE w) (hk : reOk m t = true) :
    Calls Tryd.prog 121 #[rdFnE a b c] w fun e w' => e = .returned (.tuple #[reV m t, .nilIface]) ∧ Below w.heap.size w w' := by
  have hmf : ∀ (fn : Fn) (first cap : Array Value) (w : World), (Instr.makeFunc fn first cap).run Tryd.prog w = .ok (.func fn first cap) w := fun _ _ _ _ => rfl
  have B0 := below_al2 w (.cells #[.int .i64 0, .float .f32 0, .float .f32 0] 48) (.cells #[.nilIface] 73)
  have X0 := Lib.hid ((Cells.made w [.int .i64 0, .float .f32 0, .float .f32 0] 48).al (.cells #[.nilIface] 73))
  have E0 := Cells.made (w.alloc (.cells [Value.int .i64 0, .float .f32 0, .float .f32 0].toArray 48)) [.nilIface] 73
  rw [show (w.alloc (.cells [Value.int .i64 0, .float .f32 0, .float .f32 0].toArray 48)).heap.size = w.heap.size + 1 from by simp] at E0
  have E0 := Lib.hid E0
  have HR := Lib.hid (rt1_yes t m a b c _ (hC.kept B0) ht (hM.below B0) (hT.below B0) hk)
  have BB := Lib.hid B0
  unfold reV endV at HR ⊢
  obtain ⟨k, e1⟩ : ∃ k, rdV (hdP (cutZ m t)) = k := ⟨_, rfl⟩
  obtain ⟨x, e2⟩ : ∃ x, enX (nlL (hdP (cutZ m t).tail)) = x := ⟨_, rfl⟩
  obtain ⟨y, e3⟩ : ∃ y, enY (nlL (hdP (cutZ m t).tail)) = y := ⟨_, rfl⟩
  rw [e1, e2, e3] at HR ⊢
  clear hC hM hT hk B0 e1 e2 e3
  go_enter_defers Tryd.func121, Tryd.ntmps121
  go_wp2_with (go_at_call 122; refine HR.out.mono ?_; rintro e w3 ⟨rfl, hb⟩; have B5 := Lib.hid (below_step BB.out hb); have hX := X0.out.kept hb; have hE := E0.out.kept hb; have x0 := hX.at 0 rfl; have x1 := hX.at 1 rfl; have x2 := hX.at 2 rfl; have xf := hX.fz; have y0 := hE.at 0 rfl; have yf := hE.fz; clear hX hE hb)
  have HF := Lib.hid ((((B5.out.setCell (p := ⟨w.heap.size, 0, none⟩) (Nat.le_refl _) (.int .i64 k)).setCell (p := ⟨w.heap.size, 1, none⟩) (Nat.le_refl _) (.float .f32 x)).setCell (p := ⟨w.heap.size, 2, none⟩) (Nat.le_refl _) (.float .f32 y)).setCell (p := ⟨w.heap.size + 1, 0, none⟩) (Nat.le_succ _) .nilIface)
  refine leaves_cons (f := 164) (args := #[.pointer (some ⟨w.heap.size + 1, 0, none⟩)]) (by simp) (by simp [go_sem]) ?_
  refine (catchE_idle _ _).mono ?_
  rintro e u' w'' ⟨rfl, rfl, rfl⟩
  refine ⟨.tuple #[.agg #[.int .i64 k, .float .f32 x, .float .f32 y], .nilIface], ?_, rfl, HF.out⟩
  rw [results_cell2 rfl]
  go_simp
set_option maxHeartbeats 1600000 in
set_option maxRecDepth 8000 in
theorem att_no (t : ByteArray) (m : UInt8) (a b c : Nat) (w : World) (hC : RtC w a b c m t (.func (.func 70) #[] #[])) (ht : t.size ≤ 1048576) (hM : MaxP w) (hT : TabsE w) (hk : reOk m t = false) :
    Calls Tryd.prog 121 #[rdFnE a b c] w fun e w' => e = .returned (.tuple #[endV 0 0 0, rfV]) ∧ Below w.heap.size w w' := by
  have hmf : ∀ (fn : Fn) (first cap : Array Value) (w : World), (Instr.makeFunc fn first cap).run Tryd.prog w = .ok (.func fn first cap) w := fun _ _ _ _ => rfl
  have B0 := below_al2 w (.cells #[.int .i64 0, .float .f32 0, .float .f32 0] 48) (.cells #[.nilIface] 73)
  have X0 := Lib.hid ((Cells.made w [.int .i64 0, .float .f32 0, .float .f32 0] 48).al (.cells #[.nilIface] 73))
  have E0 := Cells.made (w.alloc (.cells [Value.int .i64 0, .float .f32 0, .float .f32 0].toArray 48)) [.nilIface] 73
  rw [show (w.alloc (.cells [Value.int .i64 0, .float .f32 0, .float .f32 0].toArray 48)).heap.size = w.heap.size + 1 from by simp] at E0
  have E0 := Lib.hid E0
  have HR := Lib.hid (rt1_no t m a b c _ (hC.kept B0) ht (hM.below B0) (hT.below B0) hk)
  have BB := Lib.hid B0
  unfold endV
  clear hC hM hT hk B0
  go_enter_defers Tryd.func121, Tryd.ntmps121
  go_wp2_with (go_at_call 122; refine HR.out.mono ?_; rintro e w3 ⟨rfl, hb⟩; have B5 := Lib.hid (below_step BB.out hb); have hX := X0.out.kept hb; have hE := E0.out.kept hb; have x0 := hX.at 0 rfl; have x1 := hX.at 1 rfl; have x2 := hX.at 2 rfl; have xf := hX.fz; have y0 := hE.at 0 rfl; have yf := hE.fz; clear hX hE hb)
  refine leaves_cons (f := 164) (args := #[.pointer (some ⟨w.heap.size + 1, 0, none⟩)]) (by simp) (by simp [go_sem]) ?_
  refine (catchE_panic _ [] w3 y0 (yf 0)).mono ?_
  rintro e u' w'' ⟨rfl, rfl, rfl⟩
  have HF := Lib.hid (B5.out.setCell (p := ⟨w.heap.size + 1, 0, none⟩) (Nat.le_succ _) rfV)
  refine ⟨.tuple #[.agg #[.int .i64 0, .float .f32 0, .float .f32 0], rfV], ?_, rfl, HF.out⟩
  rw [results_cell2 rfl]
  go_simp

/-- what reading an end answers -/
def ReB (t : ByteArray) (w : World) (e : Ending) (w' : World) : Prop := e = .returned (.tuple #[if reOk 58 t then reV 58 t else endV 0 0 0, .bool (reOk 58 t)]) ∧ Below w.heap.size w w'
theorem cells_box (w : World) (v : Value) (T : TypeId) : Cells (w.alloc (.cells #[v] T)) w.heap.size [v] := Cells.made w [v] T
set_option maxHeartbeats 1600000 in
set_option maxRecDepth 8000 in
theorem readTextE_any (t : ByteArray) (w : World) (ht : t.size ≤ 1048576) (hM : MaxP w) (hT : TabsE w) :
    Calls Tryd.prog 69 #[.string t, .string (mkZ 58), .func (.func 70) #[] #[]] w (ReB t w) := by
  have hmf : ∀ (fn : Fn) (first cap : Array Value) (w : World), (Instr.makeFunc fn first cap).run Tryd.prog w = .ok (.func fn first cap) w := fun _ _ _ _ => rfl
  have heq1 : ∀ w : World, (binOp BinOp.eql 73 .nilIface .nilIface).run Tryd.prog w = .ok (.bool true) w := fun _ => by kernel_rfl
  have heq2 : ∀ w : World, (binOp BinOp.eql 73 rfV .nilIface).run Tryd.prog w = .ok (.bool false) w := fun _ => by kernel_rfl
  obtain ⟨W, hW⟩ : ∃ W, W = (((w.alloc (.cells #[.string t] 9)).alloc (.cells #[.string (mkZ 58)] 9)).alloc (.cells #[.func (.func 70) #[] #[]] 100)).alloc (.cells #[.int .i64 0, .float .f32 0, .float .f32 0] 48) := ⟨_, rfl⟩
  have BW : Below w.heap.size w W := by rw [hW]; exact below_al4 _ _ _ _ _
  have CW : RtC W w.heap.size (w.heap.size + 1) (w.heap.size + 2) 58 t (.func (.func 70) #[] #[]) := by
    rw [hW]
    constructor <;> go_simp
  have QW : Cells W (w.heap.size + 3) [.int .i64 0, .float .f32 0, .float .f32 0] := by
    have h := Cells.made (((w.alloc (.cells #[.string t] 9)).alloc (.cells #[.string (mkZ 58)] 9)).alloc (.cells #[.func (.func 70) #[] #[]] 100)) [.int .i64 0, .float .f32 0, .float .f32 0] 48
    rw [show ((((w.alloc (.cells #[.string t] 9)).alloc (.cells #[.string (mkZ 58)] 9)).alloc (.cells #[.func (.func 70) #[] #[]] 100)).heap.size = w.heap.size + 3) from by simp] at h
    rw [hW]
    exact h
  have HY := Lib.hid (fun h4 => att_yes t 58 _ _ _ W CW ht (hM.below BW) (hT.below BW) h4)
  have HN := Lib.hid (fun h4 => att_no t 58 _ _ _ W CW ht (hM.below BW) (hT.below BW) h4)
  have BB := Lib.hid BW
  have QQ := Lib.hid QW
  unfold ReB
  cases hk : reOk 58 t with
  | true =>
    have HR := Lib.hid (HY.out hk)
    unfold reV endV at HR ⊢
    obtain ⟨k, e1⟩ : ∃ k, rdV (hdP (cutZ 58 t)) = k := ⟨_, rfl⟩
    obtain ⟨x, e2⟩ : ∃ x, enX (nlL (hdP (cutZ 58 t).tail)) = x := ⟨_, rfl⟩
    obtain ⟨y, e3⟩ : ∃ y, enY (nlL (hdP (cutZ 58 t).tail)) = y := ⟨_, rfl⟩
    rw [e1, e2, e3] at HR ⊢
    clear hM hT hk e1 e2 e3 BW CW QW HY HN
    go_enter Tryd.func69, Tryd.ntmps69
    go_wp2_with fail
    rw [← hW]
    refine HR.out.mono ?_
    rintro e w3 ⟨rfl, hb⟩
    have Q3 := Lib.hid (QQ.out.kept hb)
    have B3 := Lib.hid (below_step BB.out hb)
    have EW : Hid (∀ w4, w4 = w3.alloc (.cells #[.int .i64 k, .float .f32 x, .float .f32 y] 48) → Cells w4 w3.heap.size [.int .i64 k, .float .f32 x, .float .f32 y] ∧ Cells w4 (w.heap.size + 3) [.int .i64 0, .float .f32 0, .float .f32 0] ∧ Below w.heap.size w w4) := Lib.hid (fun w4 e => by
      have b := below_al1 w3 (.cells #[.int .i64 k, .float .f32 x, .float .f32 y] 48)
      rw [← e] at b
      refine ⟨?_, Q3.out.kept b, below_step B3.out b⟩
      rw [e]
      exact Cells.made w3 [.int .i64 k, .float .f32 x, .float .f32 y] 48)
    clear hb hW
    go_wp2
    obtain ⟨w4, hw4⟩ : ∃ w4, w4 = w3.alloc (.cells #[.int .i64 k, .float .f32 x, .float .f32 y] 48) := ⟨_, rfl⟩
    rw [← hw4]
    obtain ⟨hE, hQ, hB⟩ := EW.out w4 hw4
    have d0 := hE.at 0 rfl; have d1 := hE.at 1 rfl; have d2 := hE.at 2 rfl
    have q0 := hQ.at 0 rfl; have q1 := hQ.at 1 rfl; have q2 := hQ.at 2 rfl; have qf := hQ.fz
    have B4 := Lib.hid hB
    clear hw4 EW hE hQ hB
    go_region
    have HF := Lib.hid (below_drewN (((B4.out.setCell (p := ⟨w.heap.size + 3, 0, none⟩) (Nat.le_add_right _ _) (.int .i64 k)).setCell (p := ⟨w.heap.size + 3, 1, none⟩) (Nat.le_add_right _ _) (.float .f32 x)).setCell (p := ⟨w.heap.size + 3, 2, none⟩) (Nat.le_add_right _ _) (.float .f32 y)) 1)
    go_wp2
    refine bodyPost_ret (v := .tuple #[.agg #[.int .i64 k, .float .f32 x, .float .f32 y], .bool true]) ?_ rfl ?_
    · rw [results_cell_tmp rfl]
      go_simp
    · exact ⟨rfl, HF.out⟩
  | false =>
    have HR := Lib.hid (HN.out hk)
    unfold endV at HR ⊢
    clear hM hT hk BW CW QW HY HN
    go_enter Tryd.func69, Tryd.ntmps69
    go_wp2_with fail
    rw [← hW]
    refine HR.out.mono ?_
    rintro e w3 ⟨rfl, hb⟩
    have Q3 := Lib.hid (QQ.out.kept hb)
    have B3 := Lib.hid (below_step BB.out hb)
    have EW : Hid (∀ w4, w4 = w3.alloc (.cells #[.int .i64 0, .float .f32 0, .float .f32 0] 48) → Cells w4 w3.heap.size [.int .i64 0, .float .f32 0, .float .f32 0] ∧ Cells w4 (w.heap.size + 3) [.int .i64 0, .float .f32 0, .float .f32 0] ∧ Below w.heap.size w w4) := Lib.hid (fun w4 e => by
      have b := below_al1 w3 (.cells #[.int .i64 0, .float .f32 0, .float .f32 0] 48)
      rw [← e] at b
      refine ⟨?_, Q3.out.kept b, below_step B3.out b⟩
      rw [e]
      exact Cells.made w3 [.int .i64 0, .float .f32 0, .float .f32 0] 48)
    clear hb hW
    go_wp2
    obtain ⟨w4, hw4⟩ : ∃ w4, w4 = w3.alloc (.cells #[.int .i64 0, .float .f32 0, .float .f32 0] 48) := ⟨_, rfl⟩
    rw [← hw4]
    obtain ⟨hE, hQ, hB⟩ := EW.out w4 hw4
    have d0 := hE.at 0 rfl; have d1 := hE.at 1 rfl; have d2 := hE.at 2 rfl
    have q0 := hQ.at 0 rfl; have q1 := hQ.at 1 rfl; have q2 := hQ.at 2 rfl; have qf := hQ.fz
    have B4 := Lib.hid hB
    clear hw4 EW hE hQ hB
    go_region
    have HF := Lib.hid (below_drewN (((B4.out.setCell (p := ⟨w.heap.size + 3, 0, none⟩) (Nat.le_add_right _ _) (.int .i64 0)).setCell (p := ⟨w.heap.size + 3, 1, none⟩) (Nat.le_add_right _ _) (.float .f32 0)).setCell (p := ⟨w.heap.size + 3, 2, none⟩) (Nat.le_add_right _ _) (.float .f32 0)) 1)
    go_wp2
    refine bodyPost_ret (v := .tuple #[.agg #[.int .i64 0, .float .f32 0, .float .f32 0], .bool false]) ?_ rfl ?_
    · rw [results_cell_tmp rfl]
      go_simp
    · exact ⟨rfl, HF.out⟩
set_option maxHeartbeats 1600000 in
theorem implReadEnd_any (t : ByteArray) (w : World) (ht : t.size ≤ 1048576) (hM : MaxP w) (hT : TabsE w) : Calls Tryd.prog 32 #[.string t] w (ReB t w) := by
  have B0 := below_al1 w (.cells #[.int .i64 0, .float .f32 0, .float .f32 0] 48)
  have Q0 := Lib.hid (Cells.made w [.int .i64 0, .float .f32 0, .float .f32 0] 48)
  have HR := Lib.hid (readTextE_any t _ ht (hM.below B0) (hT.below B0))
  have BB := Lib.hid B0
  unfold ReB at HR ⊢
  obtain ⟨b, hb⟩ : ∃ b, reOk 58 t = b := ⟨_, rfl⟩
  rw [hb] at HR ⊢
  obtain ⟨k, x, y, hv⟩ : ∃ k x y, (if b = true then reV 58 t else endV 0 0 0) = endV k x y := by
    cases b
    · exact ⟨_, _, _, rfl⟩
    · exact ⟨_, _, _, rfl⟩
  rw [hv] at HR ⊢
  unfold endV at HR ⊢
  clear hM hT hb hv B0
  go_enter Tryd.func32, Tryd.ntmps32
  go_wp2_with (go_at_call 69; refine HR.out.mono ?_; rintro e w3 ⟨rfl, hb⟩; have B5 := Lib.hid (below_step BB.out hb); have hQ := Q0.out.kept hb; have q0 := hQ.at 0 rfl; have q1 := hQ.at 1 rfl; have q2 := hQ.at 2 rfl; have qf := hQ.fz; clear hQ hb)
  have HF := Lib.hid (((B5.out.setCell (p := ⟨w.heap.size, 0, none⟩) (Nat.le_refl _) (.int .i64 k)).setCell (p := ⟨w.heap.size, 1, none⟩) (Nat.le_refl _) (.float .f32 x)).setCell (p := ⟨w.heap.size, 2, none⟩) (Nat.le_refl _) (.float .f32 y))
  refine bodyPost_ret (v := .tuple #[.agg #[.int .i64 k, .float .f32 x, .float .f32 y], .bool b]) ?_ rfl ?_
  · rw [results_cell_tmp rfl]
    go_simp
  · exact ⟨rfl, HF.out⟩
end Go.Proofs.YtncjkhdnpioinaaDoor

/- Ends read from a text: the specification, and the law's walk. -/
namespace Go.Proofs.YtncjkhdnpioinaaDoor
open Go.RowKit
set_option linter.unusedVariables false

theorem specVal_any (x : ByteArray) (w : World) : Calls Tryd.prog 118 #[.string x] w (RdB x w) :=
  if h : 1 ≤ x.size ∧ x.size ≤ 17 then specRd_in x w h.1 h.2 else specRd_out x w h
theorem two_of {ps : List ByteArray} (h : ps.length = 2) : ps = [hdP ps, hdP ps.tail] := by
  match ps, h with
  | [a, b], _ => rfl

set_option maxHeartbeats 6400000 in
set_option maxRecDepth 10000 in
theorem specRe_any (t : ByteArray) (w : World) (ht : t.size ≤ 1048576) : Calls Tryd.prog 68 #[.string t] w (ReB t w) := by
  have B0 := below_al1 w (.cells #[.int .i64 0, .float .f32 0, .float .f32 0] 48)
  have Q0 := Lib.hid (Cells.made w [.int .i64 0, .float .f32 0, .float .f32 0] 48)
  have HC := Lib.hid (fun w1 => specCut_any t 58 58 rfl w1 ht)
  have HNo : Hid (reOk 58 t = false → ∀ w', Below w.heap.size w w' → ReB t w (.returned (.tuple #[.agg #[.int .i64 0, .float .f32 0, .float .f32 0], .bool false])) w') := Lib.hid (fun h w' hb => ⟨by rw [h]; rfl, hb⟩)
  have BB := Lib.hid B0
  by_cases h2 : (cutZ 58 t).length = 2
  · have hps := two_of h2
    have hz1 := part_le 58 t.size t (Nat.le_refl _) (hdP (cutZ 58 t).tail) (by rw [hps]; simp)
    have HYes : Hid (reOk 58 t = true → ∀ w', Below w.heap.size w w' → ReB t w (.returned (.tuple #[reV 58 t, .bool true])) w') := Lib.hid (fun h w' hb => ⟨by rw [h]; rfl, hb⟩)
    have HB0 : Hid (reOk 58 t = eOk (hdP (cutZ 58 t)) (hdP (cutZ 58 t).tail)) := Lib.hid (by unfold reOk; rw [decide_eq_true h2, Bool.and_true])
    rw [HB0.out] at HNo HYes
    unfold reV endV at HYes
    unfold eOk at HNo HYes
    obtain ⟨p0, e0⟩ : ∃ p0, hdP (cutZ 58 t) = p0 := ⟨_, rfl⟩
    obtain ⟨p1, e1⟩ : ∃ p1, hdP (cutZ 58 t).tail = p1 := ⟨_, rfl⟩
    rw [e0, e1] at HNo HYes hps
    rw [e1] at hz1
    rw [hps] at HC
    have HV := Lib.hid (fun w1 => specVal_any p0 w1)
    have HN := Lib.hid (fun w1 => specNl_any p1 w1 (by omega))
    unfold RdB at HV
    unfold RnL at HN
    obtain ⟨k, hk⟩ : ∃ k, rdV p0 = k := ⟨_, rfl⟩
    obtain ⟨L, hL⟩ : ∃ L, nlL p1 = L := ⟨_, rfl⟩
    obtain ⟨b0, hb0⟩ : ∃ b, rdOk p0 = b := ⟨_, rfl⟩
    obtain ⟨b1, hb1⟩ : ∃ b, nlOk p1 = b := ⟨_, rfl⟩
    rw [hk, hb0] at HV HNo HYes
    rw [hL, hb1] at HN HNo HYes
    have HLl := Lib.hid (show L.length ≤ 256 by rw [← hL]; exact nlL_le p1)
    clear B0 h2 hps e0 e1 HB0 hz1 hk hL hb0 hb1
    go_enter Tryd.func68, Tryd.ntmps68
    go_wp2_with fail
    refine (HC.out _).mono ?_
    rintro e w1 ⟨v, rfl, ho, hb⟩
    obtain ⟨g, cap, rfl⟩ := ho.openS (by simp)
    have z0 : w1.cell? ⟨g, 0, none⟩ = some (.string p0) := ho.cellAt 0 (by simp)
    have z1 : w1.cell? ⟨g, 1, none⟩ = some (.string p1) := ho.cellAt 1 (by simp)
    have Q1 := Lib.hid (Q0.out.kept hb)
    have B1 := Lib.hid (below_step BB.out hb)
    have hl2 : ([p0, p1] : List ByteArray).length = 2 := rfl
    rw [hl2]
    clear ho hb hl2
    go_wp2_with fail
    refine (HV.out _).mono ?_
    rintro e w2 ⟨rfl, hb⟩
    have z1 := (hb.cell (p := ⟨g, 1, none⟩) (cell_lt z1)).trans z1
    have Q2 := Lib.hid (Q1.out.kept hb)
    have B2 := Lib.hid (below_step B1.out hb)
    clear hb z0
    go_wp2_with fail
    refine (HN.out _).mono ?_
    rintro e w3 ⟨v, rfl, hr, hb⟩
    have Q3 := Lib.hid (Q2.out.kept hb)
    have B3 := Lib.hid (below_step B2.out hb)
    have R3 := Lib.hid hr
    obtain ⟨a, cap', rfl⟩ := hr.shape
    have hm : L.length ≤ 256 := HLl.out
    clear hb z1 hr
    cases b0 with
    | false =>
      have HR := Lib.hid (HNo.out rfl)
      have hQ := Q3.out
      have q0 := hQ.at 0 rfl; have q1 := hQ.at 1 rfl; have q2 := hQ.at 2 rfl; have qf := hQ.fz
      have HF := Lib.hid (((B3.out.setCell (p := ⟨w.heap.size, 0, none⟩) (Nat.le_refl _) (.int .i64 0)).setCell (p := ⟨w.heap.size, 1, none⟩) (Nat.le_refl _) (.float .f32 0)).setCell (p := ⟨w.heap.size, 2, none⟩) (Nat.le_refl _) (.float .f32 0))
      clear hQ
      go_wp2
      refine bodyPost_ret (v := .tuple #[.agg #[.int .i64 0, .float .f32 0, .float .f32 0], .bool false]) ?_ rfl ?_
      · rw [results_cell_tmp rfl]
        go_simp
      · exact HR.out _ HF.out
    | true =>
      cases b1 with
      | false =>
        have HR := Lib.hid (HNo.out (by simp))
        have hQ := Q3.out
        have q0 := hQ.at 0 rfl; have q1 := hQ.at 1 rfl; have q2 := hQ.at 2 rfl; have qf := hQ.fz
        have HF := Lib.hid (((B3.out.setCell (p := ⟨w.heap.size, 0, none⟩) (Nat.le_refl _) (.int .i64 0)).setCell (p := ⟨w.heap.size, 1, none⟩) (Nat.le_refl _) (.float .f32 0)).setCell (p := ⟨w.heap.size, 2, none⟩) (Nat.le_refl _) (.float .f32 0))
        clear hQ
        go_wp2
        refine bodyPost_ret (v := .tuple #[.agg #[.int .i64 0, .float .f32 0, .float .f32 0], .bool false]) ?_ rfl ?_
        · rw [results_cell_tmp rfl]
          go_simp
        · exact HR.out _ HF.out
      | true =>
        by_cases hl : L.length = 2
        · obtain ⟨b3, o3, c3, e3, hc3⟩ := R3.out.cells (by omega)
          cases e3
          have z0 : w3.cell? ⟨b3, o3, none⟩ = some (.float .f32 (enX L)) := hc3 0 (by omega)
          have z1 : w3.cell? ⟨b3, o3 + 1, none⟩ = some (.float .f32 (enY L)) := hc3 1 (by omega)
          have HV2 : Hid (∀ b, vEnd k (enX L) (enY L) = b → (true && (decide (true = true ∧ L.length = 2) && vEnd k (enX L) (enY L))) = b) := Lib.hid (fun b h => by rw [h, decide_eq_true ⟨rfl, hl⟩]; rfl)
          have HLL := Lib.hid hl
          obtain ⟨x, hx⟩ : ∃ x, enX L = x := ⟨_, rfl⟩
          obtain ⟨y, hy⟩ : ∃ y, enY L = y := ⟨_, rfl⟩
          rw [hx] at z0
          rw [hy] at z1
          rw [hx, hy] at HNo HYes HV2
          rw [hl]
          clear hc3 hm hl hx hy R3
          have y0 := ((below_al1 w3 (.cells #[.int .i64 0, .float .f32 0, .float .f32 0] 48)).cell (p := ⟨b3, o3, none⟩) (cell_lt z0)).trans z0
          have y1 := ((below_al1 w3 (.cells #[.int .i64 0, .float .f32 0, .float .f32 0] 48)).cell (p := ⟨b3, o3 + 1, none⟩) (cell_lt z1)).trans z1
          have EW : Hid (∀ w4, w4 = (w3.alloc (.cells #[.int .i64 k, .float .f32 x, .float .f32 y] 48)).drew → Cells w4 w3.heap.size [.int .i64 k, .float .f32 x, .float .f32 y] ∧ Cells w4 w.heap.size [.int .i64 0, .float .f32 0, .float .f32 0] ∧ Below w.heap.size w w4) := Lib.hid (fun w4 e => by
            have b := below_al1 w3 (.cells #[.int .i64 k, .float .f32 x, .float .f32 y] 48)
            have b4 : Below w3.heap.size w3 w4 := by rw [e]; exact below_drewN b 1
            refine ⟨?_, Q3.out.kept b4, below_step B3.out b4⟩
            rw [e]
            exact (Cells.made w3 [.int .i64 k, .float .f32 x, .float .f32 y] 48).drewN (n := 1))
          have hne : ¬ w3.heap.size = w.heap.size := by have := B3.out.size; have := Q3.out.lt; omega
          go_wp2
          go_region
          obtain ⟨w4, hw4⟩ : ∃ w4, w4 = (w3.alloc (.cells #[.int .i64 k, .float .f32 x, .float .f32 y] 48)).drew := ⟨_, rfl⟩
          rw [← hw4]
          obtain ⟨hE, hQ, hB⟩ := EW.out w4 hw4
          have d0 := hE.at 0 rfl; have d1 := hE.at 1 rfl; have d2 := hE.at 2 rfl
          have Q4 := Lib.hid hQ
          have B4 := Lib.hid hB
          clear hw4 EW hE hQ hB z0 z1 y0 y1
          have HE := Lib.hid (specEnd_any k x y w3.heap.size w4 d0 d1 d2)
          cases hv : vEnd k x y with
          | false =>
            rw [hv] at HE
            have HR := Lib.hid (HNo.out (HV2.out _ hv))
            clear hv
            go_wp2_with fail
            refine HE.out.mono ?_
            rintro e w5 ⟨rfl, n5, rfl⟩
            have Q5 := Lib.hid (Q4.out.drewN (n := n5))
            have B5 := Lib.hid (below_drewN B4.out n5)
            have hQ := Q5.out
            have q0 := hQ.at 0 rfl; have q1 := hQ.at 1 rfl; have q2 := hQ.at 2 rfl; have qf := hQ.fz
            have HF := Lib.hid (((B5.out.setCell (p := ⟨w.heap.size, 0, none⟩) (Nat.le_refl _) (.int .i64 0)).setCell (p := ⟨w.heap.size, 1, none⟩) (Nat.le_refl _) (.float .f32 0)).setCell (p := ⟨w.heap.size, 2, none⟩) (Nat.le_refl _) (.float .f32 0))
            clear hQ
            go_wp2
            refine bodyPost_ret (v := .tuple #[.agg #[.int .i64 0, .float .f32 0, .float .f32 0], .bool false]) ?_ rfl ?_
            · rw [results_cell_tmp rfl]
              go_simp
            · exact HR.out _ HF.out
          | true =>
            rw [hv] at HE
            have HR := Lib.hid (HYes.out (HV2.out _ hv))
            clear hv
            go_wp2_with fail
            refine HE.out.mono ?_
            rintro e w5 ⟨rfl, n5, rfl⟩
            have hQ := Q4.out.drewN (n := n5)
            have q0 := hQ.at 0 rfl; have q1 := hQ.at 1 rfl; have q2 := hQ.at 2 rfl; have qf := hQ.fz
            have HF := Lib.hid ((((below_drewN B4.out n5).setCell (p := ⟨w.heap.size, 0, none⟩) (Nat.le_refl _) (.int .i64 k)).setCell (p := ⟨w.heap.size, 1, none⟩) (Nat.le_refl _) (.float .f32 x)).setCell (p := ⟨w.heap.size, 2, none⟩) (Nat.le_refl _) (.float .f32 y))
            clear hQ
            go_wp2
            refine bodyPost_ret (v := .tuple #[.agg #[.int .i64 k, .float .f32 x, .float .f32 y], .bool true]) ?_ rfl ?_
            · rw [results_cell_tmp rfl]
              go_simp
            · exact HR.out _ HF.out
        · have HR := Lib.hid (HNo.out (by rw [decide_eq_false (fun h => hl h.2)]; rfl))
          obtain ⟨n, hn⟩ : ∃ n, L.length = n := ⟨_, rfl⟩
          rw [hn] at hm hl ⊢
          have hq : ((n : Int) == 2) = false := by simp; omega
          clear hn R3
          have hQ := Q3.out
          have q0 := hQ.at 0 rfl; have q1 := hQ.at 1 rfl; have q2 := hQ.at 2 rfl; have qf := hQ.fz
          have HF := Lib.hid (((B3.out.setCell (p := ⟨w.heap.size, 0, none⟩) (Nat.le_refl _) (.int .i64 0)).setCell (p := ⟨w.heap.size, 1, none⟩) (Nat.le_refl _) (.float .f32 0)).setCell (p := ⟨w.heap.size, 2, none⟩) (Nat.le_refl _) (.float .f32 0))
          clear hQ
          go_wp2
          refine bodyPost_ret (v := .tuple #[.agg #[.int .i64 0, .float .f32 0, .float .f32 0], .bool false]) ?_ rfl ?_
          · rw [results_cell_tmp rfl]
            go_simp
          · exact HR.out _ HF.out
  · have hno : reOk 58 t = false := by unfold reOk; rw [decide_eq_false h2, Bool.and_false]
    have HR := Lib.hid (HNo.out hno)
    have hle := cutZ_le 58 t
    obtain ⟨ps, hps⟩ : ∃ ps, cutZ 58 t = ps := ⟨_, rfl⟩
    rw [hps] at HC h2 hle
    clear B0 hno hps
    go_enter Tryd.func68, Tryd.ntmps68
    go_wp2_with fail
    refine (HC.out _).mono ?_
    rintro e w1 ⟨v, rfl, ho, hb⟩
    have hsh : ∃ a c, v = .slice a ps.length c := by
      rcases ho.2 with ⟨h1, h0⟩ | ⟨g, cap, cur, e, _⟩
      · exact ⟨none, 0, by rw [h1, h0]⟩
      · exact ⟨_, _, e⟩
    obtain ⟨a, cap, rfl⟩ := hsh
    obtain ⟨n, hn⟩ : ∃ n, ps.length = n := ⟨_, rfl⟩
    rw [hn] at h2 hle ⊢
    have hq : ((n : Int) == 2) = false := by simp; omega
    have Q1 := Lib.hid (Q0.out.kept hb)
    have B1 := Lib.hid (below_step BB.out hb)
    clear ho hb hn
    have hQ := Q1.out
    have q0 := hQ.at 0 rfl; have q1 := hQ.at 1 rfl; have q2 := hQ.at 2 rfl; have qf := hQ.fz
    have HF := Lib.hid (((B1.out.setCell (p := ⟨w.heap.size, 0, none⟩) (Nat.le_refl _) (.int .i64 0)).setCell (p := ⟨w.heap.size, 1, none⟩) (Nat.le_refl _) (.float .f32 0)).setCell (p := ⟨w.heap.size, 2, none⟩) (Nat.le_refl _) (.float .f32 0))
    clear hQ
    go_wp2
    refine bodyPost_ret (v := .tuple #[.agg #[.int .i64 0, .float .f32 0, .float .f32 0], .bool false]) ?_ rfl ?_
    · rw [results_cell_tmp rfl]
      go_simp
    · exact HR.out _ HF.out
end Go.Proofs.YtncjkhdnpioinaaDoor

/- ReadEnd: the law's walk. -/
namespace Go.Proofs.YtncjkhdnpioinaaDoor
open Go.RowKit
set_option linter.unusedVariables false

theorem eqEnd_any (k : Int) (x y : Nat) (w : World) : Calls Tryd.prog 33 #[.agg #[.int .i64 k, .float .f32 x, .float .f32 y], .agg #[.int .i64 k, .float .f32 x, .float .f32 y]] w fun e w' => e = .returned (.bool true) ∧ Below w.heap.size w w' := by
  have q : (k == k) = true := by simp
  go_enter Tryd.func33, Tryd.ntmps33
  go_wp2_with (first | (refine wpList_up rfl Tryd.underlying46 Tryd.underlying102 _ rfl _ rfl ?_; intro _ _ _) | (go_at_call 77; refine (same_end _ (by assumption) (by assumption) rfl).mono ?_; rintro e w' ⟨rfl, m, rfl⟩))
  go_ret
  exact ⟨rfl, (by repeat (first | exact Below.refl _ _ | refine Below.setCell ?_ (by first | exact Nat.le_refl _ | (simp; done) | (simp; omega) | omega) _ | refine below_drewN ?_ _ | refine Below.alloc ?_ (by first | exact Nat.le_refl _ | (simp; done) | (simp; omega) | omega) _))⟩
theorem specReadEnd_any (t : ByteArray) (w : World) (ht : t.size ≤ 1048576) : Calls Tryd.prog 31 #[.string t] w (ReB t w) := by
  have B0 := below_al1 w (.cells #[.int .i64 0, .float .f32 0, .float .f32 0] 48)
  have Q0 := Lib.hid (Cells.made w [.int .i64 0, .float .f32 0, .float .f32 0] 48)
  have HR := Lib.hid (specRe_any t (w.alloc (.cells #[.int .i64 0, .float .f32 0, .float .f32 0] 48)) ht)
  have BB := Lib.hid B0
  unfold ReB at HR ⊢
  obtain ⟨b, hb⟩ : ∃ b, reOk 58 t = b := ⟨_, rfl⟩
  rw [hb] at HR ⊢
  obtain ⟨k, x, y, hv⟩ : ∃ k x y, (if b = true then reV 58 t else endV 0 0 0) = endV k x y := by
    cases b
    · exact ⟨_, _, _, rfl⟩
    · exact ⟨_, _, _, rfl⟩
  rw [hv] at HR ⊢
  unfold endV at HR ⊢
  clear hb hv B0
  go_enter Tryd.func31, Tryd.ntmps31
  go_wp2_with (go_at_call 68; refine HR.out.mono ?_; rintro e w3 ⟨rfl, hb⟩; have B5 := Lib.hid (below_step BB.out hb); have hQ := Q0.out.kept hb; have q0 := hQ.at 0 rfl; have q1 := hQ.at 1 rfl; have q2 := hQ.at 2 rfl; have qf := hQ.fz; clear hQ hb)
  have HF := Lib.hid (((B5.out.setCell (p := ⟨w.heap.size, 0, none⟩) (Nat.le_refl _) (.int .i64 k)).setCell (p := ⟨w.heap.size, 1, none⟩) (Nat.le_refl _) (.float .f32 x)).setCell (p := ⟨w.heap.size, 2, none⟩) (Nat.le_refl _) (.float .f32 y))
  refine bodyPost_ret (v := .tuple #[.agg #[.int .i64 k, .float .f32 x, .float .f32 y], .bool b]) ?_ rfl ?_
  · rw [results_cell_tmp rfl]
    go_simp
  · exact ⟨rfl, HF.out⟩

set_option maxRecDepth 20000 in
set_option maxHeartbeats 3200000 in
theorem fnExactReadEnd_walk (t : ByteArray) (w : World) (hw : t.size ≤ maxLen) (ht : TabsE w) (hM : MaxP w) : Calls Tryd.prog 7 #[.string t] w (Tru w) := by
  by_cases hs : t.size ≤ 1048576
  · have hd : decide (1048576 < (t.size : Int)) = false := decide_eq_false (by omega)
    have CS := Lib.hid (fun w1 => specReadEnd_any t w1 hs)
    have CI := Lib.hid (fun w1 h1 h2 => implReadEnd_any t w1 hs h1 h2)
    have HT := Lib.hid ht
    have HM := Lib.hid hM
    unfold ReB at CS CI
    obtain ⟨b, hb⟩ : ∃ b, reOk 58 t = b := ⟨_, rfl⟩
    rw [hb] at CS CI
    obtain ⟨k, x, y, hv⟩ : ∃ k x y, (if b = true then reV 58 t else endV 0 0 0) = endV k x y := by
      cases b
      · exact ⟨_, _, _, rfl⟩
      · exact ⟨_, _, _, rfl⟩
    rw [hv] at CS CI
    unfold endV at CS CI
    have EQ := Lib.hid (fun w1 => eqEnd_any k x y w1)
    clear hw ht hM hs hb hv
    go_enter Tryd.func7, Tryd.ntmps7
    go_wp2_with fail
    refine (CS.out _).mono ?_
    rintro _ w1 ⟨rfl, hb⟩
    have A := Lib.hid (Cells.made w1 [.int .i64 k, .float .f32 x, .float .f32 y] 48)
    have Bw := Lib.hid (below_step hb (below_al1 w1 (.cells [Value.int .i64 k, .float .f32 x, .float .f32 y].toArray 48)))
    clear hb
    go_wp2_with fail
    refine (CI.out _ (HM.out.below Bw.out) (HT.out.below Bw.out)).mono ?_
    rintro _ w2 ⟨rfl, hb⟩
    have hA := (A.out.kept hb).al (.cells [Value.int .i64 k, .float .f32 x, .float .f32 y].toArray 48)
    have c0 := hA.at 0 rfl; have c1 := hA.at 1 rfl; have c2 := hA.at 2 rfl
    have Bw := Lib.hid (below_step (below_step Bw.out hb) (below_al1 w2 (.cells [Value.int .i64 k, .float .f32 x, .float .f32 y].toArray 48)))
    clear hb hA
    go_wp2_with fail
    refine (EQ.out _).mono ?_
    rintro _ w3 ⟨rfl, hb⟩
    have Bw := Lib.hid (below_step Bw.out hb)
    clear hb c0 c1 c2
    go_wp2
    go_ret
    exact Tru.below Bw.out
  · have hd : decide (1048576 < (t.size : Int)) = true := decide_eq_true (by omega)
    go_enter Tryd.func7, Tryd.ntmps7
    go_wp2
    go_ret
    exact Tru.below (Below.refl _ _)
end Go.Proofs.YtncjkhdnpioinaaDoor

/- What the listed tables and errors of Go's library hold, for a list of seven. -/
namespace Go.Proofs.YtncjkhdnpioinaaDoor
open Go.RowKit
set_option linter.unusedVariables false
theorem tabsE7 {w : World} (h : laidMetH Tryd.prog [("math/bits.deBruijn32tab", Rows.laid_math_bits_deBruijn32tab), ("math/bits.deBruijn64tab", Rows.laid_math_bits_deBruijn64tab), ("internal/strconv.uint64pow10", Rows.laid_internal_strconv_uint64pow10), ("unicode/utf8.acceptRanges", Rows.laid_unicode_utf8_acceptRanges), ("strconv.ErrRange", Rows.laid_strconv_ErrRange), ("strconv.ErrSyntax", Rows.laid_strconv_ErrSyntax), ("unicode/utf8.first", Rows.laid_unicode_utf8_first)] w) : TabsE w := by
  rw [MakeChecks.laidMetH_plain _ _ _ (by kernel_rfl)] at h
  have h2 := h.tail
  have h3 := h2.tail
  have h4 := h3.tail
  have h5 := h4.tail
  have h6 := h5.tail
  refine ⟨⟨Lib.tabIs_of_head (zs := Lib.pow10Tab) (g := 6) (t := 257) (e := 225) (n := 20) (by kernel_rfl) (by kernel_rfl) (by kernel_rfl) (by kernel_rfl) (by kernel_rfl) (by kernel_rfl) h3,
    Lib.tabIs_of_head (zs := dbr64) (g := 8) (t := 265) (e := 5) (n := 64) (by kernel_rfl) (by kernel_rfl) (by kernel_rfl) (by kernel_rfl) (by kernel_rfl) (by kernel_rfl) h2⟩, ?_, ?_⟩
  · obtain ⟨a, s, hv, -, -, -⟩ := laid_sentinel h5 (g := 5) (by kernel_rfl) (by kernel_rfl) Tryd.underlying73 rowErr Tryd.underlying253 Tryd.underlying255 rfl rfl Tryd.underlying9 (by kernel_rfl) (by kernel_rfl)
    exact ⟨_, _, hv⟩
  · obtain ⟨a, s, hv, -, -, -⟩ := laid_sentinel h6 (g := 4) (by kernel_rfl) (by kernel_rfl) Tryd.underlying73 rowErr Tryd.underlying253 Tryd.underlying255 rfl rfl Tryd.underlying9 (by kernel_rfl) (by kernel_rfl)
    exact ⟨_, _, hv⟩
end Go.Proofs.YtncjkhdnpioinaaDoor

/- The wrap for a row that lists variables, with the world's shape at hand: what strings.Split and its like read of their own package is a number. -/
namespace Go.Proofs.YtncjkhdnpioinaaDoor
open Go.RowKit
set_option linter.unusedVariables false
theorem handed_and_shaped {H : Type} {enc : TypeId × Value → H} {a : Assume} {C : Checked} {os : Os} {f : FuncId} {fn : Func} {s : ChangeSpec} {conds : List PathCond} {apart fresh handsOn again : Bool} {X : World → Array Value → Prop}
    (hX : ∀ (w w' : World) (args : Array Value), w.heap = w'.heap → X w args → X w' args)
    (own : ownKnob C.prog.godebug = none) (started : os.Started) (noInit : C.prog.inits.idxOf? f = none) (hfn : C.prog.funcs[f]? = some fn)
    (witness : ∃ (w : World) (tape : Tape) (i : Input), w.os = os ∧ (w.forCall tape i).Shaped C.prog ∧ i.vars = [] ∧ Input.okWide C.prog (w.forCall tape i) .any w.heap.size f i ∧
      ((s.pre enc C.prog fn conds apart (w.forCall tape i).memory i.args ∧ X (w.forCall tape i).memory i.args) ∧ sizedMet enc C.prog fn (OpenSpec.ofChange s) apart (w.forCall tape i).memory i.args) ∧ a.holds C.prog (lone (Frame.enter C.prog f i.args .normal) [] (w.forCall tape i)))
    (go : ∀ (W : World) (base : Nat) (args : Array Value) (ds gs : List (DataW H)) (before : List MemPlace),
      (∀ (j : Nat) t v, fn.params[j]? = some t → args[j]? = some v → Value.okWide C.prog W .any base t v) →
      DataW.Whole enc C.prog fn.params.toList s.vars apart W args.toList ds gs before → X W args → W.ShapedOpen C.prog →
      Calls C.prog f args W fun e W' => ∃ v, e = .returned v ∧ s.post enc C.prog fn apart fresh handsOn again W args v W') :
    ReturnsInHanded a C os f .any (fun w args => (s.pre enc C.prog fn conds apart w args ∧ X w args) ∧ sizedMet enc C.prog fn (OpenSpec.ofChange s) apart w args) (s.post enc C.prog fn apart fresh handsOn again) := by
  refine returnsInHanded_of_calls own started noInit witness ?_
  rintro w tape i _ hsh _ ⟨_, _, _, fn', hfn', _, _, _, _, hval⟩ ⟨⟨⟨ds, gs, before, hw, _⟩, hx⟩, _⟩ _
  obtain rfl : fn' = fn := Option.some.inj (hfn'.symm.trans hfn)
  refine (go (w.forCall tape i) w.heap.size i.args ds gs before hval (DataW.Whole.of_heap (by rfl) hw) (hX _ _ _ (by rfl) hx) hsh).mono fun e W' he => ?_
  obtain ⟨v, rfl, hp⟩ := he
  exact ChangeSpec.post_blind hp
theorem maxP {w : World} (h : w.ShapedOpen Tryd.prog) : MaxP w :=
  cell_of_shapedOpen_int (t := 3) (zero := #[.int .i64 0]) h (by decide +kernel) (by kernel_rfl) (by kernel_rfl) (by kernel_rfl) (by kernel_rfl) Tryd.underlying3
end Go.Proofs.YtncjkhdnpioinaaDoor
