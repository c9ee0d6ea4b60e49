/- Drawn regions that make memory in any order: what a slot holds may bear a fact on the world (a block's cells) that stays true while nothing that was there turns. One walk in the order of the text serves every order; a tail (stores) runs in the order of the text. -/
import Derived.Test.YtkbdidpodcclfaaLooseB
import Derived.StillTail
namespace Go.Proofs.Ytkbdidpodcclfaa
open Go.RowKit

section
variable {P : Program} {ops : Array Oper} {md : Region.Mode} {C : World → Prop} {T : Nat → Value → World → Prop}

/-- stays true while nothing that was there turns -/
def Pers (φ : World → Prop) : Prop := ∀ w w', φ w → Below w.heap.size w w' → φ w'

/-- which slots bear a fact on which value -/
abbrev SEnv := Nat → Value → Prop
def Facts (T : Nat → Value → World → Prop) (E : SEnv) (w : World) : Prop := ∀ d v, E d v → T d v w
def FNeed (T : Nat → Value → World → Prop) (ops : Array Oper) (o : Oper) (E : SEnv) (w : World) : Prop := ∀ d v, d ∈ o.looksAt ops → E d v → T d v w
def fNext (ops : Array Oper) (o : Oper) (E : SEnv) (a : Act) (v : Value) : SEnv := fun x u => E x u ∨ (Region.wanted o (yielded ops a.tmps) = true ∧ o.dst = some x ∧ u = v)

def FGoodR (P : Program) (T : Nat → Value → World → Prop) (o : Oper) (w : World) : Result Next → Prop
  | .ok (.value v) w' => Below w.heap.size w w' ∧ ∀ d, o.dst = some d → T d v w'
  | .ok .skip w' => Below w.heap.size w w' ∧ ∀ d, o.dst = some d → T d undef w'
  | .ok (.enter f args) w' => Below w.heap.size w w' ∧ Calls P f args w' (fun e w'' => ∃ v, e = .returned v ∧ Below w.heap.size w w'' ∧ ∀ d, o.dst = some d → T d v w'')
  | _ => False
def FValR (T : Nat → Value → World → Prop) (o : Oper) (v : Value) : Result Next → Prop
  | .ok (.value u) w' => v = u ∧ ∀ d, o.dst = some d → T d v w'
  | .ok .skip _ => v = undef
  | .ok (.enter _ _) _ => ∃ w', ∀ d, o.dst = some d → T d v w'
  | _ => False

def fGood (P : Program) (ops : Array Oper) (C : World → Prop) (T : Nat → Value → World → Prop) (o : Oper) (E : SEnv) (a : Act) : Prop :=
  Region.wanted o (yielded ops a.tmps) = true → ∀ w, C w → FNeed T ops o E w → FGoodR P T o w ((execOp a.eval o).run P w)
def fVal (P : Program) (ops : Array Oper) (C : World → Prop) (T : Nat → Value → World → Prop) (o : Oper) (E : SEnv) (a : Act) (v : Value) : Prop :=
  (Region.wanted o (yielded ops a.tmps) = true ∧ ∃ w, C w ∧ FNeed T ops o E w ∧ FValR T o v ((execOp a.eval o).run P w)) ∨ (Region.wanted o (yielded ops a.tmps) = false ∧ v = undef)

def wpFacts (P : Program) (ops : Array Oper) (C : World → Prop) (T : Nat → Value → World → Prop) (Q : SEnv → Act → Prop) : List Oper → SEnv → Act → Prop
  | [], E, a => Q E a
  | o :: rest, E, a => fGood P ops C T o E a ∧ ∀ v, fVal P ops C T o E a v → wpFacts P ops C T Q rest (fNext ops o E a v) (a.put o.dst v)

def fOp (P : Program) (ops : Array Oper) (C : World → Prop) (T : Nat → Value → World → Prop) (i : Nat) (K : SEnv → Act → Prop) (E : SEnv) (a : Act) : Prop :=
  match ops[i]? with
  | none => K E a
  | some o => fGood P ops C T o E a ∧ ∀ v, fVal P ops C T o E a v → K (fNext ops o E a v) (a.put o.dst v)

def Sat (C : World → Prop) (T : Nat → Value → World → Prop) (E : SEnv) : Prop := ∃ w, C w ∧ Facts T E w

/-- operations that only hand a value on: they may come as late as they like -/
def lateOp (o : Oper) : Bool := o.guard.isNone && match o.op with | .extract .. | .move _ | .assign _ => true | _ => false
def lateAt (ops : Array Oper) (late : List Nat) (i : Nat) : Bool := late.contains i && match ops[i]? with | some o => lateOp o | none => false

theorem late_all {o : Oper} {a : Act} (h : lateOp o = true) {v : Value} {w w' : World} (hr : (execOp a.eval o).run P w = .ok (.value v) w') : ∀ u, (execOp a.eval o).run P u = .ok (.value v) u := by
  simp only [lateOp, Bool.and_eq_true] at h
  obtain ⟨_, h⟩ := h
  unfold execOp at *
  cases e : o.op <;> simp only [e] at h hr ⊢ <;> first | (cases h; done) | skip
  case move x => intro u; cases hr; rfl
  case assign x => intro u; cases hr; rfl
  case extract t ix =>
    intro u
    revert hr
    simp only [Instr.extract]
    cases a.eval t with
    | tuple vs =>
      cases hv : vs[ix]? with
      | none => intro hr; simp [hv] at hr
      | some x => intro hr; simp only [hv] at hr ⊢; cases hr; rfl
    | _ => intro hr; cases hr

def wpAnyF (P : Program) (md : Region.Mode) (ops : Array Oper) (late : List Nat) (C : World → Prop) (T : Nat → Value → World → Prop) (n : Nat) (L : Array Bool → SEnv → Act → Prop) : Nat → Array Bool → SEnv → Act → Prop
  | 0, listed, E, a => Sat C T E → L listed E a
  | f + 1, listed, E, a => Sat C T E →
    (∃ m ∈ Region.ready md ops listed, m < n) ∧ ∀ i ∈ Region.ready md ops listed, (i < n → fOp P ops C T i (wpAnyF P md ops late C T n L f (listed.setIfInBounds i true)) E a) ∧
      (n ≤ i → ∀ m, m < n → listed.getD m true = false → lateAt ops late m = true)

theorem Facts.need {E : SEnv} {o : Oper} {w : World} (h : Facts T E w) : FNeed T ops o E w := fun d v _ hv => h d v hv
theorem Facts.next {E : SEnv} {o : Oper} {a : Act} {w w' : World} {v : Value} (hT : ∀ d v, Pers (T d v)) (h : Facts T E w) (hb : Below w.heap.size w w') (hv : Region.wanted o (yielded ops a.tmps) = true → ∀ d, o.dst = some d → T d v w') : Facts T (fNext ops o E a v) w' := by
  intro d u hu
  rcases hu with hu | ⟨hw, hd, rfl⟩
  · exact hT d u _ _ (h d u hu) hb
  · exact hv hw d hd

theorem wpOp_of_fOp {i : Nat} {E : SEnv} {a : Act} {K : SEnv → Act → Prop} {K' : Act → World → Prop} {Q' : Exit → Act → World → Prop} {w : World} (hpC : Pers C) (hpT : ∀ d v, Pers (T d v)) (hC : C w) (hF : Facts T E w)
    (h : ∀ E a w', C w' → Facts T E w' → K E a → K' a w') (hh : fOp P ops C T i K E a) : wpOp P ops Q' i K' a w := by
  unfold fOp at hh
  unfold wpOp
  split
  · rename_i ho; simp only [ho] at hh; exact h _ _ _ hC hF hh
  · rename_i o ho
    simp only [ho] at hh
    obtain ⟨hg, hv⟩ := hh
    split
    · rename_i hw
      refine .inl ?_
      have h1 := hg hw w hC hF.need
      have h2 : ∀ v, FValR T o v ((execOp a.eval o).run P w) → K (fNext ops o E a v) (a.put o.dst v) := fun v hv' => hv v (.inl ⟨hw, w, hC, hF.need, hv'⟩)
      unfold Oper.wp
      generalize (execOp a.eval o).run P w = r at *
      cases r with
      | ok n w' =>
        cases n <;> simp only [FGoodR] at h1 <;> simp only [Oper.upon]
        case value u => exact h _ _ _ (hpC _ _ hC h1.1) (hF.next hpT h1.1 fun _ d hd => h1.2 d hd) (h2 u ⟨rfl, h1.2⟩)
        case skip => exact h _ _ _ (hpC _ _ hC h1.1) (hF.next hpT h1.1 fun _ d hd => h1.2 d hd) (h2 undef rfl)
        case enter f args =>
          obtain ⟨hb, hc⟩ := h1
          exact hc.mono fun e w'' ⟨v, he, hb', ht⟩ => by subst he; exact h _ _ _ (hpC _ _ hC hb') (hF.next hpT hb' fun _ d hd => ht d hd) (h2 v ⟨w'', ht⟩)
      | halt x w' => simp only [FGoodR] at h1
    · rename_i hw
      have hw' : Region.wanted o (yielded ops a.tmps) = false := by simpa using hw
      exact h _ _ _ hC (hF.next hpT (Below.refl _ _) fun hb => absurd hb hw) (hv undef (.inr ⟨hw', rfl⟩))

def lateFreeB (md : Region.Mode) (ops : Array Oper) (late : List Nat) : Bool :=
  late.all fun m => match ops[m]? with
    | none => false
    | some om => (List.range ops.size).all fun j => j == m || match ops[j]? with
      | none => true
      | some oj => oj.after.any (fun e => Region.binds md e && e.on == m) || om.after.any (fun e => Region.binds md e && e.on == j) || om.apart ops oj

theorem late_free {late : List Nat} (h : lateFreeB md ops late = true) {m : Nat} {om : Oper} (hm : ops[m]? = some om) (hl : lateAt ops late m = true) {listed : Array Bool} (hr : m ∈ Region.ready md ops listed) :
    ∀ j oj, ops[j]? = some oj → j ≠ m → listed.getD j true = false → (∀ e ∈ oj.after, Region.binds md e = true → e.on ≠ m) → om.apart ops oj = true := by
  intro j oj hj hne hun hno
  simp only [lateAt, Bool.and_eq_true] at hl
  have h1 := List.all_eq_true.1 h m (by simpa using hl.1)
  simp only [hm, List.all_eq_true, List.mem_range] at h1
  have h2 := h1 j (Array.getElem?_eq_some_iff.1 hj).1
  simp only [hj, Bool.or_eq_true, beq_iff_eq, hne, false_or] at h2
  rcases h2 with (h2 | h2) | h2
  · obtain ⟨e, he, hb⟩ := Array.any_eq_true'.1 h2
    simp only [Bool.and_eq_true, beq_iff_eq] at hb
    exact absurd hb.2 (hno e he hb.1)
  · obtain ⟨e, he, hb⟩ := Array.any_eq_true'.1 h2
    simp only [Bool.and_eq_true, beq_iff_eq] at hb
    obtain ⟨_, o, ho, hall⟩ := mem_ready.1 hr
    have : o = om := Option.some.inj (ho.symm.trans hm)
    subst this
    have h3 := hall e he hb.1
    rw [hb.2, getD_both hun] at h3
    cases h3
  · exact h2

theorem wpAny_of_headF {late : List Nat} {n g : Nat} {L : Array Bool → SEnv → Act → Prop} {Q' : Exit → Act → World → Prop} (hpC : Pers C) (hpT : ∀ d v, Pers (T d v)) (hsel : ∀ (j : Nat) (o : Oper) cs b, ops[j]? = some o → o.op ≠ .select cs b) (hlf : lateFreeB md ops late = true)
    (hQ : ∀ (d : Option Nat) v c a w, Q' (.panic c) (a.put d v) w → Q' (.panic c) a w) (hL : ∀ listed E a w, C w → Facts T E w → L listed E a → wpAny P md ops Q' g listed a w) :
    ∀ (f : Nat) (listed : Array Bool) (E : SEnv) (a : Act) (w : World), C w → Facts T E w → wpAnyF P md ops late C T n L f listed E a → wpAny P md ops Q' (f + g) listed a w
  | 0, listed, E, a, w, hw, hF, h => by rw [Nat.zero_add]; exact hL _ _ _ _ hw hF (h ⟨w, hw, hF⟩)
  | f + 1, listed, E, a, w, hw, hF, h => by
    rw [show f + 1 + g = (f + g) + 1 by omega]
    obtain ⟨⟨m, hm, hmn⟩, h⟩ := h ⟨w, hw, hF⟩
    by_cases hx : ∀ i ∈ Region.ready md ops listed, i < n
    · exact ⟨fun h0 => (by rw [h0] at hm; cases hm), fun i hi => wpOp_of_fOp hpC hpT hw hF (fun E' a' w' hw' hF' h' => wpAny_of_headF hpC hpT hsel hlf hQ hL f _ E' a' w' hw' hF' h') ((h i hi).1 (hx i hi))⟩
    · obtain ⟨i, hx⟩ := Classical.not_forall.1 hx
      obtain ⟨hi, hin⟩ := Classical.not_imp.1 hx
      have hla := (h i hi).2 (by omega) m hmn (mem_ready.1 hm).1
      obtain ⟨_, om, hom, _⟩ := mem_ready.1 hm
      have hfo := (h m hm).1 hmn
      unfold fOp at hfo
      simp only [hom] at hfo
      obtain ⟨hg, hn⟩ := hfo
      have hlo : lateOp om = true := by simp only [lateAt, hom, Bool.and_eq_true] at hla; exact hla.2
      have hwant : Region.wanted om (yielded ops a.tmps) = true := by
        simp only [lateOp, Bool.and_eq_true, Option.isNone_iff_eq_none] at hlo
        simp [Region.wanted, hlo.1]
      have h1 := hg hwant w hw hF.need
      have hy : ∃ v, (execOp a.eval om).run P w = .ok (.value v) w := by
        generalize hr : (execOp a.eval om).run P w = r at h1
        cases r with
        | ok nx w' =>
          cases nx <;> simp only [FGoodR] at h1
          case value u => exact ⟨u, by rw [← hr]; exact late_all hlo hr w⟩
          case skip =>
            simp only [lateOp, Bool.and_eq_true] at hlo
            unfold execOp at hr
            cases e : om.op <;> simp only [e] at hlo hr <;> first | (cases hlo.2; done) | skip
            · cases hr
            · cases hr
            · rename_i t ix
              exfalso
              revert hr
              simp only [Instr.extract]
              cases a.eval t with
              | tuple vs => cases hv : vs[ix]? <;> (intro hr; simp [hv] at hr)
              | _ => intro hr; cases hr
          case enter f args =>
            simp only [lateOp, Bool.and_eq_true] at hlo
            unfold execOp at hr
            cases e : om.op <;> simp only [e] at hlo hr <;> first | (cases hlo.2; done) | skip
            · cases hr
            · cases hr
            · rename_i t ix
              exfalso
              revert hr
              simp only [Instr.extract]
              cases a.eval t with
              | tuple vs => cases hv : vs[ix]? <;> (intro hr; simp [hv] at hr)
              | _ => intro hr; cases hr
        | halt x w' => simp only [FGoodR] at h1
      obtain ⟨v, hv⟩ := hy
      have hall := late_all hlo hv
      rw [hv] at h1
      refine wpAny_first (v := v) hom hsel (hQ om.dst v) _ listed a w (late_free hlf hom hla hm) hm (.inl ⟨hwant, hall⟩) ?_
      exact wpAny_of_headF hpC hpT hsel hlf hQ hL f _ _ _ w hw (hF.next hpT (Below.refl _ _) fun _ => h1.2) (hn v (.inl ⟨hwant, w, hw, hF.need, by rw [hv]; exact ⟨rfl, h1.2⟩⟩))

/-- what another operation leaves does not touch what this one does -/
theorem FNeed_put {o p : Oper} {E : SEnv} {a : Act} {u : Value} {w : World} (h : ∀ d, p.dst = some d → d ∉ o.looksAt ops) : FNeed T ops o (fNext ops p E a u) w ↔ FNeed T ops o E w := by
  constructor
  · intro k d v hd hv; exact k d v hd (.inl hv)
  · intro k d v hd hv
    rcases hv with hv | ⟨_, he, _⟩
    · exact k d v hd hv
    · exact absurd hd (h d he)
theorem fGood_put {o p : Oper} {E : SEnv} {a : Act} {u : Value} (hs : ∀ cs b, o.op ≠ .select cs b) (h : ∀ d, p.dst = some d → d ∉ o.looksAt ops) : fGood P ops C T o (fNext ops p E a u) (a.put p.dst u) ↔ fGood P ops C T o E a := by
  unfold fGood
  rw [execOp_put o hs a p.dst u h, wanted_put o a p.dst u h]
  constructor
  · intro k hw w hC hN; exact k hw w hC ((FNeed_put h).2 hN)
  · intro k hw w hC hN; exact k hw w hC ((FNeed_put h).1 hN)
theorem fVal_put {o p : Oper} {E : SEnv} {a : Act} {u v : Value} (hs : ∀ cs b, o.op ≠ .select cs b) (h : ∀ d, p.dst = some d → d ∉ o.looksAt ops) : fVal P ops C T o (fNext ops p E a u) (a.put p.dst u) v ↔ fVal P ops C T o E a v := by
  unfold fVal
  rw [execOp_put o hs a p.dst u h, wanted_put o a p.dst u h]
  simp only [FNeed_put h]
theorem fNext_comm {o p : Oper} {E : SEnv} {a : Act} {u v : Value} (ho : ∀ d, p.dst = some d → d ∉ o.looksAt ops) (hp : ∀ d, o.dst = some d → d ∉ p.looksAt ops) :
    fNext ops o (fNext ops p E a u) (a.put p.dst u) v = fNext ops p (fNext ops o E a v) (a.put o.dst v) u := by
  unfold fNext
  rw [wanted_put o a p.dst u ho, wanted_put p a o.dst v hp]
  funext x y
  exact propext or_right_comm

/-- there is a value that it may leave, and a world for it -/
theorem some_fVal (hpC : Pers C) (hpT : ∀ d v, Pers (T d v)) {o : Oper} {E : SEnv} {a : Act} (hS : Sat C T E) (hg : fGood P ops C T o E a) : ∃ v, fVal P ops C T o E a v ∧ Sat C T (fNext ops o E a v) := by
  obtain ⟨w, hC, hF⟩ := hS
  by_cases h : Region.wanted o (yielded ops a.tmps) = true
  · have h3 := hg h w hC hF.need
    have : ∃ v, FValR T o v ((execOp a.eval o).run P w) ∧ ∃ w', Below w.heap.size w w' ∧ ∀ d, o.dst = some d → T d v w' := by
      generalize (execOp a.eval o).run P w = r at *
      cases r with
      | ok n w' =>
        cases n <;> simp only [FGoodR] at h3
        case value u => exact ⟨u, ⟨rfl, h3.2⟩, w', h3⟩
        case skip => exact ⟨undef, rfl, w', h3⟩
        case enter f args =>
          obtain ⟨e, w'', fr, ⟨v, _, hb, ht⟩, _⟩ := h3.2 []
          exact ⟨v, ⟨w'', ht⟩, w'', hb, ht⟩
      | halt x w' => simp only [FGoodR] at h3
    obtain ⟨v, hv, w', hb, ht⟩ := this
    exact ⟨v, .inl ⟨h, w, hC, hF.need, hv⟩, w', hpC _ _ hC hb, hF.next hpT hb fun _ => ht⟩
  · exact ⟨undef, .inr ⟨by simpa using h, rfl⟩, w, hC, hF.next hpT (Below.refl _ _) fun hb => absurd hb h⟩

theorem Sat.sub {E E' : SEnv} (h : Sat C T E') (hs : ∀ d v, E d v → E' d v) : Sat C T E := by
  obtain ⟨w, hC, hF⟩ := h
  exact ⟨w, hC, fun d v hv => hF d v (hs d v hv)⟩

theorem wpAnyF_first {late : List Nat} (hpC : Pers C) (hpT : ∀ d v, Pers (T d v)) {n i : Nat} {oi : Oper} {L : Array Bool → SEnv → Act → Prop} (hi : ops[i]? = some oi) (hsel : ∀ (j : Nat) (o : Oper) cs b, ops[j]? = some o → o.op ≠ .select cs b)
    (hw : ∀ listed, HeadInv md ops n listed → ∀ i, i < n → lateAt ops late i = false → listed.getD i true = false → ∀ t, n ≤ t → t ∉ Region.ready md ops listed) (hin : i < n)
    (hdone : ∀ listed E a, L listed E a → ∀ j ∈ Region.ready md ops listed, n ≤ j) :
    ∀ (f : Nat) (listed : Array Bool) (E : SEnv) (a : Act), HeadInv md ops n listed →
      (∀ j oj, ops[j]? = some oj → j ≠ i → listed.getD j true = false → (∀ e ∈ oj.after, Region.binds md e = true → e.on ≠ i) → oi.apart ops oj = true) →
      i ∈ Region.ready md ops listed → (Sat C T E → fGood P ops C T oi E a) →
      (∀ v, fVal P ops C T oi E a v → wpAnyF P md ops late C T n L f (listed.setIfInBounds i true) (fNext ops oi E a v) (a.put oi.dst v)) → wpAnyF P md ops late C T n L (f + 1) listed E a := by
  intro f
  induction f with
  | zero =>
    intro listed E a inv _ hr hy H hS
    have hy := hy hS
    have hun := (mem_ready.1 hr).1
    refine ⟨⟨i, hr, hin⟩, fun j hj => ⟨fun hjn => ?_, fun hjn m hm hmu => ?_⟩⟩
    case refine_2 =>
      cases hl : lateAt ops late m with
      | true => rfl
      | false => exact absurd hj (hw _ inv m hm hl hmu j hjn)
    by_cases hji : j = i
    · subst hji
      unfold fOp; simp only [hi]
      exact ⟨hy, H⟩
    · obtain ⟨v, hv, hS'⟩ := some_fVal hpC hpT hS hy
      have := hdone _ _ _ (H v hv hS') j (ready_mono hj hji)
      omega
  | succ f ih =>
    intro listed E a inv hfree hr hy H hS
    have hy := hy hS
    have hun := (mem_ready.1 hr).1
    refine ⟨⟨i, hr, hin⟩, fun j hj => ⟨fun hjn => ?_, fun hjn m hm hmu => ?_⟩⟩
    case refine_2 =>
      cases hl : lateAt ops late m with
      | true => rfl
      | false => exact absurd hj (hw _ inv m hm hl hmu j hjn)
    by_cases hji : j = i
    · subst hji
      unfold fOp; simp only [hi]
      exact ⟨hy, H⟩
    · obtain ⟨hjun, oj, hoj, hall⟩ := mem_ready.1 hj
      have hnot : ∀ e ∈ oj.after, Region.binds md e = true → e.on ≠ i := fun e he hb heq => by
        have h1 := hall e he hb
        rw [heq, getD_both hun] at h1
        cases h1
      have hap := hfree j oj hoj hji hjun hnot
      obtain ⟨q1, q2, q3⟩ := Oper.apart_spec hap
      have hfree' : ∀ k ok, ops[k]? = some ok → k ≠ i → (listed.setIfInBounds j true).getD k true = false →
          (∀ e ∈ ok.after, Region.binds md e = true → e.on ≠ i) → oi.apart ops ok = true := fun k ok hk hki hun hno => by
        refine hfree k ok hk hki ?_ hno
        by_cases hjk : j = k
        · subst hjk; exact hjun
        · rw [getD_set_ne true hjk] at hun; exact hun
      have si := fun cs b => hsel i oi cs b hi
      have sj := fun cs b => hsel j oj cs b hoj
      obtain ⟨v0, hv0, hS0⟩ := some_fVal hpC hpT hS hy
      have step : ∀ v, fVal P ops C T oi E a v → Sat C T (fNext ops oi E a v) → fGood P ops C T oj E a ∧ ∀ u, fVal P ops C T oj E a u → wpAnyF P md ops late C T n L f ((listed.setIfInBounds i true).setIfInBounds j true) (fNext ops oj (fNext ops oi E a v) (a.put oi.dst v) u) ((a.put oi.dst v).put oj.dst u) := fun v hv hs => by
        have h1 := ((H v hv hs).2 j (ready_mono hj hji)).1 hjn
        unfold fOp at h1
        simp only [hoj] at h1
        exact ⟨(fGood_put sj q1).1 h1.1, fun u hu => h1.2 u ((fVal_put sj q1).2 hu)⟩
      unfold fOp
      simp only [hoj]
      refine ⟨(step v0 hv0 hS0).1, fun u hu => ?_⟩
      refine ih (listed.setIfInBounds j true) (fNext ops oj E a u) (a.put oj.dst u) (inv.set hj hjn) hfree' (ready_mono hr (Ne.symm hji)) (fun _ => (fGood_put si q3).2 hy) fun v hv => ?_
      have hv' : fVal P ops C T oi E a v := (fVal_put si q3).1 hv
      rw [Array.setIfInBounds_comm _ _ hji, ← Act.put_comm a v u q2, fNext_comm q3 q1]
      have key := fun hs => (step v hv' hs).2 u hu
      have hsub : ∀ d x, fNext ops oi E a v d x → fNext ops oj (fNext ops oi E a v) (a.put oi.dst v) u d x := fun d x h => .inl h
      cases f with
      | zero => exact fun hs => key (hs.sub hsub) hs
      | succ f => exact fun hs => key (hs.sub hsub) hs

theorem wpAnyF_lex {late : List Nat} (hpC : Pers C) (hpT : ∀ d v, Pers (T d v)) {n g : Nat} {Lq : SEnv → Act → Prop} (hsel : Region.noSelect ops = true)
    (hw : ∀ listed, HeadInv md ops n listed → ∀ i, i < n → lateAt ops late i = false → listed.getD i true = false → ∀ t, n ≤ t → t ∉ Region.ready md ops listed) :
    ∀ (l : List Oper) (k : Nat) (listed : Array Bool) (E : SEnv) (a : Act), (∀ j, j < l.length → l[j]? = ops[k + j]?) → k + l.length = n → HeadInv md ops n listed →
    Region.lexHead md ops g l.length k listed = true → wpFacts P ops C T Lq l E a →
    wpAnyF P md ops late C T n (fun listed' E' a' => Region.seqB md ops g n listed' = true ∧ Lq E' a') l.length listed E a
  | [], k, listed, E, a, _, hk, _, hB, h => by
    have : k = n := by simpa using hk
    subst this
    exact fun _ => ⟨by simpa [Region.lexHead] using hB, h⟩
  | o :: l, k, listed, E, a, hl, hk, inv, hB, h => by
    have h0 : ops[k]? = some o := by simpa using (hl 0 (by simp)).symm
    simp only [List.length_cons, Region.lexHead, Bool.and_eq_true] at hB
    obtain ⟨⟨hr, hf⟩, hB'⟩ := hB
    have hkn : k < n := by simp only [List.length_cons] at hk; omega
    have hr' : k ∈ Region.ready md ops listed := by simpa using hr
    exact wpAnyF_first hpC hpT h0 (Region.noSelect_spec hsel) hw hkn (fun listed' E' a' hL => seqB_ready hL.1) l.length listed E a inv (Region.free_spec h0 hf) hr' (fun _ => h.1)
      (fun v hv => wpAnyF_lex hpC hpT hsel hw l (k + 1) _ _ _ (fun j hj => by have := hl (j + 1) (by simp; omega); simpa [Nat.add_assoc, Nat.add_comm 1 j] using this) (by simp only [List.length_cons] at hk; omega) (inv.set hr' hkn) hB' (h.2 v hv))

/-- each early operation of the head is waited for, up to operation n -/
def sinkE (md : Region.Mode) (ops : Array Oper) (late : List Nat) (n : Nat) : Bool :=
  (List.range n).all fun i => lateAt ops late i || (List.range (n + 1)).any fun j => decide (i < j) && (j == n || !lateAt ops late j) && Region.waitsFor md ops j i
theorem tail_waitsE {late : List Nat} {n : Nat} {listed : Array Bool} (hs : sinkE md ops late n = true) (hc : Region.chainB md ops n = true) (inv : HeadInv md ops n listed) :
    ∀ (d i : Nat), n - i = d → i < n → lateAt ops late i = false → listed.getD i true = false → ∀ t, n ≤ t → t ∉ Region.ready md ops listed := by
  intro d
  induction d using Nat.strongRecOn with
  | _ d ih =>
    intro i hd hi hl hun t ht hr
    obtain ⟨_, ot, hot, hall⟩ := mem_ready.1 hr
    have htlt : t < ops.size := (Array.getElem?_eq_some_iff.1 hot).1
    by_cases htn : t = n
    · subst htn
      have h1 := List.all_eq_true.1 hs i (List.mem_range.2 hi)
      rw [hl, Bool.false_or] at h1
      obtain ⟨j, hj, hj2⟩ := List.any_eq_true.1 h1
      simp only [Bool.and_eq_true, decide_eq_true_eq, Bool.or_eq_true, beq_iff_eq, Bool.not_eq_true'] at hj2
      obtain ⟨⟨hij, hjl⟩, hjw⟩ := hj2
      obtain ⟨oj, hoj, e, he, hb, hon⟩ := Region.waitsFor_spec hjw
      have hjle : j ≤ t := by have := List.mem_range.1 hj; omega
      by_cases hjt : j = t
      · subst hjt
        have : oj = ot := Option.some.inj (hoj.symm.trans hot)
        subst this
        have h2 := hall e he hb
        rw [hon, getD_both hun] at h2
        cases h2
      · cases hlj : listed.getD j false with
        | true =>
          have h2 := inv.closed j oj hoj hlj e he hb
          rw [hon, getD_both hun] at h2
          cases h2
        | false =>
          have hjs : j < listed.size := by rw [inv.size]; omega
          exact ih (t - j) (by omega) j rfl (by omega) (by rcases hjl with h | h; exact absurd h hjt; exact h) (getD_in hjs hlj) t (Nat.le_refl _) hr
    · have h1 := List.all_eq_true.1 hc t (List.mem_range.2 htlt)
      simp only [Bool.or_eq_true, decide_eq_true_eq] at h1
      rcases h1 with h1 | h1
      · omega
      · obtain ⟨o', ho', e, he, hb, hon⟩ := Region.waitsFor_spec h1
        have : o' = ot := Option.some.inj (ho'.symm.trans hot)
        subst this
        have h2 := hall e he hb
        rw [hon, getD_both (inv.tail (t - 1) (by omega) (by omega))] at h2
        cases h2

def factsTailB (md : Region.Mode) (ops : Array Oper) (late : List Nat) (n : Nat) : Bool :=
  Region.noSelect ops && decide (n < ops.size) && sinkE md ops late n && Region.chainB md ops n && lateFreeB md ops late && Region.lexHead md ops (ops.size - n) n 0 (Array.replicate ops.size false)

/-- the head in any order, the tail in the order of the text; operations of the head in 'late' only hand a value on -/
theorem wp_region_facts_tail {id : Nat} {Q : Exit → Act → World → Prop} {a : Act} {w : World} {l : List Oper} (n : Nat) (late : List Nat) (C : World → Prop) (T : Nat → Value → World → Prop) (hpC : Pers C) (hpT : ∀ d v, Pers (T d v)) (hC : C (w.drewN 1)) (hm : P.follows .mixedOrders = true) (hB : factsTailB .any l.toArray late n = true)
    (hQ : ∀ (d : Option Nat) v c a w, Q (.panic c) (a.put d v) w → Q (.panic c) a w)
    (h : wpFacts P l.toArray C T (fun E a' => ∀ w', C w' → Facts T E w' → wpList P l.toArray Q (l.drop n) a' w') (l.take n) (fun _ _ => False) a) : (Code.region id l.toArray true).wp P Q a w := by
  simp only [factsTailB, Bool.and_eq_true, decide_eq_true_eq] at hB
  obtain ⟨⟨⟨⟨⟨hsel, hn⟩, hs⟩, hc⟩, hlf⟩, hlex⟩ := hB
  have hn' : n < l.length := by simpa using hn
  have htl : (l.take n).length = n := by simp; omega
  have hdl : (l.drop n).length = l.toArray.size - n := by simp
  have inv0 : HeadInv .any l.toArray n (Array.replicate l.toArray.size false) :=
    ⟨by simp, fun j oj _ hl => (by rw [getD_replicate_false] at hl; cases hl), fun t _ ht => getD_in (by simpa using ht) (getD_replicate_false _ _)⟩
  have H := wpAnyF_lex (P := P) (C := C) (T := T) (md := .any) (g := l.toArray.size - n) (late := late) hpC hpT hsel (fun listed inv i hin hl hun => tail_waitsE hs hc inv _ i rfl hin hl hun) (l.take n) 0 _ _ a (fun j hj => by
    have hj' : j < n := by rw [htl] at hj; exact hj
    simp [hj']) (by simpa using htl) inv0 (by rw [htl]; exact hlex) h
  refine wp_region_any hm ?_
  have := wpAny_of_headF (Q' := Q) (g := l.toArray.size - n) hpC hpT (Region.noSelect_spec hsel) hlf hQ (fun listed E a' w' hw' hF' hL => by
    have := wpAny_of_seq (md := .any) (Q' := Q) (l.drop n) n listed a' w' (fun j => by simp [List.getElem?_drop]) (by rw [hdl]; exact hL.1) (hL.2 w' hw' hF')
    rwa [hdl] at this) _ _ _ _ (w.drewN 1) hC (fun _ _ h => h.elim) H
  rw [htl, show n + (l.toArray.size - n) = l.toArray.size by omega] at this
  exact this

def factsB (md : Region.Mode) (ops : Array Oper) (k : Nat) : Bool := Region.noSelect ops && Region.lexHead md ops 0 k 0 (Array.replicate k false)
/-- all in any order -/
theorem wp_region_facts {id : Nat} {Q : Exit → Act → World → Prop} {a : Act} {w : World} {l : List Oper} (C : World → Prop) (T : Nat → Value → World → Prop) (hpC : Pers C) (hpT : ∀ d v, Pers (T d v)) (hC : C (w.drewN 1)) (hm : P.follows .mixedOrders = true) (hB : factsB .any l.toArray l.length = true)
    (hQ : ∀ (d : Option Nat) v c a w, Q (.panic c) (a.put d v) w → Q (.panic c) a w)
    (h : wpFacts P l.toArray C T (fun E a' => ∀ w', C w' → Facts T E w' → Q .normal a' w') l (fun _ _ => False) a) : (Code.region id l.toArray true).wp P Q a w := by
  simp only [factsB, Bool.and_eq_true] at hB
  obtain ⟨hsel, hB⟩ := hB
  have inv0 : HeadInv .any l.toArray l.length (Array.replicate l.length false) :=
    ⟨by simp, fun j oj _ hl => (by rw [getD_replicate_false] at hl; cases hl), fun t h1 ht => absurd ht (by simpa using h1)⟩
  have H := wpAnyF_lex (P := P) (C := C) (T := T) (md := .any) (n := l.length) (g := 0) (late := []) hpC hpT hsel (fun listed inv i hin _ hun t ht hr => by
    obtain ⟨_, o, ho, _⟩ := mem_ready.1 hr
    have := (Array.getElem?_eq_some_iff.1 ho).1
    simp at this
    omega) l 0 _ _ a (fun j hj => by simp) (by simp) inv0 hB h
  refine wp_region_any hm ?_
  have := wpAny_of_headF (Q' := Q) (g := 0) hpC hpT (Region.noSelect_spec hsel) (by rfl) hQ (fun listed E a' w' hw' hF' hL => by
    unfold wpAny
    exact ⟨by simpa [Region.seqB] using hL.1, hL.2 w' hw' hF'⟩) _ _ _ _ (w.drewN 1) hC (fun _ _ h => h.elim) H
  rw [Nat.add_zero] at this
  simp only [List.size_toArray]
  exact this

/-! ### The steps -/
theorem wpFacts_mono {Q : SEnv → Act → Prop} (hQ : ∀ E E' a, (∀ d v, E d v → E' d v) → Q E a → Q E' a) : ∀ (l : List Oper) (E E' : SEnv) (a : Act), (∀ d v, E d v → E' d v) → wpFacts P ops C T Q l E a → wpFacts P ops C T Q l E' a
  | [], _, _, _, hs, h => hQ _ _ _ hs h
  | o :: l, E, E', a, hs, h => by
    refine ⟨fun hw w hC hN => h.1 hw w hC fun d v hd hv => hN d v hd (hs d v hv), fun v hv => ?_⟩
    refine wpFacts_mono hQ l (fNext ops o E a v) _ _ (fun d u hu => hu.imp (hs d u) id) (h.2 v ?_)
    rcases hv with ⟨hw, w, hC, hN, hv⟩ | hv
    · exact .inl ⟨hw, w, hC, fun d v hd hv => hN d v hd (hs d v hv), hv⟩
    · exact .inr hv

variable {Q : SEnv → Act → Prop} {a : Act} {o : Oper} {rest : List Oper} {E : SEnv}
def MonoQ (Q : SEnv → Act → Prop) : Prop := ∀ E E' a, (∀ d v, E d v → E' d v) → Q E a → Q E' a
theorem monoQ_end {K : Act → World → Prop} : MonoQ (fun E a' => ∀ w', C w' → Facts T E w' → K a' w') := fun _ _ _ hs h w' hC hF => h w' hC fun d v hv => hF d v (hs d v hv)

theorem wpFacts_nil (h : Q E a) : wpFacts P ops C T Q [] E a := h

/-- an operation whose value is known, and that bears no fact -/
theorem wpFacts_val (hgd : o.guard = none) (hQ : MonoQ Q) (hT : ∀ d, o.dst = some d → ∀ v w, T d v w) (v : Value) (hv : ∀ w, C w → ∃ w', Below w.heap.size w w' ∧ (execOp a.eval o).run P w = .ok (.value v) w')
    (h : ∀ K : Act → Prop, (∀ a, wpFacts P ops C T Q rest E a → K a) → K (a.put o.dst v)) : wpFacts P ops C T Q (o :: rest) E a := by
  have hw : Region.wanted o (yielded ops a.tmps) = true := by simp [Region.wanted, hgd]
  refine ⟨fun _ w hC _ => ?_, fun u hu => ?_⟩
  · obtain ⟨w', hb, e⟩ := hv w hC
    rw [e]; exact ⟨hb, fun d hd => hT d hd _ _⟩
  · rcases hu with ⟨_, w, hC, _, hu⟩ | ⟨hn, _⟩
    · obtain ⟨w', hb, e⟩ := hv w hC
      rw [e] at hu
      obtain ⟨rfl, _⟩ := hu
      exact wpFacts_mono hQ _ _ _ _ (fun d v h => .inl h) (h _ fun _ h => h)
    · rw [hw] at hn; cases hn

/-- an operation that hands back any of several values, or bears a fact -/
theorem wpFacts_some (hgd : o.guard = none) (d : Nat) (hd : o.dst = some d) (hv : ∀ w, C w → FNeed T ops o E w → ∃ v w', Below w.heap.size w w' ∧ T d v w' ∧ (execOp a.eval o).run P w = .ok (.value v) w')
    (h : ∀ v, (∃ w, T d v w) → wpFacts P ops C T Q rest (fun x u => E x u ∨ (x = d ∧ u = v)) (a.put o.dst v)) : wpFacts P ops C T Q (o :: rest) E a := by
  have hw : Region.wanted o (yielded ops a.tmps) = true := by simp [Region.wanted, hgd]
  refine ⟨fun _ w hC hN => ?_, fun u hu => ?_⟩
  · obtain ⟨v, w', hb, ht, e⟩ := hv w hC hN
    rw [e]; exact ⟨hb, fun d' hd' => by rw [hd] at hd'; cases hd'; exact ht⟩
  · have e : fNext ops o E a u = (fun x y => E x y ∨ (x = d ∧ y = u)) := by
      funext x y
      unfold fNext
      rw [hw, hd]
      refine propext (or_congr Iff.rfl ?_)
      constructor
      · rintro ⟨_, h1, h2⟩; cases h1; exact ⟨rfl, h2⟩
      · rintro ⟨rfl, h2⟩; exact ⟨rfl, rfl, h2⟩
    rw [e]
    rcases hu with ⟨_, w, hC, hN, hu⟩ | ⟨hn, _⟩
    · obtain ⟨v, w', hb, ht, e⟩ := hv w hC hN
      rw [e] at hu
      exact h u ⟨_, hu.2 d hd⟩
    · rw [hw] at hn; cases hn

/-- a call, by its contract -/
theorem wpFacts_call (hgd : o.guard = none) (d : Nat) (hd : o.dst = some d) (f : FuncId) (args : Array Value) (hr : ∀ w, (execOp a.eval o).run P w = .ok (.enter f args) w)
    (hc : ∀ w, C w → FNeed T ops o E w → Calls P f args w fun e w' => ∃ v, e = .returned v ∧ Below w.heap.size w w' ∧ T d v w')
    (h : ∀ v, (∃ w, T d v w) → wpFacts P ops C T Q rest (fun x u => E x u ∨ (x = d ∧ u = v)) (a.put o.dst v)) : wpFacts P ops C T Q (o :: rest) E a := by
  have hw : Region.wanted o (yielded ops a.tmps) = true := by simp [Region.wanted, hgd]
  refine ⟨fun _ w hC hN => ?_, fun u hu => ?_⟩
  · rw [hr w]
    exact ⟨Below.refl _ _, (hc w hC hN).mono fun e w' ⟨v, he, hb, ht⟩ => ⟨v, he, hb, fun d' hd' => by rw [hd] at hd'; cases hd'; exact ht⟩⟩
  · have e : fNext ops o E a u = (fun x y => E x y ∨ (x = d ∧ y = u)) := by
      funext x y
      unfold fNext
      rw [hw, hd]
      refine propext (or_congr Iff.rfl ?_)
      constructor
      · rintro ⟨_, h1, h2⟩; cases h1; exact ⟨rfl, h2⟩
      · rintro ⟨rfl, h2⟩; exact ⟨rfl, rfl, h2⟩
    rw [e]
    rcases hu with ⟨_, w, hC, hN, hu⟩ | ⟨hn, _⟩
    · rw [hr w] at hu
      obtain ⟨w', ht⟩ := hu
      exact h u ⟨w', ht d hd⟩
    · rw [hw] at hn; cases hn
end

/-- nothing that was there has turned: such a fact stays -/
theorem Pers.ext (w : World) : Pers (Ext w) := fun _ _ h hb => below_step h hb
theorem Pers.cells (p : Nat) (vs : List Value) : Pers (fun w => Cells w p vs) := fun _ _ h hb => h.kept hb
theorem Pers.true : Pers (fun _ => True) := fun _ _ _ _ => trivial
theorem Pers.ex {α : Sort _} {φ : α → World → Prop} (h : ∀ x, Pers (φ x)) : Pers (fun w => ∃ x, φ x w) := fun w w' ⟨x, hx⟩ hb => ⟨x, h x w w' hx hb⟩
theorem Pers.and {φ ψ : World → Prop} (h : Pers φ) (k : Pers ψ) : Pers (fun w => φ w ∧ ψ w) := fun w w' ⟨a, b⟩ hb => ⟨h w w' a hb, k w w' b hb⟩
theorem Pers.const (p : Prop) : Pers (fun _ => p) := fun _ _ h _ => h
end Go.Proofs.Ytkbdidpodcclfaa
