/- Several texts in one, for a claim holds 60 files at most: FactsP FactsP2 Plain Copy Cut New OwnS2 Put R4 ValidS BackS AllF AllP All Giv Lay JoM. -/
import Derived.Test.YtkbdidpodcclfaaYC
import Derived.StillTail
import Derived.Laws.OwnMore
import Derived.Deep.AppendLies
import Derived.IntWalk
import Derived.Laws.CopyOwn
import Derived.Deep.RegionLaw
import Derived.Laws.ResultCell

/- Drawn regions that make memory in any order: what a slot holds may bear a fact on the world (a block's cells) that stays true while nothing that was there turns. One walk in the order of the text serves every order; a tail (stores) runs in the order of the text. -/
namespace Go.Proofs.Ytkbdidpodcclfaa.Pr
open Go.RowKit

/-- facts on what slots hold; what is told of a value when it is made; what two slots' values are to one another -/
structure TN where
  t : Nat → Value → World → Prop
  n : Nat → Value → World → World → Prop
  x : Nat → Value → Nat → Value → Prop
  ok : ∀ d v d' v' w w', t d v w → n d' v' w w' → x d v d' v'

section
variable {P : Program} {ops : Array Oper} {md : Region.Mode} {C : World → Prop} {T : TN}

/-- stays true while nothing that was there turns -/
def Pers (φ : World → Prop) : Prop := ∀ w w', φ w → Below w.heap.size w w' → φ w'

/-- which slots bear a fact on which value -/
abbrev SEnv := Nat → Value → Prop
def Facts (T : TN) (E : SEnv) (w : World) : Prop := (∀ d v, E d v → T.t d v w) ∧ ∀ d v d' v', E d v → E d' v' → d ≠ d' → T.x d v d' v' ∨ T.x d' v' d v
def FNeed (T : TN) (ops : Array Oper) (o : Oper) (E : SEnv) (w : World) : Prop := ∀ d v, d ∈ o.looksAt ops → E d v → T.t d v w
def fNext (ops : Array Oper) (o : Oper) (E : SEnv) (a : Act) (v : Value) : SEnv := fun x u => E x u ∨ (Region.wanted o (yielded ops a.tmps) = true ∧ o.dst = some x ∧ u = v)

def FGoodR (P : Program) (T : TN) (o : Oper) (w : World) : Result Next → Prop
  | .ok (.value v) w' => Below w.heap.size w w' ∧ ∀ d, o.dst = some d → T.t d v w' ∧ T.n d v w w'
  | .ok .skip w' => Below w.heap.size w w' ∧ ∀ d, o.dst = some d → T.t d undef w' ∧ T.n d undef w w'
  | .ok (.enter f args) w' => Below w.heap.size w w' ∧ Calls P f args w' (fun e w'' => ∃ v, e = .returned v ∧ Below w.heap.size w w'' ∧ ∀ d, o.dst = some d → (T.t d v w'' ∧ T.n d v w w''))
  | _ => False
def FValR (T : TN) (o : Oper) (v : Value) : Result Next → Prop
  | .ok (.value u) w' => v = u ∧ ∀ d, o.dst = some d → T.t d v w'
  | .ok .skip _ => v = undef
  | .ok (.enter _ _) _ => ∃ w', ∀ d, o.dst = some d → T.t d v w'
  | _ => False

def fGood (P : Program) (ops : Array Oper) (C : World → Prop) (T : TN) (o : Oper) (E : SEnv) (a : Act) : Prop :=
  Region.wanted o (yielded ops a.tmps) = true → ∀ w, C w → FNeed T ops o E w → FGoodR P T o w ((execOp a.eval o).run P w)
def fVal (P : Program) (ops : Array Oper) (C : World → Prop) (T : TN) (o : Oper) (E : SEnv) (a : Act) (v : Value) : Prop :=
  (Region.wanted o (yielded ops a.tmps) = true ∧ ∃ w, C w ∧ FNeed T ops o E w ∧ FValR T o v ((execOp a.eval o).run P w)) ∨ (Region.wanted o (yielded ops a.tmps) = false ∧ v = undef)

def wpFacts (P : Program) (ops : Array Oper) (C : World → Prop) (T : TN) (Q : SEnv → Act → Prop) : List Oper → SEnv → Act → Prop
  | [], E, a => Q E a
  | o :: rest, E, a => fGood P ops C T o E a ∧ ∀ v, fVal P ops C T o E a v → wpFacts P ops C T Q rest (fNext ops o E a v) (a.put o.dst v)

def fOp (P : Program) (ops : Array Oper) (C : World → Prop) (T : TN) (i : Nat) (K : SEnv → Act → Prop) (E : SEnv) (a : Act) : Prop :=
  match ops[i]? with
  | none => K E a
  | some o => fGood P ops C T o E a ∧ ∀ v, fVal P ops C T o E a v → K (fNext ops o E a v) (a.put o.dst v)

def Sat (C : World → Prop) (T : TN) (E : SEnv) : Prop := ∃ w, C w ∧ Facts T E w

/-- operations that only hand a value on: they may come as late as they like -/
def lateOp (o : Oper) : Bool := o.guard.isNone && match o.op with | .extract .. | .move _ | .assign _ => true | _ => false
def lateAt (ops : Array Oper) (late : List Nat) (i : Nat) : Bool := late.contains i && match ops[i]? with | some o => lateOp o | none => false

theorem late_all {o : Oper} {a : Act} (h : lateOp o = true) {v : Value} {w w' : World} (hr : (execOp a.eval o).run P w = .ok (.value v) w') : ∀ u, (execOp a.eval o).run P u = .ok (.value v) u := by
  simp only [lateOp, Bool.and_eq_true] at h
  obtain ⟨_, h⟩ := h
  unfold execOp at *
  cases e : o.op <;> simp only [e] at h hr ⊢ <;> first | (cases h; done) | skip
  case move x => intro u; cases hr; rfl
  case assign x => intro u; cases hr; rfl
  case extract t ix =>
    intro u
    revert hr
    simp only [Instr.extract]
    cases a.eval t with
    | tuple vs =>
      cases hv : vs[ix]? with
      | none => intro hr; simp [hv] at hr
      | some x => intro hr; simp only [hv] at hr ⊢; cases hr; rfl
    | _ => intro hr; cases hr

def wpAnyF (P : Program) (md : Region.Mode) (ops : Array Oper) (late : List Nat) (C : World → Prop) (T : TN) (n : Nat) (L : Array Bool → SEnv → Act → Prop) : Nat → Array Bool → SEnv → Act → Prop
  | 0, listed, E, a => Sat C T E → L listed E a
  | f + 1, listed, E, a => Sat C T E →
    (∃ m ∈ Region.ready md ops listed, m < n) ∧ ∀ i ∈ Region.ready md ops listed, (i < n → fOp P ops C T i (wpAnyF P md ops late C T n L f (listed.setIfInBounds i true)) E a) ∧
      (n ≤ i → ∀ m, m < n → listed.getD m true = false → lateAt ops late m = true)

theorem Facts.need {E : SEnv} {o : Oper} {w : World} (h : Facts T E w) : FNeed T ops o E w := fun d v _ hv => h.1 d v hv
theorem Facts.next {E : SEnv} {o : Oper} {a : Act} {w w' : World} {v : Value} (hT : ∀ d v, Pers (T.t d v)) (h : Facts T E w) (hb : Below w.heap.size w w') (hv : Region.wanted o (yielded ops a.tmps) = true → ∀ d, o.dst = some d → T.t d v w' ∧ T.n d v w w') : Facts T (fNext ops o E a v) w' := by
  refine ⟨fun d u hu => ?_, fun d u d' u' hu hu' hne => ?_⟩
  · rcases hu with hu | ⟨hw, hd, rfl⟩
    · exact hT d u _ _ (h.1 d u hu) hb
    · exact (hv hw d hd).1
  · rcases hu with hu | ⟨hw, hd, rfl⟩
    · rcases hu' with hu' | ⟨hw, hd, rfl⟩
      · exact h.2 d u d' u' hu hu' hne
      · exact .inl (T.ok _ _ _ _ _ _ (h.1 d u hu) (hv hw d' hd).2)
    · rcases hu' with hu' | ⟨_, hd', rfl⟩
      · exact .inr (T.ok _ _ _ _ _ _ (h.1 d' u' hu') (hv hw d hd).2)
      · rw [hd] at hd'; cases hd'; exact absurd rfl hne

theorem wpOp_of_fOp {i : Nat} {E : SEnv} {a : Act} {K : SEnv → Act → Prop} {K' : Act → World → Prop} {Q' : Exit → Act → World → Prop} {w : World} (hpC : Pers C) (hpT : ∀ d v, Pers (T.t d v)) (hC : C w) (hF : Facts T E w)
    (h : ∀ E a w', C w' → Facts T E w' → K E a → K' a w') (hh : fOp P ops C T i K E a) : wpOp P ops Q' i K' a w := by
  unfold fOp at hh
  unfold wpOp
  split
  · rename_i ho; simp only [ho] at hh; exact h _ _ _ hC hF hh
  · rename_i o ho
    simp only [ho] at hh
    obtain ⟨hg, hv⟩ := hh
    split
    · rename_i hw
      refine .inl ?_
      have h1 := hg hw w hC hF.need
      have h2 : ∀ v, FValR T o v ((execOp a.eval o).run P w) → K (fNext ops o E a v) (a.put o.dst v) := fun v hv' => hv v (.inl ⟨hw, w, hC, hF.need, hv'⟩)
      unfold Oper.wp
      generalize (execOp a.eval o).run P w = r at *
      cases r with
      | ok n w' =>
        cases n <;> simp only [FGoodR] at h1 <;> simp only [Oper.upon]
        case value u => exact h _ _ _ (hpC _ _ hC h1.1) (hF.next hpT h1.1 fun _ d hd => h1.2 d hd) (h2 u ⟨rfl, fun d hd => (h1.2 d hd).1⟩)
        case skip => exact h _ _ _ (hpC _ _ hC h1.1) (hF.next hpT h1.1 fun _ d hd => h1.2 d hd) (h2 undef rfl)
        case enter f args =>
          obtain ⟨hb, hc⟩ := h1
          exact hc.mono fun e w'' ⟨v, he, hb', ht⟩ => by subst he; exact h _ _ _ (hpC _ _ hC hb') (hF.next hpT hb' fun _ d hd => ht d hd) (h2 v ⟨w'', fun d hd => (ht d hd).1⟩)
      | halt x w' => simp only [FGoodR] at h1
    · rename_i hw
      have hw' : Region.wanted o (yielded ops a.tmps) = false := by simpa using hw
      exact h _ _ _ hC (hF.next hpT (Below.refl _ _) fun hb => absurd hb hw) (hv undef (.inr ⟨hw', rfl⟩))

def lateFreeB (md : Region.Mode) (ops : Array Oper) (late : List Nat) : Bool :=
  late.all fun m => match ops[m]? with
    | none => false
    | some om => (List.range ops.size).all fun j => j == m || match ops[j]? with
      | none => true
      | some oj => oj.after.any (fun e => Region.binds md e && e.on == m) || om.after.any (fun e => Region.binds md e && e.on == j) || om.apart ops oj

theorem late_free {late : List Nat} (h : lateFreeB md ops late = true) {m : Nat} {om : Oper} (hm : ops[m]? = some om) (hl : lateAt ops late m = true) {listed : Array Bool} (hr : m ∈ Region.ready md ops listed) :
    ∀ j oj, ops[j]? = some oj → j ≠ m → listed.getD j true = false → (∀ e ∈ oj.after, Region.binds md e = true → e.on ≠ m) → om.apart ops oj = true := by
  intro j oj hj hne hun hno
  simp only [lateAt, Bool.and_eq_true] at hl
  have h1 := List.all_eq_true.1 h m (by simpa using hl.1)
  simp only [hm, List.all_eq_true, List.mem_range] at h1
  have h2 := h1 j (Array.getElem?_eq_some_iff.1 hj).1
  simp only [hj, Bool.or_eq_true, beq_iff_eq, hne, false_or] at h2
  rcases h2 with (h2 | h2) | h2
  · obtain ⟨e, he, hb⟩ := Array.any_eq_true'.1 h2
    simp only [Bool.and_eq_true, beq_iff_eq] at hb
    exact absurd hb.2 (hno e he hb.1)
  · obtain ⟨e, he, hb⟩ := Array.any_eq_true'.1 h2
    simp only [Bool.and_eq_true, beq_iff_eq] at hb
    obtain ⟨_, o, ho, hall⟩ := mem_ready.1 hr
    have : o = om := Option.some.inj (ho.symm.trans hm)
    subst this
    have h3 := hall e he hb.1
    rw [hb.2, getD_both hun] at h3
    cases h3
  · exact h2

theorem wpAny_of_headF {late : List Nat} {n g : Nat} {L : Array Bool → SEnv → Act → Prop} {Q' : Exit → Act → World → Prop} (hpC : Pers C) (hpT : ∀ d v, Pers (T.t d v)) (hsel : ∀ (j : Nat) (o : Oper) cs b, ops[j]? = some o → o.op ≠ .select cs b) (hlf : lateFreeB md ops late = true)
    (hQ : ∀ (d : Option Nat) v c a w, Q' (.panic c) (a.put d v) w → Q' (.panic c) a w) (hL : ∀ listed E a w, C w → Facts T E w → L listed E a → wpAny P md ops Q' g listed a w) :
    ∀ (f : Nat) (listed : Array Bool) (E : SEnv) (a : Act) (w : World), C w → Facts T E w → wpAnyF P md ops late C T n L f listed E a → wpAny P md ops Q' (f + g) listed a w
  | 0, listed, E, a, w, hw, hF, h => by rw [Nat.zero_add]; exact hL _ _ _ _ hw hF (h ⟨w, hw, hF⟩)
  | f + 1, listed, E, a, w, hw, hF, h => by
    rw [show f + 1 + g = (f + g) + 1 by omega]
    obtain ⟨⟨m, hm, hmn⟩, h⟩ := h ⟨w, hw, hF⟩
    by_cases hx : ∀ i ∈ Region.ready md ops listed, i < n
    · exact ⟨fun h0 => (by rw [h0] at hm; cases hm), fun i hi => wpOp_of_fOp hpC hpT hw hF (fun E' a' w' hw' hF' h' => wpAny_of_headF hpC hpT hsel hlf hQ hL f _ E' a' w' hw' hF' h') ((h i hi).1 (hx i hi))⟩
    · obtain ⟨i, hx⟩ := Classical.not_forall.1 hx
      obtain ⟨hi, hin⟩ := Classical.not_imp.1 hx
      have hla := (h i hi).2 (by omega) m hmn (mem_ready.1 hm).1
      obtain ⟨_, om, hom, _⟩ := mem_ready.1 hm
      have hfo := (h m hm).1 hmn
      unfold fOp at hfo
      simp only [hom] at hfo
      obtain ⟨hg, hn⟩ := hfo
      have hlo : lateOp om = true := by simp only [lateAt, hom, Bool.and_eq_true] at hla; exact hla.2
      have hwant : Region.wanted om (yielded ops a.tmps) = true := by
        simp only [lateOp, Bool.and_eq_true, Option.isNone_iff_eq_none] at hlo
        simp [Region.wanted, hlo.1]
      have h1 := hg hwant w hw hF.need
      have hy : ∃ v, (execOp a.eval om).run P w = .ok (.value v) w := by
        generalize hr : (execOp a.eval om).run P w = r at h1
        cases r with
        | ok nx w' =>
          cases nx <;> simp only [FGoodR] at h1
          case value u => exact ⟨u, by rw [← hr]; exact late_all hlo hr w⟩
          case skip =>
            simp only [lateOp, Bool.and_eq_true] at hlo
            unfold execOp at hr
            cases e : om.op <;> simp only [e] at hlo hr <;> first | (cases hlo.2; done) | skip
            · cases hr
            · cases hr
            · rename_i t ix
              exfalso
              revert hr
              simp only [Instr.extract]
              cases a.eval t with
              | tuple vs => cases hv : vs[ix]? <;> (intro hr; simp [hv] at hr)
              | _ => intro hr; cases hr
          case enter f args =>
            simp only [lateOp, Bool.and_eq_true] at hlo
            unfold execOp at hr
            cases e : om.op <;> simp only [e] at hlo hr <;> first | (cases hlo.2; done) | skip
            · cases hr
            · cases hr
            · rename_i t ix
              exfalso
              revert hr
              simp only [Instr.extract]
              cases a.eval t with
              | tuple vs => cases hv : vs[ix]? <;> (intro hr; simp [hv] at hr)
              | _ => intro hr; cases hr
        | halt x w' => simp only [FGoodR] at h1
      obtain ⟨v, hv⟩ := hy
      have hall := late_all hlo hv
      rw [hv] at h1
      refine wpAny_first (v := v) hom hsel (hQ om.dst v) _ listed a w (late_free hlf hom hla hm) hm (.inl ⟨hwant, hall⟩) ?_
      exact wpAny_of_headF hpC hpT hsel hlf hQ hL f _ _ _ w hw (hF.next hpT (Below.refl _ _) fun _ => h1.2) (hn v (.inl ⟨hwant, w, hw, hF.need, by rw [hv]; exact ⟨rfl, fun d hd => (h1.2 d hd).1⟩⟩))

/-- what another operation leaves does not touch what this one does -/
theorem FNeed_put {o p : Oper} {E : SEnv} {a : Act} {u : Value} {w : World} (h : ∀ d, p.dst = some d → d ∉ o.looksAt ops) : FNeed T ops o (fNext ops p E a u) w ↔ FNeed T ops o E w := by
  constructor
  · intro k d v hd hv; exact k d v hd (.inl hv)
  · intro k d v hd hv
    rcases hv with hv | ⟨_, he, _⟩
    · exact k d v hd hv
    · exact absurd hd (h d he)
theorem fGood_put {o p : Oper} {E : SEnv} {a : Act} {u : Value} (hs : ∀ cs b, o.op ≠ .select cs b) (h : ∀ d, p.dst = some d → d ∉ o.looksAt ops) : fGood P ops C T o (fNext ops p E a u) (a.put p.dst u) ↔ fGood P ops C T o E a := by
  unfold fGood
  rw [execOp_put o hs a p.dst u h, wanted_put o a p.dst u h]
  constructor
  · intro k hw w hC hN; exact k hw w hC ((FNeed_put h).2 hN)
  · intro k hw w hC hN; exact k hw w hC ((FNeed_put h).1 hN)
theorem fVal_put {o p : Oper} {E : SEnv} {a : Act} {u v : Value} (hs : ∀ cs b, o.op ≠ .select cs b) (h : ∀ d, p.dst = some d → d ∉ o.looksAt ops) : fVal P ops C T o (fNext ops p E a u) (a.put p.dst u) v ↔ fVal P ops C T o E a v := by
  unfold fVal
  rw [execOp_put o hs a p.dst u h, wanted_put o a p.dst u h]
  simp only [FNeed_put h]
theorem fNext_comm {o p : Oper} {E : SEnv} {a : Act} {u v : Value} (ho : ∀ d, p.dst = some d → d ∉ o.looksAt ops) (hp : ∀ d, o.dst = some d → d ∉ p.looksAt ops) :
    fNext ops o (fNext ops p E a u) (a.put p.dst u) v = fNext ops p (fNext ops o E a v) (a.put o.dst v) u := by
  unfold fNext
  rw [wanted_put o a p.dst u ho, wanted_put p a o.dst v hp]
  funext x y
  exact propext or_right_comm

/-- there is a value that it may leave, and a world for it -/
theorem some_fVal (hpC : Pers C) (hpT : ∀ d v, Pers (T.t d v)) {o : Oper} {E : SEnv} {a : Act} (hS : Sat C T E) (hg : fGood P ops C T o E a) : ∃ v, fVal P ops C T o E a v ∧ Sat C T (fNext ops o E a v) := by
  obtain ⟨w, hC, hF⟩ := hS
  by_cases h : Region.wanted o (yielded ops a.tmps) = true
  · have h3 := hg h w hC hF.need
    have : ∃ v, FValR T o v ((execOp a.eval o).run P w) ∧ ∃ w', Below w.heap.size w w' ∧ ∀ d, o.dst = some d → T.t d v w' ∧ T.n d v w w' := by
      generalize (execOp a.eval o).run P w = r at *
      cases r with
      | ok n w' =>
        cases n <;> simp only [FGoodR] at h3
        case value u => exact ⟨u, ⟨rfl, fun d hd => (h3.2 d hd).1⟩, w', h3⟩
        case skip => exact ⟨undef, rfl, w', h3⟩
        case enter f args =>
          obtain ⟨e, w'', fr, ⟨v, _, hb, ht⟩, _⟩ := h3.2 []
          exact ⟨v, ⟨w'', fun d hd => (ht d hd).1⟩, w'', hb, ht⟩
      | halt x w' => simp only [FGoodR] at h3
    obtain ⟨v, hv, w', hb, ht⟩ := this
    exact ⟨v, .inl ⟨h, w, hC, hF.need, hv⟩, w', hpC _ _ hC hb, hF.next hpT hb fun _ => ht⟩
  · exact ⟨undef, .inr ⟨by simpa using h, rfl⟩, w, hC, hF.next hpT (Below.refl _ _) fun hb => absurd hb h⟩

theorem Sat.sub {E E' : SEnv} (h : Sat C T E') (hs : ∀ d v, E d v → E' d v) : Sat C T E := by
  obtain ⟨w, hC, hF⟩ := h
  exact ⟨w, hC, fun d v hv => hF.1 d v (hs d v hv), fun d v d' v' h h' => hF.2 d v d' v' (hs d v h) (hs d' v' h')⟩

theorem wpAnyF_first {late : List Nat} (hpC : Pers C) (hpT : ∀ d v, Pers (T.t d v)) {n i : Nat} {oi : Oper} {L : Array Bool → SEnv → Act → Prop} (hi : ops[i]? = some oi) (hsel : ∀ (j : Nat) (o : Oper) cs b, ops[j]? = some o → o.op ≠ .select cs b)
    (hw : ∀ listed, HeadInv md ops n listed → ∀ i, i < n → lateAt ops late i = false → listed.getD i true = false → ∀ t, n ≤ t → t ∉ Region.ready md ops listed) (hin : i < n)
    (hdone : ∀ listed E a, L listed E a → ∀ j ∈ Region.ready md ops listed, n ≤ j) :
    ∀ (f : Nat) (listed : Array Bool) (E : SEnv) (a : Act), HeadInv md ops n listed →
      (∀ j oj, ops[j]? = some oj → j ≠ i → listed.getD j true = false → (∀ e ∈ oj.after, Region.binds md e = true → e.on ≠ i) → oi.apart ops oj = true) →
      i ∈ Region.ready md ops listed → (Sat C T E → fGood P ops C T oi E a) →
      (∀ v, fVal P ops C T oi E a v → wpAnyF P md ops late C T n L f (listed.setIfInBounds i true) (fNext ops oi E a v) (a.put oi.dst v)) → wpAnyF P md ops late C T n L (f + 1) listed E a := by
  intro f
  induction f with
  | zero =>
    intro listed E a inv _ hr hy H hS
    have hy := hy hS
    have hun := (mem_ready.1 hr).1
    refine ⟨⟨i, hr, hin⟩, fun j hj => ⟨fun hjn => ?_, fun hjn m hm hmu => ?_⟩⟩
    case refine_2 =>
      cases hl : lateAt ops late m with
      | true => rfl
      | false => exact absurd hj (hw _ inv m hm hl hmu j hjn)
    by_cases hji : j = i
    · subst hji
      unfold fOp; simp only [hi]
      exact ⟨hy, H⟩
    · obtain ⟨v, hv, hS'⟩ := some_fVal hpC hpT hS hy
      have := hdone _ _ _ (H v hv hS') j (ready_mono hj hji)
      omega
  | succ f ih =>
    intro listed E a inv hfree hr hy H hS
    have hy := hy hS
    have hun := (mem_ready.1 hr).1
    refine ⟨⟨i, hr, hin⟩, fun j hj => ⟨fun hjn => ?_, fun hjn m hm hmu => ?_⟩⟩
    case refine_2 =>
      cases hl : lateAt ops late m with
      | true => rfl
      | false => exact absurd hj (hw _ inv m hm hl hmu j hjn)
    by_cases hji : j = i
    · subst hji
      unfold fOp; simp only [hi]
      exact ⟨hy, H⟩
    · obtain ⟨hjun, oj, hoj, hall⟩ := mem_ready.1 hj
      have hnot : ∀ e ∈ oj.after, Region.binds md e = true → e.on ≠ i := fun e he hb heq => by
        have h1 := hall e he hb
        rw [heq, getD_both hun] at h1
        cases h1
      have hap := hfree j oj hoj hji hjun hnot
      obtain ⟨q1, q2, q3⟩ := Oper.apart_spec hap
      have hfree' : ∀ k ok, ops[k]? = some ok → k ≠ i → (listed.setIfInBounds j true).getD k true = false →
          (∀ e ∈ ok.after, Region.binds md e = true → e.on ≠ i) → oi.apart ops ok = true := fun k ok hk hki hun hno => by
        refine hfree k ok hk hki ?_ hno
        by_cases hjk : j = k
        · subst hjk; exact hjun
        · rw [getD_set_ne true hjk] at hun; exact hun
      have si := fun cs b => hsel i oi cs b hi
      have sj := fun cs b => hsel j oj cs b hoj
      obtain ⟨v0, hv0, hS0⟩ := some_fVal hpC hpT hS hy
      have step : ∀ v, fVal P ops C T oi E a v → Sat C T (fNext ops oi E a v) → fGood P ops C T oj E a ∧ ∀ u, fVal P ops C T oj E a u → wpAnyF P md ops late C T n L f ((listed.setIfInBounds i true).setIfInBounds j true) (fNext ops oj (fNext ops oi E a v) (a.put oi.dst v) u) ((a.put oi.dst v).put oj.dst u) := fun v hv hs => by
        have h1 := ((H v hv hs).2 j (ready_mono hj hji)).1 hjn
        unfold fOp at h1
        simp only [hoj] at h1
        exact ⟨(fGood_put sj q1).1 h1.1, fun u hu => h1.2 u ((fVal_put sj q1).2 hu)⟩
      unfold fOp
      simp only [hoj]
      refine ⟨(step v0 hv0 hS0).1, fun u hu => ?_⟩
      refine ih (listed.setIfInBounds j true) (fNext ops oj E a u) (a.put oj.dst u) (inv.set hj hjn) hfree' (ready_mono hr (Ne.symm hji)) (fun _ => (fGood_put si q3).2 hy) fun v hv => ?_
      have hv' : fVal P ops C T oi E a v := (fVal_put si q3).1 hv
      rw [Array.setIfInBounds_comm _ _ hji, ← Act.put_comm a v u q2, fNext_comm q3 q1]
      have key := fun hs => (step v hv' hs).2 u hu
      have hsub : ∀ d x, fNext ops oi E a v d x → fNext ops oj (fNext ops oi E a v) (a.put oi.dst v) u d x := fun d x h => .inl h
      cases f with
      | zero => exact fun hs => key (hs.sub hsub) hs
      | succ f => exact fun hs => key (hs.sub hsub) hs

theorem wpAnyF_lex {late : List Nat} (hpC : Pers C) (hpT : ∀ d v, Pers (T.t d v)) {n g : Nat} {Lq : SEnv → Act → Prop} (hsel : Region.noSelect ops = true)
    (hw : ∀ listed, HeadInv md ops n listed → ∀ i, i < n → lateAt ops late i = false → listed.getD i true = false → ∀ t, n ≤ t → t ∉ Region.ready md ops listed) :
    ∀ (l : List Oper) (k : Nat) (listed : Array Bool) (E : SEnv) (a : Act), (∀ j, j < l.length → l[j]? = ops[k + j]?) → k + l.length = n → HeadInv md ops n listed →
    Region.lexHead md ops g l.length k listed = true → wpFacts P ops C T Lq l E a →
    wpAnyF P md ops late C T n (fun listed' E' a' => Region.seqB md ops g n listed' = true ∧ Lq E' a') l.length listed E a
  | [], k, listed, E, a, _, hk, _, hB, h => by
    have : k = n := by simpa using hk
    subst this
    exact fun _ => ⟨by simpa [Region.lexHead] using hB, h⟩
  | o :: l, k, listed, E, a, hl, hk, inv, hB, h => by
    have h0 : ops[k]? = some o := by simpa using (hl 0 (by simp)).symm
    simp only [List.length_cons, Region.lexHead, Bool.and_eq_true] at hB
    obtain ⟨⟨hr, hf⟩, hB'⟩ := hB
    have hkn : k < n := by simp only [List.length_cons] at hk; omega
    have hr' : k ∈ Region.ready md ops listed := by simpa using hr
    exact wpAnyF_first hpC hpT h0 (Region.noSelect_spec hsel) hw hkn (fun listed' E' a' hL => seqB_ready hL.1) l.length listed E a inv (Region.free_spec h0 hf) hr' (fun _ => h.1)
      (fun v hv => wpAnyF_lex hpC hpT hsel hw l (k + 1) _ _ _ (fun j hj => by have := hl (j + 1) (by simp; omega); simpa [Nat.add_assoc, Nat.add_comm 1 j] using this) (by simp only [List.length_cons] at hk; omega) (inv.set hr' hkn) hB' (h.2 v hv))

/-- each early operation of the head is waited for, up to operation n -/
def sinkE (md : Region.Mode) (ops : Array Oper) (late : List Nat) (n : Nat) : Bool :=
  (List.range n).all fun i => lateAt ops late i || (List.range (n + 1)).any fun j => decide (i < j) && (j == n || !lateAt ops late j) && Region.waitsFor md ops j i
theorem tail_waitsE {late : List Nat} {n : Nat} {listed : Array Bool} (hs : sinkE md ops late n = true) (hc : Region.chainB md ops n = true) (inv : HeadInv md ops n listed) :
    ∀ (d i : Nat), n - i = d → i < n → lateAt ops late i = false → listed.getD i true = false → ∀ t, n ≤ t → t ∉ Region.ready md ops listed := by
  intro d
  induction d using Nat.strongRecOn with
  | _ d ih =>
    intro i hd hi hl hun t ht hr
    obtain ⟨_, ot, hot, hall⟩ := mem_ready.1 hr
    have htlt : t < ops.size := (Array.getElem?_eq_some_iff.1 hot).1
    by_cases htn : t = n
    · subst htn
      have h1 := List.all_eq_true.1 hs i (List.mem_range.2 hi)
      rw [hl, Bool.false_or] at h1
      obtain ⟨j, hj, hj2⟩ := List.any_eq_true.1 h1
      simp only [Bool.and_eq_true, decide_eq_true_eq, Bool.or_eq_true, beq_iff_eq, Bool.not_eq_true'] at hj2
      obtain ⟨⟨hij, hjl⟩, hjw⟩ := hj2
      obtain ⟨oj, hoj, e, he, hb, hon⟩ := Region.waitsFor_spec hjw
      have hjle : j ≤ t := by have := List.mem_range.1 hj; omega
      by_cases hjt : j = t
      · subst hjt
        have : oj = ot := Option.some.inj (hoj.symm.trans hot)
        subst this
        have h2 := hall e he hb
        rw [hon, getD_both hun] at h2
        cases h2
      · cases hlj : listed.getD j false with
        | true =>
          have h2 := inv.closed j oj hoj hlj e he hb
          rw [hon, getD_both hun] at h2
          cases h2
        | false =>
          have hjs : j < listed.size := by rw [inv.size]; omega
          exact ih (t - j) (by omega) j rfl (by omega) (by rcases hjl with h | h; exact absurd h hjt; exact h) (getD_in hjs hlj) t (Nat.le_refl _) hr
    · have h1 := List.all_eq_true.1 hc t (List.mem_range.2 htlt)
      simp only [Bool.or_eq_true, decide_eq_true_eq] at h1
      rcases h1 with h1 | h1
      · omega
      · obtain ⟨o', ho', e, he, hb, hon⟩ := Region.waitsFor_spec h1
        have : o' = ot := Option.some.inj (ho'.symm.trans hot)
        subst this
        have h2 := hall e he hb
        rw [hon, getD_both (inv.tail (t - 1) (by omega) (by omega))] at h2
        cases h2

def factsTailB (md : Region.Mode) (ops : Array Oper) (late : List Nat) (n : Nat) : Bool :=
  Region.noSelect ops && decide (n < ops.size) && sinkE md ops late n && Region.chainB md ops n && lateFreeB md ops late && Region.lexHead md ops (ops.size - n) n 0 (Array.replicate ops.size false)

/-- the head in any order, the tail in the order of the text; operations of the head in 'late' only hand a value on -/
theorem wp_region_facts_tail {id : Nat} {Q : Exit → Act → World → Prop} {a : Act} {w : World} {l : List Oper} (n : Nat) (late : List Nat) (C : World → Prop) (T : TN) (hpC : Pers C) (hpT : ∀ d v, Pers (T.t d v)) (hC : C (w.drewN 1)) (hm : P.follows .mixedOrders = true) (hB : factsTailB .any l.toArray late n = true)
    (hQ : ∀ (d : Option Nat) v c a w, Q (.panic c) (a.put d v) w → Q (.panic c) a w)
    (h : wpFacts P l.toArray C T (fun E a' => ∀ w', C w' → Facts T E w' → wpList P l.toArray Q (l.drop n) a' w') (l.take n) (fun _ _ => False) a) : (Code.region id l.toArray true).wp P Q a w := by
  simp only [factsTailB, Bool.and_eq_true, decide_eq_true_eq] at hB
  obtain ⟨⟨⟨⟨⟨hsel, hn⟩, hs⟩, hc⟩, hlf⟩, hlex⟩ := hB
  have hn' : n < l.length := by simpa using hn
  have htl : (l.take n).length = n := by simp; omega
  have hdl : (l.drop n).length = l.toArray.size - n := by simp
  have inv0 : HeadInv .any l.toArray n (Array.replicate l.toArray.size false) :=
    ⟨by simp, fun j oj _ hl => (by rw [getD_replicate_false] at hl; cases hl), fun t _ ht => getD_in (by simpa using ht) (getD_replicate_false _ _)⟩
  have H := wpAnyF_lex (P := P) (C := C) (T := T) (md := .any) (g := l.toArray.size - n) (late := late) hpC hpT hsel (fun listed inv i hin hl hun => tail_waitsE hs hc inv _ i rfl hin hl hun) (l.take n) 0 _ _ a (fun j hj => by
    have hj' : j < n := by rw [htl] at hj; exact hj
    simp [hj']) (by simpa using htl) inv0 (by rw [htl]; exact hlex) h
  refine wp_region_any hm ?_
  have := wpAny_of_headF (Q' := Q) (g := l.toArray.size - n) hpC hpT (Region.noSelect_spec hsel) hlf hQ (fun listed E a' w' hw' hF' hL => by
    have := wpAny_of_seq (md := .any) (Q' := Q) (l.drop n) n listed a' w' (fun j => by simp [List.getElem?_drop]) (by rw [hdl]; exact hL.1) (hL.2 w' hw' hF')
    rwa [hdl] at this) _ _ _ _ (w.drewN 1) hC ⟨fun _ _ h => h.elim, fun _ _ _ _ h => h.elim⟩ H
  rw [htl, show n + (l.toArray.size - n) = l.toArray.size by omega] at this
  exact this

def factsB (md : Region.Mode) (ops : Array Oper) (k : Nat) : Bool := Region.noSelect ops && Region.lexHead md ops 0 k 0 (Array.replicate k false)
/-- all in any order -/
theorem wp_region_facts {id : Nat} {Q : Exit → Act → World → Prop} {a : Act} {w : World} {l : List Oper} (C : World → Prop) (T : TN) (hpC : Pers C) (hpT : ∀ d v, Pers (T.t d v)) (hC : C (w.drewN 1)) (hm : P.follows .mixedOrders = true) (hB : factsB .any l.toArray l.length = true)
    (hQ : ∀ (d : Option Nat) v c a w, Q (.panic c) (a.put d v) w → Q (.panic c) a w)
    (h : wpFacts P l.toArray C T (fun E a' => ∀ w', C w' → Facts T E w' → Q .normal a' w') l (fun _ _ => False) a) : (Code.region id l.toArray true).wp P Q a w := by
  simp only [factsB, Bool.and_eq_true] at hB
  obtain ⟨hsel, hB⟩ := hB
  have inv0 : HeadInv .any l.toArray l.length (Array.replicate l.length false) :=
    ⟨by simp, fun j oj _ hl => (by rw [getD_replicate_false] at hl; cases hl), fun t h1 ht => absurd ht (by simpa using h1)⟩
  have H := wpAnyF_lex (P := P) (C := C) (T := T) (md := .any) (n := l.length) (g := 0) (late := []) hpC hpT hsel (fun listed inv i hin _ hun t ht hr => by
    obtain ⟨_, o, ho, _⟩ := mem_ready.1 hr
    have := (Array.getElem?_eq_some_iff.1 ho).1
    simp at this
    omega) l 0 _ _ a (fun j hj => by simp) (by simp) inv0 hB h
  refine wp_region_any hm ?_
  have := wpAny_of_headF (Q' := Q) (g := 0) hpC hpT (Region.noSelect_spec hsel) (by rfl) hQ (fun listed E a' w' hw' hF' hL => by
    unfold wpAny
    exact ⟨by simpa [Region.seqB] using hL.1, hL.2 w' hw' hF'⟩) _ _ _ _ (w.drewN 1) hC ⟨fun _ _ h => h.elim, fun _ _ _ _ h => h.elim⟩ H
  rw [Nat.add_zero] at this
  simp only [List.size_toArray]
  exact this

/-! ### The steps -/
theorem wpFacts_mono {Q : SEnv → Act → Prop} (hQ : ∀ E E' a, (∀ d v, E d v → E' d v) → Q E a → Q E' a) : ∀ (l : List Oper) (E E' : SEnv) (a : Act), (∀ d v, E d v → E' d v) → wpFacts P ops C T Q l E a → wpFacts P ops C T Q l E' a
  | [], _, _, _, hs, h => hQ _ _ _ hs h
  | o :: l, E, E', a, hs, h => by
    refine ⟨fun hw w hC hN => h.1 hw w hC fun d v hd hv => hN d v hd (hs d v hv), fun v hv => ?_⟩
    refine wpFacts_mono hQ l (fNext ops o E a v) _ _ (fun d u hu => hu.imp (hs d u) id) (h.2 v ?_)
    rcases hv with ⟨hw, w, hC, hN, hv⟩ | hv
    · exact .inl ⟨hw, w, hC, fun d v hd hv => hN d v hd (hs d v hv), hv⟩
    · exact .inr hv

variable {Q : SEnv → Act → Prop} {a : Act} {o : Oper} {rest : List Oper} {E : SEnv}
def MonoQ (Q : SEnv → Act → Prop) : Prop := ∀ E E' a, (∀ d v, E d v → E' d v) → Q E a → Q E' a
theorem monoQ_end {K : Act → World → Prop} : MonoQ (fun E a' => ∀ w', C w' → Facts T E w' → K a' w') := fun _ _ _ hs h w' hC hF => h w' hC ⟨fun d v hv => hF.1 d v (hs d v hv), fun d v d' v' h1 h2 => hF.2 d v d' v' (hs d v h1) (hs d' v' h2)⟩

theorem wpFacts_nil (h : Q E a) : wpFacts P ops C T Q [] E a := h

/-- an operation whose value is known, and that bears no fact -/
theorem wpFacts_val (hgd : o.guard = none) (hQ : MonoQ Q) (hT : ∀ d, o.dst = some d → ∀ v w w0, T.t d v w ∧ T.n d v w0 w) (v : Value) (hv : ∀ w, C w → ∃ w', Below w.heap.size w w' ∧ (execOp a.eval o).run P w = .ok (.value v) w')
    (h : ∀ K : Act → Prop, (∀ a, wpFacts P ops C T Q rest E a → K a) → K (a.put o.dst v)) : wpFacts P ops C T Q (o :: rest) E a := by
  have hw : Region.wanted o (yielded ops a.tmps) = true := by simp [Region.wanted, hgd]
  refine ⟨fun _ w hC _ => ?_, fun u hu => ?_⟩
  · obtain ⟨w', hb, e⟩ := hv w hC
    rw [e]; exact ⟨hb, fun d hd => hT d hd _ _ _⟩
  · rcases hu with ⟨_, w, hC, _, hu⟩ | ⟨hn, _⟩
    · obtain ⟨w', hb, e⟩ := hv w hC
      rw [e] at hu
      obtain ⟨rfl, _⟩ := hu
      exact wpFacts_mono hQ _ _ _ _ (fun d v h => .inl h) (h _ fun _ h => h)
    · rw [hw] at hn; cases hn

/-- an operation that hands back any of several values, or bears a fact -/
theorem wpFacts_some (hgd : o.guard = none) (d : Nat) (hd : o.dst = some d) (hv : ∀ w, C w → FNeed T ops o E w → ∃ v w', Below w.heap.size w w' ∧ (T.t d v w' ∧ T.n d v w w') ∧ (execOp a.eval o).run P w = .ok (.value v) w')
    (h : ∀ v, (∃ w, T.t d v w) → wpFacts P ops C T Q rest (fun x u => E x u ∨ (x = d ∧ u = v)) (a.put o.dst v)) : wpFacts P ops C T Q (o :: rest) E a := by
  have hw : Region.wanted o (yielded ops a.tmps) = true := by simp [Region.wanted, hgd]
  refine ⟨fun _ w hC hN => ?_, fun u hu => ?_⟩
  · obtain ⟨v, w', hb, ht, e⟩ := hv w hC hN
    rw [e]; exact ⟨hb, fun d' hd' => by rw [hd] at hd'; cases hd'; exact ht⟩
  · have e : fNext ops o E a u = (fun x y => E x y ∨ (x = d ∧ y = u)) := by
      funext x y
      unfold fNext
      rw [hw, hd]
      refine propext (or_congr Iff.rfl ?_)
      constructor
      · rintro ⟨_, h1, h2⟩; cases h1; exact ⟨rfl, h2⟩
      · rintro ⟨rfl, h2⟩; exact ⟨rfl, rfl, h2⟩
    rw [e]
    rcases hu with ⟨_, w, hC, hN, hu⟩ | ⟨hn, _⟩
    · obtain ⟨v, w', hb, ht, e⟩ := hv w hC hN
      rw [e] at hu
      exact h u ⟨_, hu.2 d hd⟩
    · rw [hw] at hn; cases hn

/-- a call, by its contract -/
theorem wpFacts_call (hgd : o.guard = none) (d : Nat) (hd : o.dst = some d) (f : FuncId) (args : Array Value) (hr : ∀ w, (execOp a.eval o).run P w = .ok (.enter f args) w)
    (hc : ∀ w, C w → FNeed T ops o E w → Calls P f args w fun e w' => ∃ v, e = .returned v ∧ Below w.heap.size w w' ∧ T.t d v w' ∧ T.n d v w w')
    (h : ∀ v, (∃ w, T.t d v w) → wpFacts P ops C T Q rest (fun x u => E x u ∨ (x = d ∧ u = v)) (a.put o.dst v)) : wpFacts P ops C T Q (o :: rest) E a := by
  have hw : Region.wanted o (yielded ops a.tmps) = true := by simp [Region.wanted, hgd]
  refine ⟨fun _ w hC hN => ?_, fun u hu => ?_⟩
  · rw [hr w]
    exact ⟨Below.refl _ _, (hc w hC hN).mono fun e w' ⟨v, he, hb, ht⟩ => ⟨v, he, hb, fun d' hd' => by rw [hd] at hd'; cases hd'; exact ht⟩⟩
  · have e : fNext ops o E a u = (fun x y => E x y ∨ (x = d ∧ y = u)) := by
      funext x y
      unfold fNext
      rw [hw, hd]
      refine propext (or_congr Iff.rfl ?_)
      constructor
      · rintro ⟨_, h1, h2⟩; cases h1; exact ⟨rfl, h2⟩
      · rintro ⟨rfl, h2⟩; exact ⟨rfl, rfl, h2⟩
    rw [e]
    rcases hu with ⟨_, w, hC, hN, hu⟩ | ⟨hn, _⟩
    · rw [hr w] at hu
      obtain ⟨w', ht⟩ := hu
      exact h u ⟨w', ht d hd⟩
    · rw [hw] at hn; cases hn
end

/-- nothing that was there has turned: such a fact stays -/
theorem Pers.ext (w : World) : Pers (Ext w) := fun _ _ h hb => below_step h hb
theorem Pers.cells (p : Nat) (vs : List Value) : Pers (fun w => Cells w p vs) := fun _ _ h hb => h.kept hb
theorem Pers.true : Pers (fun _ => True) := fun _ _ _ _ => trivial
theorem Pers.ex {α : Sort _} {φ : α → World → Prop} (h : ∀ x, Pers (φ x)) : Pers (fun w => ∃ x, φ x w) := fun w w' ⟨x, hx⟩ hb => ⟨x, h x w w' hx hb⟩
theorem Pers.and {φ ψ : World → Prop} (h : Pers φ) (k : Pers ψ) : Pers (fun w => φ w ∧ ψ w) := fun w w' ⟨a, b⟩ hb => ⟨h w w' a hb, k w w' b hb⟩
theorem Pers.const (p : Prop) : Pers (fun _ => p) := fun _ _ h _ => h
end Go.Proofs.Ytkbdidpodcclfaa.Pr

/- The facts that slots bear, as a list, with slots whose blocks lie apart; the steps for them. -/
namespace Go.Proofs.Ytkbdidpodcclfaa.Pr
open Go.RowKit
set_option linter.unusedVariables false

/-- a fact on a value and a world that stays true while nothing that was there turns -/
def Fct := {φ : Value → World → Prop // ∀ v, Pers (φ v)}
def TS : List (Nat × Fct) → Nat → Value → World → Prop
  | [], _, _, _ => True
  | (k, φ) :: l, d, v, w => (d = k → φ.1 v w) ∧ TS l d v w
theorem TS.pers : ∀ (l : List (Nat × Fct)) (d : Nat) (v : Value), Pers (TS l d v)
  | [], _, _ => Pers.true
  | (_, φ) :: l, d, v => fun w w' h hb => ⟨fun e => φ.2 v w w' (h.1 e) hb, TS.pers l d v w w' h.2 hb⟩
def TS.hasB : List (Nat × Fct) → Nat → Bool
  | [], _ => false
  | (k, _) :: l, d => d == k || TS.hasB l d
theorem TS.no : ∀ {l : List (Nat × Fct)} {d : Nat} (_ : TS.hasB l d = false) (v : Value) (w : World), TS l d v w
  | [], _, _, _, _ => trivial
  | (k, φ) :: l, d, h, v, w => by
    simp only [TS.hasB, Bool.or_eq_false_iff, beq_eq_false_iff_ne, ne_eq] at h
    exact ⟨fun e => absurd e h.1, TS.no h.2 v w⟩
def TS.findB : List (Nat × Fct) → Nat → Option Fct
  | [], _ => none
  | (k, φ) :: l, d => if d = k then (if TS.hasB l d then none else some φ) else TS.findB l d
theorem TS.mk : ∀ {l : List (Nat × Fct)} {d : Nat} {φ : Fct} (_ : TS.findB l d = some φ) {v : Value} {w : World} (_ : φ.1 v w), TS l d v w
  | [], _, _, h, _, _, _ => by cases h
  | (k, ψ) :: l, d, φ, h, v, w, hv => by
    unfold TS.findB at h
    split at h
    · rename_i e
      split at h
      · cases h
      · rename_i hb
        cases h
        exact ⟨fun _ => hv, TS.no (by simpa using hb) v w⟩
    · rename_i e
      exact ⟨fun e' => absurd e' e, TS.mk h hv⟩
theorem TS.get : ∀ {l : List (Nat × Fct)} {d : Nat} {φ : Fct} (_ : TS.findB l d = some φ) {v : Value} {w : World} (_ : TS l d v w), φ.1 v w
  | [], _, _, h, _, _, _ => by cases h
  | (k, ψ) :: l, d, φ, h, v, w, hv => by
    unfold TS.findB at h
    split at h
    · rename_i e
      split at h
      · cases h
      · cases h
        exact hv.1 e
    · exact TS.get h hv.2

/-- it is this value -/
def fIs (x : Value) : Fct := ⟨fun v _ => v = x, fun _ => Pers.const _⟩
/-- it points to a block, made since h, with these cells -/
def fBox (h : Nat) (vs : List Value) : Fct := ⟨fun v w => ∃ p, v = .pointer (some ⟨p, 0, none⟩) ∧ h ≤ p ∧ Cells w p vs, fun _ => Pers.ex fun _ => Pers.and (Pers.const _) (Pers.and (Pers.const _) (Pers.cells _ _))⟩
/-- it is a float, up to a not-a-number's bits -/
def fNum (k : FloatKind) (S : Nat) : Fct := ⟨fun v _ => ∃ r, cn k r = S ∧ v = .float k r, fun _ => Pers.const _⟩


/-- the facts of l; the slots of D hold slices in blocks of their own -/
def TND (l : List (Nat × Fct)) (D : List Nat) : TN where
  t d v w := TS l d v w ∧ (D.contains d = true → ∀ g, v.ownBlock = some g → g < w.heap.size)
  n d v w w' := D.contains d = true → ∀ g, v.ownBlock = some g → w.heap.size ≤ g
  x d v d' v' := D.contains d = true → D.contains d' = true → ∀ g g', v.ownBlock = some g → v'.ownBlock = some g' → g < g'
  ok d v d' v' w w' ht hn h h' g g' e e' := Nat.lt_of_lt_of_le (ht.2 h g e) (hn h' g' e')
theorem TND.pers (l : List (Nat × Fct)) (D : List Nat) (d : Nat) (v : Value) : Pers ((TND l D).t d v) := fun w w' h hb => ⟨TS.pers l d v w w' h.1 hb, fun hd g e => Nat.lt_of_lt_of_le (h.2 hd g e) hb.size⟩
theorem fact_of {l : List (Nat × Fct)} {D : List Nat} {E : SEnv} {w : World} {d : Nat} {φ : Fct} {v : Value} (hT : TS.findB l d = some φ) (hF : Facts (TND l D) E w) (hE : E d v) : φ.1 v w := TS.get hT (hF.1 d v hE).1
/-- two slots of D: their blocks differ -/
theorem fact_apart {l : List (Nat × Fct)} {D : List Nat} {E : SEnv} {w : World} {d d' : Nat} {v v' : Value} {g g' : Nat} (hd : D.contains d = true) (hd' : D.contains d' = true) (hne : d ≠ d') (hF : Facts (TND l D) E w) (hE : E d v) (hE' : E d' v') (e : v.ownBlock = some g) (e' : v'.ownBlock = some g') : g ≠ g' := by
  rcases hF.2 d v d' v' hE hE' hne with h | h
  · exact Nat.ne_of_lt (h hd hd' g g' e e')
  · exact Ne.symm (Nat.ne_of_lt (h hd' hd g' g e' e))

section
variable {P : Program} {ops : Array Oper} {C : World → Prop} {l : List (Nat × Fct)} {D : List Nat} {Q : SEnv → Act → Prop} {a : Act} {o : Oper} {rest : List Oper} {E : SEnv}

/-- an operation whose value is known -/
theorem wpF_val (hgd : o.guard = none) (hQ : MonoQ Q) (hT : ∀ d, o.dst = some d → TS.hasB l d = false ∧ D.contains d = false) (v : Value) (hv : ∀ w, C w → (execOp a.eval o).run P w = .ok (.value v) w)
    (h : ∀ K : Act → Prop, (∀ a, wpFacts P ops C (TND l D) Q rest E a → K a) → K (a.put o.dst v)) : wpFacts P ops C (TND l D) Q (o :: rest) E a :=
  wpFacts_val hgd hQ (fun d hd v w w0 => ⟨⟨TS.no (hT d hd).1 v w, fun h => by rw [(hT d hd).2] at h; cases h⟩, fun h => by rw [(hT d hd).2] at h; cases h⟩) v (fun w hC => ⟨w, Below.refl _ _, hv w hC⟩) h

/-- a call that hands back a slice in a block of its own -/
theorem wpF_callO (hgd : o.guard = none) (d : Nat) (hd : o.dst = some d) (f : FuncId) (args : Array Value) (φ : Fct) (hT : TS.findB l d = some φ) (hr : ∀ w, (execOp a.eval o).run P w = .ok (.enter f args) w)
    (hc : ∀ w, C w → FNeed (TND l D) ops o E w → Calls P f args w fun e w' => ∃ v, e = .returned v ∧ Below w.heap.size w w' ∧ φ.1 v w' ∧ ∀ g, v.ownBlock = some g → w.heap.size ≤ g ∧ g < w'.heap.size)
    (h : ∀ v, (∃ w, φ.1 v w) → wpFacts P ops C (TND l D) Q rest (fun x u => E x u ∨ (x = d ∧ u = v)) (a.put o.dst v)) : wpFacts P ops C (TND l D) Q (o :: rest) E a :=
  wpFacts_call hgd d hd f args hr (fun w hC hN => (hc w hC hN).mono fun e w' ⟨v, he, hb, ht, hg⟩ => ⟨v, he, hb, ⟨TS.mk hT ht, fun _ g e => (hg g e).2⟩, fun _ g e => (hg g e).1⟩) (fun u ⟨w, hu⟩ => h u ⟨w, TS.get hT hu.1⟩)
end
end Go.Proofs.Ytkbdidpodcclfaa.Pr

/- Four lists that a call makes side by side, appending to each in turn. -/
namespace Go.Proofs.Ytkbdidpodcclfaa
open Go.RowKit
set_option linter.unusedVariables false

theorem Own.tur {S : Nat → Prop} {w w' : World} {base : Nat} {v : Value} {zs : List Nat} (h : Own w base v zs) (ht : Tur S w w') (hs : ∀ a, v.ownBlock = some a → ¬ S a) : Own w' base v zs := by
  obtain ⟨h1, h2⟩ := h
  refine ⟨h1, ?_⟩
  rcases h2 with h2 | ⟨g, cap, cur, e, hg, hc, h3⟩
  · exact .inl h2
  · refine .inr ⟨g, cap, cur, e, hg, ?_, h3⟩
    have hlt : g < w.heap.size := by
      by_cases hx : g < w.heap.size
      · exact hx
      · rw [Array.getElem?_eq_none (by simpa using hx)] at hc
        cases hc
    rw [ht.block g hlt (hs g (by rw [e]; rfl))]
    exact hc
theorem Own.lt {w : World} {base : Nat} {v : Value} {zs : List Nat} (h : Own w base v zs) {a : Nat} (ha : v.ownBlock = some a) : base ≤ a ∧ a < w.heap.size := World.ownsRow.lt h a ha

/-- an append, and where the new slice lies -/
theorem wpList_app32L {ops : Array Oper} {rest : List Oper} {o : Oper} {a : Act} {Q : Exit → Act → World → Prop} {w : World} (hgd : o.guard = none) (s x : Operand)
    (ho : o.op = .call { callee := .builtin .append, args := #[s, x], argTypes := #[23, 23] })
    (base : Nat) (v : Value) (zs : List Nat) (hs : a.eval s = v) (hown : Own w base v zs) (q z c : Nat) (hx : a.eval x = .slice (some ⟨q, 0, none⟩) 1 c) (hq : w.cell? ⟨q, 0, none⟩ = some (.float .f32 z))
    (hk : zs.length ≤ 1048576) (hbase : base ≤ w.heap.size)
    (h : ∀ g cap w', Own w' base (.slice (some ⟨g, 0, none⟩) (zs.length + 1) cap) (zs ++ [z]) → Tur (fun b => v.ownBlock = some b) w w' → (v.ownBlock = some g ∨ g = w.heap.size) → g < w'.heap.size → wpList Try.prog ops Q rest (a.put o.dst (.slice (some ⟨g, 0, none⟩) (zs.length + 1) cap)) w') : wpList Try.prog ops Q (o :: rest) a w := by
  obtain ⟨i, hi, hz, hsz, hby⟩ := info32
  have hm : maxLen = 9223372036854775807 := rfl
  refine wpList_append_lies w hgd s x _ ho base 22 i (.float .f32 0) 1 4 Try.underlying23 hi hz hsz hby rfl (by decide) v zs.length (fl zs) hs hown ⟨q, 0, none⟩ 1 c [.float .f32 z] hx rfl (fun j u hj => ?_) (fun u hu => ?_) (by decide) (by omega) (by omega) hbase _ rfl (fun g cap w' h1 h2 h3 h4 => ?_)
  · cases j with
    | zero => simp at hj; subst hj; simpa [Addr.add] using hq
    | succ j => simp at hj
  · simp at hu; subst hu; rfl
  · refine h g cap w' ?_ ?_ h3 h4
    · unfold Own
      simpa [fl] using h1
    · have hb := (Below.refl 0 w).grown h2 (Nat.zero_le _) (fun _ _ => Nat.zero_le _)
      exact ⟨hb.os, hb.tape, hb.output, hb.size, fun k hk hs => h2.block k hk (fun e => hs e.symm)⟩

/-- four lists that a call makes, in blocks apart -/
structure Quad (w : World) (base : Nat) (v0 : Value) (L0 : List Nat) (v1 : Value) (L1 : List Nat) (v2 : Value) (L2 : List Nat) (v3 : Value) (L3 : List Nat) : Prop where
  o0 : Own w base v0 L0
  o1 : Own w base v1 L1
  o2 : Own w base v2 L2
  o3 : Own w base v3 L3
  d01 : ∀ a, v0.ownBlock = some a → ¬ v1.ownBlock = some a
  d02 : ∀ a, v0.ownBlock = some a → ¬ v2.ownBlock = some a
  d03 : ∀ a, v0.ownBlock = some a → ¬ v3.ownBlock = some a
  d12 : ∀ a, v1.ownBlock = some a → ¬ v2.ownBlock = some a
  d13 : ∀ a, v1.ownBlock = some a → ¬ v3.ownBlock = some a
  d23 : ∀ a, v2.ownBlock = some a → ¬ v3.ownBlock = some a
theorem Quad.rot {w : World} {base : Nat} {v0 : Value} {L0 : List Nat} {v1 : Value} {L1 : List Nat} {v2 : Value} {L2 : List Nat} {v3 : Value} {L3 : List Nat} (h : Quad w base v0 L0 v1 L1 v2 L2 v3 L3) : Quad w base v1 L1 v2 L2 v3 L3 v0 L0 :=
  ⟨h.o1, h.o2, h.o3, h.o0, h.d12, h.d13, fun a h1 h0 => h.d01 a h0 h1, h.d23, fun a h2 h0 => h.d02 a h0 h2, fun a h3 h0 => h.d03 a h0 h3⟩
theorem Quad.tur {S : Nat → Prop} {w w' : World} {base : Nat} {v0 : Value} {L0 : List Nat} {v1 : Value} {L1 : List Nat} {v2 : Value} {L2 : List Nat} {v3 : Value} {L3 : List Nat} (h : Quad w base v0 L0 v1 L1 v2 L2 v3 L3) (ht : Tur S w w') (hs : ∀ a, base ≤ a → ¬ S a) : Quad w' base v0 L0 v1 L1 v2 L2 v3 L3 :=
  ⟨h.o0.tur ht (fun a ha => hs a (h.o0.lt ha).1), h.o1.tur ht (fun a ha => hs a (h.o1.lt ha).1), h.o2.tur ht (fun a ha => hs a (h.o2.lt ha).1), h.o3.tur ht (fun a ha => hs a (h.o3.lt ha).1), h.d01, h.d02, h.d03, h.d12, h.d13, h.d23⟩
theorem Quad.al {w : World} {base : Nat} {v0 : Value} {L0 : List Nat} {v1 : Value} {L1 : List Nat} {v2 : Value} {L2 : List Nat} {v3 : Value} {L3 : List Nat} (h : Quad w base v0 L0 v1 L1 v2 L2 v3 L3) (o : Obj) : Quad (w.alloc o) base v0 L0 v1 L1 v2 L2 v3 L3 :=
  h.tur (S := fun _ => False) (Tur.of_below (below_al1 w o)) (fun _ _ h => h)
theorem Tur.setCell (w : World) (p i : Nat) (u : Value) : Tur (· = p) w (w.setCell ⟨p, i, none⟩ u) := Tur.of_onl ((Onl.refl p w).setCell i u) rfl
theorem Quad.far {w : World} {base p : Nat} {v0 : Value} {L0 : List Nat} {v1 : Value} {L1 : List Nat} {v2 : Value} {L2 : List Nat} {v3 : Value} {L3 : List Nat} (h : Quad w base v0 L0 v1 L1 v2 L2 v3 L3) (hp : p < base) (i : Nat) (u : Value) : Quad (w.setCell ⟨p, i, none⟩ u) base v0 L0 v1 L1 v2 L2 v3 L3 :=
  h.tur (Tur.setCell w p i u) (fun a ha e => by omega)
/-- the first list grows -/
theorem Quad.step {w w' : World} {base g cap : Nat} {v0 : Value} {L0 L : List Nat} {v1 : Value} {L1 : List Nat} {v2 : Value} {L2 : List Nat} {v3 : Value} {L3 : List Nat} (h : Quad w base v0 L0 v1 L1 v2 L2 v3 L3)
    {n : Nat} (h0 : Own w' base (.slice (some ⟨g, 0, none⟩) n cap) L) (ht : Tur (fun b => v0.ownBlock = some b) w w') (hg : v0.ownBlock = some g ∨ g = w.heap.size) : Quad w' base (.slice (some ⟨g, 0, none⟩) n cap) L v1 L1 v2 L2 v3 L3 := by
  have key : ∀ v : Value, ∀ Lv, Own w base v Lv → (∀ a, v0.ownBlock = some a → ¬ v.ownBlock = some a) → ∀ a, (Value.slice (some ⟨g, 0, none⟩) n cap).ownBlock = some a → ¬ v.ownBlock = some a := by
    intro v Lv ho hd a ha hv
    have e : g = a := by simpa [Value.ownBlock] using ha
    subst e
    rcases hg with hg | hg
    · exact hd g hg hv
    · have := (ho.lt hv).2
      omega
  exact ⟨h0, h.o1.tur ht (fun a h1 h0 => h.d01 a h0 h1), h.o2.tur ht (fun a h1 h0 => h.d02 a h0 h1), h.o3.tur ht (fun a h1 h0 => h.d03 a h0 h1), key v1 L1 h.o1 h.d01, key v2 L2 h.o2 h.d02, key v3 L3 h.o3 h.d03, h.d12, h.d13, h.d23⟩
end Go.Proofs.Ytkbdidpodcclfaa

/- A copy of a list, as the specification makes it. -/
namespace Go.Proofs.Ytkbdidpodcclfaa
open Go.RowKit
set_option linter.unusedVariables false

/-- a whole list appended -/
theorem wpList_cat32 {ops : Array Oper} {rest : List Oper} {o : Oper} {a : Act} {Q : Exit → Act → World → Prop} {w : World} (hgd : o.guard = none) (s x : Operand)
    (ho : o.op = .call { callee := .builtin .append, args := #[s, x], argTypes := #[23, 23] })
    (base : Nat) (v : Value) (zs ys : List Nat) (hs : a.eval s = v) (hown : Own w base v zs) (q off c : Nat) (hx : a.eval x = .slice (some ⟨q, off, none⟩) ys.length c) (hq : ∀ i, i < ys.length → w.cell? ⟨q, off + i, none⟩ = some (.float .f32 (ys.getD i 0)))
    (hk : zs.length ≤ 1048576) (hk2 : ys.length ≤ 1048576) (hbase : base ≤ w.heap.size)
    (h : ∀ v' w', Own w' base v' (zs ++ ys) → Below base w w' → wpList Try.prog ops Q rest (a.put o.dst v') w') : wpList Try.prog ops Q (o :: rest) a w := by
  obtain ⟨i, hi, hz, hsz, hby⟩ := info32
  have hm : maxLen = 9223372036854775807 := rfl
  refine wpList_append_own w hgd s x _ ho base 22 i (.float .f32 0) 1 4 Try.underlying23 hi hz hsz hby rfl (by decide) v zs.length (fl zs) hs hown ⟨q, off, none⟩ ys.length c (fl ys) hx (by simp [fl]) (fun j u hj => ?_) (fun u hu => ?_) (by omega) (by omega) hbase (fun v' w' h1 h2 _ => ?_)
  · have hjl : j < ys.length := by
      by_cases hl : j < ys.length
      · exact hl
      · rw [List.getElem?_eq_none (by simpa [fl] using hl)] at hj
        cases hj
    have e : u = .float .f32 (ys.getD j 0) := by
      simp [fl, hjl] at hj
      simp [← hj, List.getD_eq_getElem?_getD, hjl]
    rw [e]
    have h2 := hq j hjl
    by_cases hj0 : j = 0
    · subst hj0
      first | (simp [Addr.add]; done) | simpa [Addr.add] using h2
    · first | (simp [Addr.add, hj0]; done) | simpa [Addr.add, hj0] using h2
  · simp [fl] at hu
    obtain ⟨z, _, rfl⟩ := hu
    rfl
  · refine h v' w' ?_ ((Below.refl base w).grown h2 hbase (fun k hk => (World.ownsRow.lt hown k hk).1))
    unfold Own
    simpa [fl] using h1

theorem specCopy_any (v : Value) (zs : List Nat) (w : World) (h : FRow w v zs) (hn : 1 ≤ zs.length) (hl : zs.length ≤ 1048576) :
    Calls Try.prog 51 #[v] w fun e w' => ∃ v', e = .returned v' ∧ Own w' w.heap.size v' zs ∧ Below w.heap.size w w' := by
  obtain ⟨b, off, c, rfl, hc⟩ := h.cells hn
  have HC : ∀ w', Below w.heap.size w w' → ∀ i, i < zs.length → w'.cell? ⟨b, off + i, none⟩ = some (.float .f32 (zs.getD i 0)) := by
    intro w' hb
    obtain ⟨b', o', c', e, hc'⟩ := (h.below hb).cells hn
    cases e
    exact hc'
  have HC := Lib.hid HC
  have O0 := Lib.hid (Own.empty w w.heap.size (Nat.le_refl _))
  have HL := Lib.hid hl
  clear h hl hn hc
  go_enter Try.func51, Try.ntmps51
  go_wp2_with (at_builtin; refine wpList_cat32 rfl _ _ rfl w.heap.size _ [] zs rfl O0.out b off c rfl (HC.out _ (below_al1 _ _)) (by simp) HL.out (by simp) ?_; intro v' w1 hown hb; have O1 := Lib.hid hown; have B1 := Lib.hid hb; clear hown hb)
  go_ret
  exact ⟨_, rfl, O1.out, (below_al1 _ _).trans B1.out⟩
end Go.Proofs.Ytkbdidpodcclfaa

/- One block of numbers, cut into lists by a closure. -/
namespace Go.Proofs.Ytkbdidpodcclfaa
open Go.RowKit
set_option linter.unusedVariables false

/-- the closure hands on the list that begins at cell o -/
theorem cut_any (i : Int) (o n N q1 q2 g : Nat) (w : World) (c1 : w.cell? ⟨q1, 0, none⟩ = some (.slice (some ⟨g, 0, none⟩) N N)) (c2 : w.cell? ⟨q2, 0, none⟩ = some (.int .i64 n)) (hi0 : 0 ≤ i) (hi1 : i ≤ 8) (hi : i * n = o) (hj : (i + 1) * n = ((o + n : Nat) : Int)) (h : o + n ≤ N) (hN : N ≤ 1000) (hn : 1 ≤ n) :
    Calls Try.prog 98 #[.int .i64 i, .pointer (some ⟨q1, 0, none⟩), .pointer (some ⟨q2, 0, none⟩)] w fun e w' => e = .returned (.slice (some ⟨g, o, none⟩) n n) ∧ w = w' := by
  have h1 : (0 : Int) ≤ (o : Int) := by omega
  have h2 : (o : Int) ≤ ((o + n : Nat) : Int) := by omega
  have h3 : ((o + n : Nat) : Int) ≤ (N : Int) := by omega
  have h4 : ¬ o + n = o := by omega
  have h5 : ¬ n = 0 := by omega
  have b1 : -1000 ≤ i * n ∧ i * n ≤ 1000 := by omega
  have b2 : -1000 ≤ (i + 1) * n ∧ (i + 1) * n ≤ 1000 := by omega
  obtain ⟨b1, b3⟩ := b1
  obtain ⟨b2, b4⟩ := b2
  have e1 : IntKind.i64.wrap (i * n) = o := by rw [IntWalk.i64_in _ (by omega)]; exact hi
  have e2 : IntKind.i64.wrap (IntKind.i64.wrap (i + 1) * n) = ((o + n : Nat) : Int) := by rw [IntWalk.i64_in (i + 1) (by omega), IntWalk.i64_in _ (by omega)]; exact hj
  go_enter Try.func98, Try.ntmps98
  go_wp2
  go_ret
  exact ⟨by show Ending.returned (.slice (some ⟨g, o, none⟩) (o + n - o) (o + n - o)) = _; rw [Nat.add_sub_cancel_left], rfl⟩

/-- a closure over a new block of N zeros, cut into lists of n -/
def Cut (n N : Nat) (w : World) (e : Ending) (w' : World) : Prop :=
  ∃ q1 q2 g : Nat, e = .returned (.func (.func 98) #[] #[.pointer (some ⟨q1, 0, none⟩), .pointer (some ⟨q2, 0, none⟩)]) ∧ Cells w' q1 [.slice (some ⟨g, 0, none⟩) N N] ∧ Cells w' q2 [.int .i64 n] ∧ w.heap.size ≤ g ∧
    w'.rowIs g 22 N (fun _ => .float .f32 0) ∧ Below w.heap.size w w'

set_option maxHeartbeats 1600000 in
theorem cutBlock3_any (n : Nat) (w : World) (hn : 1 ≤ n) (hq : n ≤ 48) : Calls Try.prog 75 #[.int .i64 3, .int .i64 n] w (Cut n (3 * n) w) := by
  obtain ⟨N, hN⟩ : ∃ N : Nat, N = 3 * n := ⟨_, rfl⟩
  have e4 : (3 : Int) * (n : Int) = (N : Int) := by omega
  have hmk := run_make_row' (P := Try.prog) 23 22 (.float .f32 0) 4 Try.underlying23 Try.rowOf32 rfl .i64 .i64 N (by omega) (by omega)
  rw [← hN]
  have A := (((Cells.made w [.int .i64 n] 3).al (.cells (madeCells #[.float .f32 0] N) 22)).al (.cells [Value.slice (some ⟨w.heap.size + 1, 0, none⟩) N N].toArray 23))
  have B := Cells.made ((w.alloc (.cells [Value.int .i64 n].toArray 3)).alloc (.cells (madeCells #[.float .f32 0] N) 22)) [.slice (some ⟨w.heap.size + 1, 0, none⟩) N N] 23
  have Ro := rowIs_below (World.rowIs_made (w.alloc (.cells [Value.int .i64 n].toArray 3)) (.float .f32 0) N 22) (below_al1 _ (.cells [Value.slice (some ⟨w.heap.size + 1, 0, none⟩) N N].toArray 23))
  rw [show (w.alloc (.cells [Value.int .i64 n].toArray 3)).heap.size = w.heap.size + 1 from by simp] at Ro
  rw [show ((w.alloc (.cells [Value.int .i64 n].toArray 3)).alloc (.cells (madeCells #[.float .f32 0] N) 22)).heap.size = w.heap.size + 1 + 1 from by simp] at B
  have Bw := below_al3 w (.cells [Value.int .i64 n].toArray 3) (.cells (madeCells #[.float .f32 0] N) 22) (.cells [Value.slice (some ⟨w.heap.size + 1, 0, none⟩) N N].toArray 23)
  have A := Lib.hid A
  have B := Lib.hid B
  have Ro := Lib.hid Ro
  have Bw := Lib.hid Bw
  clear hN
  go_enter Try.func75, Try.ntmps75
  go_wp2
  go_ret
  exact ⟨w.heap.size + 1 + 1, w.heap.size, w.heap.size + 1, rfl, B.out, A.out, by omega, Ro.out, Bw.out⟩

set_option maxHeartbeats 1600000 in
theorem cutBlock4_any (n : Nat) (w : World) (hn : 1 ≤ n) (hq : n ≤ 96) : Calls Try.prog 75 #[.int .i64 4, .int .i64 n] w (Cut n (4 * n) w) := by
  obtain ⟨N, hN⟩ : ∃ N : Nat, N = 4 * n := ⟨_, rfl⟩
  have e4 : (4 : Int) * (n : Int) = (N : Int) := by omega
  have hmk := run_make_row' (P := Try.prog) 23 22 (.float .f32 0) 4 Try.underlying23 Try.rowOf32 rfl .i64 .i64 N (by omega) (by omega)
  rw [← hN]
  have A := (((Cells.made w [.int .i64 n] 3).al (.cells (madeCells #[.float .f32 0] N) 22)).al (.cells [Value.slice (some ⟨w.heap.size + 1, 0, none⟩) N N].toArray 23))
  have B := Cells.made ((w.alloc (.cells [Value.int .i64 n].toArray 3)).alloc (.cells (madeCells #[.float .f32 0] N) 22)) [.slice (some ⟨w.heap.size + 1, 0, none⟩) N N] 23
  have Ro := rowIs_below (World.rowIs_made (w.alloc (.cells [Value.int .i64 n].toArray 3)) (.float .f32 0) N 22) (below_al1 _ (.cells [Value.slice (some ⟨w.heap.size + 1, 0, none⟩) N N].toArray 23))
  rw [show (w.alloc (.cells [Value.int .i64 n].toArray 3)).heap.size = w.heap.size + 1 from by simp] at Ro
  rw [show ((w.alloc (.cells [Value.int .i64 n].toArray 3)).alloc (.cells (madeCells #[.float .f32 0] N) 22)).heap.size = w.heap.size + 1 + 1 from by simp] at B
  have Bw := below_al3 w (.cells [Value.int .i64 n].toArray 3) (.cells (madeCells #[.float .f32 0] N) 22) (.cells [Value.slice (some ⟨w.heap.size + 1, 0, none⟩) N N].toArray 23)
  have A := Lib.hid A
  have B := Lib.hid B
  have Ro := Lib.hid Ro
  have Bw := Lib.hid Bw
  clear hN
  go_enter Try.func75, Try.ntmps75
  go_wp2
  go_ret
  exact ⟨w.heap.size + 1 + 1, w.heap.size, w.heap.size + 1, rfl, B.out, A.out, by omega, Ro.out, Bw.out⟩

end Go.Proofs.Ytkbdidpodcclfaa

/- A rod of n cells without numbers: four lists in one block, cut by a closure. -/
namespace Go.Proofs.Ytkbdidpodcclfaa
open Go.RowKit
set_option linter.unusedVariables false

theorem below_set4n {w w' : World} {B p : Nat} (h : Below B w w') (hp : B ≤ p) (x0 x1 x2 x3 : Value) : Below B w ((((w'.setCell ⟨p, 0, none⟩ x0).setCell ⟨p, 1, none⟩ x1).setCell ⟨p, 2, none⟩ x2).setCell ⟨p, 3, none⟩ x3) :=
  (((h.setCell (p := ⟨p, 0, none⟩) hp x0).setCell (p := ⟨p, 1, none⟩) hp x1).setCell (p := ⟨p, 2, none⟩) hp x2).setCell (p := ⟨p, 3, none⟩) hp x3
/-- a rod of zeros in one block of its own -/
def ZeroRod (n : Nat) (w : World) (e : Ending) (w' : World) : Prop := ∃ g, e = .returned (inBlk g n) ∧ w.heap.size ≤ g ∧ w'.rowIs g 22 (4 * n) (fun _ => .float .f32 0) ∧ Below w.heap.size w w'

set_option maxHeartbeats 1600000 in
theorem newRod_any (n : Nat) (w : World) (hn : 1 ≤ n) (hq : n ≤ 96) : Calls Try.prog 41 #[.int .i64 n] w (ZeroRod n w) := by
  unfold ZeroRod inBlk
  have C0 := fun (q1 q2 g : Nat) (w : World) c1 c2 => cut_any 0 0 n (4 * n) q1 q2 g w c1 c2 (by omega) (by omega) (by omega) (by omega) (by omega) (by omega) hn
  have C1 := fun (q1 q2 g : Nat) (w : World) c1 c2 => cut_any 1 n n (4 * n) q1 q2 g w c1 c2 (by omega) (by omega) (by omega) (by omega) (by omega) (by omega) hn
  have C2 := fun (q1 q2 g : Nat) (w : World) c1 c2 => cut_any 2 (2 * n) n (4 * n) q1 q2 g w c1 c2 (by omega) (by omega) (by omega) (by omega) (by omega) (by omega) hn
  have C3 := fun (q1 q2 g : Nat) (w : World) c1 c2 => cut_any 3 (3 * n) n (4 * n) q1 q2 g w c1 c2 (by omega) (by omega) (by omega) (by omega) (by omega) (by omega) hn
  have CB := cutBlock4_any n
  obtain ⟨n2, h2⟩ : ∃ m : Nat, m = 2 * n := ⟨_, rfl⟩
  obtain ⟨n3, h3⟩ : ∃ m : Nat, m = 3 * n := ⟨_, rfl⟩
  obtain ⟨n4, h4⟩ : ∃ m : Nat, m = 4 * n := ⟨_, rfl⟩
  rw [← h2, ← h3, ← h4]
  rw [← h2] at C2
  rw [← h3] at C3
  rw [← h4] at C0 C1 C2 C3 CB
  have C0 := Lib.hid C0
  have C1 := Lib.hid C1
  have C2 := Lib.hid C2
  have C3 := Lib.hid C3
  have CB := Lib.hid (fun w => CB w hn hq)
  have A := Lib.hid (Cells.made w [.slice none 0 0, .slice none 0 0, .slice none 0 0, .slice none 0 0] 25)
  have Bw := Lib.hid (below_al1 w (.cells [Value.slice none 0 0, .slice none 0 0, .slice none 0 0, .slice none 0 0].toArray 25))
  clear h2 h3 h4 hn hq
  go_enter Try.func41, Try.ntmps41
  go_wp2_with fail
  refine (CB.out _).mono ?_
  rintro e w1 ⟨q1, q2, g, rfl, X1, X2, hg, Ro, hb⟩
  have hg : w.heap.size + 1 ≤ g := by simpa using hg
  have Bw := Lib.hid (below_step Bw.out hb)
  have A := Lib.hid (A.out.kept hb)
  clear hb
  go_wp2_with fail
  refine (C0.out _ _ _ _ (X1.at 0 rfl) (X2.at 0 rfl)).mono ?_
  rintro e w1' ⟨rfl, rfl⟩
  go_wp2_with fail
  refine (C1.out _ _ _ _ (X1.at 0 rfl) (X2.at 0 rfl)).mono ?_
  rintro e w1' ⟨rfl, rfl⟩
  go_wp2_with fail
  refine (C2.out _ _ _ _ (X1.at 0 rfl) (X2.at 0 rfl)).mono ?_
  rintro e w1' ⟨rfl, rfl⟩
  go_wp2_with fail
  refine (C3.out _ _ _ _ (X1.at 0 rfl) (X2.at 0 rfl)).mono ?_
  rintro e w1' ⟨rfl, rfl⟩
  clear X1 X2
  have a0 := A.out.at 0 rfl; have a1 := A.out.at 1 rfl; have a2 := A.out.at 2 rfl; have a3 := A.out.at 3 rfl; have af := A.out.fz
  go_wp2
  refine bodyPost_ret (v := .agg #[.slice (some ⟨g, 0, none⟩) n n, .slice (some ⟨g, n, none⟩) n n, .slice (some ⟨g, n2, none⟩) n n, .slice (some ⟨g, n3, none⟩) n n]) ?_ rfl ?_
  · rw [results_cell1 rfl]
    go_simp
  · exact ⟨g, rfl, by omega, rowIs_far (rowIs_far (rowIs_far (rowIs_far Ro (by omega)) (by omega)) (by omega)) (by omega), below_set4n Bw.out (by omega) _ _ _ _⟩
end Go.Proofs.Ytkbdidpodcclfaa

/- A rod of its own, as the specification makes it: four lists in blocks that lie apart. -/
namespace Go.Proofs.Ytkbdidpodcclfaa
open Go.RowKit
set_option linter.unusedVariables false

theorem Own.base {w : World} {b b' : Nat} {v : Value} {zs : List Nat} (h : Own w b v zs) (hb : b' ≤ b) : Own w b' v zs := by
  refine ⟨h.1, ?_⟩
  rcases h.2 with h' | ⟨g, cap, cur, hv, hg, rest⟩
  · exact .inl h'
  · exact .inr ⟨g, cap, cur, hv, Nat.le_trans hb hg, rest⟩
theorem Own.shape {w : World} {b : Nat} {v : Value} {zs : List Nat} (h : Own w b v zs) : ∃ a c, v = .slice a zs.length c := by
  rcases h.2 with ⟨rfl, h0⟩ | ⟨g, cap, cur, rfl, _⟩
  · exact ⟨_, _, by rw [h0]⟩
  · exact ⟨_, _, rfl⟩
/-- a rod's size, and that none of its lists is empty -/
def RSz (r : RL) : Prop := r.size ≤ 192 ∧ 1 ≤ r.W.length ∧ 1 ≤ r.E.length ∧ 1 ≤ r.H.length ∧ 1 ≤ r.T.length
namespace Pr
def fOwn (h : Nat) (zs : List Nat) : Fct := ⟨fun v w => Own w h v zs, fun _ _ _ h hb => h.kept hb⟩
set_option maxRecDepth 10000 in
set_option maxHeartbeats 1600000 in
theorem specOwn_any (a b c d : Value) (r : RL) (p : Nat) (w : World) (A0 : Cells w p [a, b, c, d]) (h : RRow w a b c d r) (sz : RSz r) :
    Calls Try.prog 45 #[.pointer (some ⟨p, 0, none⟩)] w fun e w' => ∃ a' b' c' d', e = .returned (.agg #[a', b', c', d']) ∧ Quad w' (w.heap.size + 1) a' r.W b' r.E c' r.H d' r.T ∧ Below w.heap.size w w' := by
  have H := Lib.hid (fun w1 (hb : Below w.heap.size w w1) => h.below hb)
  have SZ := Lib.hid (show r.size ≤ 192 ∧ 1 ≤ r.W.length ∧ 1 ≤ r.E.length ∧ 1 ≤ r.H.length ∧ 1 ≤ r.T.length from sz)
  have Bw := Lib.hid (below_al1 w (.cells [Value.slice none 0 0, .slice none 0 0, .slice none 0 0, .slice none 0 0].toArray 25))
  have A := Lib.hid (A0.al (.cells [Value.slice none 0 0, .slice none 0 0, .slice none 0 0, .slice none 0 0].toArray 25))
  have R := Lib.hid (Cells.made w [.slice none 0 0, .slice none 0 0, .slice none 0 0, .slice none 0 0] 25)
  have hs0 : Hid ((w.alloc (.cells [Value.slice none 0 0, .slice none 0 0, .slice none 0 0, .slice none 0 0].toArray 25)).heap.size = w.heap.size + 1) := Lib.hid (by simp)
  have FACT := Lib.hid (fun w1 (hw : Ext (w.alloc (.cells [Value.slice none 0 0, .slice none 0 0, .slice none 0 0, .slice none 0 0].toArray 25)) w1) => And.intro (hw.cell (A.out.at 0 rfl)) (And.intro (hw.cell (A.out.at 1 rfl)) (And.intro (hw.cell (A.out.at 2 rfl)) (hw.cell (A.out.at 3 rfl)))))
  clear h sz A0
  go_enter Try.func45, Try.ntmps45
  go_wp2
  refine wp_region_facts_tail 21 [] (Ext (w.alloc (.cells [Value.slice none 0 0, .slice none 0 0, .slice none 0 0, .slice none 0 0].toArray 25))) (TND [(7, fOwn (w.heap.size + 1) r.W), (12, fOwn (w.heap.size + 1) r.E), (17, fOwn (w.heap.size + 1) r.H), (22, fOwn (w.heap.size + 1) r.T)] [7, 12, 17, 22]) (Pers.ext _) (TND.pers _ _) (Ext.start _) (by kernel_rfl) (by kernel_rfl) (by intro d v c a w h; cases d <;> exact h) ?_
  simp only [List.take_succ_cons, List.take_zero, List.drop_succ_cons, List.drop_zero]
  repeat (refine wpF_val rfl monoQ_end (by rintro _ ⟨⟩; exact ⟨rfl, rfl⟩) ?_ (fun w1 hw1 => ?_) (fun K hK => ?_); rotate_left; (focus (have hF := FACT.out w1 hw1; go_simp; first | done | rfl)); go_simp; refine hK _ ?_; clear hK K)
  refine wpF_callO rfl 7 rfl 51 #[a] (fOwn (w.heap.size + 1) r.W) rfl (fun w1 => ?_) (fun w1 hC hN => ?_) (fun v1 hv1 => ?_)
  · go_simp
  · refine (specCopy_any a r.W w1 (H.out w1 (below_step Bw.out hC)).W SZ.out.2.1 (by have := SZ.out.1; unfold RL.size at this; omega)).mono ?_
    rintro e w2 ⟨v', rfl, ho, hb⟩
    exact ⟨_, rfl, hb, Own.base ho (by have h1 := hs0.out; have h2 := hC.size; omega), fun g e => World.ownsRow.lt ho g e⟩
  obtain ⟨w5, hv1⟩ := hv1
  obtain ⟨i7, j7, rfl⟩ := Own.shape hv1
  clear hv1 w5
  repeat (refine wpF_val rfl monoQ_end (by rintro _ ⟨⟩; exact ⟨rfl, rfl⟩) ?_ (fun w1 hw1 => ?_) (fun K hK => ?_); rotate_left; (focus (have hF := FACT.out w1 hw1; go_simp; first | done | rfl)); go_simp; refine hK _ ?_; clear hK K)
  refine wpF_callO rfl 12 rfl 51 #[b] (fOwn (w.heap.size + 1) r.E) rfl (fun w1 => ?_) (fun w1 hC hN => ?_) (fun v1 hv1 => ?_)
  · go_simp
  · refine (specCopy_any b r.E w1 (H.out w1 (below_step Bw.out hC)).E SZ.out.2.2.1 (by have := SZ.out.1; unfold RL.size at this; omega)).mono ?_
    rintro e w2 ⟨v', rfl, ho, hb⟩
    exact ⟨_, rfl, hb, Own.base ho (by have h1 := hs0.out; have h2 := hC.size; omega), fun g e => World.ownsRow.lt ho g e⟩
  obtain ⟨w5, hv1⟩ := hv1
  obtain ⟨i12, j12, rfl⟩ := Own.shape hv1
  clear hv1 w5
  repeat (refine wpF_val rfl monoQ_end (by rintro _ ⟨⟩; exact ⟨rfl, rfl⟩) ?_ (fun w1 hw1 => ?_) (fun K hK => ?_); rotate_left; (focus (have hF := FACT.out w1 hw1; go_simp; first | done | rfl)); go_simp; refine hK _ ?_; clear hK K)
  refine wpF_callO rfl 17 rfl 51 #[c] (fOwn (w.heap.size + 1) r.H) rfl (fun w1 => ?_) (fun w1 hC hN => ?_) (fun v1 hv1 => ?_)
  · go_simp
  · refine (specCopy_any c r.H w1 (H.out w1 (below_step Bw.out hC)).H SZ.out.2.2.2.1 (by have := SZ.out.1; unfold RL.size at this; omega)).mono ?_
    rintro e w2 ⟨v', rfl, ho, hb⟩
    exact ⟨_, rfl, hb, Own.base ho (by have h1 := hs0.out; have h2 := hC.size; omega), fun g e => World.ownsRow.lt ho g e⟩
  obtain ⟨w5, hv1⟩ := hv1
  obtain ⟨i17, j17, rfl⟩ := Own.shape hv1
  clear hv1 w5
  repeat (refine wpF_val rfl monoQ_end (by rintro _ ⟨⟩; exact ⟨rfl, rfl⟩) ?_ (fun w1 hw1 => ?_) (fun K hK => ?_); rotate_left; (focus (have hF := FACT.out w1 hw1; go_simp; first | done | rfl)); go_simp; refine hK _ ?_; clear hK K)
  refine wpF_callO rfl 22 rfl 51 #[d] (fOwn (w.heap.size + 1) r.T) rfl (fun w1 => ?_) (fun w1 hC hN => ?_) (fun v1 hv1 => ?_)
  · go_simp
  · refine (specCopy_any d r.T w1 (H.out w1 (below_step Bw.out hC)).T SZ.out.2.2.2.2 (by have := SZ.out.1; unfold RL.size at this; omega)).mono ?_
    rintro e w2 ⟨v', rfl, ho, hb⟩
    exact ⟨_, rfl, hb, Own.base ho (by have h1 := hs0.out; have h2 := hC.size; omega), fun g e => World.ownsRow.lt ho g e⟩
  obtain ⟨w5, hv1⟩ := hv1
  obtain ⟨i22, j22, rfl⟩ := Own.shape hv1
  clear hv1 w5
  repeat (refine wpF_val rfl monoQ_end (by rintro _ ⟨⟩; exact ⟨rfl, rfl⟩) ?_ (fun w1 hw1 => ?_) (fun K hK => ?_); rotate_left; (focus (have hF := FACT.out w1 hw1; go_simp; first | done | rfl)); go_simp; refine hK _ ?_; clear hK K)
  refine wpFacts_nil ?_
  intro w9 hC hF
  have o0 := Lib.hid (show Own w9 (w.heap.size + 1) (.slice i7 r.W.length j7) r.W from fact_of (d := 7) rfl hF (by repeat (first | exact Or.inr ⟨rfl, rfl⟩ | refine Or.inl ?_)))
  have o1 := Lib.hid (show Own w9 (w.heap.size + 1) (.slice i12 r.E.length j12) r.E from fact_of (d := 12) rfl hF (by repeat (first | exact Or.inr ⟨rfl, rfl⟩ | refine Or.inl ?_)))
  have o2 := Lib.hid (show Own w9 (w.heap.size + 1) (.slice i17 r.H.length j17) r.H from fact_of (d := 17) rfl hF (by repeat (first | exact Or.inr ⟨rfl, rfl⟩ | refine Or.inl ?_)))
  have o3 := Lib.hid (show Own w9 (w.heap.size + 1) (.slice i22 r.T.length j22) r.T from fact_of (d := 22) rfl hF (by repeat (first | exact Or.inr ⟨rfl, rfl⟩ | refine Or.inl ?_)))
  have p01 := Lib.hid (fun g (e : Value.ownBlock (.slice i7 r.W.length j7) = some g) (e' : Value.ownBlock (.slice i12 r.E.length j12) = some g) => fact_apart (d := 7) (d' := 12) rfl rfl (by decide) hF (by repeat (first | exact Or.inr ⟨rfl, rfl⟩ | refine Or.inl ?_)) (by repeat (first | exact Or.inr ⟨rfl, rfl⟩ | refine Or.inl ?_)) e e' rfl)
  have p02 := Lib.hid (fun g (e : Value.ownBlock (.slice i7 r.W.length j7) = some g) (e' : Value.ownBlock (.slice i17 r.H.length j17) = some g) => fact_apart (d := 7) (d' := 17) rfl rfl (by decide) hF (by repeat (first | exact Or.inr ⟨rfl, rfl⟩ | refine Or.inl ?_)) (by repeat (first | exact Or.inr ⟨rfl, rfl⟩ | refine Or.inl ?_)) e e' rfl)
  have p03 := Lib.hid (fun g (e : Value.ownBlock (.slice i7 r.W.length j7) = some g) (e' : Value.ownBlock (.slice i22 r.T.length j22) = some g) => fact_apart (d := 7) (d' := 22) rfl rfl (by decide) hF (by repeat (first | exact Or.inr ⟨rfl, rfl⟩ | refine Or.inl ?_)) (by repeat (first | exact Or.inr ⟨rfl, rfl⟩ | refine Or.inl ?_)) e e' rfl)
  have p12 := Lib.hid (fun g (e : Value.ownBlock (.slice i12 r.E.length j12) = some g) (e' : Value.ownBlock (.slice i17 r.H.length j17) = some g) => fact_apart (d := 12) (d' := 17) rfl rfl (by decide) hF (by repeat (first | exact Or.inr ⟨rfl, rfl⟩ | refine Or.inl ?_)) (by repeat (first | exact Or.inr ⟨rfl, rfl⟩ | refine Or.inl ?_)) e e' rfl)
  have p13 := Lib.hid (fun g (e : Value.ownBlock (.slice i12 r.E.length j12) = some g) (e' : Value.ownBlock (.slice i22 r.T.length j22) = some g) => fact_apart (d := 12) (d' := 22) rfl rfl (by decide) hF (by repeat (first | exact Or.inr ⟨rfl, rfl⟩ | refine Or.inl ?_)) (by repeat (first | exact Or.inr ⟨rfl, rfl⟩ | refine Or.inl ?_)) e e' rfl)
  have p23 := Lib.hid (fun g (e : Value.ownBlock (.slice i17 r.H.length j17) = some g) (e' : Value.ownBlock (.slice i22 r.T.length j22) = some g) => fact_apart (d := 17) (d' := 22) rfl rfl (by decide) hF (by repeat (first | exact Or.inr ⟨rfl, rfl⟩ | refine Or.inl ?_)) (by repeat (first | exact Or.inr ⟨rfl, rfl⟩ | refine Or.inl ?_)) e e' rfl)
  have R := Lib.hid (R.out.kept hC)
  have Bw := Lib.hid (below_step Bw.out hC)
  clear hF hC A FACT
  generalize r.W.length = n0 at *
  generalize r.E.length = n1 at *
  generalize r.H.length = n2 at *
  generalize r.T.length = n3 at *
  have r0 := R.out.at 0 rfl; have r1 := R.out.at 1 rfl; have r2 := R.out.at 2 rfl; have r3 := R.out.at 3 rfl; have rf := R.out.fz
  go_wp2
  refine bodyPost_ret (v := .agg #[.slice i7 n0 j7, .slice i12 n1 j12, .slice i17 n2 j17, .slice i22 n3 j22]) ?_ rfl ?_
  · rw [results_cell1 rfl]
    go_simp
  · have Q : Quad w9 (w.heap.size + 1) (.slice i7 n0 j7) r.W (.slice i12 n1 j12) r.E (.slice i17 n2 j17) r.H (.slice i22 n3 j22) r.T := ⟨o0.out, o1.out, o2.out, o3.out, p01.out, p02.out, p03.out, p12.out, p13.out, p23.out⟩
    exact ⟨_, _, _, _, rfl, (((Q.far (Nat.lt_succ_self _) 0 _).far (Nat.lt_succ_self _) 1 _).far (Nat.lt_succ_self _) 2 _).far (Nat.lt_succ_self _) 3 _, below_set4n Bw.out (Nat.le_refl _) _ _ _ _⟩
end Pr
end Go.Proofs.Ytkbdidpodcclfaa

/- A list copied into a part of a block. -/
namespace Go.Proofs.Ytkbdidpodcclfaa
open Go.RowKit
set_option linter.unusedVariables false

/-- what lies in a block into which ys is copied at off -/
def cpF (f : Nat → Nat) (off n : Nat) (ys : Nat → Nat) (i : Nat) : Nat := if off ≤ i ∧ i < off + n then ys (i - off) else f i
theorem row_copied {w : World} {g off n N : Nat} {f ys : Nat → Nat} {c : Array Value} {t : TypeId} (hg : w.heap[g]? = some (.cells c t (0, 0))) (hc : c.size = N) (hf : ∀ i, i < N → c[i]? = some (.float .f32 (f i))) (hfit : off + n ≤ N) :
    (w.setRow g (c.toList.take off ++ ((List.range n).map (fun i => Value.float .f32 (ys i)) ++ c.toList.drop (off + n))).toArray).rowIs g t N (fun i => .float .f32 (cpF f off n ys i)) := by
  refine ⟨_, setRow_heap w g _ _ t _ hg, by simp; omega, fun i hi => ?_⟩
  have hl : c.toList.length = N := by simpa using hc
  have h1 : (c.toList.take off).length = off := by simp; omega
  simp only [List.getElem?_toArray]
  unfold cpF
  by_cases e1 : i < off
  · rw [List.getElem?_append_left (by omega), List.getElem?_take_of_lt e1, if_neg (by omega)]
    simpa using hf i hi
  · rw [List.getElem?_append_right (by omega), h1]
    by_cases e2 : i < off + n
    · rw [List.getElem?_append_left (by simp; omega), if_pos ⟨by omega, e2⟩]
      simp [show i - off < n by omega]
    · rw [List.getElem?_append_right (by simp; omega), if_neg (by omega)]
      simp only [List.length_map, List.length_range, List.getElem?_drop]
      rw [show off + n + (i - off - n) = i by omega]
      simpa using hf i hi
theorem onl_setRow (w : World) (g : Nat) (cs : Array Value) : Onl g w (w.setRow g cs) := by
  refine ⟨rfl, rfl, rfl, by simp [World.setRow], fun k hk => setRow_other w g k cs hk⟩

theorem step_copy32 {ops : Array Oper} {o : Oper} {a : Act} {w : World} {K : Act → World → Prop} {Q : Exit → Act → World → Prop} {E : Prop} (hgd : o.guard = none) (d s : Operand)
    (ho : o.op = .call { callee := .builtin .copy, args := #[d, s], argTypes := #[23, 23] })
    (g off dl dc N : Nat) (f : Nat → Nat) (hd : a.eval d = .slice (some ⟨g, off, none⟩) dl dc) (q oq n sc : Nat) (ys : Nat → Nat) (hs : a.eval s = .slice (some ⟨q, oq, none⟩) n sc)
    (hr : w.rowIs g 22 N (fun i => .float .f32 (f i))) (hdl : n ≤ dl) (hfit : off + n ≤ N) (hsrc : ∀ i, i < n → w.cell? ⟨q, oq + i, none⟩ = some (.float .f32 (ys i)))
    (h : ∀ w', w'.rowIs g 22 N (fun i => .float .f32 (cpF f off n ys i)) → Onl g w w' → K (a.put o.dst (goInt n)) w') :
    if Region.wanted o (yielded ops a.tmps) = true then Oper.wp Try.prog o a w K Q else E := by
  have hw : Region.wanted o (yielded ops a.tmps) = true := by simp [Region.wanted, hgd]
  rw [if_pos hw]
  obtain ⟨c, hg, hc, hf⟩ := hr
  have hcl : ((List.range n).map (fun i => Value.float .f32 (ys i))).length = n := by simp
  have hrun := run_copy_row (P := Try.prog) w 23 23 o.type 22 g off dl dc ⟨q, oq, none⟩ n sc c 22 ((List.range n).map (fun i => Value.float .f32 (ys i))) Try.underlying23 (by
      have h := Try.rowOf32
      cases e : Try.prog.info? 22 with
      | none => rw [e] at h; simp at h
      | some i =>
        rw [e] at h
        simp only [Option.map_some, Option.some.injEq, Prod.mk.injEq] at h
        simp [h.2.1]) hg (by rw [hcl]; exact (Nat.min_eq_left hdl).symm) (fun j v hj => by
      have hjn : j < n := by
        by_cases hl : j < n
        · exact hl
        · rw [List.getElem?_eq_none (by simpa using hl)] at hj
          cases hj
      have e : v = .float .f32 (ys j) := by simp [hjn] at hj; exact hj.symm
      have h2 := hsrc j hjn
      rw [e]
      by_cases hj0 : j = 0
      · subst hj0
        first | (simp [Addr.add]; done) | simpa [Addr.add] using h2
      · simpa [Addr.add, hj0] using h2) (by rw [hcl, hc]; exact hfit) (fun v hv => by
      simp at hv
      obtain ⟨z, _, rfl⟩ := hv
      rfl)
  rw [hcl, List.append_assoc] at hrun
  unfold Oper.wp
  simp [execOp, ho, resolve, invoke, builtin, hd, hs, hrun, Result.andThen]
  refine h _ ?_ (onl_setRow _ _ _)
  have := row_copied (ys := ys) hg hc hf hfit
  simpa using this
end Go.Proofs.Ytkbdidpodcclfaa

/- Rods whose lists lie in blocks of a range. -/
namespace Go.Proofs.Ytkbdidpodcclfaa
open Go.RowKit
set_option linter.unusedVariables false

theorem OIn.wide {lo hi lo' hi' : Nat} {w : World} {v : Value} {zs : List Nat} (H : OIn lo hi w v zs) (h1 : lo' ≤ lo) (h2 : hi ≤ hi') : OIn lo' hi' w v zs := by
  rcases H with H | ⟨g, o, c, rfl, hg, hh, hr⟩
  · exact .inl H
  · exact .inr ⟨g, o, c, rfl, Nat.le_trans h1 hg, Nat.lt_of_lt_of_le hh h2, hr⟩
theorem Tur.set1 (w : World) (p i : Nat) (u : Value) : Tur (· = p) w (w.setCell ⟨p, i, none⟩ u) := Tur.of_onl ((Onl.refl p w).setCell i u) rfl
theorem OIn.set {lo hi : Nat} {w : World} {v : Value} {zs : List Nat} (H : OIn lo hi w v zs) (p i : Nat) (u : Value) (hp : p < lo ∨ hi ≤ p) : OIn lo hi (w.setCell ⟨p, i, none⟩ u) v zs :=
  H.tur (Tur.set1 w p i u) (fun j h1 h2 e => by have e' : j = p := e; omega)
def R4 (lo hi : Nat) (w : World) (a b c d : Value) (r : RL) : Prop := OIn lo hi w a r.W ∧ OIn lo hi w b r.E ∧ OIn lo hi w c r.H ∧ OIn lo hi w d r.T
theorem R4.kept {lo hi : Nat} {w w' : World} {a b c d : Value} {r : RL} (H : R4 lo hi w a b c d r) (hb : Below w.heap.size w w') : R4 lo hi w' a b c d r := ⟨H.1.kept hb, H.2.1.kept hb, H.2.2.1.kept hb, H.2.2.2.kept hb⟩
theorem R4.tur {lo hi : Nat} {S : Nat → Prop} {w w' : World} {a b c d : Value} {r : RL} (H : R4 lo hi w a b c d r) (t : Tur S w w') (hS : ∀ j, lo ≤ j → j < hi → ¬ S j) : R4 lo hi w' a b c d r := ⟨H.1.tur t hS, H.2.1.tur t hS, H.2.2.1.tur t hS, H.2.2.2.tur t hS⟩
theorem R4.set {lo hi : Nat} {w : World} {a b c d : Value} {r : RL} (H : R4 lo hi w a b c d r) (p i : Nat) (u : Value) (hp : p < lo ∨ hi ≤ p) : R4 lo hi (w.setCell ⟨p, i, none⟩ u) a b c d r :=
  ⟨H.1.set p i u hp, H.2.1.set p i u hp, H.2.2.1.set p i u hp, H.2.2.2.set p i u hp⟩
theorem R4.rrow {lo hi : Nat} {w : World} {a b c d : Value} {r : RL} (H : R4 lo hi w a b c d r) (hl : r.size ≤ 1048576) : RRow w a b c d r := by
  have hx : maxLen = 9223372036854775807 := rfl
  unfold RL.size at hl
  exact ⟨H.1.frow (by omega), H.2.1.frow (by omega), H.2.2.1.frow (by omega), H.2.2.2.frow (by omega)⟩
/-- a fact: a list in blocks made since lo -/
def fO (lo : Nat) (zs : List Nat) : Fct := ⟨fun v w => ORow lo w v zs, fun _ _ _ h hb => h.kept hb⟩
end Go.Proofs.Ytkbdidpodcclfaa

/- Whether a rod is valid, as the specification tells. -/
namespace Go.Proofs.Ytkbdidpodcclfaa
open Go.RowKit

def okAt (r : RL) (k : Nat) : Bool := pos (r.W.getD k 0) && pos (r.E.getD k 0) && pos (r.H.getD k 0) && fin .f32 (r.T.getD k 0)
def lensOk (r : RL) : Bool := decide (1 ≤ r.W.length) && decide (r.W.length ≤ 48) && (r.E.length == r.W.length) && (r.H.length == r.W.length) && (r.T.length == r.W.length)
def vRod (r : RL) : Bool := lensOk r && (List.range r.W.length).all (okAt r)

theorem vRod_no {r : RL} (hl : lensOk r = true) {k : Nat} (hk : k < r.W.length) (h : okAt r k = false) : vRod r = false := by
  unfold vRod
  rw [hl, Bool.true_and, List.all_eq_false]
  exact ⟨k, by simpa using hk, by simp [h]⟩
theorem vRod_yes {r : RL} (hl : lensOk r = true) (h : ∀ j, j < r.W.length → okAt r j = true) : vRod r = true := by
  unfold vRod
  rw [hl, Bool.true_and, List.all_eq_true]
  intro x hx
  exact h x (by simpa using hx)

theorem specIs_len (a b c d : Value) (r : RL) (p : Nat) (w : World) (A : Cells w p [a, b, c, d]) (h : RRow w a b c d r) (hl : lensOk r = false) :
    Calls Try.prog 44 #[.pointer (some ⟨p, 0, none⟩)] w (Bol false w) := by
  have c0 := A.at 0 rfl
  have c1 := A.at 1 rfl
  have c2 := A.at 2 rfl
  have c3 := A.at 3 rfl
  have N1 := h.W.len
  obtain ⟨a1, a2, rfl⟩ := h.W.shape
  obtain ⟨b1, b2, rfl⟩ := h.E.shape
  obtain ⟨d1, d2, rfl⟩ := h.H.shape
  obtain ⟨e1, e2, rfl⟩ := h.T.shape
  clear A h
  unfold lensOk at hl
  generalize r.W.length = n at *
  generalize r.E.length = m1 at *
  generalize r.H.length = m2 at *
  generalize r.T.length = m3 at *
  by_cases g1 : 1 ≤ n
  · by_cases g2 : n ≤ 48
    · have f1 : decide ((n : Int) < 1) = false := by simp; omega
      have f2 : decide ((48 : Int) < n) = false := by simp; omega
      by_cases g3 : m1 = n
      · subst g3
        by_cases g4 : m2 = m1
        · subst g4
          have g5 : ¬ m3 = m2 := by simpa [g1, g2] using hl
          have f5 : ((m3 : Int) == (m2 : Int)) = false := by simp; omega
          have f5' : ((m3 : Int) != (m2 : Int)) = true := by simp; omega
          clear hl
          go_enter Try.func44, Try.ntmps44
          go_wp2
          go_ret
          exact ⟨rfl, 0, rfl⟩
        · have f4 : ((m2 : Int) == (m1 : Int)) = false := by simp; omega
          have f4' : ((m2 : Int) != (m1 : Int)) = true := by simp; omega
          clear hl
          go_enter Try.func44, Try.ntmps44
          go_wp2
          go_ret
          exact ⟨rfl, 0, rfl⟩
      · have f3 : ((m1 : Int) == (n : Int)) = false := by simp; omega
        have f3' : ((m1 : Int) != (n : Int)) = true := by simp; omega
        clear hl
        go_enter Try.func44, Try.ntmps44
        go_wp2
        go_ret
        exact ⟨rfl, 0, rfl⟩
    · have f1 : decide ((n : Int) < 1) = false := by simp; omega
      have f2 : decide ((48 : Int) < n) = true := by simp; omega
      clear hl
      go_enter Try.func44, Try.ntmps44
      go_wp2
      go_ret
      exact ⟨rfl, 0, rfl⟩
  · have f1 : decide ((n : Int) < 1) = true := by simp; omega
    clear hl
    go_enter Try.func44, Try.ntmps44
    go_wp2
    go_ret
    exact ⟨rfl, 0, rfl⟩

set_option maxHeartbeats 1600000 in
theorem specIs_ok (a b c d : Value) (r : RL) (p : Nat) (w : World) (A : Cells w p [a, b, c, d]) (h : RRow w a b c d r) (hl : lensOk r = true) :
    Calls Try.prog 44 #[.pointer (some ⟨p, 0, none⟩)] w (Bol (vRod r) w) := by
  have c0 := A.at 0 rfl
  have c1 := A.at 1 rfl
  have c2 := A.at 2 rfl
  have c3 := A.at 3 rfl
  have VN := Lib.hid (fun k (hk : k < r.W.length) (h : okAt r k = false) => vRod_no hl hk h)
  have VY := Lib.hid (fun h => vRod_yes hl h)
  have OK : Hid (∀ k, okAt r k = (pos (r.W.getD k 0) && pos (r.E.getD k 0) && pos (r.H.getD k 0) && fin .f32 (r.T.getD k 0))) := Lib.hid (fun k => rfl)
  obtain ⟨⟨⟨⟨g1, g2⟩, g3⟩, g4⟩, g5⟩ : (((1 ≤ r.W.length ∧ r.W.length ≤ 48) ∧ r.E.length = r.W.length) ∧ r.H.length = r.W.length) ∧ r.T.length = r.W.length := by simpa [lensOk] using hl
  obtain ⟨b0, o0, k0, rfl, h0⟩ := h.W.cells g1
  obtain ⟨b1, o1, k1, rfl, h1⟩ := h.E.cells (by omega)
  obtain ⟨b2, o2, k2, rfl, h2⟩ := h.H.cells (by omega)
  obtain ⟨b3, o3, k3, rfl, h3⟩ := h.T.cells (by omega)
  rw [g3] at h1 c1
  rw [g4] at h2 c2
  rw [g5] at h3 c3
  clear A h hl g3 g4 g5
  generalize r.W.length = n at *
  have f1 : decide ((n : Int) < 1) = false := by simp; omega
  have f2 : decide ((48 : Int) < n) = false := by simp; omega
  have G := Lib.hid g2
  clear g1 g2
  go_enter Try.func44, Try.ntmps44
  go_wp2
  go_loopw [4] (fun i wr => ∃ k q : Nat, k ≤ n ∧ i = .int .i64 k ∧ Hid (∀ j, j < k → okAt r j = true) ∧ wr = w.drewN q) (fun i _ => n - (intOf i).toNat)
  case atStart => exact ⟨0, 0, Nat.zero_le _, rfl, Lib.hid (fun j hj => absurd hj (Nat.not_lt_zero _)), rfl⟩
  case round =>
    obtain ⟨k, q, hk, rfl, hall, rfl⟩ := hrel
    by_cases hlt : k < n
    · have z0 := h0 k hlt
      have z1 := h1 k hlt
      have z2 := h2 k hlt
      have z3 := h3 k hlt
      have hG := G.out
      have hi : (0 : Int) ≤ (k : Int) := by omega
      have hi' : (k : Int) < (n : Int) := by omega
      have VNk := Lib.hid (VN.out k hlt)
      clear h0 h1 h2 h3
      have O := Lib.hid (OK.out k)
      generalize hy0 : (r.W.getD k 0) = y0 at *
      generalize hy1 : (r.E.getD k 0) = y1 at *
      generalize hy2 : (r.H.getD k 0) = y2 at *
      generalize hy3 : (r.T.getD k 0) = y3 at *
      clear hy0 hy1 hy2 hy3
      cases B0 : pos y0
      · have O' := Lib.hid (VNk.out (by rw [O.out]; simp [B0]))
        clear O
        go_wp2_with (first | (go_at_call_of 61 y0; refine (specAbove_any y0 _).mono ?_; rw [B0]; rintro e w' ⟨rfl, n0, rfl⟩))
        go_ret
        exact ⟨ret_b O'.out, _, rfl⟩
      · cases B1 : pos y1
        · have O' := Lib.hid (VNk.out (by rw [O.out]; simp [B0, B1]))
          clear O
          go_wp2_with (first | (go_at_call_of 61 y0; refine (specAbove_any y0 _).mono ?_; rw [B0]; rintro e w' ⟨rfl, n0, rfl⟩) | (go_at_call_of 61 y1; refine (specAbove_any y1 _).mono ?_; rw [B1]; rintro e w' ⟨rfl, n1, rfl⟩))
          go_ret
          exact ⟨ret_b O'.out, _, rfl⟩
        · cases B2 : pos y2
          · have O' := Lib.hid (VNk.out (by rw [O.out]; simp [B0, B1, B2]))
            clear O
            go_wp2_with (first | (go_at_call_of 61 y0; refine (specAbove_any y0 _).mono ?_; rw [B0]; rintro e w' ⟨rfl, n0, rfl⟩) | (go_at_call_of 61 y1; refine (specAbove_any y1 _).mono ?_; rw [B1]; rintro e w' ⟨rfl, n1, rfl⟩) | (go_at_call_of 61 y2; refine (specAbove_any y2 _).mono ?_; rw [B2]; rintro e w' ⟨rfl, n2, rfl⟩))
            go_ret
            exact ⟨ret_b O'.out, _, rfl⟩
          · cases B3 : fin .f32 y3
            · have O' := Lib.hid (VNk.out (by rw [O.out]; simp [B0, B1, B2, B3]))
              clear O
              go_wp2_with (first | (go_at_call_of 61 y0; refine (specAbove_any y0 _).mono ?_; rw [B0]; rintro e w' ⟨rfl, n0, rfl⟩) | (go_at_call_of 61 y1; refine (specAbove_any y1 _).mono ?_; rw [B1]; rintro e w' ⟨rfl, n1, rfl⟩) | (go_at_call_of 61 y2; refine (specAbove_any y2 _).mono ?_; rw [B2]; rintro e w' ⟨rfl, n2, rfl⟩) | (go_at_call_of 70 y3; refine (specFinite_any y3 _).mono ?_; rw [B3]; rintro e w' ⟨rfl, n3, rfl⟩))
              go_ret
              exact ⟨ret_b O'.out, _, rfl⟩
            · have O' := Lib.hid (show okAt r k = true by rw [O.out]; simp [B0, B1, B2, B3])
              clear O
              go_wp2_with (first | (go_at_call_of 61 y0; refine (specAbove_any y0 _).mono ?_; rw [B0]; rintro e w' ⟨rfl, n0, rfl⟩) | (go_at_call_of 61 y1; refine (specAbove_any y1 _).mono ?_; rw [B1]; rintro e w' ⟨rfl, n1, rfl⟩) | (go_at_call_of 61 y2; refine (specAbove_any y2 _).mono ?_; rw [B2]; rintro e w' ⟨rfl, n2, rfl⟩) | (go_at_call_of 70 y3; refine (specFinite_any y3 _).mono ?_; rw [B3]; rintro e w' ⟨rfl, n3, rfl⟩))
              go_roundw
              case rel => exact ⟨k + 1, _, by omega, by go_num, Lib.hid (fun j hj => by rcases Nat.lt_succ_iff_lt_or_eq.1 hj with h | h; exact hall.out j h; subst h; exact O'.out), rfl⟩
              case measure => simp [intOf]; omega
    · have e := Lib.hid (show k = n by omega)
      clear h0 h1 h2 h3
      go_wp2
      go_ret
      have := e.out
      subst this
      exact ⟨ret_b (VY.out hall.out), _, rfl⟩

theorem specIs_any (a b c d : Value) (r : RL) (p : Nat) (w : World) (A : Cells w p [a, b, c, d]) (h : RRow w a b c d r) :
    Calls Try.prog 44 #[.pointer (some ⟨p, 0, none⟩)] w (Bol (vRod r) w) := by
  cases hl : lensOk r
  · have : vRod r = false := by simp [vRod, hl]
    rw [this]
    exact specIs_len a b c d r p w A h hl
  · exact specIs_ok a b c d r p w A h hl

end Go.Proofs.Ytkbdidpodcclfaa

/- A rod in the opposite order, as the specification makes it. -/
namespace Go.Proofs.Ytkbdidpodcclfaa
open Go.RowKit
set_option linter.unusedVariables false

theorem rev_snoc (zs : List Nat) (m : Nat) (h : m < zs.length) : (zs.drop m).reverse = (zs.drop (m + 1)).reverse ++ [zs.getD m 0] := by
  rw [List.drop_eq_getElem_cons h, List.reverse_cons]
  simp [List.getD_eq_getElem?_getD, h]
set_option maxHeartbeats 1600000 in
theorem specBackL_any (v : Value) (zs : List Nat) (w : World) (h : FRow w v zs) (hn : 1 ≤ zs.length) (hl : zs.length ≤ 1048576) :
    Calls Try.prog 48 #[v] w fun e w' => ∃ v', e = .returned v' ∧ Own w' w.heap.size v' zs.reverse ∧ Below w.heap.size w w' := by
  obtain ⟨b, off, c, rfl, hc⟩ := h.cells hn
  have HC : ∀ w', Below w.heap.size w w' → ∀ i, i < zs.length → w'.cell? ⟨b, off + i, none⟩ = some (.float .f32 (zs.getD i 0)) := by
    intro w' hb
    obtain ⟨b', o', c', e, hc'⟩ := (h.below hb).cells hn
    cases e
    exact hc'
  have HC := Lib.hid HC
  have O0 := Lib.hid (Own.empty w w.heap.size (Nat.le_refl _))
  obtain ⟨n, hN⟩ : ∃ n, zs.length = n := ⟨_, rfl⟩
  rw [hN] at hn hl HC
  have HN := Lib.hid hN
  have B0 := Lib.hid (below_al1 w (.cells #[] 22))
  rw [hN]
  clear h hc hN
  go_enter Try.func48, Try.ntmps48
  go_wp2
  go_loopw [3, 4] (fun L i wr => ∃ j : Nat, j ≤ n ∧ i = .int .i64 ((j : Int) - 1) ∧ Hid (Own wr w.heap.size L (zs.drop j).reverse) ∧ Hid (Below w.heap.size w wr)) (fun _ i _ => (intOf i + 1).toNat)
  case atStart => exact ⟨n, Nat.le_refl _, by go_num, Lib.hid (by have := O0.out; rw [← HN.out, List.drop_length]; exact this), B0⟩
  case round =>
    obtain ⟨j, hj, rfl, hO, hB⟩ := hrel
    cases j with
    | zero =>
      have h0 : ¬ (0 : Int) ≤ ((0 : Nat) : Int) - 1 := by omega
      go_wp2
      go_ret
      exact ⟨_, rfl, by simpa using hO.out, hB.out⟩
    | succ m =>
      have ei : ((m + 1 : Nat) : Int) - 1 = (m : Int) := by omega
      rw [ei]
      have z0 := HC.out wr hB.out m (by omega)
      have SN := Lib.hid (rev_snoc zs m (by have := HN.out; omega))
      have hzb : Hid ((zs.drop (m + 1)).reverse.length ≤ 1048576) := Lib.hid (by have := HN.out; simp; omega)
      have hbs : Hid (w.heap.size ≤ wr.heap.size) := Lib.hid hB.out.size
      generalize zs.getD m 0 = y at *
      generalize (zs.drop (m + 1)).reverse = Ls at *
      have hi : (0 : Int) ≤ (m : Int) := by omega
      have hi' : (m : Int) < (n : Int) := by omega
      clear ei
      go_wp2_with (at_builtin; refine wpList_app32 rfl _ _ rfl w.heap.size _ Ls rfl (hO.out.al _) _ y _ rfl ((World.cell?_alloc_at _ _ _ _ (by simp)).trans rfl) hzb.out (by have := hbs.out; simp; omega) ?_; intro v' w3 hown' hb; have O3 := Lib.hid hown'; have B3 := Lib.hid ((hB.out.alloc (by have := hbs.out; omega) _).trans hb); clear hown' hb)
      go_roundw
      case rel => exact ⟨m, by omega, by go_num, Lib.hid (by rw [SN.out]; exact O3.out), B3⟩
      case measure => first | (simp [intOf]; done) | (simp [intOf]; omega)

def backRL (r : RL) : RL := ⟨r.W.reverse, r.E.reverse, r.H.reverse, r.T.reverse⟩
theorem backRL_size (r : RL) : (backRL r).size = r.size := by simp [backRL, RL.size]
theorem vRod_size {r : RL} (h : vRod r = true) : r.size ≤ 192 ∧ 1 ≤ r.W.length ∧ 1 ≤ r.E.length ∧ 1 ≤ r.H.length ∧ 1 ≤ r.T.length := by
  unfold vRod lensOk at h
  simp only [Bool.and_eq_true, decide_eq_true_eq, beq_iff_eq] at h
  obtain ⟨⟨⟨⟨⟨_, h1⟩, h2⟩, h3⟩, h4⟩, _⟩ := h
  unfold RL.size
  omega
set_option maxHeartbeats 3200000 in
set_option maxRecDepth 8000 in
theorem specBack_any (a b c d : Value) (r : RL) (w : World) (h : RRow w a b c d r) : Calls Try.prog 20 #[.agg #[a, b, c, d]] w (RdB (vRod r) (bif vRod r then backRL r else nilRL) w) := by
  unfold RdB
  have H := Lib.hid (fun w1 (hb : Below w.heap.size w w1) => h.below hb)
  have A := Lib.hid ((Cells.made w [a, b, c, d] 25).al (.cells [Value.slice none 0 0, .slice none 0 0, .slice none 0 0, .slice none 0 0].toArray 25))
  have R := Cells.made (w.alloc (.cells [a, b, c, d].toArray 25)) [.slice none 0 0, .slice none 0 0, .slice none 0 0, .slice none 0 0] 25
  rw [show (w.alloc (.cells [a, b, c, d].toArray 25)).heap.size = w.heap.size + 1 from by simp] at R
  have R := Lib.hid R
  have Bw := Lib.hid (below_al2 w (.cells [a, b, c, d].toArray 25) (.cells [Value.slice none 0 0, .slice none 0 0, .slice none 0 0, .slice none 0 0].toArray 25))
  clear h
  cases hv : vRod r
  · have HV := Lib.hid hv
    clear hv
    go_enter Try.func20, Try.ntmps20
    go_wp2_with fail
    refine (specIs_any _ _ _ _ r _ _ A.out (H.out _ Bw.out)).mono ?_
    rw [HV.out]
    rintro _ _ ⟨rfl, m, rfl⟩
    have R := Lib.hid (R.out.drewN (n := m))
    have Bw := Lib.hid (below_drewN Bw.out m)
    have r0 := R.out.at 0 rfl; have r1 := R.out.at 1 rfl; have r2 := R.out.at 2 rfl; have r3 := R.out.at 3 rfl; have rf := R.out.fz
    go_wp2
    refine bodyPost_ret (v := .tuple #[.agg #[.slice none 0 0, .slice none 0 0, .slice none 0 0, .slice none 0 0], .bool false]) ?_ rfl ?_
    · rw [results_cell_tmp rfl]
      go_simp
    · exact ⟨_, _, _, _, rfl, nil_row _, below_set4n Bw.out (by omega) _ _ _ _⟩
  · have HV := Lib.hid hv
    have SZ := Lib.hid (vRod_size hv)
    clear hv
    go_enter Try.func20, Try.ntmps20
    go_wp2_with fail
    refine (specIs_any _ _ _ _ r _ _ A.out (H.out _ Bw.out)).mono ?_
    rw [HV.out]
    rintro _ _ ⟨rfl, m, rfl⟩
    have R := Lib.hid (R.out.drewN (n := m))
    have A := Lib.hid (A.out.drewN (n := m))
    have Bw := Lib.hid (below_drewN Bw.out m)
    have W3 : Hid (w.heap.size + 1 < (((w.alloc (.cells [a, b, c, d].toArray 25)).alloc (.cells [Value.slice none 0 0, .slice none 0 0, .slice none 0 0, .slice none 0 0].toArray 25)).drewN m).heap.size) := Lib.hid (by simp)
    generalize ((w.alloc (.cells [a, b, c, d].toArray 25)).alloc (.cells [Value.slice none 0 0, .slice none 0 0, .slice none 0 0, .slice none 0 0].toArray 25)).drewN m = w3 at *
    go_wp2
    have FACT := Lib.hid (fun w1 (hw : Ext w3 w1) => And.intro (hw.cell (A.out.at 0 rfl)) (And.intro (hw.cell (A.out.at 1 rfl)) (And.intro (hw.cell (A.out.at 2 rfl)) (hw.cell (A.out.at 3 rfl)))))
    refine wp_region_facts_tail 13 [] (Ext w3) (TS [(9, fO w3.heap.size r.W.reverse), (12, fO w3.heap.size r.E.reverse), (15, fO w3.heap.size r.H.reverse), (18, fO w3.heap.size r.T.reverse)]) (Pers.ext _) (TS.pers _) (Ext.start _) (by kernel_rfl) (by kernel_rfl) (by intro d v c a w h; cases d <;> exact h) ?_
    simp only [List.take_succ_cons, List.take_zero, List.drop_succ_cons, List.drop_zero]
    repeat (refine wpF_val rfl monoQ_end (by rintro _ ⟨⟩; rfl) ?_ (fun w1 hw1 => ?_) (fun K hK => ?_); rotate_left; (focus (have hF := FACT.out w1 hw1; go_simp; first | done | rfl)); go_simp; refine hK _ ?_; clear hK K)
    refine wpF_callF rfl 9 rfl 48 #[a] (fO w3.heap.size r.W.reverse) rfl (fun w1 => ?_) (fun w1 hC hN => ?_) (fun v1 hv1 => ?_)
    · go_simp
    · refine (specBackL_any a r.W w1 (H.out w1 (below_step Bw.out hC)).W SZ.out.2.1 (Nat.le_trans (by have := SZ.out.1; unfold RL.size at this; omega) (show 192 ≤ 1048576 by decide))).mono ?_
      rintro e w2 ⟨v', rfl, ho, hb⟩
      exact ⟨_, rfl, hb, (ho.orow).mono hC.size⟩
    obtain ⟨w5, hv1⟩ := hv1
    obtain ⟨i9, j9, e9⟩ := ORow.shape hv1
    rw [List.length_reverse] at e9
    subst e9
    clear hv1 w5
    repeat (refine wpF_val rfl monoQ_end (by rintro _ ⟨⟩; rfl) ?_ (fun w1 hw1 => ?_) (fun K hK => ?_); rotate_left; (focus (have hF := FACT.out w1 hw1; go_simp; first | done | rfl)); go_simp; refine hK _ ?_; clear hK K)
    refine wpF_callF rfl 12 rfl 48 #[b] (fO w3.heap.size r.E.reverse) rfl (fun w1 => ?_) (fun w1 hC hN => ?_) (fun v1 hv1 => ?_)
    · go_simp
    · refine (specBackL_any b r.E w1 (H.out w1 (below_step Bw.out hC)).E SZ.out.2.2.1 (Nat.le_trans (by have := SZ.out.1; unfold RL.size at this; omega) (show 192 ≤ 1048576 by decide))).mono ?_
      rintro e w2 ⟨v', rfl, ho, hb⟩
      exact ⟨_, rfl, hb, (ho.orow).mono hC.size⟩
    obtain ⟨w5, hv1⟩ := hv1
    obtain ⟨i12, j12, e12⟩ := ORow.shape hv1
    rw [List.length_reverse] at e12
    subst e12
    clear hv1 w5
    repeat (refine wpF_val rfl monoQ_end (by rintro _ ⟨⟩; rfl) ?_ (fun w1 hw1 => ?_) (fun K hK => ?_); rotate_left; (focus (have hF := FACT.out w1 hw1; go_simp; first | done | rfl)); go_simp; refine hK _ ?_; clear hK K)
    refine wpF_callF rfl 15 rfl 48 #[c] (fO w3.heap.size r.H.reverse) rfl (fun w1 => ?_) (fun w1 hC hN => ?_) (fun v1 hv1 => ?_)
    · go_simp
    · refine (specBackL_any c r.H w1 (H.out w1 (below_step Bw.out hC)).H SZ.out.2.2.2.1 (Nat.le_trans (by have := SZ.out.1; unfold RL.size at this; omega) (show 192 ≤ 1048576 by decide))).mono ?_
      rintro e w2 ⟨v', rfl, ho, hb⟩
      exact ⟨_, rfl, hb, (ho.orow).mono hC.size⟩
    obtain ⟨w5, hv1⟩ := hv1
    obtain ⟨i15, j15, e15⟩ := ORow.shape hv1
    rw [List.length_reverse] at e15
    subst e15
    clear hv1 w5
    repeat (refine wpF_val rfl monoQ_end (by rintro _ ⟨⟩; rfl) ?_ (fun w1 hw1 => ?_) (fun K hK => ?_); rotate_left; (focus (have hF := FACT.out w1 hw1; go_simp; first | done | rfl)); go_simp; refine hK _ ?_; clear hK K)
    refine wpF_callF rfl 18 rfl 48 #[d] (fO w3.heap.size r.T.reverse) rfl (fun w1 => ?_) (fun w1 hC hN => ?_) (fun v1 hv1 => ?_)
    · go_simp
    · refine (specBackL_any d r.T w1 (H.out w1 (below_step Bw.out hC)).T SZ.out.2.2.2.2 (Nat.le_trans (by have := SZ.out.1; unfold RL.size at this; omega) (show 192 ≤ 1048576 by decide))).mono ?_
      rintro e w2 ⟨v', rfl, ho, hb⟩
      exact ⟨_, rfl, hb, (ho.orow).mono hC.size⟩
    obtain ⟨w5, hv1⟩ := hv1
    obtain ⟨i18, j18, e18⟩ := ORow.shape hv1
    rw [List.length_reverse] at e18
    subst e18
    clear hv1 w5
    repeat (refine wpF_val rfl monoQ_end (by rintro _ ⟨⟩; rfl) ?_ (fun w1 hw1 => ?_) (fun K hK => ?_); rotate_left; (focus (have hF := FACT.out w1 hw1; go_simp; first | done | rfl)); go_simp; refine hK _ ?_; clear hK K)
    refine wpFacts_nil ?_
    intro w4 hC hF
    have oW := Lib.hid (OIn.of (show ORow w3.heap.size w4 (.slice i9 r.W.length j9) r.W.reverse from fact_of (d := 9) rfl hF (by repeat (first | exact Or.inr ⟨rfl, rfl⟩ | refine Or.inl ?_))))
    have oE := Lib.hid (OIn.of (show ORow w3.heap.size w4 (.slice i12 r.E.length j12) r.E.reverse from fact_of (d := 12) rfl hF (by repeat (first | exact Or.inr ⟨rfl, rfl⟩ | refine Or.inl ?_))))
    have oH := Lib.hid (OIn.of (show ORow w3.heap.size w4 (.slice i15 r.H.length j15) r.H.reverse from fact_of (d := 15) rfl hF (by repeat (first | exact Or.inr ⟨rfl, rfl⟩ | refine Or.inl ?_))))
    have oT := Lib.hid (OIn.of (show ORow w3.heap.size w4 (.slice i18 r.T.length j18) r.T.reverse from fact_of (d := 18) rfl hF (by repeat (first | exact Or.inr ⟨rfl, rfl⟩ | refine Or.inl ?_))))
    have R := Lib.hid (R.out.kept hC)
    have Bw := Lib.hid (below_step Bw.out hC)
    have Q := Lib.hid (show R4 w3.heap.size w4.heap.size w4 (.slice i9 r.W.length j9) (.slice i12 r.E.length j12) (.slice i15 r.H.length j15) (.slice i18 r.T.length j18) (backRL r) from ⟨oW.out, oE.out, oH.out, oT.out⟩)
    clear hF hC A FACT oW oE oH oT
    generalize r.W.length = n0 at *
    generalize r.E.length = n1 at *
    generalize r.H.length = n2 at *
    generalize r.T.length = n3 at *
    have r0 := R.out.at 0 rfl; have r1 := R.out.at 1 rfl; have r2 := R.out.at 2 rfl; have r3 := R.out.at 3 rfl; have rf := R.out.fz
    go_wp2
    refine bodyPost_ret (v := .tuple #[.agg #[.slice i9 n0 j9, .slice i12 n1 j12, .slice i15 n2 j15, .slice i18 n3 j18], .bool true]) ?_ rfl ?_
    · rw [results_cell_tmp rfl]
      go_simp
    · have hlt := W3.out
      refine ⟨_, _, _, _, rfl, ?_, below_set4n Bw.out (by omega) _ _ _ _⟩
      exact ((((Q.out.set _ 0 _ (.inl hlt)).set _ 1 _ (.inl hlt)).set _ 2 _ (.inl hlt)).set _ 3 _ (.inl hlt)).rrow (by rw [backRL_size]; exact Nat.le_trans SZ.out.1 (by decide))
end Go.Proofs.Ytkbdidpodcclfaa

/- Whether all numbers of a list are are finite. -/
namespace Go.Proofs.Ytkbdidpodcclfaa
open Go.RowKit

/-- an index, or -1 -/
def Idx (b : Bool) (w : World) (e : Ending) (w' : World) : Prop := ∃ i : Int, e = .returned (.int .i64 i) ∧ decide (0 ≤ i) = b ∧ ∃ n, w' = w.drewN n
theorem any_some {f : Nat → Bool} {zs : List Nat} {k : Nat} (hk : k < zs.length) (h : f (zs.getD k 0) = true) : zs.any f = true := by
  rw [List.any_eq_true]
  refine ⟨zs.getD k 0, ?_, h⟩
  simp [List.getD_eq_getElem?_getD, hk]
theorem not_any_not (f : Nat → Bool) (zs : List Nat) : (!(zs.any (fun z => !(f z)))) = zs.all f := by
  induction zs with
  | nil => rfl
  | cons x xs ih => simp only [List.any_cons, List.all_cons, ← ih]; cases f x <;> simp
theorem any_none {f : Nat → Bool} {zs : List Nat} (h : ∀ k, k < zs.length → f (zs.getD k 0) = false) : zs.any f = false := by
  rw [List.any_eq_false]
  intro x hx
  obtain ⟨i, hi, rfl⟩ := List.mem_iff_getElem.1 hx
  have := h i hi
  simpa [List.getD_eq_getElem?_getD, hi] using this

theorem litFin_any (y q : Nat) (w : World) (hq : w.cell? ⟨q, 0, none⟩ = some (.func (.func 78) #[] #[])) :
    Calls Try.prog 100 #[.float .f32 y, .pointer (some ⟨q, 0, none⟩)] w (Bol (!(fin .f32 y)) w) := by
  go_enter Try.func100, Try.ntmps100
  go_wp2_with (go_at_call 78; refine (implFinite_any _ _).mono ?_; rintro e w' ⟨rfl, n, rfl⟩)
  go_ret
  exact ⟨rfl, _, rfl⟩

theorem idxFin_any (v : Value) (zs : List Nat) (q : Nat) (w : World) (h : FRow w v zs) (hq : w.cell? ⟨q, 0, none⟩ = some (.func (.func 78) #[] #[])) :
    Calls Try.prog 111 #[v, .func (.func 100) #[] #[.pointer (some ⟨q, 0, none⟩)]] w (Idx (zs.any (fun z => !(fin .f32 z))) w) := by
  have VS := Lib.hid (fun k (hk : k < zs.length) (h : (!(fin .f32 (zs.getD k 0))) = true) => any_some (f := fun z => !(fin .f32 z)) hk h)
  have VN := Lib.hid (fun h => any_none (f := fun z => !(fin .f32 z)) (zs := zs) h)
  have HC := Lib.hid (fun (hn : 1 ≤ zs.length) => h.cells hn)
  have HL := Lib.hid h.len
  obtain ⟨a, cap, rfl⟩ := h.shape
  clear h
  generalize hb : zs.any (fun z => !(fin .f32 z)) = b at *
  clear hb
  have HG : Hid (∀ k, zs.getD k 0 = zs.getD k 0) := Lib.hid (fun k => rfl)
  generalize hn : zs.length = n at *
  clear hn
  go_enter Try.func111, Try.ntmps111
  go_wp2
  go_loopw [5, 8] (fun _ i wr => ∃ k q : Nat, k ≤ n ∧ i = .int .i64 k ∧ Hid (∀ j, j < k → (!(fin .f32 (zs.getD j 0))) = false) ∧ wr = w.drewN q) (fun _ i _ => n - (intOf i).toNat)
  case atStart => exact ⟨0, 0, Nat.zero_le _, rfl, Lib.hid (fun j hj => absurd hj (Nat.not_lt_zero _)), rfl⟩
  case round =>
    obtain ⟨k, q, hk, rfl, hall, rfl⟩ := hrel
    by_cases hlt : k < n
    · obtain ⟨b0, o0, cap', e, hc⟩ := HC.out (by omega)
      have ea : a = some ⟨b0, o0, none⟩ := by cases e; rfl
      have z0 := hc k hlt
      have VSk := Lib.hid (VS.out k hlt)
      clear e hc
      subst ea
      have hG := HL.out
      have hi : (0 : Int) ≤ (k : Int) := by omega
      have hi' : (k : Int) < (n : Int) := by omega
      generalize hy : zs.getD k 0 = y at *
      cases B : fin .f32 y
      · have V := Lib.hid (VSk.out (by rw [B]; rfl))
        go_wp2_with (go_at_call 100; refine (litFin_any y _ _ (by simpa using hq)).mono ?_; rw [B]; rintro e w' ⟨rfl, n, rfl⟩)
        go_ret
        exact ⟨_, rfl, by rw [V.out]; simp, _, rfl⟩
      · have V := Lib.hid (show (!(fin .f32 (zs.getD k 0))) = false by rw [hy, B]; rfl)
        clear hy
        go_wp2_with (go_at_call 100; refine (litFin_any y _ _ (by simpa using hq)).mono ?_; rw [B]; rintro e w' ⟨rfl, n, rfl⟩)
        go_roundw
        case rel => exact ⟨k + 1, _, by omega, by go_num, Lib.hid (fun j hj => by rcases Nat.lt_succ_iff_lt_or_eq.1 hj with h | h; exact hall.out j h; subst h; exact V.out), rfl⟩
        case measure => simp [intOf]; omega
    · have e := Lib.hid (show k = n by omega)
      go_wp2
      go_ret
      have := e.out
      subst this
      exact ⟨_, rfl, by rw [VN.out hall.out]; rfl, _, rfl⟩

theorem allFin_any (v : Value) (zs : List Nat) (w : World) (h : FRow w v zs) : Calls Try.prog 76 #[v, .func (.func 78) #[] #[]] w (BolB (zs.all (fin .f32)) w) := by
  have H := Lib.hid (h.below (below_al1 w (.cells [Value.func (.func 78) #[] #[]].toArray 70)))
  have e := Lib.hid (show (!(zs.any (fun z => !(fin .f32 z)))) = zs.all (fin .f32) from not_any_not _ _)
  clear h
  go_enter Try.func76, Try.ntmps76
  go_wp2_with (first | (go_at_call 111; refine (idxFin_any _ zs _ _ H.out (by simp)).mono ?_; rintro e w' ⟨i, rfl, hi, n, rfl⟩) | go_in)
  go_ret
  exact ⟨ret_b e.out.symm, below_drewN (below_al1 _ _) _⟩

end Go.Proofs.Ytkbdidpodcclfaa

/- Whether all numbers of a list are greater than 0. -/
namespace Go.Proofs.Ytkbdidpodcclfaa
open Go.RowKit

theorem litPos_any (y q : Nat) (w : World) (hq : w.cell? ⟨q, 0, none⟩ = some (.func (.func 77) #[] #[])) :
    Calls Try.prog 100 #[.float .f32 y, .pointer (some ⟨q, 0, none⟩)] w (Bol (!(pos y)) w) := by
  go_enter Try.func100, Try.ntmps100
  go_wp2_with (go_at_call 77; refine (implPos_any _ _).mono ?_; rintro e w' ⟨rfl, n, rfl⟩)
  go_ret
  exact ⟨rfl, _, rfl⟩

theorem idxPos_any (v : Value) (zs : List Nat) (q : Nat) (w : World) (h : FRow w v zs) (hq : w.cell? ⟨q, 0, none⟩ = some (.func (.func 77) #[] #[])) :
    Calls Try.prog 111 #[v, .func (.func 100) #[] #[.pointer (some ⟨q, 0, none⟩)]] w (Idx (zs.any (fun z => !(pos z))) w) := by
  have VS := Lib.hid (fun k (hk : k < zs.length) (h : (!(pos (zs.getD k 0))) = true) => any_some (f := fun z => !(pos z)) hk h)
  have VN := Lib.hid (fun h => any_none (f := fun z => !(pos z)) (zs := zs) h)
  have HC := Lib.hid (fun (hn : 1 ≤ zs.length) => h.cells hn)
  have HL := Lib.hid h.len
  obtain ⟨a, cap, rfl⟩ := h.shape
  clear h
  generalize hb : zs.any (fun z => !(pos z)) = b at *
  clear hb
  have HG : Hid (∀ k, zs.getD k 0 = zs.getD k 0) := Lib.hid (fun k => rfl)
  generalize hn : zs.length = n at *
  clear hn
  go_enter Try.func111, Try.ntmps111
  go_wp2
  go_loopw [5, 8] (fun _ i wr => ∃ k q : Nat, k ≤ n ∧ i = .int .i64 k ∧ Hid (∀ j, j < k → (!(pos (zs.getD j 0))) = false) ∧ wr = w.drewN q) (fun _ i _ => n - (intOf i).toNat)
  case atStart => exact ⟨0, 0, Nat.zero_le _, rfl, Lib.hid (fun j hj => absurd hj (Nat.not_lt_zero _)), rfl⟩
  case round =>
    obtain ⟨k, q, hk, rfl, hall, rfl⟩ := hrel
    by_cases hlt : k < n
    · obtain ⟨b0, o0, cap', e, hc⟩ := HC.out (by omega)
      have ea : a = some ⟨b0, o0, none⟩ := by cases e; rfl
      have z0 := hc k hlt
      have VSk := Lib.hid (VS.out k hlt)
      clear e hc
      subst ea
      have hG := HL.out
      have hi : (0 : Int) ≤ (k : Int) := by omega
      have hi' : (k : Int) < (n : Int) := by omega
      generalize hy : zs.getD k 0 = y at *
      cases B : pos y
      · have V := Lib.hid (VSk.out (by rw [B]; rfl))
        go_wp2_with (go_at_call 100; refine (litPos_any y _ _ (by simpa using hq)).mono ?_; rw [B]; rintro e w' ⟨rfl, n, rfl⟩)
        go_ret
        exact ⟨_, rfl, by rw [V.out]; simp, _, rfl⟩
      · have V := Lib.hid (show (!(pos (zs.getD k 0))) = false by rw [hy, B]; rfl)
        clear hy
        go_wp2_with (go_at_call 100; refine (litPos_any y _ _ (by simpa using hq)).mono ?_; rw [B]; rintro e w' ⟨rfl, n, rfl⟩)
        go_roundw
        case rel => exact ⟨k + 1, _, by omega, by go_num, Lib.hid (fun j hj => by rcases Nat.lt_succ_iff_lt_or_eq.1 hj with h | h; exact hall.out j h; subst h; exact V.out), rfl⟩
        case measure => simp [intOf]; omega
    · have e := Lib.hid (show k = n by omega)
      go_wp2
      go_ret
      have := e.out
      subst this
      exact ⟨_, rfl, by rw [VN.out hall.out]; rfl, _, rfl⟩

theorem allPos_any (v : Value) (zs : List Nat) (w : World) (h : FRow w v zs) : Calls Try.prog 76 #[v, .func (.func 77) #[] #[]] w (BolB (zs.all (pos)) w) := by
  have H := Lib.hid (h.below (below_al1 w (.cells [Value.func (.func 77) #[] #[]].toArray 70)))
  have e := Lib.hid (show (!(zs.any (fun z => !(pos z)))) = zs.all (pos) from not_any_not _ _)
  clear h
  go_enter Try.func76, Try.ntmps76
  go_wp2_with (first | (go_at_call 111; refine (idxPos_any _ zs _ _ H.out (by simp)).mono ?_; rintro e w' ⟨i, rfl, hi, n, rfl⟩) | go_in)
  go_ret
  exact ⟨ret_b e.out.symm, below_drewN (below_al1 _ _) _⟩
end Go.Proofs.Ytkbdidpodcclfaa

/- Whether a rod is valid, as the program tells. -/
namespace Go.Proofs.Ytkbdidpodcclfaa
open Go.RowKit

theorem vRod_split {r : RL} (hl : lensOk r = true) : vRod r = (r.W.all pos && r.E.all pos && r.H.all pos && r.T.all (fin .f32)) := by
  have hl' := hl
  obtain ⟨⟨⟨⟨g1, g2⟩, g3⟩, g4⟩, g5⟩ : (((1 ≤ r.W.length ∧ r.W.length ≤ 48) ∧ r.E.length = r.W.length) ∧ r.H.length = r.W.length) ∧ r.T.length = r.W.length := by simpa [lensOk] using hl
  have key : ∀ (f : Nat → Bool) (zs : List Nat), zs.all f = true ↔ ∀ k, k < zs.length → f (zs.getD k 0) = true := fun f zs => by
    rw [List.all_eq_true]
    constructor
    · intro h k hk
      exact h _ (by simp [List.getD_eq_getElem?_getD, hk])
    · intro h x hx
      obtain ⟨i, hi, rfl⟩ := List.mem_iff_getElem.1 hx
      have := h i hi
      simpa [List.getD_eq_getElem?_getD, hi] using this
  unfold vRod
  rw [hl', Bool.true_and, Bool.eq_iff_iff, List.all_eq_true]
  simp only [Bool.and_eq_true, key, g3, g4, g5, List.mem_range, okAt]
  constructor
  · intro h
    exact ⟨⟨⟨fun k hk => (h k hk).1.1.1, fun k hk => (h k hk).1.1.2⟩, fun k hk => (h k hk).1.2⟩, fun k hk => (h k hk).2⟩
  · rintro ⟨⟨⟨h1, h2⟩, h3⟩, h4⟩ k hk
    exact ⟨⟨⟨h1 k hk, h2 k hk⟩, h3 k hk⟩, h4 k hk⟩

theorem implValid_len (a b c d : Value) (r : RL) (w : World) (h : RRow w a b c d r) (hl : lensOk r = false) :
    Calls Try.prog 46 #[.agg #[a, b, c, d]] w (BolB false w) := by
  obtain ⟨a1, a2, rfl⟩ := h.W.shape
  obtain ⟨b1, b2, rfl⟩ := h.E.shape
  obtain ⟨d1, d2, rfl⟩ := h.H.shape
  obtain ⟨e1, e2, rfl⟩ := h.T.shape
  clear h
  unfold lensOk at hl
  generalize r.W.length = m1 at *
  generalize r.E.length = m2 at *
  generalize r.H.length = m3 at *
  generalize r.T.length = n at *
  by_cases g1 : 1 ≤ n
  · have f1 : decide ((1 : Int) ≤ n) = true := by simp; omega
    by_cases g2 : n ≤ 48
    · have f2 : decide ((n : Int) ≤ 48) = true := by simp; omega
      by_cases g3 : m1 = n
      · subst g3
        by_cases g4 : m2 = m1
        · subst g4
          have g5 : ¬ m3 = m2 := by simpa [g1, g2] using hl
          have f5 : ((m3 : Int) == (m2 : Int)) = false := by simp; omega
          clear hl
          go_enter Try.func46, Try.ntmps46
          go_wp2
          go_ret
          exact ⟨rfl, below_al1 _ _⟩
        · have f4 : ((m2 : Int) == (m1 : Int)) = false := by simp; omega
          clear hl
          go_enter Try.func46, Try.ntmps46
          go_wp2
          go_ret
          exact ⟨rfl, below_al1 _ _⟩
      · have f3 : ((m1 : Int) == (n : Int)) = false := by simp; omega
        clear hl
        go_enter Try.func46, Try.ntmps46
        go_wp2
        go_ret
        exact ⟨rfl, below_al1 _ _⟩
    · have f2 : decide ((n : Int) ≤ 48) = false := by simp; omega
      clear hl
      go_enter Try.func46, Try.ntmps46
      go_wp2
      go_ret
      exact ⟨rfl, below_al1 _ _⟩
  · have f1 : decide ((1 : Int) ≤ n) = false := by simp; omega
    clear hl
    go_enter Try.func46, Try.ntmps46
    go_wp2
    go_ret
    exact ⟨rfl, below_al1 _ _⟩

set_option maxHeartbeats 1600000 in
theorem implValid_ok (a b c d : Value) (r : RL) (w : World) (h : RRow w a b c d r) (hl : lensOk r = true) :
    Calls Try.prog 46 #[.agg #[a, b, c, d]] w (BolB (vRod r) w) := by
  have R := Lib.hid (fun w1 (hb : Below w.heap.size w w1) => h.below hb)
  rw [vRod_split hl]
  obtain ⟨⟨⟨⟨g1, g2⟩, g3⟩, g4⟩, g5⟩ : (((1 ≤ r.W.length ∧ r.W.length ≤ 48) ∧ r.E.length = r.W.length) ∧ r.H.length = r.W.length) ∧ r.T.length = r.W.length := by simpa [lensOk] using hl
  obtain ⟨b0, k0, rfl⟩ := h.W.shape
  obtain ⟨b1, k1, rfl⟩ := h.E.shape
  obtain ⟨b2, k2, rfl⟩ := h.H.shape
  obtain ⟨b3, k3, rfl⟩ := h.T.shape
  rw [g3, g4, g5] at R ⊢
  clear h hl g3 g4 g5
  generalize r.W.length = n at *
  have f1 : decide ((1 : Int) ≤ n) = true := by simp; omega
  have f2 : decide ((n : Int) ≤ 48) = true := by simp; omega
  have A := Lib.hid (Cells.made w [.slice b0 n k0, .slice b1 n k1, .slice b2 n k2, .slice b3 n k3] 25)
  have Bw := Lib.hid (below_al1 w (.cells [Value.slice b0 n k0, .slice b1 n k1, .slice b2 n k2, .slice b3 n k3].toArray 25))
  clear g1 g2
  cases B0 : r.W.all pos
  · go_enter Try.func46, Try.ntmps46
    go_wp2_with (first | (go_at_call_of 76 b0; refine (allPos_any _ _ _ (R.out _ Bw.out).W).mono ?_; rw [B0]; rintro e w' ⟨rfl, hb⟩; have Bw := Lib.hid (below_step Bw.out hb); have A := Lib.hid (A.out.kept hb); have c0 := A.out.at 0 rfl; have c1 := A.out.at 1 rfl; have c2 := A.out.at 2 rfl; have c3 := A.out.at 3 rfl; clear hb))
    go_ret
    exact ⟨ret_b (by simp), Bw.out⟩
  · cases B1 : r.E.all pos
    · go_enter Try.func46, Try.ntmps46
      go_wp2_with (first | (go_at_call_of 76 b0; refine (allPos_any _ _ _ (R.out _ Bw.out).W).mono ?_; rw [B0]; rintro e w' ⟨rfl, hb⟩; have Bw := Lib.hid (below_step Bw.out hb); have A := Lib.hid (A.out.kept hb); have c0 := A.out.at 0 rfl; have c1 := A.out.at 1 rfl; have c2 := A.out.at 2 rfl; have c3 := A.out.at 3 rfl; clear hb) | (go_at_call_of 76 b1; refine (allPos_any _ _ _ (R.out _ Bw.out).E).mono ?_; rw [B1]; rintro e w' ⟨rfl, hb⟩; have Bw := Lib.hid (below_step Bw.out hb); have A := Lib.hid (A.out.kept hb); have c0 := A.out.at 0 rfl; have c1 := A.out.at 1 rfl; have c2 := A.out.at 2 rfl; have c3 := A.out.at 3 rfl; clear hb))
      go_ret
      exact ⟨ret_b (by simp), Bw.out⟩
    · cases B2 : r.H.all pos
      · go_enter Try.func46, Try.ntmps46
        go_wp2_with (first | (go_at_call_of 76 b0; refine (allPos_any _ _ _ (R.out _ Bw.out).W).mono ?_; rw [B0]; rintro e w' ⟨rfl, hb⟩; have Bw := Lib.hid (below_step Bw.out hb); have A := Lib.hid (A.out.kept hb); have c0 := A.out.at 0 rfl; have c1 := A.out.at 1 rfl; have c2 := A.out.at 2 rfl; have c3 := A.out.at 3 rfl; clear hb) | (go_at_call_of 76 b1; refine (allPos_any _ _ _ (R.out _ Bw.out).E).mono ?_; rw [B1]; rintro e w' ⟨rfl, hb⟩; have Bw := Lib.hid (below_step Bw.out hb); have A := Lib.hid (A.out.kept hb); have c0 := A.out.at 0 rfl; have c1 := A.out.at 1 rfl; have c2 := A.out.at 2 rfl; have c3 := A.out.at 3 rfl; clear hb) | (go_at_call_of 76 b2; refine (allPos_any _ _ _ (R.out _ Bw.out).H).mono ?_; rw [B2]; rintro e w' ⟨rfl, hb⟩; have Bw := Lib.hid (below_step Bw.out hb); have A := Lib.hid (A.out.kept hb); have c0 := A.out.at 0 rfl; have c1 := A.out.at 1 rfl; have c2 := A.out.at 2 rfl; have c3 := A.out.at 3 rfl; clear hb))
        go_ret
        exact ⟨ret_b (by simp), Bw.out⟩
      · cases B3 : r.T.all (fin .f32)
        · go_enter Try.func46, Try.ntmps46
          go_wp2_with (first | (go_at_call_of 76 b0; refine (allPos_any _ _ _ (R.out _ Bw.out).W).mono ?_; rw [B0]; rintro e w' ⟨rfl, hb⟩; have Bw := Lib.hid (below_step Bw.out hb); have A := Lib.hid (A.out.kept hb); have c0 := A.out.at 0 rfl; have c1 := A.out.at 1 rfl; have c2 := A.out.at 2 rfl; have c3 := A.out.at 3 rfl; clear hb) | (go_at_call_of 76 b1; refine (allPos_any _ _ _ (R.out _ Bw.out).E).mono ?_; rw [B1]; rintro e w' ⟨rfl, hb⟩; have Bw := Lib.hid (below_step Bw.out hb); have A := Lib.hid (A.out.kept hb); have c0 := A.out.at 0 rfl; have c1 := A.out.at 1 rfl; have c2 := A.out.at 2 rfl; have c3 := A.out.at 3 rfl; clear hb) | (go_at_call_of 76 b2; refine (allPos_any _ _ _ (R.out _ Bw.out).H).mono ?_; rw [B2]; rintro e w' ⟨rfl, hb⟩; have Bw := Lib.hid (below_step Bw.out hb); have A := Lib.hid (A.out.kept hb); have c0 := A.out.at 0 rfl; have c1 := A.out.at 1 rfl; have c2 := A.out.at 2 rfl; have c3 := A.out.at 3 rfl; clear hb) | (go_at_call_of 76 b3; refine (allFin_any _ _ _ (R.out _ Bw.out).T).mono ?_; rw [B3]; rintro e w' ⟨rfl, hb⟩; have Bw := Lib.hid (below_step Bw.out hb); have A := Lib.hid (A.out.kept hb); have c0 := A.out.at 0 rfl; have c1 := A.out.at 1 rfl; have c2 := A.out.at 2 rfl; have c3 := A.out.at 3 rfl; clear hb))
          go_ret
          exact ⟨ret_b (by simp), Bw.out⟩
        · go_enter Try.func46, Try.ntmps46
          go_wp2_with (first | (go_at_call_of 76 b0; refine (allPos_any _ _ _ (R.out _ Bw.out).W).mono ?_; rw [B0]; rintro e w' ⟨rfl, hb⟩; have Bw := Lib.hid (below_step Bw.out hb); have A := Lib.hid (A.out.kept hb); have c0 := A.out.at 0 rfl; have c1 := A.out.at 1 rfl; have c2 := A.out.at 2 rfl; have c3 := A.out.at 3 rfl; clear hb) | (go_at_call_of 76 b1; refine (allPos_any _ _ _ (R.out _ Bw.out).E).mono ?_; rw [B1]; rintro e w' ⟨rfl, hb⟩; have Bw := Lib.hid (below_step Bw.out hb); have A := Lib.hid (A.out.kept hb); have c0 := A.out.at 0 rfl; have c1 := A.out.at 1 rfl; have c2 := A.out.at 2 rfl; have c3 := A.out.at 3 rfl; clear hb) | (go_at_call_of 76 b2; refine (allPos_any _ _ _ (R.out _ Bw.out).H).mono ?_; rw [B2]; rintro e w' ⟨rfl, hb⟩; have Bw := Lib.hid (below_step Bw.out hb); have A := Lib.hid (A.out.kept hb); have c0 := A.out.at 0 rfl; have c1 := A.out.at 1 rfl; have c2 := A.out.at 2 rfl; have c3 := A.out.at 3 rfl; clear hb) | (go_at_call_of 76 b3; refine (allFin_any _ _ _ (R.out _ Bw.out).T).mono ?_; rw [B3]; rintro e w' ⟨rfl, hb⟩; have Bw := Lib.hid (below_step Bw.out hb); have A := Lib.hid (A.out.kept hb); have c0 := A.out.at 0 rfl; have c1 := A.out.at 1 rfl; have c2 := A.out.at 2 rfl; have c3 := A.out.at 3 rfl; clear hb))
          go_ret
          exact ⟨ret_b (by simp), Bw.out⟩

theorem implValid_any (a b c d : Value) (r : RL) (w : World) (h : RRow w a b c d r) : Calls Try.prog 46 #[.agg #[a, b, c, d]] w (BolB (vRod r) w) := by
  cases hl : lensOk r
  · have : vRod r = false := by simp [vRod, hl]
    rw [this]
    exact implValid_len a b c d r w h hl
  · exact implValid_ok a b c d r w h hl

end Go.Proofs.Ytkbdidpodcclfaa

/- A number, and whether it is finite: what functions hand back that may fail. -/
namespace Go.Proofs.Ytkbdidpodcclfaa
open Go.RowKit

/-- a number if it is finite -/
def ifF (x : Nat) : Nat := if fin .f32 x then x else 0
theorem ifF_cn {x S : Nat} (h : cn .f32 x = S) : cn .f32 (ifF x) = ifF S ∧ fin .f32 x = fin .f32 S := by
  have hf : fin .f32 x = fin .f32 S := by rw [← h, fin_cn]
  refine ⟨?_, hf⟩
  unfold ifF
  rw [← hf]
  cases e : fin .f32 x
  · rfl
  · simp only [if_true]; exact h

/-- a number up to a not-a-number's bits, and a bool; nothing that was there has turned -/
def GivB (S : Nat) (b : Bool) (w : World) (e : Ending) (w' : World) : Prop := ∃ r, cn .f32 r = S ∧ e = .returned (.tuple #[.float .f32 r, .bool b]) ∧ Below w.heap.size w w'

theorem ret2_b {r : Nat} {b b' : Bool} (h : b = b') : Ending.returned (.tuple #[.float .f32 r, .bool b]) = Ending.returned (.tuple #[.float .f32 r, .bool b']) := by rw [h]
theorem GivB.num {x S : Nat} {w w' : World} (h : cn .f32 x = S) (hb : Below w.heap.size w w') : GivB (ifF S) (fin .f32 S) w (.returned (.tuple #[.float .f32 (ifF x), .bool (fin .f32 x)])) w' :=
  ⟨_, (ifF_cn h).1, ret2_b (ifF_cn h).2, hb⟩
theorem GivB.no {w w' : World} (hb : Below w.heap.size w w') : GivB 0 false w (.returned (.tuple #[.float .f32 0, .bool false])) w' := ⟨0, rfl, rfl, hb⟩

theorem specNum_any (x : Nat) (w : World) : Calls Try.prog 89 #[.float .f32 x] w fun e w' => e = .returned (.tuple #[.float .f32 (ifF x), .bool (fin .f32 x)]) ∧ ∃ n, w' = w.drewN n := by
  cases hf : fin .f32 x
  · go_enter Try.func89, Try.ntmps89
    go_wp2_with (go_at_call 70; refine (specFinite_any _ _).mono ?_; rw [hf]; rintro e w' ⟨rfl, n, rfl⟩)
    go_ret2
    exact ⟨by simp [ifF, hf], _, rfl⟩
  · go_enter Try.func89, Try.ntmps89
    go_wp2_with (go_at_call 70; refine (specFinite_any _ _).mono ?_; rw [hf]; rintro e w' ⟨rfl, n, rfl⟩)
    go_ret2
    exact ⟨by simp [ifF, hf], _, rfl⟩

theorem implNum_any (x : Nat) (w : World) : Calls Try.prog 93 #[.float .f32 x] w fun e w' => e = .returned (.tuple #[.float .f32 (ifF x), .bool (fin .f32 x)]) ∧ ∃ n, w' = w.drewN n := by
  cases hf : fin .f32 x
  · go_enter Try.func93, Try.ntmps93
    go_wp2_with (go_at_call 78; refine (implFinite_any _ _).mono ?_; rw [hf]; rintro e w' ⟨rfl, n, rfl⟩)
    go_ret2
    exact ⟨by simp [ifF, hf], _, rfl⟩
  · go_enter Try.func93, Try.ntmps93
    go_wp2_with (go_at_call 78; refine (implFinite_any _ _).mono ?_; rw [hf]; rintro e w' ⟨rfl, n, rfl⟩)
    go_ret2
    exact ⟨by simp [ifF, hf], _, rfl⟩

end Go.Proofs.Ytkbdidpodcclfaa

/- The four lists of a rod by their cells; what is told of each cell. -/
namespace Go.Proofs.Ytkbdidpodcclfaa
open Go.RowKit
set_option linter.unusedVariables false

/-- a 32-bit number up to a not-a-number's bits; nothing that was there has turned -/
def FlB (S : Nat) (w : World) (e : Ending) (w' : World) : Prop := ∃ x, cn .f32 x = S ∧ e = .returned (.float .f32 x) ∧ Below w.heap.size w w'
/-- .. and nothing is made -/
def FlD (S : Nat) (w : World) (e : Ending) (w' : World) : Prop := ∃ x, cn .f32 x = S ∧ e = .returned (.float .f32 x) ∧ ∃ n, w' = w.drewN n

/-- all lists of a rod are n long -/
structure Len (r : RL) (n : Nat) : Prop where
  W : r.W.length = n
  E : r.E.length = n
  H : r.H.length = n
  T : r.T.length = n
  p : 1 ≤ n
  q : n ≤ 48
theorem Len.of {r : RL} (hl : lensOk r = true) : Len r r.W.length := by
  obtain ⟨⟨⟨⟨g1, g2⟩, g3⟩, g4⟩, g5⟩ : (((1 ≤ r.W.length ∧ r.W.length ≤ 48) ∧ r.E.length = r.W.length) ∧ r.H.length = r.W.length) ∧ r.T.length = r.W.length := by simpa [lensOk] using hl
  exact ⟨rfl, g3, g4, g5, g1, g2⟩
theorem Len.ofV {r : RL} (hv : vRod r = true) : Len r r.W.length := Len.of (by unfold vRod at hv; simp only [Bool.and_eq_true] at hv; exact hv.1)

/-- four slices of n numbers each, by their cells -/
structure Lay (w : World) (n b0 o0 k0 b1 o1 k1 b2 o2 k2 b3 o3 k3 : Nat) (r : RL) : Prop where
  W : ∀ i, i < n → w.cell? ⟨b0, o0 + i, none⟩ = some (.float .f32 (r.W.getD i 0))
  E : ∀ i, i < n → w.cell? ⟨b1, o1 + i, none⟩ = some (.float .f32 (r.E.getD i 0))
  H : ∀ i, i < n → w.cell? ⟨b2, o2 + i, none⟩ = some (.float .f32 (r.H.getD i 0))
  T : ∀ i, i < n → w.cell? ⟨b3, o3 + i, none⟩ = some (.float .f32 (r.T.getD i 0))
theorem Lay.below {w w' : World} {n b0 o0 k0 b1 o1 k1 b2 o2 k2 b3 o3 k3 : Nat} {r : RL} (h : Lay w n b0 o0 k0 b1 o1 k1 b2 o2 k2 b3 o3 k3 r) (hb : Below w.heap.size w w') : Lay w' n b0 o0 k0 b1 o1 k1 b2 o2 k2 b3 o3 k3 r :=
  ⟨fun i hi => Ext.cell hb (h.W i hi), fun i hi => Ext.cell hb (h.E i hi), fun i hi => Ext.cell hb (h.H i hi), fun i hi => Ext.cell hb (h.T i hi)⟩
theorem RRow.lay {w : World} {a b c d : Value} {r : RL} {n : Nat} (h : RRow w a b c d r) (hl : Len r n) : ∃ b0 o0 k0 b1 o1 k1 b2 o2 k2 b3 o3 k3,
    a = .slice (some ⟨b0, o0, none⟩) n k0 ∧ b = .slice (some ⟨b1, o1, none⟩) n k1 ∧ c = .slice (some ⟨b2, o2, none⟩) n k2 ∧ d = .slice (some ⟨b3, o3, none⟩) n k3 ∧ Lay w n b0 o0 k0 b1 o1 k1 b2 o2 k2 b3 o3 k3 r := by
  obtain ⟨b0, o0, k0, rfl, h0⟩ := h.W.cells (by rw [hl.W]; exact hl.p)
  obtain ⟨b1, o1, k1, rfl, h1⟩ := h.E.cells (by rw [hl.E]; exact hl.p)
  obtain ⟨b2, o2, k2, rfl, h2⟩ := h.H.cells (by rw [hl.H]; exact hl.p)
  obtain ⟨b3, o3, k3, rfl, h3⟩ := h.T.cells (by rw [hl.T]; exact hl.p)
  rw [hl.W] at h0; rw [hl.E] at h1; rw [hl.H] at h2; rw [hl.T] at h3
  rw [hl.W, hl.E, hl.H, hl.T]
  exact ⟨_, _, _, _, _, _, _, _, _, _, _, _, rfl, rfl, rfl, rfl, h0, h1, h2, h3⟩

/-- what is told of a cell -/
def tW (r : RL) (k : Nat) : Nat := cn .f32 (r.W.getD k 0)
def tS (r : RL) (k : Nat) : Nat := fop .mul .f32 (cn .f32 (r.W.getD k 0)) (cn .f32 (r.H.getD k 0))
def tQ (r : RL) (k : Nat) : Nat := fop .mul .f32 (tS r k) (cn .f32 (r.T.getD k 0))
def tN (r : RL) (k : Nat) : Nat := fop .quo .f32 (cn .f32 (r.W.getD k 0)) (cn .f32 (r.E.getD k 0))
def sumT (f : Nat → Nat) (n : Nat) : Nat := (List.range n).foldl (fun s k => fop .add .f32 s (f k)) (cn .f32 0)
theorem sumT_succ (f : Nat → Nat) (k : Nat) : sumT f (k + 1) = fop .add .f32 (sumT f k) (f k) := by
  unfold sumT
  rw [List.range_succ, List.foldl_append]
  rfl
theorem cn_fop (op : BinOp) (k : FloatKind) (x y : Nat) : cn k (fop op k x y) = fop op k x y := by
  unfold fop
  cases h : floatBits op k x y with
  | none => exact cn_of_nan (nn_qn k)
  | some r => exact cn_of_num (floatBits_num h)

end Go.Proofs.Ytkbdidpodcclfaa

/- Two rods as one: the numbers. -/
namespace Go.Proofs.Ytkbdidpodcclfaa
open Go.RowKit
set_option linter.unusedVariables false

def joR (r s : RL) : RL := ⟨r.W ++ s.W, r.E ++ s.E, r.H ++ s.H, r.T ++ s.T⟩
def joB (r s : RL) : Bool := (vRod r && vRod s) && vRod (joR r s)
def joS (r s : RL) : RL := bif joB r s then joR r s else nilRL
theorem joB_no {r s : RL} (h : (vRod r && vRod s) = false) : joB r s = false := by simp [joB, h]
theorem joB_yes {r s : RL} (h : vRod r = true) (h2 : vRod s = true) : joB r s = vRod (joR r s) := by simp [joB, h, h2]
theorem joS_small (r s : RL) : (joS r s).size ≤ 300 := by
  unfold joS
  cases h : joB r s with
  | false => exact Nat.zero_le _
  | true =>
    unfold joB at h
    simp only [Bool.and_eq_true] at h
    exact Nat.le_trans (vRod_size h.2).1 (by decide)
theorem getD_cat (a b : List Nat) (n i : Nat) (h : a.length = n) : (a ++ b).getD i 0 = if i < n then a.getD i 0 else b.getD (i - n) 0 := by
  subst h
  by_cases hi : i < a.length
  · rw [if_pos hi]; simp [List.getD_eq_getElem?_getD, List.getElem?_append_left hi]
  · rw [if_neg hi]; simp [List.getD_eq_getElem?_getD, List.getElem?_append_right (Nat.le_of_not_lt hi)]
theorem jo_all (n m N : Nat) (r s : RL) (hN : N = n + m) (h0 : r.W.length = n) (h1 : r.E.length = n) (h2 : r.H.length = n) (h3 : r.T.length = n) (i : Nat) (hi : i < 4 * N) :
    cpF (cpF (cpF (cpF (cpF (cpF (cpF (cpF (fun _ => 0) 0 n (fun i => r.W.getD i 0)) (N + 0) n (fun i => r.E.getD i 0)) (2 * N + 0) n (fun i => r.H.getD i 0)) (3 * N + 0) n (fun i => r.T.getD i 0)) n m (fun i => s.W.getD i 0)) (N + n) m (fun i => s.E.getD i 0)) (2 * N + n) m (fun i => s.H.getD i 0)) (3 * N + n) m (fun i => s.T.getD i 0) i = rlF N (joR r s) i := by
  unfold cpF rlF joR
  simp only [getD_cat _ _ n _ h0, getD_cat _ _ n _ h1, getD_cat _ _ n _ h2, getD_cat _ _ n _ h3]
  repeat' split
  all_goals first | rfl | omega | (congr 1; omega)
end Go.Proofs.Ytkbdidpodcclfaa
