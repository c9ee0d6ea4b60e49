/- A region that draws its order, whose operations leave the world alone but for questions, AND MAY HAND BACK ANY OF SEVERAL VALUES (a not-a-number's bits): one walk in the order of the text, for every such value, serves every order. After the guide's theorem for one value. -/
import Derived.Test.YtkbdidpodcclfaaFc
import Derived.Deep.QuietTactic
import Derived.BigQuiet
namespace Go.Proofs.Ytkbdidpodcclfaa

section
variable {P : Program} {ops : Array Oper} {md : Region.Mode} {C : World → Prop} {Sg : FuncId → Array Value → Value → Prop}

def LoGood (P : Program) (C : World → Prop) (Sg : FuncId → Array Value → Value → Prop) : Result Next → Prop
  | .ok (.value _) w' => C w'
  | .ok .skip w' => C w'
  | .ok (.enter f args) w' => C w' ∧ Calls P f args w' (fun e w'' => ∃ v, e = .returned v ∧ Sg f args v ∧ C w'')
  | _ => False

def LoVal (Sg : FuncId → Array Value → Value → Prop) (v : Value) : Result Next → Prop
  | .ok (.value u) _ => v = u
  | .ok .skip _ => v = undef
  | .ok (.enter f args) _ => Sg f args v
  | _ => False

def good (P : Program) (C : World → Prop) (Sg : FuncId → Array Value → Value → Prop) (o : Oper) (a : Act) : Prop := ∀ w, C w → LoGood P C Sg ((execOp a.eval o).run P w)
def val (P : Program) (C : World → Prop) (Sg : FuncId → Array Value → Value → Prop) (o : Oper) (a : Act) (v : Value) : Prop := ∃ w, C w ∧ LoVal Sg v ((execOp a.eval o).run P w)

def loose (P : Program) (C : World → Prop) (Sg : FuncId → Array Value → Value → Prop) (o : Oper) (a : Act) (next : Act → Prop) : Prop := good P C Sg o a ∧ ∀ v, val P C Sg o a v → next (a.put o.dst v)

def wpLoose (P : Program) (ops : Array Oper) (C : World → Prop) (Sg : FuncId → Array Value → Value → Prop) (Q : Act → Prop) : List Oper → Act → Prop
  | [], a => Q a
  | o :: rest, a => if Region.wanted o (yielded ops a.tmps) then loose P C Sg o a (wpLoose P ops C Sg Q rest) else wpLoose P ops C Sg Q rest (a.put o.dst undef)

/-- Is it wanted, and then good; what it may leave. -/
def LGood (P : Program) (ops : Array Oper) (C : World → Prop) (Sg : FuncId → Array Value → Value → Prop) (o : Oper) (a : Act) : Prop := Region.wanted o (yielded ops a.tmps) = true → good P C Sg o a
def LVal (P : Program) (ops : Array Oper) (C : World → Prop) (Sg : FuncId → Array Value → Value → Prop) (o : Oper) (a : Act) (v : Value) : Prop :=
  (Region.wanted o (yielded ops a.tmps) = true ∧ val P C Sg o a v) ∨ (Region.wanted o (yielded ops a.tmps) = false ∧ v = undef)

def lOp (P : Program) (ops : Array Oper) (C : World → Prop) (Sg : FuncId → Array Value → Value → Prop) (i : Nat) (K : Act → Prop) (a : Act) : Prop :=
  match ops[i]? with
  | none => K a
  | some o => LGood P ops C Sg o a ∧ ∀ v, LVal P ops C Sg o a v → K (a.put o.dst v)

def wpAnyL (P : Program) (md : Region.Mode) (ops : Array Oper) (C : World → Prop) (Sg : FuncId → Array Value → Value → Prop) (Q : Act → Prop) : Nat → Array Bool → Act → Prop
  | 0, listed, a => Region.ready md ops listed = [] ∧ Q a
  | fuel + 1, listed, a =>
    (Region.ready md ops listed = [] → Q a) ∧
    ∀ i ∈ Region.ready md ops listed, lOp P ops C Sg i (wpAnyL P md ops C Sg Q fuel (listed.setIfInBounds i true)) a

theorem wp_of_loose {o : Oper} {a : Act} {K : Act → Prop} {K' : Act → World → Prop} {Q' : Exit → Act → World → Prop} {w : World} (hw : C w) (h : ∀ a w', C w' → K a → K' a w')
    (hg : good P C Sg o a) (hv : ∀ v, val P C Sg o a v → K (a.put o.dst v)) : o.wp P a w K' Q' := by
  have h3 := hg w hw
  have h4 : ∀ v, LoVal Sg v ((execOp a.eval o).run P w) → K (a.put o.dst v) := fun v hv' => hv v ⟨w, hw, hv'⟩
  unfold Oper.wp
  generalize (execOp a.eval o).run P w = r at *
  cases r with
  | ok n w' =>
    cases n <;> simp only [LoGood] at h3 <;> simp only [Oper.upon]
    case value u => exact h _ _ h3 (h4 u rfl)
    case skip => exact h _ _ h3 (h4 undef rfl)
    case enter f args =>
      exact h3.2.mono fun e w'' ⟨v, he, hs, hc⟩ => by subst he; exact h _ _ hc (h4 v hs)
  | halt x w' => simp only [LoGood] at h3

theorem wpOp_of_lOp {i : Nat} {a : Act} {K : Act → Prop} {K' : Act → World → Prop} {Q' : Exit → Act → World → Prop} {w : World} (hC : C w) (h : ∀ a w', C w' → K a → K' a w') (hh : lOp P ops C Sg i K a) : wpOp P ops Q' i K' a w := by
  unfold lOp at hh
  unfold wpOp
  split
  · rename_i ho; simp only [ho] at hh; exact h _ _ hC hh
  · rename_i o ho
    simp only [ho] at hh
    split
    · rename_i hw; exact .inl (wp_of_loose hC h (hh.1 hw) fun v hv => hh.2 v (.inl ⟨hw, hv⟩))
    · rename_i hw; exact h _ _ hC (hh.2 undef (.inr ⟨by simpa using hw, rfl⟩))

theorem wpAny_of_loose {Q : Act → Prop} {Q' : Exit → Act → World → Prop} (hQ : ∀ a w, C w → Q a → Q' .normal a w) : ∀ (fuel : Nat) (listed : Array Bool) (a : Act) (w : World), C w →
    wpAnyL P md ops C Sg Q fuel listed a → wpAny P md ops Q' fuel listed a w
  | 0, _, _, _, hw, h => ⟨h.1, hQ _ _ hw h.2⟩
  | fuel + 1, _, _, _, hw, h => ⟨fun h0 => hQ _ _ hw (h.1 h0), fun i hi => wpOp_of_lOp hw (fun a' w' hw' => wpAny_of_loose hQ fuel _ a' w' hw') (h.2 i hi)⟩

/-- there is a value that it may leave -/
theorem some_val {o : Oper} {a : Act} {w : World} (hw : C w) (hg : LGood P ops C Sg o a) : ∃ v, LVal P ops C Sg o a v := by
  by_cases h : Region.wanted o (yielded ops a.tmps) = true
  · have h3 := hg h w hw
    have : ∃ v, LoVal Sg v ((execOp a.eval o).run P w) := by
      generalize (execOp a.eval o).run P w = r at *
      cases r with
      | ok n w' =>
        cases n <;> simp only [LoGood] at h3
        case value u => exact ⟨u, rfl⟩
        case skip => exact ⟨undef, rfl⟩
        case enter f args =>
          obtain ⟨e, w'', fr, ⟨v, _, hs, _⟩, _⟩ := h3.2 []
          exact ⟨v, hs⟩
      | halt x w' => simp only [LoGood] at h3
    obtain ⟨v, hv⟩ := this
    exact ⟨v, .inl ⟨h, w, hw, hv⟩⟩
  · exact ⟨undef, .inr ⟨by simpa using h, rfl⟩⟩

theorem LGood.of_same {o : Oper} {a a' : Act} (h : LGood P ops C Sg o a) (he : execOp a'.eval o = execOp a.eval o)
    (hw : Region.wanted o (yielded ops a'.tmps) = Region.wanted o (yielded ops a.tmps)) : LGood P ops C Sg o a' := by
  unfold LGood good at *
  rw [he, hw]
  exact h

theorem LVal.of_same {o : Oper} {a a' : Act} {v : Value} (h : LVal P ops C Sg o a v) (he : execOp a'.eval o = execOp a.eval o)
    (hw : Region.wanted o (yielded ops a'.tmps) = Region.wanted o (yielded ops a.tmps)) : LVal P ops C Sg o a' v := by
  unfold LVal val at *
  rw [he, hw]
  exact h

theorem wpAnyL_first {Q : Act → Prop} {i : Nat} {oi : Oper} {w0 : World} (hC : C w0) (hi : ops[i]? = some oi) (hsel : ∀ (j : Nat) (o : Oper) cs b, ops[j]? = some o → o.op ≠ .select cs b) :
    ∀ (fuel : Nat) (listed : Array Bool) (a : Act),
      (∀ j oj, ops[j]? = some oj → j ≠ i → listed.getD j true = false → (∀ e ∈ oj.after, Region.binds md e = true → e.on ≠ i) → oi.apart ops oj = true) →
      i ∈ Region.ready md ops listed → LGood P ops C Sg oi a →
      (∀ v, LVal P ops C Sg oi a v → wpAnyL P md ops C Sg Q fuel (listed.setIfInBounds i true) (a.put oi.dst v)) → wpAnyL P md ops C Sg Q (fuel + 1) listed a := by
  intro fuel
  induction fuel with
  | zero =>
    intro listed a _ hr hy H
    refine ⟨fun h => (by rw [h] at hr; cases hr), fun j hj => ?_⟩
    by_cases hji : j = i
    · subst hji
      unfold lOp; simp only [hi]
      exact ⟨hy, H⟩
    · obtain ⟨v, hv⟩ := some_val hC hy
      have := ready_mono hj hji
      rw [(H v hv).1] at this
      cases this
  | succ fuel ih =>
    intro listed a hfree hr hy H
    refine ⟨fun h => (by rw [h] at hr; cases hr), fun j hj => ?_⟩
    by_cases hji : j = i
    · subst hji
      unfold lOp; simp only [hi]
      exact ⟨hy, H⟩
    · obtain ⟨hjun, oj, hoj, hall⟩ := mem_ready.1 hj
      have hnot : ∀ e ∈ oj.after, Region.binds md e = true → e.on ≠ i := fun e he hb heq => by
        have h1 := hall e he hb
        have h0 := (mem_ready.1 hr).1
        rw [heq] at h1
        rcases Nat.lt_or_ge i listed.size with h' | h'
        · simp [h'] at h0 h1; rw [h0] at h1; cases h1
        · simp [Array.getElem?_eq_none h'] at h1
      have hap := hfree j oj hoj hji hjun hnot
      obtain ⟨q1, q2, q3⟩ := Oper.apart_spec hap
      have keepG : ∀ u, LGood P ops C Sg oi (a.put oj.dst u) := fun u =>
        hy.of_same (execOp_put oi (fun cs b => hsel i oi cs b hi) a oj.dst u q3) (wanted_put oi a oj.dst u q3)
      have hfree' : ∀ k ok, ops[k]? = some ok → k ≠ i → (listed.setIfInBounds j true).getD k true = false →
          (∀ e ∈ ok.after, Region.binds md e = true → e.on ≠ i) → oi.apart ops ok = true := fun k ok hk hki hun hno => by
        refine hfree k ok hk hki ?_ hno
        by_cases hjk : j = k
        · subst hjk; exact hjun
        · rw [getD_set_ne true hjk] at hun; exact hun
      have ev : ∀ v, execOp (a.put oi.dst v).eval oj = execOp a.eval oj := fun v => execOp_put oj (fun cs b => hsel j oj cs b hoj) a oi.dst v q1
      have wv : ∀ v, Region.wanted oj (yielded ops (a.put oi.dst v).tmps) = Region.wanted oj (yielded ops a.tmps) := fun v => wanted_put oj a oi.dst v q1
      have step : ∀ v, LVal P ops C Sg oi a v → LGood P ops C Sg oj a ∧ ∀ u, LVal P ops C Sg oj a u → wpAnyL P md ops C Sg Q fuel ((listed.setIfInBounds i true).setIfInBounds j true) ((a.put oi.dst v).put oj.dst u) := fun v hv => by
        have h1 := (H v hv).2 j (ready_mono hj hji)
        unfold lOp at h1
        simp only [hoj] at h1
        exact ⟨h1.1.of_same (ev v).symm (wv v).symm, fun u hu => h1.2 u (hu.of_same (ev v) (wv v))⟩
      obtain ⟨v0, hv0⟩ := some_val hC hy
      unfold lOp
      simp only [hoj]
      refine ⟨(step v0 hv0).1, fun u hu => ?_⟩
      refine ih (listed.setIfInBounds j true) (a.put oj.dst u) hfree' (ready_mono hr (Ne.symm hji)) (keepG u) fun v hv => ?_
      have hv' : LVal P ops C Sg oi a v := hv.of_same (execOp_put oi (fun cs b => hsel i oi cs b hi) a oj.dst u q3).symm (wanted_put oi a oj.dst u q3).symm
      have := (step v hv').2 u hu
      rw [Array.setIfInBounds_comm _ _ hji, ← Act.put_comm a v u q2]
      exact this

theorem wpAnyL_lex {Q : Act → Prop} {w0 : World} (hC : C w0) (hs : Region.noSelect ops = true) : ∀ (l : List Oper) (k : Nat) (listed : Array Bool) (a : Act), (∀ j, l[j]? = ops[k + j]?) →
    Region.lexFrom md ops l.length k listed = true → wpLoose P ops C Sg Q l a → wpAnyL P md ops C Sg Q l.length listed a
  | [], _, _, _, _, hB, h => ⟨by simpa [Region.lexFrom] using hB, h⟩
  | o :: l, k, listed, a, hl, hB, h => by
    have h0 : ops[k]? = some o := by simpa using (hl 0).symm
    simp only [List.length_cons, Region.lexFrom, Bool.and_eq_true] at hB
    obtain ⟨⟨hr, hf⟩, hB'⟩ := hB
    have hst : LGood P ops C Sg o a ∧ ∀ v, LVal P ops C Sg o a v → wpLoose P ops C Sg Q l (a.put o.dst v) := by
      unfold wpLoose at h
      by_cases hw : Region.wanted o (yielded ops a.tmps) = true
      · rw [if_pos hw] at h
        refine ⟨fun _ => h.1, fun v hv => ?_⟩
        rcases hv with ⟨_, hv⟩ | ⟨hn, _⟩
        · exact h.2 v hv
        · rw [hw] at hn; cases hn
      · rw [if_neg hw] at h
        refine ⟨fun hw' => absurd hw' hw, fun v hv => ?_⟩
        rcases hv with ⟨hn, _⟩ | ⟨_, rfl⟩
        · exact absurd hn hw
        · exact h
    exact wpAnyL_first hC h0 (Region.noSelect_spec hs) l.length listed a (Region.free_spec h0 hf) (by simpa using hr) hst.1
      fun v hv => wpAnyL_lex hC hs l (k + 1) _ _ (fun j => by have := hl (j + 1); simpa [Nat.add_assoc, Nat.add_comm 1 j] using this) hB' (hst.2 v hv)

theorem wp_region_loose {id : Nat} {Q : Exit → Act → World → Prop} {a : Act} {w : World} {l : List Oper} (Sg : FuncId → Array Value → Value → Prop) (hm : P.follows .mixedOrders = true) (hB : Region.lexB .any l.toArray = true)
    (h : wpLoose P l.toArray (fun w' => ∃ n, w' = w.drewN n) Sg (fun a' => ∀ w', (∃ n, w' = w.drewN n) → Q .normal a' w') l a) : (Code.region id l.toArray true).wp P Q a w := by
  simp only [Region.lexB, Bool.and_eq_true] at hB
  refine wp_region_any hm (wpAny_of_loose (C := fun w' => ∃ n, w' = w.drewN n) (Sg := Sg) (Q := fun a' => ∀ w', (∃ n, w' = w.drewN n) → Q .normal a' w') (fun _ w' hw' h => h w' hw') _ _ _ _ ⟨1, rfl⟩ ?_)
  have := wpAnyL_lex (C := fun w' => ∃ n, w' = w.drewN n) (Sg := Sg) (md := .any) (w0 := w.drewN 0) ⟨0, rfl⟩ hB.1 l 0 (Array.replicate l.length false) a (by simp) (by simpa using hB.2) h
  simpa using this

/-! ### The steps -/
variable {Q : Act → Prop} {a : Act} {o : Oper} {rest : List Oper} {w : World}
theorem wpLoose_nil (h : Q a) : wpLoose P ops C Sg Q [] a := h

theorem good_of_quiet {v : Value} (h : ∀ w, C w → o.quietAt P a C w v) (hs : ∀ w f args w', C w → (execOp a.eval o).run P w ≠ .ok (.enter f args) w') :
    good P C Sg o a ∧ ∀ u, val P C Sg o a u → u = v := by
  constructor
  · intro w hw
    have h1 := h w hw
    have h2 := hs w
    unfold Oper.quietAt at h1
    generalize (execOp a.eval o).run P w = r at *
    cases r with
    | ok n w' =>
      cases n <;> simp only [Oper.quietUpon] at h1 <;> simp only [LoGood]
      case value u => rw [h1.1]; exact hw
      case skip => rw [h1.1]; exact hw
      case enter f args => exact absurd rfl (h2 f args w' hw)
    | halt x w' => simp only [Oper.quietUpon] at h1
  · rintro u ⟨w, hw, hu⟩
    have h1 := h w hw
    have h2 := hs w
    unfold Oper.quietAt at h1
    generalize (execOp a.eval o).run P w = r at *
    cases r with
    | ok n w' =>
      cases n <;> simp only [Oper.quietUpon] at h1 <;> simp only [LoVal] at hu
      case value x => rw [hu, h1.2]
      case skip => rw [hu, h1.2]
      case enter f args => exact absurd rfl (h2 f args w' hw)
    | halt x w' => simp only [Oper.quietUpon] at h1

/-- is it an operation that enters no function -/
def plainOp : Op → Bool
  | .move _ | .assign _ | .pick .. | .load .. | .binOp .. | .unOp .. | .convert .. | .indexAddr .. | .fieldAddr .. | .field .. | .index .. => true
  | .call { callee := .builtin .len, .. } => true
  | _ => false

theorem bind_noEnter {α : Type} {s : Sem α} {g : α → Value} {f : FuncId} {args : Array Value} {w w' : World} : (do let x ← s; pure (Next.value (g x)) : Sem Next).run P w ≠ .ok (.enter f args) w' := by
  rw [Sem.run_bind]
  cases s.run P w with
  | ok x w1 => intro h; cases h
  | halt h w1 => intro h; cases h

theorem plain_noEnter {o : Oper} {a : Act} (h : plainOp o.op = true) (w : World) (f : FuncId) (args : Array Value) (w' : World) : (execOp a.eval o).run P w ≠ .ok (.enter f args) w' := by
  unfold execOp
  cases e : o.op <;> simp only [e, plainOp] at h <;> first | (cases h; done) | skip
  all_goals simp only
  case move => intro h; cases h
  case assign => intro h; cases h
  case call c =>
    obtain ⟨callee, cargs, ct⟩ := c
    cases callee with
    | builtin b =>
      cases b <;> first | (cases h; done) | skip
      simp only [resolve, Sem.run_bind, Sem.run_pure, Result.andThen_ok, invoke, builtin]
      cases Sem.run P (Builtin.len_ ct o.type (Array.map a.eval cargs)) w with
      | ok x w1 => intro h; cases h
      | halt h w1 => intro h; cases h
    | _ => cases h
  case pick => exact bind_noEnter
  all_goals exact bind_noEnter (g := id)

theorem wpLoose_plain (hp : plainOp o.op = true)
    (h : ∀ K : Act → Prop, (∀ a, wpLoose P ops C Sg Q rest a → K a) → if Region.wanted o (yielded ops a.tmps) then o.quiet P a C K else K (a.put o.dst undef)) : wpLoose P ops C Sg Q (o :: rest) a := by
  have h' := h (wpLoose P ops C Sg Q rest) (fun _ h => h)
  unfold wpLoose
  split
  · rename_i hw
    rw [if_pos hw] at h'
    obtain ⟨v, h1, h2⟩ := h'
    obtain ⟨g1, g2⟩ := good_of_quiet (Sg := Sg) h1 (fun w f args w' _ => plain_noEnter hp w f args w')
    exact ⟨g1, fun u hu => by rw [g2 u hu]; exact h2⟩
  · rename_i hw
    rw [if_neg hw] at h'
    exact h'

/-- an operation that hands back any of several values -/
theorem wpLoose_some (hgd : o.guard = none) (V : Value → Prop) (hv : ∀ w, C w → ∃ v w', V v ∧ C w' ∧ (execOp a.eval o).run P w = .ok (.value v) w') (h : ∀ v, V v → wpLoose P ops C Sg Q rest (a.put o.dst v)) : wpLoose P ops C Sg Q (o :: rest) a := by
  have hw : Region.wanted o (yielded ops a.tmps) = true := by simp [Region.wanted, hgd]
  unfold wpLoose
  rw [if_pos hw]
  refine ⟨fun w hw => ?_, ?_⟩
  · obtain ⟨v, w', _, hc, e⟩ := hv w hw
    rw [e]; exact hc
  · rintro u ⟨w, hw, hu⟩
    obtain ⟨v, w', hV, hc, e⟩ := hv w hw
    rw [e] at hu
    change u = v at hu
    subst hu
    exact h _ hV

abbrev Drawn (w : World) : World → Prop := fun w' => ∃ n, w' = w.drewN n

theorem drawn_again {w w' : World} (h : Drawn w w') (j : Nat) : Drawn w (w'.drewN j) := by
  obtain ⟨n, rfl⟩ := h
  exact ⟨n + j, by rw [World.drewN_drewN]⟩

theorem wpLoose_up (hgd : o.guard = none) {S D : TypeId} (hs : P.underlying S = some (.float .f32)) (hd : P.underlying D = some (.float .f64)) (x : Operand) (ho : o.op = .convert S D x) (m : Nat)
    (hx : a.eval x = .float .f32 m) (h : ∀ r, UR m r → wpLoose P ops (Drawn w) Sg Q rest (a.put o.dst (.float .f64 r))) : wpLoose P ops (Drawn w) Sg Q (o :: rest) a := by
  refine wpLoose_some hgd (fun v => ∃ r, UR m r ∧ v = .float .f64 r) (fun w1 hw1 => ?_) (fun v ⟨r, hr, e⟩ => by rw [e]; exact h r hr)
  obtain ⟨r, j, hr, hw⟩ := run_up hs hd m w1
  refine ⟨_, _, ⟨r, hr, rfl⟩, drawn_again hw1 j, ?_⟩
  unfold execOp
  simp only [ho, hx, Sem.run_bind, Sem.run_pure, Result.andThen_ok, hw]

theorem wpLoose_down (hgd : o.guard = none) {S D : TypeId} (hs : P.underlying S = some (.float .f64)) (hd : P.underlying D = some (.float .f32)) (x : Operand) (ho : o.op = .convert S D x) (m : Nat)
    (hx : a.eval x = .float .f64 m) (h : ∀ r, DR m r → wpLoose P ops (Drawn w) Sg Q rest (a.put o.dst (.float .f32 r))) : wpLoose P ops (Drawn w) Sg Q (o :: rest) a := by
  refine wpLoose_some hgd (fun v => ∃ r, DR m r ∧ v = .float .f32 r) (fun w1 hw1 => ?_) (fun v ⟨r, hr, e⟩ => by rw [e]; exact h r hr)
  obtain ⟨r, j, hr, hw⟩ := run_down hs hd m w1
  refine ⟨_, _, ⟨r, hr, rfl⟩, drawn_again hw1 j, ?_⟩
  unfold execOp
  simp only [ho, hx, Sem.run_bind, Sem.run_pure, Result.andThen_ok, hw]

theorem wpLoose_farith (hgd : o.guard = none) (op : BinOp) (t : TypeId) (x y : Operand) (t' : TypeId) (ho : o.op = .binOp op t x y t') (hop : isArith op = true) (k : FloatKind) (m n : Nat)
    (hx : a.eval x = .float k m) (hy : a.eval y = .float k n) (h : ∀ r, FR op k m n r → wpLoose P ops (Drawn w) Sg Q rest (a.put o.dst (.float k r))) : wpLoose P ops (Drawn w) Sg Q (o :: rest) a := by
  refine wpLoose_some hgd (fun v => ∃ r, FR op k m n r ∧ v = .float k r) (fun w1 hw1 => ?_) (fun v ⟨r, hr, e⟩ => by rw [e]; exact h r hr)
  obtain ⟨r, j, hr, hw⟩ := run_farith (P := P) op hop t k m n w1
  refine ⟨_, _, ⟨r, hr, rfl⟩, drawn_again hw1 j, ?_⟩
  have hg : (eqGuard op t x y (.float k m) (.float k n)) = pure () := by
    cases op <;> simp [isArith] at hop <;> rfl
  unfold execOp
  simp only [ho, hx, hy, hg, Sem.run_bind, Sem.run_pure, Result.andThen_ok, hw]

/-- a call of a function, by its contract -/
theorem wpLoose_call (hgd : o.guard = none) (f : FuncId) (args : Array Value) (hr : ∀ w1, (execOp a.eval o).run P w1 = .ok (.enter f args) w1)
    (hc : ∀ w1, Drawn w w1 → Calls P f args w1 fun e w2 => ∃ v, e = .returned v ∧ Sg f args v ∧ Drawn w1 w2) (h : ∀ v, Sg f args v → wpLoose P ops (Drawn w) Sg Q rest (a.put o.dst v)) : wpLoose P ops (Drawn w) Sg Q (o :: rest) a := by
  have hw : Region.wanted o (yielded ops a.tmps) = true := by simp [Region.wanted, hgd]
  unfold wpLoose
  rw [if_pos hw]
  refine ⟨fun w1 hw1 => ?_, ?_⟩
  · rw [hr w1]
    refine ⟨hw1, (hc w1 hw1).mono fun e w2 ⟨v, he, hs, m, hm⟩ => ⟨v, he, hs, ?_⟩⟩
    rw [hm]; exact drawn_again hw1 m
  · rintro u ⟨w1, hw1, hu⟩
    rw [hr w1] at hu
    exact h _ hu
end
end Go.Proofs.Ytkbdidpodcclfaa
