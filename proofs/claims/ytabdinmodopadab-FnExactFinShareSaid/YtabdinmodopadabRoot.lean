/- Square roots. -/
import Derived.Test.YtabdinmodopadabSame
import Derived.Test.YtabdinmodopadabBd
import Derived.Lib.Hide
namespace Go.Proofs.Ytabdinmodopadab
open Go.RowKit

def SR (m r : Nat) : Prop := cn .f64 r = fsq (cn .f64 m) ∧ (Lit.float .f64 r).wf = true

theorem sqrt_num {x r : Nat} (h : Ieee.double.sqrt x = some r) : nn .f64 r = false := by
  unfold Ieee.Format.sqrt at h
  rw [Option.map_eq_some_iff] at h
  obtain ⟨d, hd, rfl⟩ := h
  exact read_write Ieee.double d (root_num hd)
theorem sqrt_nan {x : Nat} (h : nn .f64 x = true) : Ieee.double.sqrt x = none := by
  obtain ⟨s, t, e⟩ := decode_nan h
  unfold Ieee.Format.sqrt
  rw [show Ieee.double.read x = .nan s t from e]
  rfl
theorem sqrt_cn (x : Nat) : Ieee.double.sqrt (cn .f64 x) = Ieee.double.sqrt x := by
  cases h : nn .f64 x
  · rw [cn_of_num h]
  · rw [sqrt_nan h, sqrt_nan (by rw [nn_cn]; exact h)]

theorem run_sqrt (m : Nat) (w : World) : ∃ r j, SR m r ∧ (callFunc 125 #[.float .f64 m]).run Try.prog w = .ok (.value (.float .f64 r)) (w.drewN j) := by
  have he : (callFunc 125 #[.float .f64 m]).run Try.prog w = ((Extern.MathSqrt.sqrt #[.float .f64 m]).run Try.prog w).andThen fun v w' => .ok (.value v) w' :=
    run_callFunc_extern (e := Extern.MathSqrt.sqrt) Try.func125 (by kernel_rfl) (by kernel_rfl) (by kernel_rfl) (by kernel_rfl) _ w
  have es : Extern.MathSqrt.sqrt #[.float .f64 m] = (match Ieee.double.sqrt m with | some r => (Sem.pure (.float .f64 r) : Sem Value) | none => Sem.bind (choose (.nanBits .f64 m m)) fun t => Sem.pure (.float .f64 t)) := rfl
  rw [he, es]
  cases h : Ieee.double.sqrt m with
  | some r =>
    refine ⟨r, 0, ⟨?_, ?_⟩, ?_⟩
    · rw [fsq, sqrt_cn, h, cn_of_num (sqrt_num h)]; rfl
    · exact wf_of_lt .f64 r (Ieee.double.sqrt_lt h)
    · rfl
  | none =>
    have hc := nan_cut .f64 (.nanBits .f64 m m) (w.tape w.drawn (.nanBits .f64 m m)) (by intro t; rfl)
    refine ⟨_, 1, ⟨?_, hc.2⟩, ?_⟩
    · rw [fsq, sqrt_cn, h, cn_of_nan hc.1]; rfl
    · simp only
      rw [run_choose _ rfl]
      rfl

theorem wpList_sqrt {ops : Array Oper} {Q : Exit → Act → World → Prop} {rest : List Oper} {o : Oper} {a : Act} {w : World} (hgd : o.guard = none) (x : Operand) (ts : Array TypeId)
    (ho : o.op = .call { callee := .value (.func 125), args := #[x], argTypes := ts }) (m : Nat)
    (hx : a.eval x = .float .f64 m) (h : ∀ r j, SR m r → wpList Try.prog ops Q rest (a.put o.dst (.float .f64 r)) (w.drewN j)) : wpList Try.prog ops Q (o :: rest) a w :=
  wpList_plain hgd fun K hK => by
    obtain ⟨r, j, hr, hw⟩ := run_sqrt m w
    unfold Oper.wp
    have e : (execOp a.eval o).run Try.prog w = .ok (.value (.float .f64 r)) (w.drewN j) := by
      have ef : a.eval (.func 125) = .func (.func 125) #[] #[] := rfl
      simp [execOp, ho, resolve, Deferred.ofValue, invoke, hx, ef, hw]
    rw [e]
    exact hK _ _ (h r j hr)

def Roo (m : Nat) (w : World) (e : Ending) (w' : World) : Prop := ∃ r j, SR m r ∧ e = .returned (.float .f64 r) ∧ w' = w.drewN j
theorem sqrt_any (m : Nat) (w : World) : Calls Try.prog 103 #[.float .f64 m] w (Roo m w) := by
  go_enter Try.func103, Try.ntmps103
  go_wp2_with (refine wpList_sqrt rfl _ _ rfl _ rfl ?_; intro _ _ _)
  go_ret
  rename_i h
  exact ⟨_, _, h, rfl, rfl⟩

theorem root_narrow {a r s t : Nat} (h1 : UR a r) (h2 : SR r s) (h3 : DR s t) : cn .f32 t = cvd (fsq (cvu (cn .f32 a))) := by
  have e : cn .f64 s = fsq (cvu (cn .f32 a)) := by rw [h2.1, h1.1]
  rw [h3.1 ?_, e]
  cases hn : nn .f64 s
  · rw [cn_of_num hn]
    cases hf : fin .f32 a
    · have hr : fin .f64 r = false := by rw [fin_up h1]; exact hf
      cases hq : Ieee.double.sqrt r with
      | none =>
        have := h2.1
        rw [fsq, sqrt_cn, hq, cn_of_num hn] at this
        change s = qn .f64 at this
        rw [this, nn_qn] at hn; cases hn
      | some q =>
        have := h2.1
        rw [fsq, sqrt_cn, hq, cn_of_num hn] at this
        change s = q at this
        subst this
        have hrn : nn .f64 r = false := by
          cases hrn : nn .f64 r
          · rfl
          · rw [sqrt_nan hrn] at hq; cases hq
        obtain ⟨sg, hi⟩ := inf_of hr hrn
        unfold Ieee.Format.sqrt at hq
        rw [show Ieee.double.read r = .infinity sg from hi] at hq
        cases sg
        · simp [Ieee.Datum.root] at hq
          subst hq
          decide +kernel
        · simp [Ieee.Datum.root] at hq
    · have hb := up_Bd h1 hf
      cases hq : Ieee.double.sqrt r with
      | none =>
        have := h2.1
        rw [fsq, sqrt_cn, hq, cn_of_num hn] at this
        change s = qn .f64 at this
        rw [this, nn_qn] at hn; cases hn
      | some q =>
        have := h2.1
        rw [fsq, sqrt_cn, hq, cn_of_num hn] at this
        change s = q at this
        subst this
        exact ovf_small (sqrt_Bd hb hq)
  · exact ovf_nan (by rw [nn_cn]; exact hn)

theorem specRoot_any (a : Nat) (w : World) : Calls Try.prog 58 #[.float .f32 a] w (Flo (fun r => cn .f32 r = cvd (fsq (cvu (cn .f32 a)))) w) := by
  go_enter Try.func58, Try.ntmps58
  go_wp2_with (first | (refine wpList_up rfl Try.underlying23 Try.underlying33 _ rfl _ rfl ?_; intro _ _ _) | (refine wpList_down rfl Try.underlying33 Try.underlying23 _ rfl _ rfl ?_; intro _ _ _) | (go_at_call 103; refine (sqrt_any _ _).mono ?_; rintro e w' ⟨r, j, hr, rfl, rfl⟩; have HR := Lib.hid hr; clear hr) | go_in)
  go_ret
  rename_i r0 j0 hu r1 j1 hd
  exact ⟨_, _, root_narrow hu HR.out hd, hd.2, rfl, rfl⟩
theorem implRoot_any (a : Nat) (w : World) : Calls Try.prog 63 #[.float .f32 a] w (Flo (fun r => cn .f32 r = cvd (fsq (cvu (cn .f32 a)))) w) := by
  go_enter Try.func63, Try.ntmps63
  go_wp2_with (first | (refine wpList_up rfl Try.underlying23 Try.underlying33 _ rfl _ rfl ?_; intro _ _ _) | (refine wpList_down rfl Try.underlying33 Try.underlying23 _ rfl _ rfl ?_; intro _ _ _) | (go_at_call 103; refine (sqrt_any _ _).mono ?_; rintro e w' ⟨r, j, hr, rfl, rfl⟩; have HR := Lib.hid hr; clear hr) | go_in)
  go_ret
  rename_i r0 j0 hu r1 j1 hd
  exact ⟨_, _, root_narrow hu HR.out hd, hd.2, rfl, rfl⟩

end Go.Proofs.Ytabdinmodopadab
