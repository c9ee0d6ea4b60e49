/- How easily heat flows through a stuff; the closures over a stuff: both sides. -/
import Derived.Test.YtgcgfnpkkhhkgabHeatV
namespace Go.Proofs.Ytgcgfnpkkhhkgab
open Go.RowKit
set_option linter.unusedVariables false

@[go_sem] theorem run_store_func {P : Program} {w : World} {a : Addr} {m : Mode} (f : Fn) (ts cs : Array Value) : (store a (.func f ts cs) m).run P w = stored P w a (.func f ts cs) m := run_store P w a _ m rfl

theorem specEaseV_any (s : SF) (h b : Nat) (w : World) (A : Cells w b s.vs) : Calls Try.prog 64 #[.pointer (some ⟨b, 0, none⟩), .float .f32 h] w (Num (easeF s h) w) := by
  have c0 := A.at 0 rfl
  have c1 := A.at 1 rfl
  have c2 := A.at 2 rfl
  have c3 := A.at 3 rfl
  have c4 := A.at 4 rfl
  have c5 := A.at 5 rfl
  have A := Lib.hid A
  go_enter Try.func64, Try.ntmps64
  go_wp2
  refine wp_region_loose (fun _ _ v => ∃ r, cn .f32 r = partF s h ∧ v = .float .f32 r) (by kernel_rfl) (by kernel_rfl) ?_
  repeat (first | (refine wpLoose_farith rfl _ _ _ _ _ rfl rfl _ _ _ rfl rfl ?_; intro _ _) | (refine wpLoose_valK rfl ?_ (fun w1 hw1 => ?_) (fun K hK => ?_); rotate_left; (focus (obtain ⟨nq, rfl⟩ := hw1; go_simp; first | done | rfl)); go_simp; refine hK _ ?_; clear hK K))
  refine wpLoose_call rfl 57 #[.pointer (some ⟨b, 0, none⟩), .float .f32 h] (fun w1 => ?_) (fun w1 hw1 => ?_) (fun v hv => ?_)
  · go_simp
  · obtain ⟨nq, rfl⟩ := hw1
    refine (specPartV_any s h b _ A.out.drewN).mono ?_
    rintro e w2 ⟨r, hr, rfl, n, rfl⟩
    exact ⟨_, rfl, ⟨r, hr, rfl⟩, n, rfl⟩
  obtain ⟨v0, hv0, rfl⟩ := hv
  have HV := Lib.hid hv0
  clear hv0
  repeat (first | (refine wpLoose_farith rfl _ _ _ _ _ rfl rfl _ _ _ rfl rfl ?_; intro _ _) | (refine wpLoose_valK rfl ?_ (fun w1 hw1 => ?_) (fun K hK => ?_); rotate_left; (focus (obtain ⟨nq, rfl⟩ := hw1; go_simp; first | done | rfl)); go_simp; refine hK _ ?_; clear hK K))
  (refine wpLoose_nil ?_; rintro _ ⟨nq, rfl⟩)
  go_wp2
  go_ret
  rename_i r1 f1 r2 f2 r3 f3
  exact ⟨_, e1F HV.out f1 f2 f3, rfl, _, rfl⟩

theorem litEase_any (s : SF) (h q q2 q3 : Nat) (w : World) (A : Cells w q s.vs) (X : Cells w q2 [.func (.func 89) #[] #[.pointer (some ⟨q3, 0, none⟩)]]) (Y : Cells w q3 s.vs) : Calls Try.prog 91 #[.float .f32 h, .pointer (some ⟨q, 0, none⟩), .pointer (some ⟨q2, 0, none⟩)] w (Num (easeF s h) w) := by
  have c0 := A.at 0 rfl
  have c1 := A.at 1 rfl
  have c2 := A.at 2 rfl
  have c3 := A.at 3 rfl
  have c4 := A.at 4 rfl
  have c5 := A.at 5 rfl
  have x0 := X.at 0 rfl
  have Y := Lib.hid Y
  clear A X
  go_enter Try.func91, Try.ntmps91
  go_wp2
  refine wp_region_loose (fun _ _ v => ∃ r, cn .f32 r = partF s h ∧ v = .float .f32 r) (by kernel_rfl) (by kernel_rfl) ?_
  repeat (first | (refine wpLoose_farith rfl _ _ _ _ _ rfl rfl _ _ _ rfl rfl ?_; intro _ _) | (refine wpLoose_valK rfl ?_ (fun w1 hw1 => ?_) (fun K hK => ?_); rotate_left; (focus (obtain ⟨nq, rfl⟩ := hw1; go_simp; first | done | rfl)); go_simp; refine hK _ ?_; clear hK K))
  refine wpLoose_call rfl 89 #[.float .f32 h, .pointer (some ⟨q3, 0, none⟩)] (fun w1 => ?_) (fun w1 hw1 => ?_) (fun v hv => ?_)
  · go_simp
  · obtain ⟨nq, rfl⟩ := hw1
    refine (litPart_any s h q3 _ Y.out.drewN).mono ?_
    rintro e w2 ⟨r, hr, rfl, n, rfl⟩
    exact ⟨_, rfl, ⟨r, hr, rfl⟩, n, rfl⟩
  obtain ⟨v0, hv0, rfl⟩ := hv
  have HV := Lib.hid hv0
  clear hv0
  repeat (first | (refine wpLoose_farith rfl _ _ _ _ _ rfl rfl _ _ _ rfl rfl ?_; intro _ _) | (refine wpLoose_valK rfl ?_ (fun w1 hw1 => ?_) (fun K hK => ?_); rotate_left; (focus (obtain ⟨nq, rfl⟩ := hw1; go_simp; first | done | rfl)); go_simp; refine hK _ ?_; clear hK K))
  (refine wpLoose_nil ?_; rintro _ ⟨nq, rfl⟩)
  go_wp2
  go_ret
  rename_i r1 f1 r2 f2 r3 f3
  exact ⟨_, e1F HV.out f1 f2 f3, rfl, _, rfl⟩

theorem warmIn_any (s : SF) (w : World) : Calls Try.prog 56 #[.agg #[.float .f32 s.so, .float .f32 s.fl, .float .f32 s.es, .float .f32 s.ef, .float .f32 s.pt, .float .f32 s.la]] w fun e w1 => e = .returned (.func (.func 88) #[] #[.pointer (some ⟨w.heap.size, 0, none⟩)]) ∧ w1 = w.alloc (.cells #[.float .f32 s.so, .float .f32 s.fl, .float .f32 s.es, .float .f32 s.ef, .float .f32 s.pt, .float .f32 s.la] 26) := by
  go_enter Try.func56, Try.ntmps56
  go_wp2
  go_ret
  exact ⟨rfl, rfl⟩

theorem partIn_any (s : SF) (w : World) : Calls Try.prog 58 #[.agg #[.float .f32 s.so, .float .f32 s.fl, .float .f32 s.es, .float .f32 s.ef, .float .f32 s.pt, .float .f32 s.la]] w fun e w1 => e = .returned (.func (.func 89) #[] #[.pointer (some ⟨w.heap.size, 0, none⟩)]) ∧ w1 = w.alloc (.cells #[.float .f32 s.so, .float .f32 s.fl, .float .f32 s.es, .float .f32 s.ef, .float .f32 s.pt, .float .f32 s.la] 26) := by
  go_enter Try.func58, Try.ntmps58
  go_wp2
  go_ret
  exact ⟨rfl, rfl⟩

/-- the closure that tells how easily heat flows -/
def EaseFn (s : SF) (w : World) (e : Ending) (w1 : World) : Prop :=
  ∃ q q2 q3 : Nat, e = .returned (.func (.func 91) #[] #[.pointer (some ⟨q, 0, none⟩), .pointer (some ⟨q2, 0, none⟩)]) ∧ Cells w1 q s.vs ∧ Cells w1 q2 [.func (.func 89) #[] #[.pointer (some ⟨q3, 0, none⟩)]] ∧ Cells w1 q3 s.vs ∧ Below w.heap.size w w1
theorem easeIn_any (s : SF) (w : World) : Calls Try.prog 65 #[.agg #[.float .f32 s.so, .float .f32 s.fl, .float .f32 s.es, .float .f32 s.ef, .float .f32 s.pt, .float .f32 s.la]] w (EaseFn s w) := by
  have A := Lib.hid (((Cells.made w s.vs 26).al (.cells #[.float .f32 s.so, .float .f32 s.fl, .float .f32 s.es, .float .f32 s.ef, .float .f32 s.pt, .float .f32 s.la] 26)).al (.cells #[.func (.func 89) #[] #[.pointer (some ⟨w.heap.size + 1, 0, none⟩)]] 71))
  have Y := (Cells.made (w.alloc (.cells #[.float .f32 s.so, .float .f32 s.fl, .float .f32 s.es, .float .f32 s.ef, .float .f32 s.pt, .float .f32 s.la] 26)) s.vs 26).al (.cells #[.func (.func 89) #[] #[.pointer (some ⟨w.heap.size + 1, 0, none⟩)]] 71)
  rw [show (w.alloc (.cells #[.float .f32 s.so, .float .f32 s.fl, .float .f32 s.es, .float .f32 s.ef, .float .f32 s.pt, .float .f32 s.la] 26)).heap.size = w.heap.size + 1 from by simp] at Y
  have Y := Lib.hid Y
  have X := Cells.made ((w.alloc (.cells #[.float .f32 s.so, .float .f32 s.fl, .float .f32 s.es, .float .f32 s.ef, .float .f32 s.pt, .float .f32 s.la] 26)).alloc (.cells #[.float .f32 s.so, .float .f32 s.fl, .float .f32 s.es, .float .f32 s.ef, .float .f32 s.pt, .float .f32 s.la] 26)) [.func (.func 89) #[] #[.pointer (some ⟨w.heap.size + 1, 0, none⟩)]] 71
  rw [show ((w.alloc (.cells #[.float .f32 s.so, .float .f32 s.fl, .float .f32 s.es, .float .f32 s.ef, .float .f32 s.pt, .float .f32 s.la] 26)).alloc (.cells #[.float .f32 s.so, .float .f32 s.fl, .float .f32 s.es, .float .f32 s.ef, .float .f32 s.pt, .float .f32 s.la] 26)).heap.size = w.heap.size + 1 + 1 from by simp] at X
  have X := Lib.hid X
  go_enter Try.func65, Try.ntmps65
  go_wp2_with fail
  refine (partIn_any s _).mono ?_
  rintro e w1 ⟨rfl, rfl⟩
  go_wp2
  go_ret
  exact ⟨_, _, _, rfl, A.out, X.out, Y.out, (by repeat (first | exact Below.refl _ _ | refine Below.setCell ?_ (by first | exact Nat.le_refl _ | (simp; done) | (simp; omega) | omega) _ | refine below_drewN ?_ _ | refine Below.alloc ?_ (by first | exact Nat.le_refl _ | (simp; done) | (simp; omega) | omega) _))⟩

end Go.Proofs.Ytgcgfnpkkhhkgab
