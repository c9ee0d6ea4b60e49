/- Whether two stuffs are the same: both sides, and the law's walk. -/
import Derived.Test.YtgcgfnpkkhhkgabSameN
import Derived.Test.YtgcgfnpkkhhkgabStuff
import Derived.Test.YtgcgfnpkkhhkgabLooseG
import Derived.StillTailTactics
import Derived.Laws.StructEq
import Derived.Deep.RegionHeld3
import Derived.Deep.QuietTactic
import Derived.BigQuiet
namespace Go.Proofs.Ytgcgfnpkkhhkgab
open Go.RowKit
set_option linter.unusedVariables false

theorem below_set6 {w w' : World} {B p : Nat} (h : Below B w w') (hp : B ≤ p) (x0 x1 x2 x3 x4 x5 : Value) : Below B w ((((((w'.setCell ⟨p, 0, none⟩ x0).setCell ⟨p, 1, none⟩ x1).setCell ⟨p, 2, none⟩ x2).setCell ⟨p, 3, none⟩ x3).setCell ⟨p, 4, none⟩ x4).setCell ⟨p, 5, none⟩ x5) :=
  (((((h.setCell (p := ⟨p, 0, none⟩) hp x0).setCell (p := ⟨p, 1, none⟩) hp x1).setCell (p := ⟨p, 2, none⟩) hp x2).setCell (p := ⟨p, 3, none⟩) hp x3).setCell (p := ⟨p, 4, none⟩) hp x4).setCell (p := ⟨p, 5, none⟩) hp x5

set_option maxRecDepth 20000 in
set_option maxHeartbeats 800000 in
theorem bitsOfStuff_any (s : SF) (w : World) (ws : s.wf) : Calls Try.prog 50 #[.agg #[.float .f32 s.so, .float .f32 s.fl, .float .f32 s.es, .float .f32 s.ef, .float .f32 s.pt, .float .f32 s.la]] w fun e w1 => e = .returned (.agg #[.int .i64 (bits32 s.so), .int .i64 (bits32 s.fl), .int .i64 (bits32 s.es), .int .i64 (bits32 s.ef), .int .i64 (bits32 s.pt), .int .i64 (bits32 s.la)]) ∧ Below w.heap.size w w1 := by
  obtain ⟨wso, wfl, wes, wef, wpt, wla⟩ := ws
  have Wso := Lib.hid wso
  have Wfl := Lib.hid wfl
  have Wes := Lib.hid wes
  have Wef := Lib.hid wef
  have Wpt := Lib.hid wpt
  have Wla := Lib.hid wla
  clear wso wfl wes wef wpt wla
  have A : Cells (((w.alloc (.cells #[.float .f32 s.so, .float .f32 s.fl, .float .f32 s.es, .float .f32 s.ef, .float .f32 s.pt, .float .f32 s.la] 26)).alloc (.cells #[.int .i64 0, .int .i64 0, .int .i64 0, .int .i64 0, .int .i64 0, .int .i64 0] 59)).drew) w.heap.size [.float .f32 s.so, .float .f32 s.fl, .float .f32 s.es, .float .f32 s.ef, .float .f32 s.pt, .float .f32 s.la] := ((Cells.made w [.float .f32 s.so, .float .f32 s.fl, .float .f32 s.es, .float .f32 s.ef, .float .f32 s.pt, .float .f32 s.la] 26).al (.cells #[.int .i64 0, .int .i64 0, .int .i64 0, .int .i64 0, .int .i64 0, .int .i64 0] 59)).drewN (n := 1)
  have R : Cells (((w.alloc (.cells #[.float .f32 s.so, .float .f32 s.fl, .float .f32 s.es, .float .f32 s.ef, .float .f32 s.pt, .float .f32 s.la] 26)).alloc (.cells #[.int .i64 0, .int .i64 0, .int .i64 0, .int .i64 0, .int .i64 0, .int .i64 0] 59)).drew) (w.alloc (.cells #[.float .f32 s.so, .float .f32 s.fl, .float .f32 s.es, .float .f32 s.ef, .float .f32 s.pt, .float .f32 s.la] 26)).heap.size [.int .i64 0, .int .i64 0, .int .i64 0, .int .i64 0, .int .i64 0, .int .i64 0] := (Cells.made (w.alloc (.cells #[.float .f32 s.so, .float .f32 s.fl, .float .f32 s.es, .float .f32 s.ef, .float .f32 s.pt, .float .f32 s.la] 26)) [.int .i64 0, .int .i64 0, .int .i64 0, .int .i64 0, .int .i64 0, .int .i64 0] 59).drewN (n := 1)
  rw [show (w.alloc (.cells #[.float .f32 s.so, .float .f32 s.fl, .float .f32 s.es, .float .f32 s.ef, .float .f32 s.pt, .float .f32 s.la] 26)).heap.size = w.heap.size + 1 from by simp] at R
  have Bw : Below w.heap.size w (((w.alloc (.cells #[.float .f32 s.so, .float .f32 s.fl, .float .f32 s.es, .float .f32 s.ef, .float .f32 s.pt, .float .f32 s.la] 26)).alloc (.cells #[.int .i64 0, .int .i64 0, .int .i64 0, .int .i64 0, .int .i64 0, .int .i64 0] 59)).drew) := below_drewN (below_al2 w (.cells #[.float .f32 s.so, .float .f32 s.fl, .float .f32 s.es, .float .f32 s.ef, .float .f32 s.pt, .float .f32 s.la] 26) (.cells #[.int .i64 0, .int .i64 0, .int .i64 0, .int .i64 0, .int .i64 0, .int .i64 0] 59)) 1
  go_enter Try.func50, Try.ntmps50
  go_wp2
  refine wp_region_still_tail 19 (by kernel_rfl) (by kernel_rfl) ?_
  simp only [List.take_succ_cons, List.take_zero, List.drop_succ_cons, List.drop_zero]
  change wpStill _ _ (((w.alloc (.cells #[.float .f32 s.so, .float .f32 s.fl, .float .f32 s.es, .float .f32 s.ef, .float .f32 s.pt, .float .f32 s.la] 26)).alloc (.cells #[.int .i64 0, .int .i64 0, .int .i64 0, .int .i64 0, .int .i64 0, .int .i64 0] 59)).drew) (fun x => wpList _ _ _ _ x (((w.alloc (.cells #[.float .f32 s.so, .float .f32 s.fl, .float .f32 s.es, .float .f32 s.ef, .float .f32 s.pt, .float .f32 s.la] 26)).alloc (.cells #[.int .i64 0, .int .i64 0, .int .i64 0, .int .i64 0, .int .i64 0, .int .i64 0] 59)).drew)) _ _
  generalize ((w.alloc (.cells #[.float .f32 s.so, .float .f32 s.fl, .float .f32 s.es, .float .f32 s.ef, .float .f32 s.pt, .float .f32 s.la] 26)).alloc (.cells #[.int .i64 0, .int .i64 0, .int .i64 0, .int .i64 0, .int .i64 0, .int .i64 0] 59)).drew = w2 at *
  have c0 := A.at 0 rfl
  have c1 := A.at 1 rfl
  have c2 := A.at 2 rfl
  have c3 := A.at 3 rfl
  have c4 := A.at 4 rfl
  have c5 := A.at 5 rfl
  have A := Lib.hid A
  have R := Lib.hid R
  have Bw := Lib.hid Bw
  repeat still_step
  still_call (bitsC s.so Wso.out _)
  repeat still_step
  still_call (bitsC s.fl Wfl.out _)
  repeat still_step
  still_call (bitsC s.es Wes.out _)
  repeat still_step
  still_call (bitsC s.ef Wef.out _)
  repeat still_step
  still_call (bitsC s.pt Wpt.out _)
  repeat still_step
  still_call (bitsC s.la Wla.out _)
  repeat still_step
  try refine wpStill_nil ?_
  have r0 := R.out.at 0 rfl
  have r1 := R.out.at 1 rfl
  have r2 := R.out.at 2 rfl
  have r3 := R.out.at 3 rfl
  have r4 := R.out.at 4 rfl
  have r5 := R.out.at 5 rfl
  have rf := R.out.fz
  go_wp2
  refine bodyPost_ret (v := .agg #[.int .i64 (bits32 s.so), .int .i64 (bits32 s.fl), .int .i64 (bits32 s.es), .int .i64 (bits32 s.ef), .int .i64 (bits32 s.pt), .int .i64 (bits32 s.la)]) ?_ rfl ?_
  · rw [results_cell1 rfl]
    go_simp
  · exact ⟨rfl, below_set6 Bw.out (by omega) _ _ _ _ _ _⟩

def sameS (s t : SF) : Bool := sm s.so t.so && sm s.fl t.fl && sm s.es t.es && sm s.ef t.ef && sm s.pt t.pt && sm s.la t.la
theorem sameQ (a b : Nat) (v : Bool) (w : World) (wa : (Lit.float .f32 a).wf = true) (wb : (Lit.float .f32 b).wf = true) (h : sm a b = v) : Calls Try.prog 86 #[.float .f32 a, .float .f32 b] w fun e w' => e = .returned (.bool v) ∧ w' = w :=
  (specSame_any a b w wa wb).mono fun _ _ ⟨h1, h2⟩ => ⟨by rw [h1, h], h2.symm⟩

def SgQ (_f : FuncId) (args : Array Value) (v : Value) : Prop := match args.toList with | [.float .f32 a, .float .f32 b] => v = .bool (sm a b) | _ => False

set_option maxRecDepth 20000 in
set_option maxHeartbeats 1600000 in
theorem specSameV0 (s t : SF) (b d : Nat) (w : World) (A : Cells w b s.vs) (X : Cells w d t.vs) (ws : s.wf) (wt : t.wf) (h0 : sm s.so t.so = false) : Calls Try.prog 49 #[.pointer (some ⟨b, 0, none⟩), .pointer (some ⟨d, 0, none⟩)] w (Bol false w) := by
  have c0 := A.at 0 rfl
  have x0 := X.at 0 rfl
  obtain ⟨wso, wfl, wes, wef, wpt, wla⟩ := ws
  obtain ⟨vso, vfl, ves, vef, vpt, vla⟩ := wt
  have Wso := Lib.hid (And.intro wso vso)
  have Wfl := Lib.hid (And.intro wfl vfl)
  have Wes := Lib.hid (And.intro wes ves)
  have Wef := Lib.hid (And.intro wef vef)
  have Wpt := Lib.hid (And.intro wpt vpt)
  have Wla := Lib.hid (And.intro wla vla)
  have H0 := Lib.hid h0
  clear A X wso vso wfl vfl wes ves wef vef wpt vpt wla vla h0
  go_enter Try.func49, Try.ntmps49
  go_wp2
  refine wp_region_loose SgQ (by kernel_rfl) (by kernel_rfl) ?_
  simp only [List.append]
  repeat ((with_reducible refine wpLoose_cons ?_); (first | ((with_reducible refine wpLoose_skip ?_ ?_); (focus (go_simp; done)); intro K hK; go_simp; refine hK _ ?_; clear hK K) | (refine wpLoose_farithG ?_ _ _ _ _ _ rfl rfl _ _ _ rfl rfl ?_; (focus (go_simp; done)); intro _ _) | (refine wpLoose_valG ?_ ?_ (fun w1 hw1 => ?_) (fun K hK => ?_); (focus (go_simp; done)); rotate_left; (focus (obtain ⟨nq, rfl⟩ := hw1; go_simp; first | done | rfl)); go_simp; refine hK _ ?_; clear hK K) | fail))
  refine wpLoose_callG ?_ 86 #[.float .f32 s.so, .float .f32 t.so] (fun w1 => ?_) (fun w1 hw1 => ?_) (fun v1 hv1 => ?_)
  · go_simp
  · go_simp
  · obtain ⟨nq, rfl⟩ := hw1
    refine (specSame_any _ _ _ Wso.out.1 Wso.out.2).mono ?_
    rintro e w2 ⟨rfl, rfl⟩
    exact ⟨_, rfl, rfl, 0, rfl⟩
  obtain rfl : v1 = .bool false := by rw [show v1 = .bool (sm s.so t.so) from hv1, H0.out]
  repeat ((with_reducible refine wpLoose_cons ?_); (first | ((with_reducible refine wpLoose_skip ?_ ?_); (focus (go_simp; done)); intro K hK; go_simp; refine hK _ ?_; clear hK K) | (refine wpLoose_farithG ?_ _ _ _ _ _ rfl rfl _ _ _ rfl rfl ?_; (focus (go_simp; done)); intro _ _) | (refine wpLoose_valG ?_ ?_ (fun w1 hw1 => ?_) (fun K hK => ?_); (focus (go_simp; done)); rotate_left; (focus (obtain ⟨nq, rfl⟩ := hw1; go_simp; first | done | rfl)); go_simp; refine hK _ ?_; clear hK K) | fail))
  (refine wpLoose_nil ?_; rintro _ ⟨nq, rfl⟩)
  go_wp2
  go_ret
  exact ⟨rfl, _, rfl⟩

set_option maxRecDepth 20000 in
set_option maxHeartbeats 1600000 in
theorem specSameV1 (s t : SF) (b d : Nat) (w : World) (A : Cells w b s.vs) (X : Cells w d t.vs) (ws : s.wf) (wt : t.wf) (h0 : sm s.so t.so = true) (h1 : sm s.fl t.fl = false) : Calls Try.prog 49 #[.pointer (some ⟨b, 0, none⟩), .pointer (some ⟨d, 0, none⟩)] w (Bol false w) := by
  have c0 := A.at 0 rfl
  have x0 := X.at 0 rfl
  have c1 := A.at 1 rfl
  have x1 := X.at 1 rfl
  obtain ⟨wso, wfl, wes, wef, wpt, wla⟩ := ws
  obtain ⟨vso, vfl, ves, vef, vpt, vla⟩ := wt
  have Wso := Lib.hid (And.intro wso vso)
  have Wfl := Lib.hid (And.intro wfl vfl)
  have Wes := Lib.hid (And.intro wes ves)
  have Wef := Lib.hid (And.intro wef vef)
  have Wpt := Lib.hid (And.intro wpt vpt)
  have Wla := Lib.hid (And.intro wla vla)
  have H0 := Lib.hid h0
  have H1 := Lib.hid h1
  clear A X wso vso wfl vfl wes ves wef vef wpt vpt wla vla h0 h1
  go_enter Try.func49, Try.ntmps49
  go_wp2
  refine wp_region_loose SgQ (by kernel_rfl) (by kernel_rfl) ?_
  simp only [List.append]
  repeat ((with_reducible refine wpLoose_cons ?_); (first | ((with_reducible refine wpLoose_skip ?_ ?_); (focus (go_simp; done)); intro K hK; go_simp; refine hK _ ?_; clear hK K) | (refine wpLoose_farithG ?_ _ _ _ _ _ rfl rfl _ _ _ rfl rfl ?_; (focus (go_simp; done)); intro _ _) | (refine wpLoose_valG ?_ ?_ (fun w1 hw1 => ?_) (fun K hK => ?_); (focus (go_simp; done)); rotate_left; (focus (obtain ⟨nq, rfl⟩ := hw1; go_simp; first | done | rfl)); go_simp; refine hK _ ?_; clear hK K) | fail))
  refine wpLoose_callG ?_ 86 #[.float .f32 s.so, .float .f32 t.so] (fun w1 => ?_) (fun w1 hw1 => ?_) (fun v1 hv1 => ?_)
  · go_simp
  · go_simp
  · obtain ⟨nq, rfl⟩ := hw1
    refine (specSame_any _ _ _ Wso.out.1 Wso.out.2).mono ?_
    rintro e w2 ⟨rfl, rfl⟩
    exact ⟨_, rfl, rfl, 0, rfl⟩
  obtain rfl : v1 = .bool true := by rw [show v1 = .bool (sm s.so t.so) from hv1, H0.out]
  repeat ((with_reducible refine wpLoose_cons ?_); (first | ((with_reducible refine wpLoose_skip ?_ ?_); (focus (go_simp; done)); intro K hK; go_simp; refine hK _ ?_; clear hK K) | (refine wpLoose_farithG ?_ _ _ _ _ _ rfl rfl _ _ _ rfl rfl ?_; (focus (go_simp; done)); intro _ _) | (refine wpLoose_valG ?_ ?_ (fun w1 hw1 => ?_) (fun K hK => ?_); (focus (go_simp; done)); rotate_left; (focus (obtain ⟨nq, rfl⟩ := hw1; go_simp; first | done | rfl)); go_simp; refine hK _ ?_; clear hK K) | fail))
  refine wpLoose_callG ?_ 86 #[.float .f32 s.fl, .float .f32 t.fl] (fun w1 => ?_) (fun w1 hw1 => ?_) (fun v1 hv1 => ?_)
  · go_simp
  · go_simp
  · obtain ⟨nq, rfl⟩ := hw1
    refine (specSame_any _ _ _ Wfl.out.1 Wfl.out.2).mono ?_
    rintro e w2 ⟨rfl, rfl⟩
    exact ⟨_, rfl, rfl, 0, rfl⟩
  obtain rfl : v1 = .bool false := by rw [show v1 = .bool (sm s.fl t.fl) from hv1, H1.out]
  repeat ((with_reducible refine wpLoose_cons ?_); (first | ((with_reducible refine wpLoose_skip ?_ ?_); (focus (go_simp; done)); intro K hK; go_simp; refine hK _ ?_; clear hK K) | (refine wpLoose_farithG ?_ _ _ _ _ _ rfl rfl _ _ _ rfl rfl ?_; (focus (go_simp; done)); intro _ _) | (refine wpLoose_valG ?_ ?_ (fun w1 hw1 => ?_) (fun K hK => ?_); (focus (go_simp; done)); rotate_left; (focus (obtain ⟨nq, rfl⟩ := hw1; go_simp; first | done | rfl)); go_simp; refine hK _ ?_; clear hK K) | fail))
  (refine wpLoose_nil ?_; rintro _ ⟨nq, rfl⟩)
  go_wp2
  go_ret
  exact ⟨rfl, _, rfl⟩

set_option maxRecDepth 20000 in
set_option maxHeartbeats 1600000 in
theorem specSameV2 (s t : SF) (b d : Nat) (w : World) (A : Cells w b s.vs) (X : Cells w d t.vs) (ws : s.wf) (wt : t.wf) (h0 : sm s.so t.so = true) (h1 : sm s.fl t.fl = true) (h2 : sm s.es t.es = false) : Calls Try.prog 49 #[.pointer (some ⟨b, 0, none⟩), .pointer (some ⟨d, 0, none⟩)] w (Bol false w) := by
  have c0 := A.at 0 rfl
  have x0 := X.at 0 rfl
  have c1 := A.at 1 rfl
  have x1 := X.at 1 rfl
  have c2 := A.at 2 rfl
  have x2 := X.at 2 rfl
  obtain ⟨wso, wfl, wes, wef, wpt, wla⟩ := ws
  obtain ⟨vso, vfl, ves, vef, vpt, vla⟩ := wt
  have Wso := Lib.hid (And.intro wso vso)
  have Wfl := Lib.hid (And.intro wfl vfl)
  have Wes := Lib.hid (And.intro wes ves)
  have Wef := Lib.hid (And.intro wef vef)
  have Wpt := Lib.hid (And.intro wpt vpt)
  have Wla := Lib.hid (And.intro wla vla)
  have H0 := Lib.hid h0
  have H1 := Lib.hid h1
  have H2 := Lib.hid h2
  clear A X wso vso wfl vfl wes ves wef vef wpt vpt wla vla h0 h1 h2
  go_enter Try.func49, Try.ntmps49
  go_wp2
  refine wp_region_loose SgQ (by kernel_rfl) (by kernel_rfl) ?_
  simp only [List.append]
  repeat ((with_reducible refine wpLoose_cons ?_); (first | ((with_reducible refine wpLoose_skip ?_ ?_); (focus (go_simp; done)); intro K hK; go_simp; refine hK _ ?_; clear hK K) | (refine wpLoose_farithG ?_ _ _ _ _ _ rfl rfl _ _ _ rfl rfl ?_; (focus (go_simp; done)); intro _ _) | (refine wpLoose_valG ?_ ?_ (fun w1 hw1 => ?_) (fun K hK => ?_); (focus (go_simp; done)); rotate_left; (focus (obtain ⟨nq, rfl⟩ := hw1; go_simp; first | done | rfl)); go_simp; refine hK _ ?_; clear hK K) | fail))
  refine wpLoose_callG ?_ 86 #[.float .f32 s.so, .float .f32 t.so] (fun w1 => ?_) (fun w1 hw1 => ?_) (fun v1 hv1 => ?_)
  · go_simp
  · go_simp
  · obtain ⟨nq, rfl⟩ := hw1
    refine (specSame_any _ _ _ Wso.out.1 Wso.out.2).mono ?_
    rintro e w2 ⟨rfl, rfl⟩
    exact ⟨_, rfl, rfl, 0, rfl⟩
  obtain rfl : v1 = .bool true := by rw [show v1 = .bool (sm s.so t.so) from hv1, H0.out]
  repeat ((with_reducible refine wpLoose_cons ?_); (first | ((with_reducible refine wpLoose_skip ?_ ?_); (focus (go_simp; done)); intro K hK; go_simp; refine hK _ ?_; clear hK K) | (refine wpLoose_farithG ?_ _ _ _ _ _ rfl rfl _ _ _ rfl rfl ?_; (focus (go_simp; done)); intro _ _) | (refine wpLoose_valG ?_ ?_ (fun w1 hw1 => ?_) (fun K hK => ?_); (focus (go_simp; done)); rotate_left; (focus (obtain ⟨nq, rfl⟩ := hw1; go_simp; first | done | rfl)); go_simp; refine hK _ ?_; clear hK K) | fail))
  refine wpLoose_callG ?_ 86 #[.float .f32 s.fl, .float .f32 t.fl] (fun w1 => ?_) (fun w1 hw1 => ?_) (fun v1 hv1 => ?_)
  · go_simp
  · go_simp
  · obtain ⟨nq, rfl⟩ := hw1
    refine (specSame_any _ _ _ Wfl.out.1 Wfl.out.2).mono ?_
    rintro e w2 ⟨rfl, rfl⟩
    exact ⟨_, rfl, rfl, 0, rfl⟩
  obtain rfl : v1 = .bool true := by rw [show v1 = .bool (sm s.fl t.fl) from hv1, H1.out]
  repeat ((with_reducible refine wpLoose_cons ?_); (first | ((with_reducible refine wpLoose_skip ?_ ?_); (focus (go_simp; done)); intro K hK; go_simp; refine hK _ ?_; clear hK K) | (refine wpLoose_farithG ?_ _ _ _ _ _ rfl rfl _ _ _ rfl rfl ?_; (focus (go_simp; done)); intro _ _) | (refine wpLoose_valG ?_ ?_ (fun w1 hw1 => ?_) (fun K hK => ?_); (focus (go_simp; done)); rotate_left; (focus (obtain ⟨nq, rfl⟩ := hw1; go_simp; first | done | rfl)); go_simp; refine hK _ ?_; clear hK K) | fail))
  refine wpLoose_callG ?_ 86 #[.float .f32 s.es, .float .f32 t.es] (fun w1 => ?_) (fun w1 hw1 => ?_) (fun v1 hv1 => ?_)
  · go_simp
  · go_simp
  · obtain ⟨nq, rfl⟩ := hw1
    refine (specSame_any _ _ _ Wes.out.1 Wes.out.2).mono ?_
    rintro e w2 ⟨rfl, rfl⟩
    exact ⟨_, rfl, rfl, 0, rfl⟩
  obtain rfl : v1 = .bool false := by rw [show v1 = .bool (sm s.es t.es) from hv1, H2.out]
  repeat ((with_reducible refine wpLoose_cons ?_); (first | ((with_reducible refine wpLoose_skip ?_ ?_); (focus (go_simp; done)); intro K hK; go_simp; refine hK _ ?_; clear hK K) | (refine wpLoose_farithG ?_ _ _ _ _ _ rfl rfl _ _ _ rfl rfl ?_; (focus (go_simp; done)); intro _ _) | (refine wpLoose_valG ?_ ?_ (fun w1 hw1 => ?_) (fun K hK => ?_); (focus (go_simp; done)); rotate_left; (focus (obtain ⟨nq, rfl⟩ := hw1; go_simp; first | done | rfl)); go_simp; refine hK _ ?_; clear hK K) | fail))
  (refine wpLoose_nil ?_; rintro _ ⟨nq, rfl⟩)
  go_wp2
  go_ret
  exact ⟨rfl, _, rfl⟩

set_option maxRecDepth 20000 in
set_option maxHeartbeats 1600000 in
theorem specSameV3 (s t : SF) (b d : Nat) (w : World) (A : Cells w b s.vs) (X : Cells w d t.vs) (ws : s.wf) (wt : t.wf) (h0 : sm s.so t.so = true) (h1 : sm s.fl t.fl = true) (h2 : sm s.es t.es = true) (h3 : sm s.ef t.ef = false) : Calls Try.prog 49 #[.pointer (some ⟨b, 0, none⟩), .pointer (some ⟨d, 0, none⟩)] w (Bol false w) := by
  have c0 := A.at 0 rfl
  have x0 := X.at 0 rfl
  have c1 := A.at 1 rfl
  have x1 := X.at 1 rfl
  have c2 := A.at 2 rfl
  have x2 := X.at 2 rfl
  have c3 := A.at 3 rfl
  have x3 := X.at 3 rfl
  obtain ⟨wso, wfl, wes, wef, wpt, wla⟩ := ws
  obtain ⟨vso, vfl, ves, vef, vpt, vla⟩ := wt
  have Wso := Lib.hid (And.intro wso vso)
  have Wfl := Lib.hid (And.intro wfl vfl)
  have Wes := Lib.hid (And.intro wes ves)
  have Wef := Lib.hid (And.intro wef vef)
  have Wpt := Lib.hid (And.intro wpt vpt)
  have Wla := Lib.hid (And.intro wla vla)
  have H0 := Lib.hid h0
  have H1 := Lib.hid h1
  have H2 := Lib.hid h2
  have H3 := Lib.hid h3
  clear A X wso vso wfl vfl wes ves wef vef wpt vpt wla vla h0 h1 h2 h3
  go_enter Try.func49, Try.ntmps49
  go_wp2
  refine wp_region_loose SgQ (by kernel_rfl) (by kernel_rfl) ?_
  simp only [List.append]
  repeat ((with_reducible refine wpLoose_cons ?_); (first | ((with_reducible refine wpLoose_skip ?_ ?_); (focus (go_simp; done)); intro K hK; go_simp; refine hK _ ?_; clear hK K) | (refine wpLoose_farithG ?_ _ _ _ _ _ rfl rfl _ _ _ rfl rfl ?_; (focus (go_simp; done)); intro _ _) | (refine wpLoose_valG ?_ ?_ (fun w1 hw1 => ?_) (fun K hK => ?_); (focus (go_simp; done)); rotate_left; (focus (obtain ⟨nq, rfl⟩ := hw1; go_simp; first | done | rfl)); go_simp; refine hK _ ?_; clear hK K) | fail))
  refine wpLoose_callG ?_ 86 #[.float .f32 s.so, .float .f32 t.so] (fun w1 => ?_) (fun w1 hw1 => ?_) (fun v1 hv1 => ?_)
  · go_simp
  · go_simp
  · obtain ⟨nq, rfl⟩ := hw1
    refine (specSame_any _ _ _ Wso.out.1 Wso.out.2).mono ?_
    rintro e w2 ⟨rfl, rfl⟩
    exact ⟨_, rfl, rfl, 0, rfl⟩
  obtain rfl : v1 = .bool true := by rw [show v1 = .bool (sm s.so t.so) from hv1, H0.out]
  repeat ((with_reducible refine wpLoose_cons ?_); (first | ((with_reducible refine wpLoose_skip ?_ ?_); (focus (go_simp; done)); intro K hK; go_simp; refine hK _ ?_; clear hK K) | (refine wpLoose_farithG ?_ _ _ _ _ _ rfl rfl _ _ _ rfl rfl ?_; (focus (go_simp; done)); intro _ _) | (refine wpLoose_valG ?_ ?_ (fun w1 hw1 => ?_) (fun K hK => ?_); (focus (go_simp; done)); rotate_left; (focus (obtain ⟨nq, rfl⟩ := hw1; go_simp; first | done | rfl)); go_simp; refine hK _ ?_; clear hK K) | fail))
  refine wpLoose_callG ?_ 86 #[.float .f32 s.fl, .float .f32 t.fl] (fun w1 => ?_) (fun w1 hw1 => ?_) (fun v1 hv1 => ?_)
  · go_simp
  · go_simp
  · obtain ⟨nq, rfl⟩ := hw1
    refine (specSame_any _ _ _ Wfl.out.1 Wfl.out.2).mono ?_
    rintro e w2 ⟨rfl, rfl⟩
    exact ⟨_, rfl, rfl, 0, rfl⟩
  obtain rfl : v1 = .bool true := by rw [show v1 = .bool (sm s.fl t.fl) from hv1, H1.out]
  repeat ((with_reducible refine wpLoose_cons ?_); (first | ((with_reducible refine wpLoose_skip ?_ ?_); (focus (go_simp; done)); intro K hK; go_simp; refine hK _ ?_; clear hK K) | (refine wpLoose_farithG ?_ _ _ _ _ _ rfl rfl _ _ _ rfl rfl ?_; (focus (go_simp; done)); intro _ _) | (refine wpLoose_valG ?_ ?_ (fun w1 hw1 => ?_) (fun K hK => ?_); (focus (go_simp; done)); rotate_left; (focus (obtain ⟨nq, rfl⟩ := hw1; go_simp; first | done | rfl)); go_simp; refine hK _ ?_; clear hK K) | fail))
  refine wpLoose_callG ?_ 86 #[.float .f32 s.es, .float .f32 t.es] (fun w1 => ?_) (fun w1 hw1 => ?_) (fun v1 hv1 => ?_)
  · go_simp
  · go_simp
  · obtain ⟨nq, rfl⟩ := hw1
    refine (specSame_any _ _ _ Wes.out.1 Wes.out.2).mono ?_
    rintro e w2 ⟨rfl, rfl⟩
    exact ⟨_, rfl, rfl, 0, rfl⟩
  obtain rfl : v1 = .bool true := by rw [show v1 = .bool (sm s.es t.es) from hv1, H2.out]
  repeat ((with_reducible refine wpLoose_cons ?_); (first | ((with_reducible refine wpLoose_skip ?_ ?_); (focus (go_simp; done)); intro K hK; go_simp; refine hK _ ?_; clear hK K) | (refine wpLoose_farithG ?_ _ _ _ _ _ rfl rfl _ _ _ rfl rfl ?_; (focus (go_simp; done)); intro _ _) | (refine wpLoose_valG ?_ ?_ (fun w1 hw1 => ?_) (fun K hK => ?_); (focus (go_simp; done)); rotate_left; (focus (obtain ⟨nq, rfl⟩ := hw1; go_simp; first | done | rfl)); go_simp; refine hK _ ?_; clear hK K) | fail))
  refine wpLoose_callG ?_ 86 #[.float .f32 s.ef, .float .f32 t.ef] (fun w1 => ?_) (fun w1 hw1 => ?_) (fun v1 hv1 => ?_)
  · go_simp
  · go_simp
  · obtain ⟨nq, rfl⟩ := hw1
    refine (specSame_any _ _ _ Wef.out.1 Wef.out.2).mono ?_
    rintro e w2 ⟨rfl, rfl⟩
    exact ⟨_, rfl, rfl, 0, rfl⟩
  obtain rfl : v1 = .bool false := by rw [show v1 = .bool (sm s.ef t.ef) from hv1, H3.out]
  repeat ((with_reducible refine wpLoose_cons ?_); (first | ((with_reducible refine wpLoose_skip ?_ ?_); (focus (go_simp; done)); intro K hK; go_simp; refine hK _ ?_; clear hK K) | (refine wpLoose_farithG ?_ _ _ _ _ _ rfl rfl _ _ _ rfl rfl ?_; (focus (go_simp; done)); intro _ _) | (refine wpLoose_valG ?_ ?_ (fun w1 hw1 => ?_) (fun K hK => ?_); (focus (go_simp; done)); rotate_left; (focus (obtain ⟨nq, rfl⟩ := hw1; go_simp; first | done | rfl)); go_simp; refine hK _ ?_; clear hK K) | fail))
  (refine wpLoose_nil ?_; rintro _ ⟨nq, rfl⟩)
  go_wp2
  go_ret
  exact ⟨rfl, _, rfl⟩

set_option maxRecDepth 20000 in
set_option maxHeartbeats 1600000 in
theorem specSameV4 (s t : SF) (b d : Nat) (w : World) (A : Cells w b s.vs) (X : Cells w d t.vs) (ws : s.wf) (wt : t.wf) (h0 : sm s.so t.so = true) (h1 : sm s.fl t.fl = true) (h2 : sm s.es t.es = true) (h3 : sm s.ef t.ef = true) (h4 : sm s.pt t.pt = false) : Calls Try.prog 49 #[.pointer (some ⟨b, 0, none⟩), .pointer (some ⟨d, 0, none⟩)] w (Bol false w) := by
  have c0 := A.at 0 rfl
  have x0 := X.at 0 rfl
  have c1 := A.at 1 rfl
  have x1 := X.at 1 rfl
  have c2 := A.at 2 rfl
  have x2 := X.at 2 rfl
  have c3 := A.at 3 rfl
  have x3 := X.at 3 rfl
  have c4 := A.at 4 rfl
  have x4 := X.at 4 rfl
  obtain ⟨wso, wfl, wes, wef, wpt, wla⟩ := ws
  obtain ⟨vso, vfl, ves, vef, vpt, vla⟩ := wt
  have Wso := Lib.hid (And.intro wso vso)
  have Wfl := Lib.hid (And.intro wfl vfl)
  have Wes := Lib.hid (And.intro wes ves)
  have Wef := Lib.hid (And.intro wef vef)
  have Wpt := Lib.hid (And.intro wpt vpt)
  have Wla := Lib.hid (And.intro wla vla)
  have H0 := Lib.hid h0
  have H1 := Lib.hid h1
  have H2 := Lib.hid h2
  have H3 := Lib.hid h3
  have H4 := Lib.hid h4
  clear A X wso vso wfl vfl wes ves wef vef wpt vpt wla vla h0 h1 h2 h3 h4
  go_enter Try.func49, Try.ntmps49
  go_wp2
  refine wp_region_loose SgQ (by kernel_rfl) (by kernel_rfl) ?_
  simp only [List.append]
  repeat ((with_reducible refine wpLoose_cons ?_); (first | ((with_reducible refine wpLoose_skip ?_ ?_); (focus (go_simp; done)); intro K hK; go_simp; refine hK _ ?_; clear hK K) | (refine wpLoose_farithG ?_ _ _ _ _ _ rfl rfl _ _ _ rfl rfl ?_; (focus (go_simp; done)); intro _ _) | (refine wpLoose_valG ?_ ?_ (fun w1 hw1 => ?_) (fun K hK => ?_); (focus (go_simp; done)); rotate_left; (focus (obtain ⟨nq, rfl⟩ := hw1; go_simp; first | done | rfl)); go_simp; refine hK _ ?_; clear hK K) | fail))
  refine wpLoose_callG ?_ 86 #[.float .f32 s.so, .float .f32 t.so] (fun w1 => ?_) (fun w1 hw1 => ?_) (fun v1 hv1 => ?_)
  · go_simp
  · go_simp
  · obtain ⟨nq, rfl⟩ := hw1
    refine (specSame_any _ _ _ Wso.out.1 Wso.out.2).mono ?_
    rintro e w2 ⟨rfl, rfl⟩
    exact ⟨_, rfl, rfl, 0, rfl⟩
  obtain rfl : v1 = .bool true := by rw [show v1 = .bool (sm s.so t.so) from hv1, H0.out]
  repeat ((with_reducible refine wpLoose_cons ?_); (first | ((with_reducible refine wpLoose_skip ?_ ?_); (focus (go_simp; done)); intro K hK; go_simp; refine hK _ ?_; clear hK K) | (refine wpLoose_farithG ?_ _ _ _ _ _ rfl rfl _ _ _ rfl rfl ?_; (focus (go_simp; done)); intro _ _) | (refine wpLoose_valG ?_ ?_ (fun w1 hw1 => ?_) (fun K hK => ?_); (focus (go_simp; done)); rotate_left; (focus (obtain ⟨nq, rfl⟩ := hw1; go_simp; first | done | rfl)); go_simp; refine hK _ ?_; clear hK K) | fail))
  refine wpLoose_callG ?_ 86 #[.float .f32 s.fl, .float .f32 t.fl] (fun w1 => ?_) (fun w1 hw1 => ?_) (fun v1 hv1 => ?_)
  · go_simp
  · go_simp
  · obtain ⟨nq, rfl⟩ := hw1
    refine (specSame_any _ _ _ Wfl.out.1 Wfl.out.2).mono ?_
    rintro e w2 ⟨rfl, rfl⟩
    exact ⟨_, rfl, rfl, 0, rfl⟩
  obtain rfl : v1 = .bool true := by rw [show v1 = .bool (sm s.fl t.fl) from hv1, H1.out]
  repeat ((with_reducible refine wpLoose_cons ?_); (first | ((with_reducible refine wpLoose_skip ?_ ?_); (focus (go_simp; done)); intro K hK; go_simp; refine hK _ ?_; clear hK K) | (refine wpLoose_farithG ?_ _ _ _ _ _ rfl rfl _ _ _ rfl rfl ?_; (focus (go_simp; done)); intro _ _) | (refine wpLoose_valG ?_ ?_ (fun w1 hw1 => ?_) (fun K hK => ?_); (focus (go_simp; done)); rotate_left; (focus (obtain ⟨nq, rfl⟩ := hw1; go_simp; first | done | rfl)); go_simp; refine hK _ ?_; clear hK K) | fail))
  refine wpLoose_callG ?_ 86 #[.float .f32 s.es, .float .f32 t.es] (fun w1 => ?_) (fun w1 hw1 => ?_) (fun v1 hv1 => ?_)
  · go_simp
  · go_simp
  · obtain ⟨nq, rfl⟩ := hw1
    refine (specSame_any _ _ _ Wes.out.1 Wes.out.2).mono ?_
    rintro e w2 ⟨rfl, rfl⟩
    exact ⟨_, rfl, rfl, 0, rfl⟩
  obtain rfl : v1 = .bool true := by rw [show v1 = .bool (sm s.es t.es) from hv1, H2.out]
  repeat ((with_reducible refine wpLoose_cons ?_); (first | ((with_reducible refine wpLoose_skip ?_ ?_); (focus (go_simp; done)); intro K hK; go_simp; refine hK _ ?_; clear hK K) | (refine wpLoose_farithG ?_ _ _ _ _ _ rfl rfl _ _ _ rfl rfl ?_; (focus (go_simp; done)); intro _ _) | (refine wpLoose_valG ?_ ?_ (fun w1 hw1 => ?_) (fun K hK => ?_); (focus (go_simp; done)); rotate_left; (focus (obtain ⟨nq, rfl⟩ := hw1; go_simp; first | done | rfl)); go_simp; refine hK _ ?_; clear hK K) | fail))
  refine wpLoose_callG ?_ 86 #[.float .f32 s.ef, .float .f32 t.ef] (fun w1 => ?_) (fun w1 hw1 => ?_) (fun v1 hv1 => ?_)
  · go_simp
  · go_simp
  · obtain ⟨nq, rfl⟩ := hw1
    refine (specSame_any _ _ _ Wef.out.1 Wef.out.2).mono ?_
    rintro e w2 ⟨rfl, rfl⟩
    exact ⟨_, rfl, rfl, 0, rfl⟩
  obtain rfl : v1 = .bool true := by rw [show v1 = .bool (sm s.ef t.ef) from hv1, H3.out]
  repeat ((with_reducible refine wpLoose_cons ?_); (first | ((with_reducible refine wpLoose_skip ?_ ?_); (focus (go_simp; done)); intro K hK; go_simp; refine hK _ ?_; clear hK K) | (refine wpLoose_farithG ?_ _ _ _ _ _ rfl rfl _ _ _ rfl rfl ?_; (focus (go_simp; done)); intro _ _) | (refine wpLoose_valG ?_ ?_ (fun w1 hw1 => ?_) (fun K hK => ?_); (focus (go_simp; done)); rotate_left; (focus (obtain ⟨nq, rfl⟩ := hw1; go_simp; first | done | rfl)); go_simp; refine hK _ ?_; clear hK K) | fail))
  refine wpLoose_callG ?_ 86 #[.float .f32 s.pt, .float .f32 t.pt] (fun w1 => ?_) (fun w1 hw1 => ?_) (fun v1 hv1 => ?_)
  · go_simp
  · go_simp
  · obtain ⟨nq, rfl⟩ := hw1
    refine (specSame_any _ _ _ Wpt.out.1 Wpt.out.2).mono ?_
    rintro e w2 ⟨rfl, rfl⟩
    exact ⟨_, rfl, rfl, 0, rfl⟩
  obtain rfl : v1 = .bool false := by rw [show v1 = .bool (sm s.pt t.pt) from hv1, H4.out]
  repeat ((with_reducible refine wpLoose_cons ?_); (first | ((with_reducible refine wpLoose_skip ?_ ?_); (focus (go_simp; done)); intro K hK; go_simp; refine hK _ ?_; clear hK K) | (refine wpLoose_farithG ?_ _ _ _ _ _ rfl rfl _ _ _ rfl rfl ?_; (focus (go_simp; done)); intro _ _) | (refine wpLoose_valG ?_ ?_ (fun w1 hw1 => ?_) (fun K hK => ?_); (focus (go_simp; done)); rotate_left; (focus (obtain ⟨nq, rfl⟩ := hw1; go_simp; first | done | rfl)); go_simp; refine hK _ ?_; clear hK K) | fail))
  (refine wpLoose_nil ?_; rintro _ ⟨nq, rfl⟩)
  go_wp2
  go_ret
  exact ⟨rfl, _, rfl⟩

set_option maxRecDepth 20000 in
set_option maxHeartbeats 1600000 in
theorem specSameV5 (s t : SF) (b d : Nat) (w : World) (A : Cells w b s.vs) (X : Cells w d t.vs) (ws : s.wf) (wt : t.wf) (h0 : sm s.so t.so = true) (h1 : sm s.fl t.fl = true) (h2 : sm s.es t.es = true) (h3 : sm s.ef t.ef = true) (h4 : sm s.pt t.pt = true) (h5 : sm s.la t.la = false) : Calls Try.prog 49 #[.pointer (some ⟨b, 0, none⟩), .pointer (some ⟨d, 0, none⟩)] w (Bol false w) := by
  have c0 := A.at 0 rfl
  have x0 := X.at 0 rfl
  have c1 := A.at 1 rfl
  have x1 := X.at 1 rfl
  have c2 := A.at 2 rfl
  have x2 := X.at 2 rfl
  have c3 := A.at 3 rfl
  have x3 := X.at 3 rfl
  have c4 := A.at 4 rfl
  have x4 := X.at 4 rfl
  have c5 := A.at 5 rfl
  have x5 := X.at 5 rfl
  obtain ⟨wso, wfl, wes, wef, wpt, wla⟩ := ws
  obtain ⟨vso, vfl, ves, vef, vpt, vla⟩ := wt
  have Wso := Lib.hid (And.intro wso vso)
  have Wfl := Lib.hid (And.intro wfl vfl)
  have Wes := Lib.hid (And.intro wes ves)
  have Wef := Lib.hid (And.intro wef vef)
  have Wpt := Lib.hid (And.intro wpt vpt)
  have Wla := Lib.hid (And.intro wla vla)
  have H0 := Lib.hid h0
  have H1 := Lib.hid h1
  have H2 := Lib.hid h2
  have H3 := Lib.hid h3
  have H4 := Lib.hid h4
  have H5 := Lib.hid h5
  clear A X wso vso wfl vfl wes ves wef vef wpt vpt wla vla h0 h1 h2 h3 h4 h5
  go_enter Try.func49, Try.ntmps49
  go_wp2
  refine wp_region_loose SgQ (by kernel_rfl) (by kernel_rfl) ?_
  simp only [List.append]
  repeat ((with_reducible refine wpLoose_cons ?_); (first | ((with_reducible refine wpLoose_skip ?_ ?_); (focus (go_simp; done)); intro K hK; go_simp; refine hK _ ?_; clear hK K) | (refine wpLoose_farithG ?_ _ _ _ _ _ rfl rfl _ _ _ rfl rfl ?_; (focus (go_simp; done)); intro _ _) | (refine wpLoose_valG ?_ ?_ (fun w1 hw1 => ?_) (fun K hK => ?_); (focus (go_simp; done)); rotate_left; (focus (obtain ⟨nq, rfl⟩ := hw1; go_simp; first | done | rfl)); go_simp; refine hK _ ?_; clear hK K) | fail))
  refine wpLoose_callG ?_ 86 #[.float .f32 s.so, .float .f32 t.so] (fun w1 => ?_) (fun w1 hw1 => ?_) (fun v1 hv1 => ?_)
  · go_simp
  · go_simp
  · obtain ⟨nq, rfl⟩ := hw1
    refine (specSame_any _ _ _ Wso.out.1 Wso.out.2).mono ?_
    rintro e w2 ⟨rfl, rfl⟩
    exact ⟨_, rfl, rfl, 0, rfl⟩
  obtain rfl : v1 = .bool true := by rw [show v1 = .bool (sm s.so t.so) from hv1, H0.out]
  repeat ((with_reducible refine wpLoose_cons ?_); (first | ((with_reducible refine wpLoose_skip ?_ ?_); (focus (go_simp; done)); intro K hK; go_simp; refine hK _ ?_; clear hK K) | (refine wpLoose_farithG ?_ _ _ _ _ _ rfl rfl _ _ _ rfl rfl ?_; (focus (go_simp; done)); intro _ _) | (refine wpLoose_valG ?_ ?_ (fun w1 hw1 => ?_) (fun K hK => ?_); (focus (go_simp; done)); rotate_left; (focus (obtain ⟨nq, rfl⟩ := hw1; go_simp; first | done | rfl)); go_simp; refine hK _ ?_; clear hK K) | fail))
  refine wpLoose_callG ?_ 86 #[.float .f32 s.fl, .float .f32 t.fl] (fun w1 => ?_) (fun w1 hw1 => ?_) (fun v1 hv1 => ?_)
  · go_simp
  · go_simp
  · obtain ⟨nq, rfl⟩ := hw1
    refine (specSame_any _ _ _ Wfl.out.1 Wfl.out.2).mono ?_
    rintro e w2 ⟨rfl, rfl⟩
    exact ⟨_, rfl, rfl, 0, rfl⟩
  obtain rfl : v1 = .bool true := by rw [show v1 = .bool (sm s.fl t.fl) from hv1, H1.out]
  repeat ((with_reducible refine wpLoose_cons ?_); (first | ((with_reducible refine wpLoose_skip ?_ ?_); (focus (go_simp; done)); intro K hK; go_simp; refine hK _ ?_; clear hK K) | (refine wpLoose_farithG ?_ _ _ _ _ _ rfl rfl _ _ _ rfl rfl ?_; (focus (go_simp; done)); intro _ _) | (refine wpLoose_valG ?_ ?_ (fun w1 hw1 => ?_) (fun K hK => ?_); (focus (go_simp; done)); rotate_left; (focus (obtain ⟨nq, rfl⟩ := hw1; go_simp; first | done | rfl)); go_simp; refine hK _ ?_; clear hK K) | fail))
  refine wpLoose_callG ?_ 86 #[.float .f32 s.es, .float .f32 t.es] (fun w1 => ?_) (fun w1 hw1 => ?_) (fun v1 hv1 => ?_)
  · go_simp
  · go_simp
  · obtain ⟨nq, rfl⟩ := hw1
    refine (specSame_any _ _ _ Wes.out.1 Wes.out.2).mono ?_
    rintro e w2 ⟨rfl, rfl⟩
    exact ⟨_, rfl, rfl, 0, rfl⟩
  obtain rfl : v1 = .bool true := by rw [show v1 = .bool (sm s.es t.es) from hv1, H2.out]
  repeat ((with_reducible refine wpLoose_cons ?_); (first | ((with_reducible refine wpLoose_skip ?_ ?_); (focus (go_simp; done)); intro K hK; go_simp; refine hK _ ?_; clear hK K) | (refine wpLoose_farithG ?_ _ _ _ _ _ rfl rfl _ _ _ rfl rfl ?_; (focus (go_simp; done)); intro _ _) | (refine wpLoose_valG ?_ ?_ (fun w1 hw1 => ?_) (fun K hK => ?_); (focus (go_simp; done)); rotate_left; (focus (obtain ⟨nq, rfl⟩ := hw1; go_simp; first | done | rfl)); go_simp; refine hK _ ?_; clear hK K) | fail))
  refine wpLoose_callG ?_ 86 #[.float .f32 s.ef, .float .f32 t.ef] (fun w1 => ?_) (fun w1 hw1 => ?_) (fun v1 hv1 => ?_)
  · go_simp
  · go_simp
  · obtain ⟨nq, rfl⟩ := hw1
    refine (specSame_any _ _ _ Wef.out.1 Wef.out.2).mono ?_
    rintro e w2 ⟨rfl, rfl⟩
    exact ⟨_, rfl, rfl, 0, rfl⟩
  obtain rfl : v1 = .bool true := by rw [show v1 = .bool (sm s.ef t.ef) from hv1, H3.out]
  repeat ((with_reducible refine wpLoose_cons ?_); (first | ((with_reducible refine wpLoose_skip ?_ ?_); (focus (go_simp; done)); intro K hK; go_simp; refine hK _ ?_; clear hK K) | (refine wpLoose_farithG ?_ _ _ _ _ _ rfl rfl _ _ _ rfl rfl ?_; (focus (go_simp; done)); intro _ _) | (refine wpLoose_valG ?_ ?_ (fun w1 hw1 => ?_) (fun K hK => ?_); (focus (go_simp; done)); rotate_left; (focus (obtain ⟨nq, rfl⟩ := hw1; go_simp; first | done | rfl)); go_simp; refine hK _ ?_; clear hK K) | fail))
  refine wpLoose_callG ?_ 86 #[.float .f32 s.pt, .float .f32 t.pt] (fun w1 => ?_) (fun w1 hw1 => ?_) (fun v1 hv1 => ?_)
  · go_simp
  · go_simp
  · obtain ⟨nq, rfl⟩ := hw1
    refine (specSame_any _ _ _ Wpt.out.1 Wpt.out.2).mono ?_
    rintro e w2 ⟨rfl, rfl⟩
    exact ⟨_, rfl, rfl, 0, rfl⟩
  obtain rfl : v1 = .bool true := by rw [show v1 = .bool (sm s.pt t.pt) from hv1, H4.out]
  repeat ((with_reducible refine wpLoose_cons ?_); (first | ((with_reducible refine wpLoose_skip ?_ ?_); (focus (go_simp; done)); intro K hK; go_simp; refine hK _ ?_; clear hK K) | (refine wpLoose_farithG ?_ _ _ _ _ _ rfl rfl _ _ _ rfl rfl ?_; (focus (go_simp; done)); intro _ _) | (refine wpLoose_valG ?_ ?_ (fun w1 hw1 => ?_) (fun K hK => ?_); (focus (go_simp; done)); rotate_left; (focus (obtain ⟨nq, rfl⟩ := hw1; go_simp; first | done | rfl)); go_simp; refine hK _ ?_; clear hK K) | fail))
  refine wpLoose_callG ?_ 86 #[.float .f32 s.la, .float .f32 t.la] (fun w1 => ?_) (fun w1 hw1 => ?_) (fun v1 hv1 => ?_)
  · go_simp
  · go_simp
  · obtain ⟨nq, rfl⟩ := hw1
    refine (specSame_any _ _ _ Wla.out.1 Wla.out.2).mono ?_
    rintro e w2 ⟨rfl, rfl⟩
    exact ⟨_, rfl, rfl, 0, rfl⟩
  obtain rfl : v1 = .bool false := by rw [show v1 = .bool (sm s.la t.la) from hv1, H5.out]
  repeat ((with_reducible refine wpLoose_cons ?_); (first | ((with_reducible refine wpLoose_skip ?_ ?_); (focus (go_simp; done)); intro K hK; go_simp; refine hK _ ?_; clear hK K) | (refine wpLoose_farithG ?_ _ _ _ _ _ rfl rfl _ _ _ rfl rfl ?_; (focus (go_simp; done)); intro _ _) | (refine wpLoose_valG ?_ ?_ (fun w1 hw1 => ?_) (fun K hK => ?_); (focus (go_simp; done)); rotate_left; (focus (obtain ⟨nq, rfl⟩ := hw1; go_simp; first | done | rfl)); go_simp; refine hK _ ?_; clear hK K) | fail))
  (refine wpLoose_nil ?_; rintro _ ⟨nq, rfl⟩)
  go_wp2
  go_ret
  exact ⟨rfl, _, rfl⟩

set_option maxRecDepth 20000 in
set_option maxHeartbeats 1600000 in
theorem specSameV6 (s t : SF) (b d : Nat) (w : World) (A : Cells w b s.vs) (X : Cells w d t.vs) (ws : s.wf) (wt : t.wf) (h0 : sm s.so t.so = true) (h1 : sm s.fl t.fl = true) (h2 : sm s.es t.es = true) (h3 : sm s.ef t.ef = true) (h4 : sm s.pt t.pt = true) (h5 : sm s.la t.la = true) : Calls Try.prog 49 #[.pointer (some ⟨b, 0, none⟩), .pointer (some ⟨d, 0, none⟩)] w (Bol true w) := by
  have c0 := A.at 0 rfl
  have x0 := X.at 0 rfl
  have c1 := A.at 1 rfl
  have x1 := X.at 1 rfl
  have c2 := A.at 2 rfl
  have x2 := X.at 2 rfl
  have c3 := A.at 3 rfl
  have x3 := X.at 3 rfl
  have c4 := A.at 4 rfl
  have x4 := X.at 4 rfl
  have c5 := A.at 5 rfl
  have x5 := X.at 5 rfl
  obtain ⟨wso, wfl, wes, wef, wpt, wla⟩ := ws
  obtain ⟨vso, vfl, ves, vef, vpt, vla⟩ := wt
  have Wso := Lib.hid (And.intro wso vso)
  have Wfl := Lib.hid (And.intro wfl vfl)
  have Wes := Lib.hid (And.intro wes ves)
  have Wef := Lib.hid (And.intro wef vef)
  have Wpt := Lib.hid (And.intro wpt vpt)
  have Wla := Lib.hid (And.intro wla vla)
  have H0 := Lib.hid h0
  have H1 := Lib.hid h1
  have H2 := Lib.hid h2
  have H3 := Lib.hid h3
  have H4 := Lib.hid h4
  have H5 := Lib.hid h5
  clear A X wso vso wfl vfl wes ves wef vef wpt vpt wla vla h0 h1 h2 h3 h4 h5
  go_enter Try.func49, Try.ntmps49
  go_wp2
  refine wp_region_loose SgQ (by kernel_rfl) (by kernel_rfl) ?_
  simp only [List.append]
  repeat ((with_reducible refine wpLoose_cons ?_); (first | ((with_reducible refine wpLoose_skip ?_ ?_); (focus (go_simp; done)); intro K hK; go_simp; refine hK _ ?_; clear hK K) | (refine wpLoose_farithG ?_ _ _ _ _ _ rfl rfl _ _ _ rfl rfl ?_; (focus (go_simp; done)); intro _ _) | (refine wpLoose_valG ?_ ?_ (fun w1 hw1 => ?_) (fun K hK => ?_); (focus (go_simp; done)); rotate_left; (focus (obtain ⟨nq, rfl⟩ := hw1; go_simp; first | done | rfl)); go_simp; refine hK _ ?_; clear hK K) | fail))
  refine wpLoose_callG ?_ 86 #[.float .f32 s.so, .float .f32 t.so] (fun w1 => ?_) (fun w1 hw1 => ?_) (fun v1 hv1 => ?_)
  · go_simp
  · go_simp
  · obtain ⟨nq, rfl⟩ := hw1
    refine (specSame_any _ _ _ Wso.out.1 Wso.out.2).mono ?_
    rintro e w2 ⟨rfl, rfl⟩
    exact ⟨_, rfl, rfl, 0, rfl⟩
  obtain rfl : v1 = .bool true := by rw [show v1 = .bool (sm s.so t.so) from hv1, H0.out]
  repeat ((with_reducible refine wpLoose_cons ?_); (first | ((with_reducible refine wpLoose_skip ?_ ?_); (focus (go_simp; done)); intro K hK; go_simp; refine hK _ ?_; clear hK K) | (refine wpLoose_farithG ?_ _ _ _ _ _ rfl rfl _ _ _ rfl rfl ?_; (focus (go_simp; done)); intro _ _) | (refine wpLoose_valG ?_ ?_ (fun w1 hw1 => ?_) (fun K hK => ?_); (focus (go_simp; done)); rotate_left; (focus (obtain ⟨nq, rfl⟩ := hw1; go_simp; first | done | rfl)); go_simp; refine hK _ ?_; clear hK K) | fail))
  refine wpLoose_callG ?_ 86 #[.float .f32 s.fl, .float .f32 t.fl] (fun w1 => ?_) (fun w1 hw1 => ?_) (fun v1 hv1 => ?_)
  · go_simp
  · go_simp
  · obtain ⟨nq, rfl⟩ := hw1
    refine (specSame_any _ _ _ Wfl.out.1 Wfl.out.2).mono ?_
    rintro e w2 ⟨rfl, rfl⟩
    exact ⟨_, rfl, rfl, 0, rfl⟩
  obtain rfl : v1 = .bool true := by rw [show v1 = .bool (sm s.fl t.fl) from hv1, H1.out]
  repeat ((with_reducible refine wpLoose_cons ?_); (first | ((with_reducible refine wpLoose_skip ?_ ?_); (focus (go_simp; done)); intro K hK; go_simp; refine hK _ ?_; clear hK K) | (refine wpLoose_farithG ?_ _ _ _ _ _ rfl rfl _ _ _ rfl rfl ?_; (focus (go_simp; done)); intro _ _) | (refine wpLoose_valG ?_ ?_ (fun w1 hw1 => ?_) (fun K hK => ?_); (focus (go_simp; done)); rotate_left; (focus (obtain ⟨nq, rfl⟩ := hw1; go_simp; first | done | rfl)); go_simp; refine hK _ ?_; clear hK K) | fail))
  refine wpLoose_callG ?_ 86 #[.float .f32 s.es, .float .f32 t.es] (fun w1 => ?_) (fun w1 hw1 => ?_) (fun v1 hv1 => ?_)
  · go_simp
  · go_simp
  · obtain ⟨nq, rfl⟩ := hw1
    refine (specSame_any _ _ _ Wes.out.1 Wes.out.2).mono ?_
    rintro e w2 ⟨rfl, rfl⟩
    exact ⟨_, rfl, rfl, 0, rfl⟩
  obtain rfl : v1 = .bool true := by rw [show v1 = .bool (sm s.es t.es) from hv1, H2.out]
  repeat ((with_reducible refine wpLoose_cons ?_); (first | ((with_reducible refine wpLoose_skip ?_ ?_); (focus (go_simp; done)); intro K hK; go_simp; refine hK _ ?_; clear hK K) | (refine wpLoose_farithG ?_ _ _ _ _ _ rfl rfl _ _ _ rfl rfl ?_; (focus (go_simp; done)); intro _ _) | (refine wpLoose_valG ?_ ?_ (fun w1 hw1 => ?_) (fun K hK => ?_); (focus (go_simp; done)); rotate_left; (focus (obtain ⟨nq, rfl⟩ := hw1; go_simp; first | done | rfl)); go_simp; refine hK _ ?_; clear hK K) | fail))
  refine wpLoose_callG ?_ 86 #[.float .f32 s.ef, .float .f32 t.ef] (fun w1 => ?_) (fun w1 hw1 => ?_) (fun v1 hv1 => ?_)
  · go_simp
  · go_simp
  · obtain ⟨nq, rfl⟩ := hw1
    refine (specSame_any _ _ _ Wef.out.1 Wef.out.2).mono ?_
    rintro e w2 ⟨rfl, rfl⟩
    exact ⟨_, rfl, rfl, 0, rfl⟩
  obtain rfl : v1 = .bool true := by rw [show v1 = .bool (sm s.ef t.ef) from hv1, H3.out]
  repeat ((with_reducible refine wpLoose_cons ?_); (first | ((with_reducible refine wpLoose_skip ?_ ?_); (focus (go_simp; done)); intro K hK; go_simp; refine hK _ ?_; clear hK K) | (refine wpLoose_farithG ?_ _ _ _ _ _ rfl rfl _ _ _ rfl rfl ?_; (focus (go_simp; done)); intro _ _) | (refine wpLoose_valG ?_ ?_ (fun w1 hw1 => ?_) (fun K hK => ?_); (focus (go_simp; done)); rotate_left; (focus (obtain ⟨nq, rfl⟩ := hw1; go_simp; first | done | rfl)); go_simp; refine hK _ ?_; clear hK K) | fail))
  refine wpLoose_callG ?_ 86 #[.float .f32 s.pt, .float .f32 t.pt] (fun w1 => ?_) (fun w1 hw1 => ?_) (fun v1 hv1 => ?_)
  · go_simp
  · go_simp
  · obtain ⟨nq, rfl⟩ := hw1
    refine (specSame_any _ _ _ Wpt.out.1 Wpt.out.2).mono ?_
    rintro e w2 ⟨rfl, rfl⟩
    exact ⟨_, rfl, rfl, 0, rfl⟩
  obtain rfl : v1 = .bool true := by rw [show v1 = .bool (sm s.pt t.pt) from hv1, H4.out]
  repeat ((with_reducible refine wpLoose_cons ?_); (first | ((with_reducible refine wpLoose_skip ?_ ?_); (focus (go_simp; done)); intro K hK; go_simp; refine hK _ ?_; clear hK K) | (refine wpLoose_farithG ?_ _ _ _ _ _ rfl rfl _ _ _ rfl rfl ?_; (focus (go_simp; done)); intro _ _) | (refine wpLoose_valG ?_ ?_ (fun w1 hw1 => ?_) (fun K hK => ?_); (focus (go_simp; done)); rotate_left; (focus (obtain ⟨nq, rfl⟩ := hw1; go_simp; first | done | rfl)); go_simp; refine hK _ ?_; clear hK K) | fail))
  refine wpLoose_callG ?_ 86 #[.float .f32 s.la, .float .f32 t.la] (fun w1 => ?_) (fun w1 hw1 => ?_) (fun v1 hv1 => ?_)
  · go_simp
  · go_simp
  · obtain ⟨nq, rfl⟩ := hw1
    refine (specSame_any _ _ _ Wla.out.1 Wla.out.2).mono ?_
    rintro e w2 ⟨rfl, rfl⟩
    exact ⟨_, rfl, rfl, 0, rfl⟩
  obtain rfl : v1 = .bool true := by rw [show v1 = .bool (sm s.la t.la) from hv1, H5.out]
  repeat ((with_reducible refine wpLoose_cons ?_); (first | ((with_reducible refine wpLoose_skip ?_ ?_); (focus (go_simp; done)); intro K hK; go_simp; refine hK _ ?_; clear hK K) | (refine wpLoose_farithG ?_ _ _ _ _ _ rfl rfl _ _ _ rfl rfl ?_; (focus (go_simp; done)); intro _ _) | (refine wpLoose_valG ?_ ?_ (fun w1 hw1 => ?_) (fun K hK => ?_); (focus (go_simp; done)); rotate_left; (focus (obtain ⟨nq, rfl⟩ := hw1; go_simp; first | done | rfl)); go_simp; refine hK _ ?_; clear hK K) | fail))
  (refine wpLoose_nil ?_; rintro _ ⟨nq, rfl⟩)
  go_wp2
  go_ret
  exact ⟨rfl, _, rfl⟩

theorem specSameV_any (s t : SF) (b d : Nat) (w : World) (A : Cells w b s.vs) (X : Cells w d t.vs) (ws : s.wf) (wt : t.wf) : Calls Try.prog 49 #[.pointer (some ⟨b, 0, none⟩), .pointer (some ⟨d, 0, none⟩)] w (Bol (sameS s t) w) := by
  cases B0 : sm s.so t.so
  · rw [show sameS s t = false by unfold sameS; rw [B0]; simp]
    exact specSameV0 s t b d w A X ws wt B0
  · skip
    cases B1 : sm s.fl t.fl
    · rw [show sameS s t = false by unfold sameS; rw [B0, B1]; simp]
      exact specSameV1 s t b d w A X ws wt B0 B1
    · skip
      cases B2 : sm s.es t.es
      · rw [show sameS s t = false by unfold sameS; rw [B0, B1, B2]; simp]
        exact specSameV2 s t b d w A X ws wt B0 B1 B2
      · skip
        cases B3 : sm s.ef t.ef
        · rw [show sameS s t = false by unfold sameS; rw [B0, B1, B2, B3]; simp]
          exact specSameV3 s t b d w A X ws wt B0 B1 B2 B3
        · skip
          cases B4 : sm s.pt t.pt
          · rw [show sameS s t = false by unfold sameS; rw [B0, B1, B2, B3, B4]; simp]
            exact specSameV4 s t b d w A X ws wt B0 B1 B2 B3 B4
          · skip
            cases B5 : sm s.la t.la
            · rw [show sameS s t = false by unfold sameS; rw [B0, B1, B2, B3, B4, B5]; simp]
              exact specSameV5 s t b d w A X ws wt B0 B1 B2 B3 B4 B5
            · skip
              rw [show sameS s t = true by unfold sameS; rw [B0, B1, B2, B3, B4, B5]; rfl]
              exact specSameV6 s t b d w A X ws wt B0 B1 B2 B3 B4 B5

set_option maxRecDepth 100000 in
set_option maxHeartbeats 1600000 in
theorem run_sb (a0 b0 a1 b1 a2 b2 a3 b3 a4 b4 a5 b5 : Int) (w : World) : (binOp .eql 59 (.agg #[.int .i64 a0, .int .i64 a1, .int .i64 a2, .int .i64 a3, .int .i64 a4, .int .i64 a5]) (.agg #[.int .i64 b0, .int .i64 b1, .int .i64 b2, .int .i64 b3, .int .i64 b4, .int .i64 b5])).run Try.prog w = .ok (.bool ((a0 == b0) && (a1 == b1) && (a2 == b2) && (a3 == b3) && (a4 == b4) && (a5 == b5))) w := by
  have hs : Try.prog.stoodInHeld 59 = false := by kernel_rfl
  rw [run_eql_struct, show (10000 : Nat) = 9999 + 1 from rfl, run_equalIn_agg _ _ _ _ _ (by kernel_rfl) hs]
  rw [show Try.prog.fieldsOf 59 = _ from by unfold Program.fieldsOf; rw [Try.underlying59]]
  rw [show (9999 : Nat) = 9998 + 1 from rfl]
  generalize (9998 : Nat) = d
  go_simp
  by_cases h0 : a0 = b0
  case neg => first | (go_simp; done) | (simp [h0]; done) | simp_all
  by_cases h1 : a1 = b1
  case neg => first | (go_simp; done) | (simp [h0, h1]; done) | simp_all
  by_cases h2 : a2 = b2
  case neg => first | (go_simp; done) | (simp [h0, h1, h2]; done) | simp_all
  by_cases h3 : a3 = b3
  case neg => first | (go_simp; done) | (simp [h0, h1, h2, h3]; done) | simp_all
  by_cases h4 : a4 = b4
  case neg => first | (go_simp; done) | (simp [h0, h1, h2, h3, h4]; done) | simp_all
  by_cases h5 : a5 = b5
  case neg => first | (go_simp; done) | (simp [h0, h1, h2, h3, h4, h5]; done) | simp_all
  first | (go_simp; done) | simp_all
theorem specSameS_any (s t : SF) (w : World) (ws : s.wf) (wt : t.wf) : Calls Try.prog 15 #[.agg #[.float .f32 s.so, .float .f32 s.fl, .float .f32 s.es, .float .f32 s.ef, .float .f32 s.pt, .float .f32 s.la], .agg #[.float .f32 t.so, .float .f32 t.fl, .float .f32 t.es, .float .f32 t.ef, .float .f32 t.pt, .float .f32 t.la]] w (BolB (sameS s t) w) := by
  have A := Lib.hid ((Cells.made w [.float .f32 s.so, .float .f32 s.fl, .float .f32 s.es, .float .f32 s.ef, .float .f32 s.pt, .float .f32 s.la] 26).al (.cells #[.float .f32 t.so, .float .f32 t.fl, .float .f32 t.es, .float .f32 t.ef, .float .f32 t.pt, .float .f32 t.la] 26))
  have X := Cells.made (w.alloc (.cells #[.float .f32 s.so, .float .f32 s.fl, .float .f32 s.es, .float .f32 s.ef, .float .f32 s.pt, .float .f32 s.la] 26)) [.float .f32 t.so, .float .f32 t.fl, .float .f32 t.es, .float .f32 t.ef, .float .f32 t.pt, .float .f32 t.la] 26
  rw [show (w.alloc (.cells #[.float .f32 s.so, .float .f32 s.fl, .float .f32 s.es, .float .f32 s.ef, .float .f32 s.pt, .float .f32 s.la] 26)).heap.size = w.heap.size + 1 from by simp] at X
  have X := Lib.hid X
  have Bw := Lib.hid (below_al2 w (.cells #[.float .f32 s.so, .float .f32 s.fl, .float .f32 s.es, .float .f32 s.ef, .float .f32 s.pt, .float .f32 s.la] 26) (.cells #[.float .f32 t.so, .float .f32 t.fl, .float .f32 t.es, .float .f32 t.ef, .float .f32 t.pt, .float .f32 t.la] 26))
  go_enter Try.func15, Try.ntmps15
  go_wp2_with fail
  refine (specSameV_any s t _ _ _ A.out X.out ws wt).mono ?_
  rintro e w1 ⟨rfl, n, rfl⟩
  go_wp2
  go_ret
  exact ⟨rfl, below_drewN Bw.out _⟩

end Go.Proofs.Ytgcgfnpkkhhkgab
