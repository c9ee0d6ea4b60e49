/- How much passes at an end of a rod. -/
import Derived.Test.YtplepddciilbdaaPassB
import Derived.Test.YtplepddciilbdaaEnd
namespace Go.Proofs.Ytplepddciilbdaa
open Go.RowKit
set_option linter.unusedVariables false

/-- the cell at an end -/
def eC (n : Nat) (last : Bool) : Nat := if last then n - 1 else 0
/-- how much passes there, with h for half of what the cell hinders -/
def aV (k : Int) (y h : Nat) : Nat :=
  if k = 0 then fop .quo .f32 (cn .f32 1065353216) h else if k = 1 then 0 else fop .quo .f32 (cn .f32 1065353216) (fop .add .f32 h (fop .quo .f32 (cn .f32 1065353216) (cn .f32 y)))
theorem kOk_cases {k : Int} (h : kOk k = true) : k = 0 ∨ k = 1 ∨ k = 2 := by
  unfold kOk at h
  simp only [Bool.and_eq_true, decide_eq_true_eq] at h
  omega

theorem endCell_any {n b0 o0 k0 b1 o1 k1 b2 o2 k2 b3 o3 k3 : Nat} (r : RL) (last : Bool) (w : World) (hq : n ≤ 48) (hp : 1 ≤ n) :
    Calls Try.prog 73 #[.agg #[.slice (some ⟨b0, o0, none⟩) n k0, .slice (some ⟨b1, o1, none⟩) n k1, .slice (some ⟨b2, o2, none⟩) n k2, .slice (some ⟨b3, o3, none⟩) n k3], .bool last] w fun e w' => e = .returned (.int .i64 ((eC n last : Nat) : Int)) ∧ Below w.heap.size w w' := by
  obtain ⟨m, hm⟩ : ∃ m : Nat, m + 1 = n := ⟨n - 1, by omega⟩
  have e1 : ((n : Int) - 1) = (m : Int) := by omega
  have e2 : Hid (eC n true = m) := Lib.hid (by unfold eC; simp; omega)
  have e3 : Hid (eC n false = 0) := Lib.hid (by unfold eC; simp)
  clear hm
  cases last
  · go_enter Try.func73, Try.ntmps73
    go_wp2
    go_ret
    exact ⟨by rw [e3.out]; rfl, below_al1 _ _⟩
  · go_enter Try.func73, Try.ntmps73
    go_wp2
    go_ret
    exact ⟨by rw [e2.out]; rfl, below_al1 _ _⟩

theorem specAtEnd_any {n b0 o0 k0 b1 o1 k1 b2 o2 k2 b3 o3 k3 : Nat} (r : RL) (last : Bool) (p q : Nat) (k : Int) (x y : Nat) (w : World) (A : Cells w p [.slice (some ⟨b0, o0, none⟩) n k0, .slice (some ⟨b1, o1, none⟩) n k1, .slice (some ⟨b2, o2, none⟩) n k2, .slice (some ⟨b3, o3, none⟩) n k3]) (E : Cells w q [.int .i64 k, .float .f32 x, .float .f32 y]) (h : Lay w n b0 o0 k0 b1 o1 k1 b2 o2 k2 b3 o3 k3 r) (hq : n ≤ 48) (hp : 1 ≤ n) (hk : kOk k = true) :
    Calls Try.prog 70 #[.pointer (some ⟨p, 0, none⟩), .bool last, .pointer (some ⟨q, 0, none⟩)] w (FlD (aV k y (hN r (eC n last))) w) := by
  obtain ⟨m, hm⟩ : ∃ m : Nat, m + 1 = n := ⟨n - 1, by omega⟩
  have e1 : ((n : Int) - 1) = (m : Int) := by omega
  have e2 : Hid (eC n true = m) := Lib.hid (by unfold eC; simp; omega)
  have e3 : Hid (eC n false = 0) := Lib.hid (by unfold eC; simp)
  have H0 := Lib.hid (specHalf_any r 0 p w A h (by omega))
  have H1 := Lib.hid (specHalf_any r m p w A h (by omega))
  have c0 := A.at 0 rfl
  have d0 := E.at 0 rfl
  have d2 := E.at 2 rfl
  clear A E h hm
  rcases kOk_cases hk with rfl | rfl | rfl
  all_goals clear hk
  all_goals cases last
  · go_enter Try.func70, Try.ntmps70
    have EE := e3
    go_wp2_with (first | (refine wpList_farith rfl _ _ _ _ _ rfl rfl _ _ _ rfl rfl ?_; intro _ _ _) | (go_at_call 86; refine H0.out.mono ?_; rintro e w' ⟨x, hx, rfl, n, rfl⟩; have X := Lib.hid hx; clear hx))
    go_ret
    rename_i r1 j1 h1
    exact ⟨_, by rw [h1.1, X.out, EE.out]; rfl, rfl, _, rfl⟩
  · go_enter Try.func70, Try.ntmps70
    have EE := e2
    go_wp2_with (first | (refine wpList_farith rfl _ _ _ _ _ rfl rfl _ _ _ rfl rfl ?_; intro _ _ _) | (go_at_call 86; refine H1.out.mono ?_; rintro e w' ⟨x, hx, rfl, n, rfl⟩; have X := Lib.hid hx; clear hx))
    go_ret
    rename_i r1 j1 h1
    exact ⟨_, by rw [h1.1, X.out, EE.out]; rfl, rfl, _, rfl⟩
  · go_enter Try.func70, Try.ntmps70
    have EE := e3
    go_wp2_with (first | (refine wpList_farith rfl _ _ _ _ _ rfl rfl _ _ _ rfl rfl ?_; intro _ _ _) | (go_at_call 86; refine H0.out.mono ?_; rintro e w' ⟨x, hx, rfl, n, rfl⟩; have X := Lib.hid hx; clear hx))
    go_ret
    exact ⟨0, by rw [EE.out]; rfl, rfl, _, rfl⟩
  · go_enter Try.func70, Try.ntmps70
    have EE := e2
    go_wp2_with (first | (refine wpList_farith rfl _ _ _ _ _ rfl rfl _ _ _ rfl rfl ?_; intro _ _ _) | (go_at_call 86; refine H1.out.mono ?_; rintro e w' ⟨x, hx, rfl, n, rfl⟩; have X := Lib.hid hx; clear hx))
    go_ret
    exact ⟨0, by rw [EE.out]; rfl, rfl, _, rfl⟩
  · go_enter Try.func70, Try.ntmps70
    have EE := e3
    go_wp2_with (first | (refine wpList_farith rfl _ _ _ _ _ rfl rfl _ _ _ rfl rfl ?_; intro _ _ _) | (go_at_call 86; refine H0.out.mono ?_; rintro e w' ⟨x, hx, rfl, n, rfl⟩; have X := Lib.hid hx; clear hx))
    go_ret
    rename_i r1 j1 h1 r2 j2 h2 r3 j3 h3
    exact ⟨_, by rw [h3.1, h2.1, h1.1, X.out, EE.out]; rfl, rfl, _, rfl⟩
  · go_enter Try.func70, Try.ntmps70
    have EE := e2
    go_wp2_with (first | (refine wpList_farith rfl _ _ _ _ _ rfl rfl _ _ _ rfl rfl ?_; intro _ _ _) | (go_at_call 86; refine H1.out.mono ?_; rintro e w' ⟨x, hx, rfl, n, rfl⟩; have X := Lib.hid hx; clear hx))
    go_ret
    rename_i r1 j1 h1 r2 j2 h2 r3 j3 h3
    exact ⟨_, by rw [h3.1, h2.1, h1.1, X.out, EE.out]; rfl, rfl, _, rfl⟩

/-- what passTo hands back: a function that tells how much passes, from half of what the cell hinders -/
def PTo (k : Int) (y : Nat) (w : World) (e : Ending) (w' : World) : Prop :=
  ∃ v, e = .returned v ∧ Below w.heap.size w w' ∧
    ((k = 0 ∧ v = .func (.func 87) #[] #[]) ∨ (k = 1 ∧ v = .func (.func 89) #[] #[]) ∨
      (k = 2 ∧ ∃ q s, v = .func (.func 88) #[] #[.pointer (some ⟨q, 0, none⟩)] ∧ Cells w' q [.float .f32 s] ∧ cn .f32 s = fop .quo .f32 (cn .f32 1065353216) (cn .f32 y)))
theorem passTo_any (k : Int) (x y : Nat) (w : World) (hk : kOk k = true) : Calls Try.prog 71 #[endV k x y] w (PTo k y w) := by
  unfold endV
  rcases kOk_cases hk with rfl | rfl | rfl
  · go_enter Try.func71, Try.ntmps71
    go_wp2
    go_ret
    exact ⟨_, rfl, below_al1 _ _, .inl ⟨rfl, rfl⟩⟩
  · go_enter Try.func71, Try.ntmps71
    go_wp2
    go_ret
    exact ⟨_, rfl, below_al1 _ _, .inr (.inl ⟨rfl, rfl⟩)⟩
  · go_enter Try.func71, Try.ntmps71
    go_wp2_with (refine wpList_farith rfl _ _ _ _ _ rfl rfl _ _ _ rfl rfl ?_; intro _ _ _)
    rename_i s j hs
    go_ret
    have M := Cells.made ((w.alloc (.cells [Value.int .i64 2, .float .f32 x, .float .f32 y].toArray 36)).drewN j) [.float .f32 s] 32
    rw [show ((w.alloc (.cells [Value.int .i64 2, .float .f32 x, .float .f32 y].toArray 36)).drewN j).heap.size = w.heap.size + 1 from by simp] at M
    exact ⟨_, rfl, (below_drewN (below_al1 _ _) _).alloc (by simp) _, .inr (.inr ⟨rfl, _, s, rfl, M, hs.1⟩)⟩
theorem pass1_any (h : Nat) (w : World) : Calls Try.prog 87 #[.float .f32 h] w (FlD (fop .quo .f32 (cn .f32 1065353216) (cn .f32 h)) w) := by
  go_enter Try.func87, Try.ntmps87
  go_wp2_with (refine wpList_farith rfl _ _ _ _ _ rfl rfl _ _ _ rfl rfl ?_; intro _ _ _)
  go_ret
  rename_i h1
  exact ⟨_, h1.1, rfl, _, rfl⟩
theorem pass3_any (h : Nat) (w : World) : Calls Try.prog 89 #[.float .f32 h] w (FlD 0 w) := by
  go_enter Try.func89, Try.ntmps89
  go_wp2
  go_ret
  exact ⟨0, rfl, rfl, 0, rfl⟩
theorem pass2_any (h q s : Nat) (w : World) (hc : Cells w q [.float .f32 s]) : Calls Try.prog 88 #[.float .f32 h, .pointer (some ⟨q, 0, none⟩)] w (FlD (fop .quo .f32 (cn .f32 1065353216) (fop .add .f32 (cn .f32 h) (cn .f32 s))) w) := by
  have c0 := hc.at 0 rfl
  clear hc
  go_enter Try.func88, Try.ntmps88
  go_wp2_with (refine wpList_farith rfl _ _ _ _ _ rfl rfl _ _ _ rfl rfl ?_; intro _ _ _)
  go_ret
  rename_i r1 j1 h1 r2 j2 h2
  exact ⟨_, by rw [h2.1, h1.1], rfl, _, rfl⟩

def paOk (r : RL) (k : Int) (x y : Nat) : Bool := vRod r && vEnd k x y
def paV (r : RL) (last : Bool) (k : Int) (y : Nat) : Nat := aV k y (hN r (eC r.W.length last))
def paS (r : RL) (last : Bool) (k : Int) (x y : Nat) : Nat := if paOk r k x y then ifF (paV r last k y) else 0
def paB (r : RL) (last : Bool) (k : Int) (x y : Nat) : Bool := paOk r k x y && fin .f32 (paV r last k y)
theorem pa_no {r : RL} {last : Bool} {k : Int} {x y : Nat} {w w' : World} (hv : paOk r k x y = false) (hb : Below w.heap.size w w') : GivB (paS r last k x y) (paB r last k x y) w (.returned (.tuple #[.float .f32 0, .bool false])) w' :=
  ⟨0, by simp [paS, hv]; rfl, by simp [paB, hv], hb⟩
theorem pa_yes {r : RL} {last : Bool} {k : Int} {x y z : Nat} {w w' : World} (hv : paOk r k x y = true) (hx : cn .f32 z = paV r last k y) (hb : Below w.heap.size w w') : GivB (paS r last k x y) (paB r last k x y) w (.returned (.tuple #[.float .f32 (ifF z), .bool (fin .f32 z)])) w' := by
  have := GivB.num (w := w) hx hb
  simpa [paS, paB, hv] using this
theorem vEnd_kOk {k : Int} {x y : Nat} (h : vEnd k x y = true) : kOk k = true := by
  unfold vEnd at h
  simp only [Bool.and_eq_true] at h
  exact h.1.1

set_option maxHeartbeats 800000 in
theorem specPassAtEnd_any (a b c d : Value) (r : RL) (last : Bool) (k : Int) (x y : Nat) (w : World) (h : RRow w a b c d r) : Calls Try.prog 38 #[.agg #[a, b, c, d], .bool last, endV k x y] w (GivB (paS r last k x y) (paB r last k x y) w) := by
  have A0 := (Cells.made w [a, b, c, d] 27).al (.cells [Value.int .i64 k, .float .f32 x, .float .f32 y].toArray 36)
  have E0 := Cells.made (w.alloc (.cells [a, b, c, d].toArray 27)) [.int .i64 k, .float .f32 x, .float .f32 y] 36
  rw [show (w.alloc (.cells [a, b, c, d].toArray 27)).heap.size = w.heap.size + 1 from by simp] at E0
  have IS := Lib.hid (specIs_any a b c d r _ _ A0 (h.below (below_al2 _ _ _)))
  have Bw := Lib.hid (below_al2 w (.cells [a, b, c, d].toArray 27) (.cells [Value.int .i64 k, .float .f32 x, .float .f32 y].toArray 36))
  have EN := Lib.hid (fun m => specEnd_any k x y _ (((w.alloc (.cells [a, b, c, d].toArray 27)).alloc (.cells [Value.int .i64 k, .float .f32 x, .float .f32 y].toArray 36)).drewN m) (E0.at 0 rfl) (E0.at 1 rfl) (E0.at 2 rfl))
  cases hv : vRod r
  · rw [hv] at IS
    have hn : paOk r k x y = false := by simp [paOk, hv]
    have N := Lib.hid hn
    clear h hv hn A0 E0 EN
    unfold endV
    go_enter Try.func38, Try.ntmps38
    go_wp2_with (go_at_call 45; refine IS.out.mono ?_; rintro e w' ⟨rfl, n, rfl⟩)
    go_ret2
    exact pa_no N.out (below_drewN Bw.out _)
  · rw [hv] at IS
    cases he : vEnd k x y
    · rw [he] at EN
      have hn : paOk r k x y = false := by simp [paOk, he]
      have N := Lib.hid hn
      clear h hv hn A0 E0 he
      unfold endV
      go_enter Try.func38, Try.ntmps38
      go_wp2_with (first | (go_at_call 45; refine IS.out.mono ?_; rintro e w' ⟨rfl, n, rfl⟩) | (go_at_call 54; refine (EN.out _).mono ?_; rintro e w' ⟨rfl, n1, rfl⟩))
      go_ret2
      exact pa_no N.out (below_drewN Bw.out _)
    · rw [he] at EN
      have PY := Lib.hid (fun z w' (hx : cn .f32 z = aV k y (hN r (eC r.W.length last))) (hb : Below w.heap.size w w') => pa_yes (r := r) (last := last) (k := k) (x := x) (y := y) (by simp [paOk, hv, he]) hx hb)
      obtain ⟨b0, o0, k0, b1, o1, k1, b2, o2, k2, b3, o3, k3, rfl, rfl, rfl, rfl, hL⟩ := h.lay (Len.ofV hv)
      have hq := (Len.ofV hv).q
      have hp := (Len.ofV hv).p
      have hk := vEnd_kOk he
      generalize paS r last k x y = GS at *
      generalize paB r last k x y = GB at *
      generalize r.W.length = n at *
      have SO := Lib.hid (fun m => specAtEnd_any r last _ _ k x y (((w.alloc (.cells [Value.slice (some ⟨b0, o0, none⟩) n k0, .slice (some ⟨b1, o1, none⟩) n k1, .slice (some ⟨b2, o2, none⟩) n k2, .slice (some ⟨b3, o3, none⟩) n k3].toArray 27)).alloc (.cells [Value.int .i64 k, .float .f32 x, .float .f32 y].toArray 36)).drewN m) (Cells.drewN A0) (Cells.drewN E0) (hL.below (below_drewN Bw.out m)) hq hp hk)
      clear h hv A0 E0 he hL hq hp hk
      unfold endV
      go_enter Try.func38, Try.ntmps38
      go_wp2_with (first | (go_at_call 45; refine IS.out.mono ?_; rintro e w' ⟨rfl, n1, rfl⟩) | (go_at_call 54; refine (EN.out _).mono ?_; rintro e w' ⟨rfl, n2, rfl⟩) | (go_at_call 70; refine (SO.out _).mono ?_; rintro e w' ⟨z, hx, rfl, n3, rfl⟩; have X := Lib.hid hx; clear hx) | (go_at_call 56; refine (specNum_any _ _).mono ?_; rintro e w' ⟨rfl, n4, rfl⟩))
      go_ret2
      exact PY.out _ _ X.out (below_drewN Bw.out _)

set_option maxHeartbeats 1600000 in
theorem implPA0_any {n b0 o0 k0 b1 o1 k1 b2 o2 k2 b3 o3 k3 : Nat} (r : RL) (last : Bool) (x y : Nat) (w : World) (h : Lay w n b0 o0 k0 b1 o1 k1 b2 o2 k2 b3 o3 k3 r) (hl : Len r n) (hv : vRod r = true) (he : vEnd 0 x y = true) :
    Calls Try.prog 39 #[.agg #[.slice (some ⟨b0, o0, none⟩) n k0, .slice (some ⟨b1, o1, none⟩) n k1, .slice (some ⟨b2, o2, none⟩) n k2, .slice (some ⟨b3, o3, none⟩) n k3], .bool last, .agg #[.int .i64 0, .float .f32 x, .float .f32 y]] w (GivB (paS r last 0 x y) (paB r last 0 x y) w) := by
  have IV := Lib.hid (fun w1 (hr : RRow w1 (.slice (some ⟨b0, o0, none⟩) n k0) (.slice (some ⟨b1, o1, none⟩) n k1) (.slice (some ⟨b2, o2, none⟩) n k2) (.slice (some ⟨b3, o3, none⟩) n k3) r) => implValid_any _ _ _ _ r w1 hr)
  rw [hv] at IV
  have IE := Lib.hid (fun w1 => implVEnd_any 0 x y w1)
  unfold endV at IE
  rw [he] at IE
  have PT := Lib.hid (fun w1 => passTo_any 0 x y w1 (by decide))
  unfold endV at PT
  have PY := Lib.hid (fun z w' (hx : cn .f32 z = aV 0 y (hN r (eC n last))) (hb : Below w.heap.size w w') => pa_yes (r := r) (last := last) (k := 0) (x := x) (y := y) (w := w) (by simp [paOk, hv, he]) (by unfold paV; rw [hl.W]; exact hx) hb)
  have hm : maxLen = 9223372036854775807 := rfl
  have RW : Hid (∀ w1, Below w.heap.size w w1 → RRow w1 (.slice (some ⟨b0, o0, none⟩) n k0) (.slice (some ⟨b1, o1, none⟩) n k1) (.slice (some ⟨b2, o2, none⟩) n k2) (.slice (some ⟨b3, o3, none⟩) n k3) r) := Lib.hid (fun w1 hb => by
    have h' := h.below hb
    have q := hl.q
    refine ⟨.inr ⟨_, _, _, by rw [hl.W], by rw [hl.W, hm]; omega, by rw [hl.W]; exact h'.W⟩, .inr ⟨_, _, _, by rw [hl.E], by rw [hl.E, hm]; omega, by rw [hl.E]; exact h'.E⟩, .inr ⟨_, _, _, by rw [hl.H], by rw [hl.H, hm]; omega, by rw [hl.H]; exact h'.H⟩, .inr ⟨_, _, _, by rw [hl.T], by rw [hl.T, hm]; omega, by rw [hl.T]; exact h'.T⟩⟩)
  have HQ := Lib.hid hl.q
  have HP := Lib.hid hl.p
  have CB : Hid (eC n last < n) := Lib.hid (by have := hl.p; unfold eC; split <;> omega)
  have A := Lib.hid ((Cells.made w [.slice (some ⟨b0, o0, none⟩) n k0, .slice (some ⟨b1, o1, none⟩) n k1, .slice (some ⟨b2, o2, none⟩) n k2, .slice (some ⟨b3, o3, none⟩) n k3] 27).al (.cells [Value.int .i64 0, .float .f32 x, .float .f32 y].toArray 36))
  have E := Cells.made (w.alloc (.cells [Value.slice (some ⟨b0, o0, none⟩) n k0, .slice (some ⟨b1, o1, none⟩) n k1, .slice (some ⟨b2, o2, none⟩) n k2, .slice (some ⟨b3, o3, none⟩) n k3].toArray 27)) [.int .i64 0, .float .f32 x, .float .f32 y] 36
  rw [show (w.alloc (.cells [Value.slice (some ⟨b0, o0, none⟩) n k0, .slice (some ⟨b1, o1, none⟩) n k1, .slice (some ⟨b2, o2, none⟩) n k2, .slice (some ⟨b3, o3, none⟩) n k3].toArray 27)).heap.size = w.heap.size + 1 from by simp] at E
  have E := Lib.hid E
  have Bw := Lib.hid (below_al2 w (.cells [Value.slice (some ⟨b0, o0, none⟩) n k0, .slice (some ⟨b1, o1, none⟩) n k1, .slice (some ⟨b2, o2, none⟩) n k2, .slice (some ⟨b3, o3, none⟩) n k3].toArray 27) (.cells [Value.int .i64 0, .float .f32 x, .float .f32 y].toArray 36))
  have LY := Lib.hid (h.below (below_al2 w (.cells [Value.slice (some ⟨b0, o0, none⟩) n k0, .slice (some ⟨b1, o1, none⟩) n k1, .slice (some ⟨b2, o2, none⟩) n k2, .slice (some ⟨b3, o3, none⟩) n k3].toArray 27) (.cells [Value.int .i64 0, .float .f32 x, .float .f32 y].toArray 36)))
  clear h hl hv he hm
  generalize paS r last 0 x y = GS at *
  generalize paB r last 0 x y = GB at *
  go_enter Try.func39, Try.ntmps39
  go_wp2_with fail
  refine (IV.out _ (RW.out _ Bw.out)).mono ?_
  rintro _ w1 ⟨rfl, hb⟩
  (first | (have Bw := Lib.hid (below_step Bw.out hb)) | (have Bw := Lib.hid (below_step Bw.out (below_undrew hb)))); (first | (have A := Lib.hid (A.out.kept hb)) | (have A := Lib.hid (A.out.kept (below_undrew hb)))); (first | (have E := Lib.hid (E.out.kept hb)) | (have E := Lib.hid (E.out.kept (below_undrew hb)))); (first | (have LY := Lib.hid (LY.out.below hb)) | (have LY := Lib.hid (LY.out.below (below_undrew hb)))); (try (first | (have SK := Lib.hid (SK.out.kept hb)) | (have SK := Lib.hid (SK.out.kept (below_undrew hb))))); have c0 := A.out.at 0 rfl; have c1 := A.out.at 1 rfl; have c2 := A.out.at 2 rfl; have c3 := A.out.at 3 rfl; have d0 := E.out.at 0 rfl; have d1 := E.out.at 1 rfl; have d2 := E.out.at 2 rfl
  clear hb
  go_wp2_with fail
  refine (IE.out _).mono ?_
  rintro _ w2 ⟨rfl, hb⟩
  (first | (have Bw := Lib.hid (below_step Bw.out hb)) | (have Bw := Lib.hid (below_step Bw.out (below_undrew hb)))); (first | (have A := Lib.hid (A.out.kept hb)) | (have A := Lib.hid (A.out.kept (below_undrew hb)))); (first | (have E := Lib.hid (E.out.kept hb)) | (have E := Lib.hid (E.out.kept (below_undrew hb)))); (first | (have LY := Lib.hid (LY.out.below hb)) | (have LY := Lib.hid (LY.out.below (below_undrew hb)))); (try (first | (have SK := Lib.hid (SK.out.kept hb)) | (have SK := Lib.hid (SK.out.kept (below_undrew hb))))); have c0 := A.out.at 0 rfl; have c1 := A.out.at 1 rfl; have c2 := A.out.at 2 rfl; have c3 := A.out.at 3 rfl; have d0 := E.out.at 0 rfl; have d1 := E.out.at 1 rfl; have d2 := E.out.at 2 rfl
  clear hb
  go_wp2_with fail
  go_region_held3 (fun w' => w'.cell? ⟨w.heap.size, 0, none⟩ = some (.slice (some ⟨b0, o0, none⟩) n k0) ∧ w'.cell? ⟨w.heap.size, 1, none⟩ = some (.slice (some ⟨b1, o1, none⟩) n k1) ∧ w'.cell? ⟨w.heap.size, 2, none⟩ = some (.slice (some ⟨b2, o2, none⟩) n k2) ∧ w'.cell? ⟨w.heap.size, 3, none⟩ = some (.slice (some ⟨b3, o3, none⟩) n k3) ∧ w'.cell? ⟨w.heap.size + 1, 0, none⟩ = some (.int .i64 0) ∧ w'.cell? ⟨w.heap.size + 1, 1, none⟩ = some (.float .f32 x) ∧ w'.cell? ⟨w.heap.size + 1, 2, none⟩ = some (.float .f32 y)) (exact ⟨c0, c1, c2, c3, d0, d1, d2⟩)
    (first
    | (go_at_call 71; refine (PT.out _).mono ?_; rintro e w' ⟨v, rfl, hb, (⟨-, rfl⟩ | ⟨h0, -⟩ | ⟨h0, -⟩)⟩; rotate_left; (exact absurd h0 (by decide)); (exact absurd h0 (by decide));  (first | (have Bw := Lib.hid (below_step Bw.out hb)) | (have Bw := Lib.hid (below_step Bw.out (below_undrew hb)))); (first | (have A := Lib.hid (A.out.kept hb)) | (have A := Lib.hid (A.out.kept (below_undrew hb)))); (first | (have E := Lib.hid (E.out.kept hb)) | (have E := Lib.hid (E.out.kept (below_undrew hb)))); (first | (have LY := Lib.hid (LY.out.below hb)) | (have LY := Lib.hid (LY.out.below (below_undrew hb)))); (try (first | (have SK := Lib.hid (SK.out.kept hb)) | (have SK := Lib.hid (SK.out.kept (below_undrew hb))))); have c0 := A.out.at 0 rfl; have c1 := A.out.at 1 rfl; have c2 := A.out.at 2 rfl; have c3 := A.out.at 3 rfl; have d0 := E.out.at 0 rfl; have d1 := E.out.at 1 rfl; have d2 := E.out.at 2 rfl;  clear hb)
    | (go_at_call 73; refine (endCell_any r last _ HQ.out HP.out).mono ?_; rintro e w' ⟨rfl, hb⟩; (first | (have Bw := Lib.hid (below_step Bw.out hb)) | (have Bw := Lib.hid (below_step Bw.out (below_undrew hb)))); (first | (have A := Lib.hid (A.out.kept hb)) | (have A := Lib.hid (A.out.kept (below_undrew hb)))); (first | (have E := Lib.hid (E.out.kept hb)) | (have E := Lib.hid (E.out.kept (below_undrew hb)))); (first | (have LY := Lib.hid (LY.out.below hb)) | (have LY := Lib.hid (LY.out.below (below_undrew hb)))); (try (first | (have SK := Lib.hid (SK.out.kept hb)) | (have SK := Lib.hid (SK.out.kept (below_undrew hb))))); have c0 := A.out.at 0 rfl; have c1 := A.out.at 1 rfl; have c2 := A.out.at 2 rfl; have c3 := A.out.at 3 rfl; have d0 := E.out.at 0 rfl; have d1 := E.out.at 1 rfl; have d2 := E.out.at 2 rfl; clear hb)
    | (go_at_call 72; refine (implHalf_any r (eC n last) _ LY.out CB.out).mono ?_; rintro e w' ⟨hh, hx, rfl, hb⟩; have HH := Lib.hid hx; (first | (have Bw := Lib.hid (below_step Bw.out hb)) | (have Bw := Lib.hid (below_step Bw.out (below_undrew hb)))); (first | (have A := Lib.hid (A.out.kept hb)) | (have A := Lib.hid (A.out.kept (below_undrew hb)))); (first | (have E := Lib.hid (E.out.kept hb)) | (have E := Lib.hid (E.out.kept (below_undrew hb)))); (first | (have LY := Lib.hid (LY.out.below hb)) | (have LY := Lib.hid (LY.out.below (below_undrew hb)))); (try (first | (have SK := Lib.hid (SK.out.kept hb)) | (have SK := Lib.hid (SK.out.kept (below_undrew hb))))); have c0 := A.out.at 0 rfl; have c1 := A.out.at 1 rfl; have c2 := A.out.at 2 rfl; have c3 := A.out.at 3 rfl; have d0 := E.out.at 0 rfl; have d1 := E.out.at 1 rfl; have d2 := E.out.at 2 rfl; clear hb hx)
    | (go_at_call 87; refine (pass1_any _ _).mono ?_; rintro e w' ⟨z, hz, rfl, m, rfl⟩; have Z := Lib.hid hz; clear hz)
    | (go_at_call 58; refine (implNum_any _ _).mono ?_; rintro e w' ⟨rfl, m2, rfl⟩))
  all_goals
    go_wp2
    go_ret2
    exact PY.out _ _ (by rw [Z.out, HH.out]; rfl) (by first | exact below_drewN Bw.out _ | exact below_drewN (below_drewN Bw.out _) _)

set_option maxHeartbeats 1600000 in
theorem implPA1_any {n b0 o0 k0 b1 o1 k1 b2 o2 k2 b3 o3 k3 : Nat} (r : RL) (last : Bool) (x y : Nat) (w : World) (h : Lay w n b0 o0 k0 b1 o1 k1 b2 o2 k2 b3 o3 k3 r) (hl : Len r n) (hv : vRod r = true) (he : vEnd 1 x y = true) :
    Calls Try.prog 39 #[.agg #[.slice (some ⟨b0, o0, none⟩) n k0, .slice (some ⟨b1, o1, none⟩) n k1, .slice (some ⟨b2, o2, none⟩) n k2, .slice (some ⟨b3, o3, none⟩) n k3], .bool last, .agg #[.int .i64 1, .float .f32 x, .float .f32 y]] w (GivB (paS r last 1 x y) (paB r last 1 x y) w) := by
  have IV := Lib.hid (fun w1 (hr : RRow w1 (.slice (some ⟨b0, o0, none⟩) n k0) (.slice (some ⟨b1, o1, none⟩) n k1) (.slice (some ⟨b2, o2, none⟩) n k2) (.slice (some ⟨b3, o3, none⟩) n k3) r) => implValid_any _ _ _ _ r w1 hr)
  rw [hv] at IV
  have IE := Lib.hid (fun w1 => implVEnd_any 1 x y w1)
  unfold endV at IE
  rw [he] at IE
  have PT := Lib.hid (fun w1 => passTo_any 1 x y w1 (by decide))
  unfold endV at PT
  have PY := Lib.hid (fun z w' (hx : cn .f32 z = aV 1 y (hN r (eC n last))) (hb : Below w.heap.size w w') => pa_yes (r := r) (last := last) (k := 1) (x := x) (y := y) (w := w) (by simp [paOk, hv, he]) (by unfold paV; rw [hl.W]; exact hx) hb)
  have hm : maxLen = 9223372036854775807 := rfl
  have RW : Hid (∀ w1, Below w.heap.size w w1 → RRow w1 (.slice (some ⟨b0, o0, none⟩) n k0) (.slice (some ⟨b1, o1, none⟩) n k1) (.slice (some ⟨b2, o2, none⟩) n k2) (.slice (some ⟨b3, o3, none⟩) n k3) r) := Lib.hid (fun w1 hb => by
    have h' := h.below hb
    have q := hl.q
    refine ⟨.inr ⟨_, _, _, by rw [hl.W], by rw [hl.W, hm]; omega, by rw [hl.W]; exact h'.W⟩, .inr ⟨_, _, _, by rw [hl.E], by rw [hl.E, hm]; omega, by rw [hl.E]; exact h'.E⟩, .inr ⟨_, _, _, by rw [hl.H], by rw [hl.H, hm]; omega, by rw [hl.H]; exact h'.H⟩, .inr ⟨_, _, _, by rw [hl.T], by rw [hl.T, hm]; omega, by rw [hl.T]; exact h'.T⟩⟩)
  have HQ := Lib.hid hl.q
  have HP := Lib.hid hl.p
  have CB : Hid (eC n last < n) := Lib.hid (by have := hl.p; unfold eC; split <;> omega)
  have A := Lib.hid ((Cells.made w [.slice (some ⟨b0, o0, none⟩) n k0, .slice (some ⟨b1, o1, none⟩) n k1, .slice (some ⟨b2, o2, none⟩) n k2, .slice (some ⟨b3, o3, none⟩) n k3] 27).al (.cells [Value.int .i64 1, .float .f32 x, .float .f32 y].toArray 36))
  have E := Cells.made (w.alloc (.cells [Value.slice (some ⟨b0, o0, none⟩) n k0, .slice (some ⟨b1, o1, none⟩) n k1, .slice (some ⟨b2, o2, none⟩) n k2, .slice (some ⟨b3, o3, none⟩) n k3].toArray 27)) [.int .i64 1, .float .f32 x, .float .f32 y] 36
  rw [show (w.alloc (.cells [Value.slice (some ⟨b0, o0, none⟩) n k0, .slice (some ⟨b1, o1, none⟩) n k1, .slice (some ⟨b2, o2, none⟩) n k2, .slice (some ⟨b3, o3, none⟩) n k3].toArray 27)).heap.size = w.heap.size + 1 from by simp] at E
  have E := Lib.hid E
  have Bw := Lib.hid (below_al2 w (.cells [Value.slice (some ⟨b0, o0, none⟩) n k0, .slice (some ⟨b1, o1, none⟩) n k1, .slice (some ⟨b2, o2, none⟩) n k2, .slice (some ⟨b3, o3, none⟩) n k3].toArray 27) (.cells [Value.int .i64 1, .float .f32 x, .float .f32 y].toArray 36))
  have LY := Lib.hid (h.below (below_al2 w (.cells [Value.slice (some ⟨b0, o0, none⟩) n k0, .slice (some ⟨b1, o1, none⟩) n k1, .slice (some ⟨b2, o2, none⟩) n k2, .slice (some ⟨b3, o3, none⟩) n k3].toArray 27) (.cells [Value.int .i64 1, .float .f32 x, .float .f32 y].toArray 36)))
  clear h hl hv he hm
  generalize paS r last 1 x y = GS at *
  generalize paB r last 1 x y = GB at *
  go_enter Try.func39, Try.ntmps39
  go_wp2_with fail
  refine (IV.out _ (RW.out _ Bw.out)).mono ?_
  rintro _ w1 ⟨rfl, hb⟩
  (first | (have Bw := Lib.hid (below_step Bw.out hb)) | (have Bw := Lib.hid (below_step Bw.out (below_undrew hb)))); (first | (have A := Lib.hid (A.out.kept hb)) | (have A := Lib.hid (A.out.kept (below_undrew hb)))); (first | (have E := Lib.hid (E.out.kept hb)) | (have E := Lib.hid (E.out.kept (below_undrew hb)))); (first | (have LY := Lib.hid (LY.out.below hb)) | (have LY := Lib.hid (LY.out.below (below_undrew hb)))); (try (first | (have SK := Lib.hid (SK.out.kept hb)) | (have SK := Lib.hid (SK.out.kept (below_undrew hb))))); have c0 := A.out.at 0 rfl; have c1 := A.out.at 1 rfl; have c2 := A.out.at 2 rfl; have c3 := A.out.at 3 rfl; have d0 := E.out.at 0 rfl; have d1 := E.out.at 1 rfl; have d2 := E.out.at 2 rfl
  clear hb
  go_wp2_with fail
  refine (IE.out _).mono ?_
  rintro _ w2 ⟨rfl, hb⟩
  (first | (have Bw := Lib.hid (below_step Bw.out hb)) | (have Bw := Lib.hid (below_step Bw.out (below_undrew hb)))); (first | (have A := Lib.hid (A.out.kept hb)) | (have A := Lib.hid (A.out.kept (below_undrew hb)))); (first | (have E := Lib.hid (E.out.kept hb)) | (have E := Lib.hid (E.out.kept (below_undrew hb)))); (first | (have LY := Lib.hid (LY.out.below hb)) | (have LY := Lib.hid (LY.out.below (below_undrew hb)))); (try (first | (have SK := Lib.hid (SK.out.kept hb)) | (have SK := Lib.hid (SK.out.kept (below_undrew hb))))); have c0 := A.out.at 0 rfl; have c1 := A.out.at 1 rfl; have c2 := A.out.at 2 rfl; have c3 := A.out.at 3 rfl; have d0 := E.out.at 0 rfl; have d1 := E.out.at 1 rfl; have d2 := E.out.at 2 rfl
  clear hb
  go_wp2_with fail
  go_region_held3 (fun w' => w'.cell? ⟨w.heap.size, 0, none⟩ = some (.slice (some ⟨b0, o0, none⟩) n k0) ∧ w'.cell? ⟨w.heap.size, 1, none⟩ = some (.slice (some ⟨b1, o1, none⟩) n k1) ∧ w'.cell? ⟨w.heap.size, 2, none⟩ = some (.slice (some ⟨b2, o2, none⟩) n k2) ∧ w'.cell? ⟨w.heap.size, 3, none⟩ = some (.slice (some ⟨b3, o3, none⟩) n k3) ∧ w'.cell? ⟨w.heap.size + 1, 0, none⟩ = some (.int .i64 1) ∧ w'.cell? ⟨w.heap.size + 1, 1, none⟩ = some (.float .f32 x) ∧ w'.cell? ⟨w.heap.size + 1, 2, none⟩ = some (.float .f32 y)) (exact ⟨c0, c1, c2, c3, d0, d1, d2⟩)
    (first
    | (go_at_call 71; refine (PT.out _).mono ?_; rintro e w' ⟨v, rfl, hb, (⟨h0, -⟩ | ⟨-, rfl⟩ | ⟨h0, -⟩)⟩; (exact absurd h0 (by decide)); rotate_left; (exact absurd h0 (by decide));  (first | (have Bw := Lib.hid (below_step Bw.out hb)) | (have Bw := Lib.hid (below_step Bw.out (below_undrew hb)))); (first | (have A := Lib.hid (A.out.kept hb)) | (have A := Lib.hid (A.out.kept (below_undrew hb)))); (first | (have E := Lib.hid (E.out.kept hb)) | (have E := Lib.hid (E.out.kept (below_undrew hb)))); (first | (have LY := Lib.hid (LY.out.below hb)) | (have LY := Lib.hid (LY.out.below (below_undrew hb)))); (try (first | (have SK := Lib.hid (SK.out.kept hb)) | (have SK := Lib.hid (SK.out.kept (below_undrew hb))))); have c0 := A.out.at 0 rfl; have c1 := A.out.at 1 rfl; have c2 := A.out.at 2 rfl; have c3 := A.out.at 3 rfl; have d0 := E.out.at 0 rfl; have d1 := E.out.at 1 rfl; have d2 := E.out.at 2 rfl;  clear hb)
    | (go_at_call 73; refine (endCell_any r last _ HQ.out HP.out).mono ?_; rintro e w' ⟨rfl, hb⟩; (first | (have Bw := Lib.hid (below_step Bw.out hb)) | (have Bw := Lib.hid (below_step Bw.out (below_undrew hb)))); (first | (have A := Lib.hid (A.out.kept hb)) | (have A := Lib.hid (A.out.kept (below_undrew hb)))); (first | (have E := Lib.hid (E.out.kept hb)) | (have E := Lib.hid (E.out.kept (below_undrew hb)))); (first | (have LY := Lib.hid (LY.out.below hb)) | (have LY := Lib.hid (LY.out.below (below_undrew hb)))); (try (first | (have SK := Lib.hid (SK.out.kept hb)) | (have SK := Lib.hid (SK.out.kept (below_undrew hb))))); have c0 := A.out.at 0 rfl; have c1 := A.out.at 1 rfl; have c2 := A.out.at 2 rfl; have c3 := A.out.at 3 rfl; have d0 := E.out.at 0 rfl; have d1 := E.out.at 1 rfl; have d2 := E.out.at 2 rfl; clear hb)
    | (go_at_call 72; refine (implHalf_any r (eC n last) _ LY.out CB.out).mono ?_; rintro e w' ⟨hh, hx, rfl, hb⟩; have HH := Lib.hid hx; (first | (have Bw := Lib.hid (below_step Bw.out hb)) | (have Bw := Lib.hid (below_step Bw.out (below_undrew hb)))); (first | (have A := Lib.hid (A.out.kept hb)) | (have A := Lib.hid (A.out.kept (below_undrew hb)))); (first | (have E := Lib.hid (E.out.kept hb)) | (have E := Lib.hid (E.out.kept (below_undrew hb)))); (first | (have LY := Lib.hid (LY.out.below hb)) | (have LY := Lib.hid (LY.out.below (below_undrew hb)))); (try (first | (have SK := Lib.hid (SK.out.kept hb)) | (have SK := Lib.hid (SK.out.kept (below_undrew hb))))); have c0 := A.out.at 0 rfl; have c1 := A.out.at 1 rfl; have c2 := A.out.at 2 rfl; have c3 := A.out.at 3 rfl; have d0 := E.out.at 0 rfl; have d1 := E.out.at 1 rfl; have d2 := E.out.at 2 rfl; clear hb hx)
    | (go_at_call 89; refine (pass3_any _ _).mono ?_; rintro e w' ⟨z, hz, rfl, m, rfl⟩; have Z := Lib.hid hz; clear hz)
    | (go_at_call 58; refine (implNum_any _ _).mono ?_; rintro e w' ⟨rfl, m2, rfl⟩))
  all_goals
    go_wp2
    go_ret2
    exact PY.out _ _ (by rw [Z.out]; rfl) (by first | exact below_drewN Bw.out _ | exact below_drewN (below_drewN Bw.out _) _)

set_option maxHeartbeats 1600000 in
theorem implPA2_any {n b0 o0 k0 b1 o1 k1 b2 o2 k2 b3 o3 k3 : Nat} (r : RL) (last : Bool) (x y : Nat) (w : World) (h : Lay w n b0 o0 k0 b1 o1 k1 b2 o2 k2 b3 o3 k3 r) (hl : Len r n) (hv : vRod r = true) (he : vEnd 2 x y = true) :
    Calls Try.prog 39 #[.agg #[.slice (some ⟨b0, o0, none⟩) n k0, .slice (some ⟨b1, o1, none⟩) n k1, .slice (some ⟨b2, o2, none⟩) n k2, .slice (some ⟨b3, o3, none⟩) n k3], .bool last, .agg #[.int .i64 2, .float .f32 x, .float .f32 y]] w (GivB (paS r last 2 x y) (paB r last 2 x y) w) := by
  have IV := Lib.hid (fun w1 (hr : RRow w1 (.slice (some ⟨b0, o0, none⟩) n k0) (.slice (some ⟨b1, o1, none⟩) n k1) (.slice (some ⟨b2, o2, none⟩) n k2) (.slice (some ⟨b3, o3, none⟩) n k3) r) => implValid_any _ _ _ _ r w1 hr)
  rw [hv] at IV
  have IE := Lib.hid (fun w1 => implVEnd_any 2 x y w1)
  unfold endV at IE
  rw [he] at IE
  have PT := Lib.hid (fun w1 => passTo_any 2 x y w1 (by decide))
  unfold endV at PT
  have PY := Lib.hid (fun z w' (hx : cn .f32 z = aV 2 y (hN r (eC n last))) (hb : Below w.heap.size w w') => pa_yes (r := r) (last := last) (k := 2) (x := x) (y := y) (w := w) (by simp [paOk, hv, he]) (by unfold paV; rw [hl.W]; exact hx) hb)
  have hm : maxLen = 9223372036854775807 := rfl
  have RW : Hid (∀ w1, Below w.heap.size w w1 → RRow w1 (.slice (some ⟨b0, o0, none⟩) n k0) (.slice (some ⟨b1, o1, none⟩) n k1) (.slice (some ⟨b2, o2, none⟩) n k2) (.slice (some ⟨b3, o3, none⟩) n k3) r) := Lib.hid (fun w1 hb => by
    have h' := h.below hb
    have q := hl.q
    refine ⟨.inr ⟨_, _, _, by rw [hl.W], by rw [hl.W, hm]; omega, by rw [hl.W]; exact h'.W⟩, .inr ⟨_, _, _, by rw [hl.E], by rw [hl.E, hm]; omega, by rw [hl.E]; exact h'.E⟩, .inr ⟨_, _, _, by rw [hl.H], by rw [hl.H, hm]; omega, by rw [hl.H]; exact h'.H⟩, .inr ⟨_, _, _, by rw [hl.T], by rw [hl.T, hm]; omega, by rw [hl.T]; exact h'.T⟩⟩)
  have HQ := Lib.hid hl.q
  have HP := Lib.hid hl.p
  have CB : Hid (eC n last < n) := Lib.hid (by have := hl.p; unfold eC; split <;> omega)
  have A := Lib.hid ((Cells.made w [.slice (some ⟨b0, o0, none⟩) n k0, .slice (some ⟨b1, o1, none⟩) n k1, .slice (some ⟨b2, o2, none⟩) n k2, .slice (some ⟨b3, o3, none⟩) n k3] 27).al (.cells [Value.int .i64 2, .float .f32 x, .float .f32 y].toArray 36))
  have E := Cells.made (w.alloc (.cells [Value.slice (some ⟨b0, o0, none⟩) n k0, .slice (some ⟨b1, o1, none⟩) n k1, .slice (some ⟨b2, o2, none⟩) n k2, .slice (some ⟨b3, o3, none⟩) n k3].toArray 27)) [.int .i64 2, .float .f32 x, .float .f32 y] 36
  rw [show (w.alloc (.cells [Value.slice (some ⟨b0, o0, none⟩) n k0, .slice (some ⟨b1, o1, none⟩) n k1, .slice (some ⟨b2, o2, none⟩) n k2, .slice (some ⟨b3, o3, none⟩) n k3].toArray 27)).heap.size = w.heap.size + 1 from by simp] at E
  have E := Lib.hid E
  have Bw := Lib.hid (below_al2 w (.cells [Value.slice (some ⟨b0, o0, none⟩) n k0, .slice (some ⟨b1, o1, none⟩) n k1, .slice (some ⟨b2, o2, none⟩) n k2, .slice (some ⟨b3, o3, none⟩) n k3].toArray 27) (.cells [Value.int .i64 2, .float .f32 x, .float .f32 y].toArray 36))
  have LY := Lib.hid (h.below (below_al2 w (.cells [Value.slice (some ⟨b0, o0, none⟩) n k0, .slice (some ⟨b1, o1, none⟩) n k1, .slice (some ⟨b2, o2, none⟩) n k2, .slice (some ⟨b3, o3, none⟩) n k3].toArray 27) (.cells [Value.int .i64 2, .float .f32 x, .float .f32 y].toArray 36)))
  clear h hl hv he hm
  generalize paS r last 2 x y = GS at *
  generalize paB r last 2 x y = GB at *
  go_enter Try.func39, Try.ntmps39
  go_wp2_with fail
  refine (IV.out _ (RW.out _ Bw.out)).mono ?_
  rintro _ w1 ⟨rfl, hb⟩
  (first | (have Bw := Lib.hid (below_step Bw.out hb)) | (have Bw := Lib.hid (below_step Bw.out (below_undrew hb)))); (first | (have A := Lib.hid (A.out.kept hb)) | (have A := Lib.hid (A.out.kept (below_undrew hb)))); (first | (have E := Lib.hid (E.out.kept hb)) | (have E := Lib.hid (E.out.kept (below_undrew hb)))); (first | (have LY := Lib.hid (LY.out.below hb)) | (have LY := Lib.hid (LY.out.below (below_undrew hb)))); (try (first | (have SK := Lib.hid (SK.out.kept hb)) | (have SK := Lib.hid (SK.out.kept (below_undrew hb))))); have c0 := A.out.at 0 rfl; have c1 := A.out.at 1 rfl; have c2 := A.out.at 2 rfl; have c3 := A.out.at 3 rfl; have d0 := E.out.at 0 rfl; have d1 := E.out.at 1 rfl; have d2 := E.out.at 2 rfl
  clear hb
  go_wp2_with fail
  refine (IE.out _).mono ?_
  rintro _ w2 ⟨rfl, hb⟩
  (first | (have Bw := Lib.hid (below_step Bw.out hb)) | (have Bw := Lib.hid (below_step Bw.out (below_undrew hb)))); (first | (have A := Lib.hid (A.out.kept hb)) | (have A := Lib.hid (A.out.kept (below_undrew hb)))); (first | (have E := Lib.hid (E.out.kept hb)) | (have E := Lib.hid (E.out.kept (below_undrew hb)))); (first | (have LY := Lib.hid (LY.out.below hb)) | (have LY := Lib.hid (LY.out.below (below_undrew hb)))); (try (first | (have SK := Lib.hid (SK.out.kept hb)) | (have SK := Lib.hid (SK.out.kept (below_undrew hb))))); have c0 := A.out.at 0 rfl; have c1 := A.out.at 1 rfl; have c2 := A.out.at 2 rfl; have c3 := A.out.at 3 rfl; have d0 := E.out.at 0 rfl; have d1 := E.out.at 1 rfl; have d2 := E.out.at 2 rfl
  clear hb
  go_wp2_with fail
  go_region_held3 (fun w' => w'.cell? ⟨w.heap.size, 0, none⟩ = some (.slice (some ⟨b0, o0, none⟩) n k0) ∧ w'.cell? ⟨w.heap.size, 1, none⟩ = some (.slice (some ⟨b1, o1, none⟩) n k1) ∧ w'.cell? ⟨w.heap.size, 2, none⟩ = some (.slice (some ⟨b2, o2, none⟩) n k2) ∧ w'.cell? ⟨w.heap.size, 3, none⟩ = some (.slice (some ⟨b3, o3, none⟩) n k3) ∧ w'.cell? ⟨w.heap.size + 1, 0, none⟩ = some (.int .i64 2) ∧ w'.cell? ⟨w.heap.size + 1, 1, none⟩ = some (.float .f32 x) ∧ w'.cell? ⟨w.heap.size + 1, 2, none⟩ = some (.float .f32 y)) (exact ⟨c0, c1, c2, c3, d0, d1, d2⟩)
    (first
    | (go_at_call 71; refine (PT.out _).mono ?_; rintro e w' ⟨v, rfl, hb, (⟨h0, -⟩ | ⟨h0, -⟩ | ⟨-, q, s, rfl, hc, hs⟩)⟩; (exact absurd h0 (by decide)); (exact absurd h0 (by decide));  (first | (have Bw := Lib.hid (below_step Bw.out hb)) | (have Bw := Lib.hid (below_step Bw.out (below_undrew hb)))); (first | (have A := Lib.hid (A.out.kept hb)) | (have A := Lib.hid (A.out.kept (below_undrew hb)))); (first | (have E := Lib.hid (E.out.kept hb)) | (have E := Lib.hid (E.out.kept (below_undrew hb)))); (first | (have LY := Lib.hid (LY.out.below hb)) | (have LY := Lib.hid (LY.out.below (below_undrew hb)))); (try (first | (have SK := Lib.hid (SK.out.kept hb)) | (have SK := Lib.hid (SK.out.kept (below_undrew hb))))); have c0 := A.out.at 0 rfl; have c1 := A.out.at 1 rfl; have c2 := A.out.at 2 rfl; have c3 := A.out.at 3 rfl; have d0 := E.out.at 0 rfl; have d1 := E.out.at 1 rfl; have d2 := E.out.at 2 rfl; have SK := Lib.hid hc; have SV := Lib.hid hs; clear hc hs;  clear hb)
    | (go_at_call 73; refine (endCell_any r last _ HQ.out HP.out).mono ?_; rintro e w' ⟨rfl, hb⟩; (first | (have Bw := Lib.hid (below_step Bw.out hb)) | (have Bw := Lib.hid (below_step Bw.out (below_undrew hb)))); (first | (have A := Lib.hid (A.out.kept hb)) | (have A := Lib.hid (A.out.kept (below_undrew hb)))); (first | (have E := Lib.hid (E.out.kept hb)) | (have E := Lib.hid (E.out.kept (below_undrew hb)))); (first | (have LY := Lib.hid (LY.out.below hb)) | (have LY := Lib.hid (LY.out.below (below_undrew hb)))); (try (first | (have SK := Lib.hid (SK.out.kept hb)) | (have SK := Lib.hid (SK.out.kept (below_undrew hb))))); have c0 := A.out.at 0 rfl; have c1 := A.out.at 1 rfl; have c2 := A.out.at 2 rfl; have c3 := A.out.at 3 rfl; have d0 := E.out.at 0 rfl; have d1 := E.out.at 1 rfl; have d2 := E.out.at 2 rfl; clear hb)
    | (go_at_call 72; refine (implHalf_any r (eC n last) _ LY.out CB.out).mono ?_; rintro e w' ⟨hh, hx, rfl, hb⟩; have HH := Lib.hid hx; (first | (have Bw := Lib.hid (below_step Bw.out hb)) | (have Bw := Lib.hid (below_step Bw.out (below_undrew hb)))); (first | (have A := Lib.hid (A.out.kept hb)) | (have A := Lib.hid (A.out.kept (below_undrew hb)))); (first | (have E := Lib.hid (E.out.kept hb)) | (have E := Lib.hid (E.out.kept (below_undrew hb)))); (first | (have LY := Lib.hid (LY.out.below hb)) | (have LY := Lib.hid (LY.out.below (below_undrew hb)))); (try (first | (have SK := Lib.hid (SK.out.kept hb)) | (have SK := Lib.hid (SK.out.kept (below_undrew hb))))); have c0 := A.out.at 0 rfl; have c1 := A.out.at 1 rfl; have c2 := A.out.at 2 rfl; have c3 := A.out.at 3 rfl; have d0 := E.out.at 0 rfl; have d1 := E.out.at 1 rfl; have d2 := E.out.at 2 rfl; clear hb hx)
    | (go_at_call 88; refine (pass2_any _ _ _ _ SK.out).mono ?_; rintro e w' ⟨z, hz, rfl, m, rfl⟩; have Z := Lib.hid hz; clear hz)
    | (go_at_call 58; refine (implNum_any _ _).mono ?_; rintro e w' ⟨rfl, m2, rfl⟩))
  all_goals
    go_wp2
    go_ret2
    exact PY.out _ _ (by rw [Z.out, HH.out, SV.out]; rfl) (by first | exact below_drewN Bw.out _ | exact below_drewN (below_drewN Bw.out _) _)

end Go.Proofs.Ytplepddciilbdaa
