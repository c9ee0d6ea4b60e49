/- How much passes between two cells of a rod. -/
import Derived.Test.YtplepddciilbdaaTops
import Derived.Test.YtplepddciilbdaaHalf2
import Derived.IntWalk
namespace Go.Proofs.Ytplepddciilbdaa
open Go.RowKit
set_option linter.unusedVariables false

/-- half of what a cell hinders -/
def hN (r : RL) (k : Nat) : Nat := fop .mul .f32 (cn .f32 1056964608) (tN r k)
/-- how much passes between a cell and the next one -/
def bV (r : RL) (k : Nat) : Nat := fop .quo .f32 (cn .f32 1065353216) (fop .add .f32 (hN r k) (hN r (k + 1)))

theorem specHalf_any {n b0 o0 k0 b1 o1 k1 b2 o2 k2 b3 o3 k3 : Nat} (r : RL) (k p : Nat) (w : World) (A : Cells w p [.slice (some ⟨b0, o0, none⟩) n k0, .slice (some ⟨b1, o1, none⟩) n k1, .slice (some ⟨b2, o2, none⟩) n k2, .slice (some ⟨b3, o3, none⟩) n k3]) (h : Lay w n b0 o0 k0 b1 o1 k1 b2 o2 k2 b3 o3 k3 r) (hk : k < n) :
    Calls Try.prog 86 #[.pointer (some ⟨p, 0, none⟩), .int .i64 k] w (FlD (hN r k) w) := by
  have z0 := h.W k hk
  have z1 := h.E k hk
  have c0 := A.at 0 rfl
  have c1 := A.at 1 rfl
  have e : Hid (hN r k = fop .mul .f32 (cn .f32 1056964608) (fop .quo .f32 (cn .f32 (r.W.getD k 0)) (cn .f32 (r.E.getD k 0)))) := Lib.hid rfl
  clear h A
  generalize r.W.getD k 0 = x at *
  generalize r.E.getD k 0 = y at *
  have hi : (0 : Int) ≤ (k : Int) := by omega
  have hi' : (k : Int) < (n : Int) := by omega
  go_enter Try.func86, Try.ntmps86
  go_wp2
  refine wp_region_loose (fun _ _ _ => True) (by kernel_rfl) (by kernel_rfl) ?_
  repeat (first | (refine wpLoose_farith rfl _ _ _ _ _ rfl rfl _ _ _ rfl rfl ?_; intro _ _) | (refine wpLoose_valK rfl ?_ (fun w1 hw1 => ?_) (fun K hK => ?_); rotate_left; (focus (obtain ⟨nq, rfl⟩ := hw1; go_simp; first | done | rfl)); go_simp; refine hK _ ?_; clear hK K))
  (refine wpLoose_nil ?_; rintro _ ⟨nq, rfl⟩)
  go_wp2
  go_ret
  rename_i r1 h1 r2 h2
  exact ⟨_, by rw [h2.1, h1.1, e.out], rfl, _, rfl⟩

theorem implHalf_any {n b0 o0 k0 b1 o1 k1 b2 o2 k2 b3 o3 k3 : Nat} (r : RL) (k : Nat) (w : World) (h : Lay w n b0 o0 k0 b1 o1 k1 b2 o2 k2 b3 o3 k3 r) (hk : k < n) :
    Calls Try.prog 72 #[.agg #[.slice (some ⟨b0, o0, none⟩) n k0, .slice (some ⟨b1, o1, none⟩) n k1, .slice (some ⟨b2, o2, none⟩) n k2, .slice (some ⟨b3, o3, none⟩) n k3], .int .i64 k] w (FlB (hN r k) w) := by
  have z0 := h.W k hk
  have z1 := h.E k hk
  have e : Hid (hN r k = fop .mul .f32 (cn .f32 1056964608) (fop .quo .f32 (cn .f32 (r.W.getD k 0)) (cn .f32 (r.E.getD k 0)))) := Lib.hid rfl
  clear h
  generalize r.W.getD k 0 = x at *
  generalize r.E.getD k 0 = y at *
  have hi : (0 : Int) ≤ (k : Int) := by omega
  have hi' : (k : Int) < (n : Int) := by omega
  have A := Cells.made w [.slice (some ⟨b0, o0, none⟩) n k0, .slice (some ⟨b1, o1, none⟩) n k1, .slice (some ⟨b2, o2, none⟩) n k2, .slice (some ⟨b3, o3, none⟩) n k3] 27
  have Bw := Lib.hid (below_al1 w (.cells [Value.slice (some ⟨b0, o0, none⟩) n k0, .slice (some ⟨b1, o1, none⟩) n k1, .slice (some ⟨b2, o2, none⟩) n k2, .slice (some ⟨b3, o3, none⟩) n k3].toArray 27))
  have FACT := Lib.hid (fun w1 (hw : Ext (w.alloc (.cells [Value.slice (some ⟨b0, o0, none⟩) n k0, .slice (some ⟨b1, o1, none⟩) n k1, .slice (some ⟨b2, o2, none⟩) n k2, .slice (some ⟨b3, o3, none⟩) n k3].toArray 27)) w1) => And.intro (hw.cell (A.at 0 rfl)) (And.intro (hw.cell (A.at 1 rfl)) (And.intro (hw.cell (Ext.cell (below_al1 _ _) z0)) (hw.cell (Ext.cell (below_al1 _ _) z1)))))
  clear A z0 z1
  go_enter Try.func72, Try.ntmps72
  go_wp2
  refine wp_region_looseC (Ext _) (fun _ _ _ => True) (Ext.start _) (by kernel_rfl) (by kernel_rfl) ?_
  repeat (first | (refine wpLoose_farithB rfl _ _ _ _ _ rfl rfl _ _ _ rfl rfl ?_; intro _ _) | (refine wpLoose_valK rfl ?_ (fun w1 hw1 => ?_) (fun K hK => ?_); rotate_left; (focus (have hF := FACT.out w1 hw1; go_simp; first | done | rfl)); go_simp; refine hK _ ?_; clear hK K))
  refine wpLoose_nil ?_; intro w1 hb
  go_wp2
  go_ret
  rename_i r1 h1 r2 h2
  exact ⟨_, by rw [h2.1, fop_half, h1.1, e.out], rfl, below_step Bw.out hb⟩

theorem specOver_any {n b0 o0 k0 b1 o1 k1 b2 o2 k2 b3 o3 k3 : Nat} (r : RL) (k p : Nat) (w : World) (A : Cells w p [.slice (some ⟨b0, o0, none⟩) n k0, .slice (some ⟨b1, o1, none⟩) n k1, .slice (some ⟨b2, o2, none⟩) n k2, .slice (some ⟨b3, o3, none⟩) n k3]) (h : Lay w n b0 o0 k0 b1 o1 k1 b2 o2 k2 b3 o3 k3 r) (hq : n ≤ 48) (hk : k + 1 < n) :
    Calls Try.prog 68 #[.pointer (some ⟨p, 0, none⟩), .int .i64 k] w (FlD (bV r k) w) := by
  have H0 := Lib.hid (fun m => specHalf_any r k p (w.drewN m) A.drewN (h.below (below_drewN (Below.refl _ _) m)) (by omega))
  have H1 := Lib.hid (fun m => specHalf_any r (k + 1) p (w.drewN m) A.drewN (h.below (below_drewN (Below.refl _ _) m)) hk)
  have H0' := Lib.hid (specHalf_any r k p w A h (by omega))
  rw [show (((k + 1 : Nat)) : Int) = (k : Int) + 1 from by omega] at H1
  clear A h
  go_enter Try.func68, Try.ntmps68
  go_wp2_with fail
  refine H0'.out.mono ?_
  rintro _ _ ⟨x, hx, rfl, m1, rfl⟩
  have X := Lib.hid hx
  clear hx
  go_wp2_with fail
  refine (H1.out _).mono ?_
  rintro _ _ ⟨y, hy, rfl, m2, rfl⟩
  have Y := Lib.hid hy
  clear hy
  go_wp2_with (refine wpList_farith rfl _ _ _ _ _ rfl rfl _ _ _ rfl rfl ?_; intro _ _ _)
  go_ret
  rename_i r1 j1 h1 r2 j2 h2
  exact ⟨_, by rw [h2.1, h1.1, X.out, Y.out]; rfl, rfl, _, rfl⟩

theorem implOver_any {n b0 o0 k0 b1 o1 k1 b2 o2 k2 b3 o3 k3 : Nat} (r : RL) (k : Nat) (w : World) (h : Lay w n b0 o0 k0 b1 o1 k1 b2 o2 k2 b3 o3 k3 r) (hq : n ≤ 48) (hk : k + 1 < n) :
    Calls Try.prog 69 #[.agg #[.slice (some ⟨b0, o0, none⟩) n k0, .slice (some ⟨b1, o1, none⟩) n k1, .slice (some ⟨b2, o2, none⟩) n k2, .slice (some ⟨b3, o3, none⟩) n k3], .int .i64 k] w (FlB (bV r k) w) := by
  have A := Cells.made w [.slice (some ⟨b0, o0, none⟩) n k0, .slice (some ⟨b1, o1, none⟩) n k1, .slice (some ⟨b2, o2, none⟩) n k2, .slice (some ⟨b3, o3, none⟩) n k3] 27
  have Bw := Lib.hid (below_al1 w (.cells [Value.slice (some ⟨b0, o0, none⟩) n k0, .slice (some ⟨b1, o1, none⟩) n k1, .slice (some ⟨b2, o2, none⟩) n k2, .slice (some ⟨b3, o3, none⟩) n k3].toArray 27))
  have H0 := Lib.hid (fun w1 (hw : Ext (w.alloc (.cells [Value.slice (some ⟨b0, o0, none⟩) n k0, .slice (some ⟨b1, o1, none⟩) n k1, .slice (some ⟨b2, o2, none⟩) n k2, .slice (some ⟨b3, o3, none⟩) n k3].toArray 27)) w1) => implHalf_any r k w1 (h.below (below_step (below_al1 w (.cells [Value.slice (some ⟨b0, o0, none⟩) n k0, .slice (some ⟨b1, o1, none⟩) n k1, .slice (some ⟨b2, o2, none⟩) n k2, .slice (some ⟨b3, o3, none⟩) n k3].toArray 27)) hw)) (by omega))
  have H1 := Lib.hid (fun w1 (hw : Ext (w.alloc (.cells [Value.slice (some ⟨b0, o0, none⟩) n k0, .slice (some ⟨b1, o1, none⟩) n k1, .slice (some ⟨b2, o2, none⟩) n k2, .slice (some ⟨b3, o3, none⟩) n k3].toArray 27)) w1) => implHalf_any r (k + 1) w1 (h.below (below_step (below_al1 w (.cells [Value.slice (some ⟨b0, o0, none⟩) n k0, .slice (some ⟨b1, o1, none⟩) n k1, .slice (some ⟨b2, o2, none⟩) n k2, .slice (some ⟨b3, o3, none⟩) n k3].toArray 27)) hw)) hk)
  rw [show (((k + 1 : Nat)) : Int) = (k : Int) + 1 from by omega] at H1
  have FACT := Lib.hid (fun w1 (hw : Ext (w.alloc (.cells [Value.slice (some ⟨b0, o0, none⟩) n k0, .slice (some ⟨b1, o1, none⟩) n k1, .slice (some ⟨b2, o2, none⟩) n k2, .slice (some ⟨b3, o3, none⟩) n k3].toArray 27)) w1) => And.intro (hw.cell (A.at 0 rfl)) (And.intro (hw.cell (A.at 1 rfl)) (And.intro (hw.cell (A.at 2 rfl)) (hw.cell (A.at 3 rfl)))))
  have hw : IntKind.i64.wrap ((k : Int) + 1) = (k : Int) + 1 := IntWalk.i64_in _ (by omega)
  clear A h
  go_enter Try.func69, Try.ntmps69
  go_wp2
  refine wp_region_looseC (Ext _) (fun f args v => f = 72 → (args = #[.agg #[.slice (some ⟨b0, o0, none⟩) n k0, .slice (some ⟨b1, o1, none⟩) n k1, .slice (some ⟨b2, o2, none⟩) n k2, .slice (some ⟨b3, o3, none⟩) n k3], .int .i64 k] → ∃ x, cn .f32 x = hN r k ∧ v = .float .f32 x) ∧ (args = #[.agg #[.slice (some ⟨b0, o0, none⟩) n k0, .slice (some ⟨b1, o1, none⟩) n k1, .slice (some ⟨b2, o2, none⟩) n k2, .slice (some ⟨b3, o3, none⟩) n k3], .int .i64 ((k : Int) + 1)] → ∃ x, cn .f32 x = hN r (k + 1) ∧ v = .float .f32 x)) (Ext.start _) (by kernel_rfl) (by kernel_rfl) ?_
  (refine wpLoose_valK rfl ?_ (fun w1 hw1 => ?_) (fun K hK => ?_); rotate_left; (focus (have hF := FACT.out w1 hw1; go_simp; first | done | rfl)); go_simp; refine hK _ ?_; clear hK K)
  (refine wpLoose_valK rfl ?_ (fun w1 hw1 => ?_) (fun K hK => ?_); rotate_left; (focus (have hF := FACT.out w1 hw1; go_simp; first | done | rfl)); go_simp; refine hK _ ?_; clear hK K)
  refine wpLoose_callS rfl 72 #[.agg #[.slice (some ⟨b0, o0, none⟩) n k0, .slice (some ⟨b1, o1, none⟩) n k1, .slice (some ⟨b2, o2, none⟩) n k2, .slice (some ⟨b3, o3, none⟩) n k3], .int .i64 k] (fun w1 => ?_) (fun w1 hw1 => ?_) (fun v hv => ?_)
  · go_simp
  · refine (H0.out w1 hw1).mono ?_
    rintro e w2 ⟨x, hx, rfl, hb⟩
    exact ⟨_, rfl, fun _ => ⟨fun _ => ⟨x, hx, rfl⟩, fun h => absurd h (by simp <;> omega)⟩, hb⟩
  obtain ⟨x, hx, rfl⟩ := (hv rfl).1 rfl
  have X := Lib.hid hx
  clear hv hx
  (refine wpLoose_valK rfl ?_ (fun w1 hw1 => ?_) (fun K hK => ?_); rotate_left; (focus (have hF := FACT.out w1 hw1; go_simp; first | done | rfl)); go_simp; refine hK _ ?_; clear hK K)
  (refine wpLoose_valK rfl ?_ (fun w1 hw1 => ?_) (fun K hK => ?_); rotate_left; (focus (have hF := FACT.out w1 hw1; go_simp; first | done | rfl)); go_simp; refine hK _ ?_; clear hK K)
  (refine wpLoose_valK rfl ?_ (fun w1 hw1 => ?_) (fun K hK => ?_); rotate_left; (focus (have hF := FACT.out w1 hw1; go_simp; first | done | rfl)); go_simp; refine hK _ ?_; clear hK K)
  refine wpLoose_callS rfl 72 #[.agg #[.slice (some ⟨b0, o0, none⟩) n k0, .slice (some ⟨b1, o1, none⟩) n k1, .slice (some ⟨b2, o2, none⟩) n k2, .slice (some ⟨b3, o3, none⟩) n k3], .int .i64 ((k : Int) + 1)] (fun w1 => ?_) (fun w1 hw1 => ?_) (fun v hv => ?_)
  · go_simp
  · refine (H1.out w1 hw1).mono ?_
    rintro e w2 ⟨x, hx, rfl, hb⟩
    exact ⟨_, rfl, fun _ => ⟨fun h => absurd h (by simp <;> omega), fun _ => ⟨x, hx, rfl⟩⟩, hb⟩
  obtain ⟨y, hy, rfl⟩ := (hv rfl).2 rfl
  have Y := Lib.hid hy
  clear hv hy
  repeat (first | (refine wpLoose_farithB rfl _ _ _ _ _ rfl rfl _ _ _ rfl rfl ?_; intro _ _) | (refine wpLoose_valK rfl ?_ (fun w1 hw1 => ?_) (fun K hK => ?_); rotate_left; (focus (have hF := FACT.out w1 hw1; go_simp; first | done | rfl)); go_simp; refine hK _ ?_; clear hK K))
  refine wpLoose_nil ?_; intro w1 hb
  go_wp2
  go_ret
  rename_i r1 h1 r2 h2
  exact ⟨_, by rw [h2.1, h1.1, X.out, Y.out]; rfl, rfl, below_step Bw.out hb⟩

/-- is there a cell and a next one -/
def pbOk (r : RL) (i : Int) : Bool := vRod r && decide (0 ≤ i) && decide (i ≤ (r.W.length : Int) - 2)
def pbS (r : RL) (i : Int) : Nat := if pbOk r i then ifF (bV r i.toNat) else 0
def pbB (r : RL) (i : Int) : Bool := pbOk r i && fin .f32 (bV r i.toNat)
theorem pb_no {r : RL} {i : Int} {w w' : World} (hv : pbOk r i = false) (hb : Below w.heap.size w w') : GivB (pbS r i) (pbB r i) w (.returned (.tuple #[.float .f32 0, .bool false])) w' :=
  ⟨0, by simp [pbS, hv]; rfl, by simp [pbB, hv], hb⟩
theorem pb_yes {r : RL} {i : Int} {x : Nat} {w w' : World} (hv : pbOk r i = true) (hx : cn .f32 x = bV r i.toNat) (hb : Below w.heap.size w w') : GivB (pbS r i) (pbB r i) w (.returned (.tuple #[.float .f32 (ifF x), .bool (fin .f32 x)])) w' := by
  have := GivB.num (w := w) hx hb
  simpa [pbS, pbB, hv] using this

set_option maxHeartbeats 800000 in
theorem specPassBetween_any (a b c d : Value) (r : RL) (i : Int) (w : World) (h : RRow w a b c d r) : Calls Try.prog 36 #[.agg #[a, b, c, d], .int .i64 i] w (GivB (pbS r i) (pbB r i) w) := by
  have IS := Lib.hid (specIs_any a b c d r _ _ (Cells.made w [a, b, c, d] 27) (h.below (below_al1 _ _)))
  cases hv : vRod r
  · rw [hv] at IS
    have hn : pbOk r i = false := by simp [pbOk, hv]
    have N := Lib.hid hn
    clear h hv hn
    go_enter Try.func36, Try.ntmps36
    go_wp2_with (go_at_call 45; refine IS.out.mono ?_; rintro e w' ⟨rfl, n, rfl⟩)
    go_ret2
    exact pb_no N.out (below_drewN (below_al1 _ _) _)
  · rw [hv] at IS
    have OK : Hid (pbOk r i = (decide (0 ≤ i) && decide (i ≤ (r.W.length : Int) - 2))) := Lib.hid (by simp [pbOk, hv])
    have PN := Lib.hid (fun (hn : pbOk r i = false) w' (hb : Below w.heap.size w w') => pb_no (r := r) (i := i) hn hb)
    have PY := Lib.hid (fun (hn : pbOk r i = true) x w' (hx : cn .f32 x = bV r i.toNat) (hb : Below w.heap.size w w') => pb_yes (r := r) (i := i) hn hx hb)
    obtain ⟨b0, o0, k0, b1, o1, k1, b2, o2, k2, b3, o3, k3, rfl, rfl, rfl, rfl, hL⟩ := h.lay (Len.ofV hv)
    have G := Lib.hid (Len.ofV hv).q
    have hG := (Len.ofV hv).q
    clear h hv
    have LY := Lib.hid hL
    clear hL
    generalize pbS r i = GS at *
    generalize pbB r i = GB at *
    generalize pbOk r i = O at *
    generalize r.W.length = n at *
    cases hd : (decide (0 ≤ i) && decide (i ≤ (n : Int) - 2))
    · have hO := OK.out.trans hd
      have PN' := Lib.hid (PN.out hO)
      clear hO
      go_enter Try.func36, Try.ntmps36
      go_wp2_with (first | (go_at_call 45; refine IS.out.mono ?_; rintro e w' ⟨rfl, n1, rfl⟩) | (go_at_call 67; refine (in_any i 0 ((n : Int) - 2) _).mono ?_; rw [hd]; rintro e w' ⟨rfl, rfl⟩))
      go_ret2
      exact PN'.out _ (below_drewN (below_al1 _ _) _)
    · have hO := OK.out.trans hd
      have PY' := Lib.hid (PY.out hO)
      obtain ⟨hi0, hi1⟩ : 0 ≤ i ∧ i ≤ (n : Int) - 2 := by simpa using hd
      obtain ⟨k, rfl⟩ : ∃ k : Nat, i = k := ⟨i.toNat, by omega⟩
      have hk : k + 1 < n := by omega
      have SO := Lib.hid (fun m => specOver_any r k _ ((w.alloc (.cells [Value.slice (some ⟨b0, o0, none⟩) n k0, .slice (some ⟨b1, o1, none⟩) n k1, .slice (some ⟨b2, o2, none⟩) n k2, .slice (some ⟨b3, o3, none⟩) n k3].toArray 27)).drewN m) (Cells.drewN (Cells.made w [.slice (some ⟨b0, o0, none⟩) n k0, .slice (some ⟨b1, o1, none⟩) n k1, .slice (some ⟨b2, o2, none⟩) n k2, .slice (some ⟨b3, o3, none⟩) n k3] 27)) (LY.out.below (below_drewN (below_al1 _ _) m)) G.out hk)
      clear hO hi0 hi1 hk
      go_enter Try.func36, Try.ntmps36
      go_wp2_with (first | (go_at_call 45; refine IS.out.mono ?_; rintro e w' ⟨rfl, n1, rfl⟩) | (go_at_call 67; refine (in_any (k : Int) 0 ((n : Int) - 2) _).mono ?_; rw [hd]; rintro e w' ⟨rfl, rfl⟩) | (go_at_call 68; refine (SO.out _).mono ?_; rintro e w' ⟨x, hx, rfl, n2, rfl⟩; have X := Lib.hid hx; clear hx) | (go_at_call 56; refine (specNum_any _ _).mono ?_; rintro e w' ⟨rfl, n3, rfl⟩))
      go_ret2
      exact PY'.out _ _ X.out (below_drewN (below_al1 _ _) _)

set_option maxHeartbeats 800000 in
theorem implPassBetween_any (a b c d : Value) (r : RL) (i : Int) (w : World) (h : RRow w a b c d r) : Calls Try.prog 37 #[.agg #[a, b, c, d], .int .i64 i] w (GivB (pbS r i) (pbB r i) w) := by
  have IV := Lib.hid (implValid_any a b c d r _ (h.below (below_al1 w (.cells [a, b, c, d].toArray 27))))
  cases hv : vRod r
  · rw [hv] at IV
    have hn : pbOk r i = false := by simp [pbOk, hv]
    have N := Lib.hid hn
    clear h hv hn
    go_enter Try.func37, Try.ntmps37
    go_wp2_with (go_at_call 18; refine IV.out.mono ?_; rintro e w' ⟨rfl, hb⟩; have B1 := Lib.hid hb; clear hb)
    go_ret2
    exact pb_no N.out (below_step (below_al1 _ _) B1.out)
  · rw [hv] at IV
    have OK : Hid (pbOk r i = (decide (0 ≤ i) && decide (i ≤ (r.W.length : Int) - 2))) := Lib.hid (by simp [pbOk, hv])
    have PN := Lib.hid (fun (hn : pbOk r i = false) w' (hb : Below w.heap.size w w') => pb_no (r := r) (i := i) hn hb)
    have PY := Lib.hid (fun (hn : pbOk r i = true) x w' (hx : cn .f32 x = bV r i.toNat) (hb : Below w.heap.size w w') => pb_yes (r := r) (i := i) hn hx hb)
    obtain ⟨b0, o0, k0, b1, o1, k1, b2, o2, k2, b3, o3, k3, rfl, rfl, rfl, rfl, hL⟩ := h.lay (Len.ofV hv)
    have G := Lib.hid (Len.ofV hv).q
    have hG := (Len.ofV hv).q
    clear h hv
    generalize pbS r i = GS at *
    generalize pbB r i = GB at *
    generalize pbOk r i = O at *
    generalize r.W.length = n at *
    have LY := Lib.hid (hL.below (below_al1 w (.cells [Value.slice (some ⟨b0, o0, none⟩) n k0, .slice (some ⟨b1, o1, none⟩) n k1, .slice (some ⟨b2, o2, none⟩) n k2, .slice (some ⟨b3, o3, none⟩) n k3].toArray 27)))
    clear hL
    have A := Lib.hid (Cells.made w [.slice (some ⟨b0, o0, none⟩) n k0, .slice (some ⟨b1, o1, none⟩) n k1, .slice (some ⟨b2, o2, none⟩) n k2, .slice (some ⟨b3, o3, none⟩) n k3] 27)
    have Bw := Lib.hid (below_al1 w (.cells [Value.slice (some ⟨b0, o0, none⟩) n k0, .slice (some ⟨b1, o1, none⟩) n k1, .slice (some ⟨b2, o2, none⟩) n k2, .slice (some ⟨b3, o3, none⟩) n k3].toArray 27))
    by_cases h0 : i < 0
    · have PN' := Lib.hid (PN.out (by rw [OK.out]; simp; omega))
      have hd : decide (i < 0) = true := by simp [h0]
      go_enter Try.func37, Try.ntmps37
      go_wp2_with (go_at_call 18; refine IV.out.mono ?_; rintro e w' ⟨rfl, hb⟩; have B1 := Lib.hid hb; clear hb)
      go_ret2
      exact PN'.out _ (below_step (below_al1 _ _) B1.out)
    · have hd : decide (i < 0) = false := by simp; omega
      by_cases h1 : (n : Int) - 2 < i
      · have PN' := Lib.hid (PN.out (by rw [OK.out]; simp; omega))
        have hd' : decide ((n : Int) - 2 < i) = true := by simp [h1]
        go_enter Try.func37, Try.ntmps37
        go_wp2_with (go_at_call 18; refine IV.out.mono ?_; rintro e w' ⟨rfl, hb⟩; have Bw := Lib.hid (below_step Bw.out hb); have A := Lib.hid (A.out.kept hb); have c0 := A.out.at 0 rfl; have c1 := A.out.at 1 rfl; have c2 := A.out.at 2 rfl; have c3 := A.out.at 3 rfl; clear hb)
        go_ret2
        exact PN'.out _ Bw.out
      · have PY' := Lib.hid (PY.out (by rw [OK.out]; simp; omega))
        have hd' : decide ((n : Int) - 2 < i) = false := by simp; omega
        obtain ⟨k, rfl⟩ : ∃ k : Nat, i = k := ⟨i.toNat, by omega⟩
        have hk : k + 1 < n := by omega
        have HK := Lib.hid hk
        clear h0 h1 hk
        go_enter Try.func37, Try.ntmps37
        go_wp2_with (first
          | (go_at_call 18; refine IV.out.mono ?_; rintro e w' ⟨rfl, hb⟩; have Bw := Lib.hid (below_step Bw.out hb); have A := Lib.hid (A.out.kept hb); have LY := Lib.hid (LY.out.below hb); have c0 := A.out.at 0 rfl; have c1 := A.out.at 1 rfl; have c2 := A.out.at 2 rfl; have c3 := A.out.at 3 rfl; clear hb)
          | (go_at_call 69; refine (implOver_any r k _ LY.out G.out HK.out).mono ?_; rintro e w' ⟨x, hx, rfl, hb⟩; have X := Lib.hid hx; have Bw := Lib.hid (below_step Bw.out hb); clear hx hb)
          | (go_at_call 58; refine (implNum_any _ _).mono ?_; rintro e w' ⟨rfl, n3, rfl⟩))
        go_ret2
        exact PY'.out _ _ X.out (below_drewN Bw.out _)

end Go.Proofs.Ytplepddciilbdaa
