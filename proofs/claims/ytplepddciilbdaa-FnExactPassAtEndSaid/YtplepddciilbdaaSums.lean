/- What is told of each cell of a rod, and what is added up of it. -/
import Derived.Test.YtplepddciilbdaaAll
import Derived.Test.YtplepddciilbdaaGiv
import Derived.Test.YtplepddciilbdaaLooseB
namespace Go.Proofs.Ytplepddciilbdaa
open Go.RowKit
set_option linter.unusedVariables false

/-- a 32-bit number up to a not-a-number's bits; nothing that was there has turned -/
def FlB (S : Nat) (w : World) (e : Ending) (w' : World) : Prop := ∃ x, cn .f32 x = S ∧ e = .returned (.float .f32 x) ∧ Below w.heap.size w w'
/-- .. and nothing is made -/
def FlD (S : Nat) (w : World) (e : Ending) (w' : World) : Prop := ∃ x, cn .f32 x = S ∧ e = .returned (.float .f32 x) ∧ ∃ n, w' = w.drewN n

/-- all lists of a rod are n long -/
structure Len (r : RL) (n : Nat) : Prop where
  W : r.W.length = n
  E : r.E.length = n
  H : r.H.length = n
  T : r.T.length = n
  p : 1 ≤ n
  q : n ≤ 48
theorem Len.of {r : RL} (hl : lensOk r = true) : Len r r.W.length := by
  obtain ⟨⟨⟨⟨g1, g2⟩, g3⟩, g4⟩, g5⟩ : (((1 ≤ r.W.length ∧ r.W.length ≤ 48) ∧ r.E.length = r.W.length) ∧ r.H.length = r.W.length) ∧ r.T.length = r.W.length := by simpa [lensOk] using hl
  exact ⟨rfl, g3, g4, g5, g1, g2⟩
theorem Len.ofV {r : RL} (hv : vRod r = true) : Len r r.W.length := Len.of (by unfold vRod at hv; simp only [Bool.and_eq_true] at hv; exact hv.1)

/-- four slices of n numbers each, by their cells -/
structure Lay (w : World) (n b0 o0 k0 b1 o1 k1 b2 o2 k2 b3 o3 k3 : Nat) (r : RL) : Prop where
  W : ∀ i, i < n → w.cell? ⟨b0, o0 + i, none⟩ = some (.float .f32 (r.W.getD i 0))
  E : ∀ i, i < n → w.cell? ⟨b1, o1 + i, none⟩ = some (.float .f32 (r.E.getD i 0))
  H : ∀ i, i < n → w.cell? ⟨b2, o2 + i, none⟩ = some (.float .f32 (r.H.getD i 0))
  T : ∀ i, i < n → w.cell? ⟨b3, o3 + i, none⟩ = some (.float .f32 (r.T.getD i 0))
theorem Lay.below {w w' : World} {n b0 o0 k0 b1 o1 k1 b2 o2 k2 b3 o3 k3 : Nat} {r : RL} (h : Lay w n b0 o0 k0 b1 o1 k1 b2 o2 k2 b3 o3 k3 r) (hb : Below w.heap.size w w') : Lay w' n b0 o0 k0 b1 o1 k1 b2 o2 k2 b3 o3 k3 r :=
  ⟨fun i hi => Ext.cell hb (h.W i hi), fun i hi => Ext.cell hb (h.E i hi), fun i hi => Ext.cell hb (h.H i hi), fun i hi => Ext.cell hb (h.T i hi)⟩
theorem RRow.lay {w : World} {a b c d : Value} {r : RL} {n : Nat} (h : RRow w a b c d r) (hl : Len r n) : ∃ b0 o0 k0 b1 o1 k1 b2 o2 k2 b3 o3 k3,
    a = .slice (some ⟨b0, o0, none⟩) n k0 ∧ b = .slice (some ⟨b1, o1, none⟩) n k1 ∧ c = .slice (some ⟨b2, o2, none⟩) n k2 ∧ d = .slice (some ⟨b3, o3, none⟩) n k3 ∧ Lay w n b0 o0 k0 b1 o1 k1 b2 o2 k2 b3 o3 k3 r := by
  obtain ⟨b0, o0, k0, rfl, h0⟩ := h.W.cells (by rw [hl.W]; exact hl.p)
  obtain ⟨b1, o1, k1, rfl, h1⟩ := h.E.cells (by rw [hl.E]; exact hl.p)
  obtain ⟨b2, o2, k2, rfl, h2⟩ := h.H.cells (by rw [hl.H]; exact hl.p)
  obtain ⟨b3, o3, k3, rfl, h3⟩ := h.T.cells (by rw [hl.T]; exact hl.p)
  rw [hl.W] at h0; rw [hl.E] at h1; rw [hl.H] at h2; rw [hl.T] at h3
  rw [hl.W, hl.E, hl.H, hl.T]
  exact ⟨_, _, _, _, _, _, _, _, _, _, _, _, rfl, rfl, rfl, rfl, h0, h1, h2, h3⟩

/-- what is told of a cell -/
def tW (r : RL) (k : Nat) : Nat := cn .f32 (r.W.getD k 0)
def tS (r : RL) (k : Nat) : Nat := fop .mul .f32 (cn .f32 (r.W.getD k 0)) (cn .f32 (r.H.getD k 0))
def tQ (r : RL) (k : Nat) : Nat := fop .mul .f32 (tS r k) (cn .f32 (r.T.getD k 0))
def tN (r : RL) (k : Nat) : Nat := fop .quo .f32 (cn .f32 (r.W.getD k 0)) (cn .f32 (r.E.getD k 0))
def sumT (f : Nat → Nat) (n : Nat) : Nat := (List.range n).foldl (fun s k => fop .add .f32 s (f k)) (cn .f32 0)
theorem sumT_succ (f : Nat → Nat) (k : Nat) : sumT f (k + 1) = fop .add .f32 (sumT f k) (f k) := by
  unfold sumT
  rw [List.range_succ, List.foldl_append]
  rfl
theorem cn_fop (op : BinOp) (k : FloatKind) (x y : Nat) : cn k (fop op k x y) = fop op k x y := by
  unfold fop
  cases h : floatBits op k x y with
  | none => exact cn_of_nan (nn_qn k)
  | some r => exact cn_of_num (floatBits_num h)

theorem storeOf_any {n b0 o0 k0 b1 o1 k1 b2 o2 k2 b3 o3 k3 : Nat} (r : RL) (k : Nat) (w : World) (h : Lay w n b0 o0 k0 b1 o1 k1 b2 o2 k2 b3 o3 k3 r) (hq : n ≤ 48) (hk : k < n) :
    Calls Try.prog 63 #[.agg #[.slice (some ⟨b0, o0, none⟩) n k0, .slice (some ⟨b1, o1, none⟩) n k1, .slice (some ⟨b2, o2, none⟩) n k2, .slice (some ⟨b3, o3, none⟩) n k3], .int .i64 k] w (FlB (tS r k) w) := by
  have z0 := h.W k hk
  have z2 := h.H k hk
  clear h
  have e : Hid (tS r k = fop .mul .f32 (cn .f32 (r.W.getD k 0)) (cn .f32 (r.H.getD k 0))) := Lib.hid rfl
  generalize r.W.getD k 0 = x at *
  generalize r.H.getD k 0 = y at *
  have hi : (0 : Int) ≤ (k : Int) := by omega
  have hi' : (k : Int) < (n : Int) := by omega
  have A := Cells.made w [.slice (some ⟨b0, o0, none⟩) n k0, .slice (some ⟨b1, o1, none⟩) n k1, .slice (some ⟨b2, o2, none⟩) n k2, .slice (some ⟨b3, o3, none⟩) n k3] 27
  have Bw := Lib.hid (below_al1 w (.cells [Value.slice (some ⟨b0, o0, none⟩) n k0, .slice (some ⟨b1, o1, none⟩) n k1, .slice (some ⟨b2, o2, none⟩) n k2, .slice (some ⟨b3, o3, none⟩) n k3].toArray 27))
  have FACT := Lib.hid (fun w1 (hw : Ext (w.alloc (.cells [Value.slice (some ⟨b0, o0, none⟩) n k0, .slice (some ⟨b1, o1, none⟩) n k1, .slice (some ⟨b2, o2, none⟩) n k2, .slice (some ⟨b3, o3, none⟩) n k3].toArray 27)) w1) => And.intro (hw.cell (A.at 0 rfl)) (And.intro (hw.cell (A.at 2 rfl)) (And.intro (hw.cell (Ext.cell (below_al1 _ _) z0)) (hw.cell (Ext.cell (below_al1 _ _) z2)))))
  clear A z0 z2
  go_enter Try.func63, Try.ntmps63
  go_wp2
  refine wp_region_looseC (Ext _) (fun _ _ _ => True) (Ext.start _) (by kernel_rfl) (by kernel_rfl) ?_
  repeat (first | (refine wpLoose_farithB rfl _ _ _ _ _ rfl rfl _ _ _ rfl rfl ?_; intro _ _) | (refine wpLoose_valK rfl ?_ (fun w1 hw1 => ?_) (fun K hK => ?_); rotate_left; (focus (have hF := FACT.out w1 hw1; go_simp; first | done | rfl)); go_simp; refine hK _ ?_; clear hK K))
  refine wpLoose_nil ?_; intro w1 hb
  go_wp2
  go_ret
  rename_i h1
  exact ⟨_, by rw [h1.1, e.out], rfl, below_step Bw.out hb⟩

theorem toldLongOfRod_any {n b0 o0 k0 b1 o1 k1 b2 o2 k2 b3 o3 k3 : Nat} (r : RL) (k q : Nat) (w : World) (A : Cells w q [.slice (some ⟨b0, o0, none⟩) n k0, .slice (some ⟨b1, o1, none⟩) n k1, .slice (some ⟨b2, o2, none⟩) n k2, .slice (some ⟨b3, o3, none⟩) n k3]) (h : Lay w n b0 o0 k0 b1 o1 k1 b2 o2 k2 b3 o3 k3 r) (hq : n ≤ 48) (hk : k < n) :
    Calls Try.prog 60 #[.int .i64 k, .pointer (some ⟨q, 0, none⟩)] w (FlB (tW r k) w) := by
  have z0 := h.W k hk
  have c0 := A.at 0 rfl
  have e : Hid (tW r k = cn .f32 (r.W.getD k 0)) := Lib.hid rfl
  clear h A
  generalize r.W.getD k 0 = x at *
  have hi : (0 : Int) ≤ (k : Int) := by omega
  have hi' : (k : Int) < (n : Int) := by omega
  go_enter Try.func60, Try.ntmps60
  go_wp2
  go_ret
  exact ⟨_, e.out.symm, rfl, Below.refl _ _⟩

theorem toldHeatOfRod_any {n b0 o0 k0 b1 o1 k1 b2 o2 k2 b3 o3 k3 : Nat} (r : RL) (k q : Nat) (w : World) (A : Cells w q [.slice (some ⟨b0, o0, none⟩) n k0, .slice (some ⟨b1, o1, none⟩) n k1, .slice (some ⟨b2, o2, none⟩) n k2, .slice (some ⟨b3, o3, none⟩) n k3]) (h : Lay w n b0 o0 k0 b1 o1 k1 b2 o2 k2 b3 o3 k3 r) (hq : n ≤ 48) (hk : k < n) :
    Calls Try.prog 62 #[.int .i64 k, .pointer (some ⟨q, 0, none⟩)] w (FlB (tQ r k) w) := by
  have z3 := h.T k hk
  have c0 := A.at 0 rfl
  have c1 := A.at 1 rfl
  have c2 := A.at 2 rfl
  have c3 := A.at 3 rfl
  have e : Hid (tQ r k = fop .mul .f32 (tS r k) (cn .f32 (r.T.getD k 0))) := Lib.hid rfl
  have ST := Lib.hid (fun w1 (hb : Ext w w1) => storeOf_any r k w1 (h.below hb) hq hk)
  clear h A
  generalize r.T.getD k 0 = x at *
  have hi : (0 : Int) ≤ (k : Int) := by omega
  have hi' : (k : Int) < (n : Int) := by omega
  have FACT := Lib.hid (fun w1 (hw : Ext w w1) => And.intro (hw.cell c0) (And.intro (hw.cell c1) (And.intro (hw.cell c2) (And.intro (hw.cell c3) (hw.cell z3)))))
  go_enter Try.func62, Try.ntmps62
  go_wp2
  refine wp_region_looseC (Ext _) (fun f _ v => f = 63 → ∃ x, cn .f32 x = tS r k ∧ v = .float .f32 x) (Ext.start _) (by kernel_rfl) (by kernel_rfl) ?_
  (refine wpLoose_valK rfl ?_ (fun w1 hw1 => ?_) (fun K hK => ?_); rotate_left; (focus (have hF := FACT.out w1 hw1; go_simp; first | done | rfl)); go_simp; refine hK _ ?_; clear hK K)
  (refine wpLoose_valK rfl ?_ (fun w1 hw1 => ?_) (fun K hK => ?_); rotate_left; (focus (have hF := FACT.out w1 hw1; go_simp; first | done | rfl)); go_simp; refine hK _ ?_; clear hK K)
  refine wpLoose_callS rfl 63 #[.agg #[.slice (some ⟨b0, o0, none⟩) n k0, .slice (some ⟨b1, o1, none⟩) n k1, .slice (some ⟨b2, o2, none⟩) n k2, .slice (some ⟨b3, o3, none⟩) n k3], .int .i64 k] (fun w1 => ?_) (fun w1 hw1 => ?_) (fun v hv => ?_)
  · go_simp
  · refine (ST.out w1 hw1).mono ?_
    rintro e w2 ⟨x, hx, rfl, hb⟩
    exact ⟨_, rfl, fun _ => ⟨x, hx, rfl⟩, hb⟩
  obtain ⟨s, hs, rfl⟩ := hv rfl
  have S := Lib.hid hs
  clear hv hs
  repeat (first | (refine wpLoose_farithB rfl _ _ _ _ _ rfl rfl _ _ _ rfl rfl ?_; intro _ _) | (refine wpLoose_valK rfl ?_ (fun w1 hw1 => ?_) (fun K hK => ?_); rotate_left; (focus (have hF := FACT.out w1 hw1; go_simp; first | done | rfl)); go_simp; refine hK _ ?_; clear hK K))
  refine wpLoose_nil ?_; intro w1 hb
  go_wp2
  go_ret
  rename_i h1
  exact ⟨_, by rw [h1.1, S.out, e.out], rfl, hb⟩

theorem toldHinderOf_any {n b0 o0 k0 b1 o1 k1 b2 o2 k2 b3 o3 k3 : Nat} (r : RL) (k q : Nat) (w : World) (A : Cells w q [.slice (some ⟨b0, o0, none⟩) n k0, .slice (some ⟨b1, o1, none⟩) n k1, .slice (some ⟨b2, o2, none⟩) n k2, .slice (some ⟨b3, o3, none⟩) n k3]) (h : Lay w n b0 o0 k0 b1 o1 k1 b2 o2 k2 b3 o3 k3 r) (hq : n ≤ 48) (hk : k < n) :
    Calls Try.prog 65 #[.int .i64 k, .pointer (some ⟨q, 0, none⟩)] w (FlB (tN r k) w) := by
  have z0 := h.W k hk
  have z1 := h.E k hk
  have c0 := A.at 0 rfl
  have c1 := A.at 1 rfl
  have e : Hid (tN r k = fop .quo .f32 (cn .f32 (r.W.getD k 0)) (cn .f32 (r.E.getD k 0))) := Lib.hid rfl
  clear h A
  generalize r.W.getD k 0 = x at *
  generalize r.E.getD k 0 = y at *
  have hi : (0 : Int) ≤ (k : Int) := by omega
  have hi' : (k : Int) < (n : Int) := by omega
  go_enter Try.func65, Try.ntmps65
  go_wp2
  refine wp_region_loose (fun _ _ _ => True) (by kernel_rfl) (by kernel_rfl) ?_
  repeat (first | (refine wpLoose_farith rfl _ _ _ _ _ rfl rfl _ _ _ rfl rfl ?_; intro _ _) | (refine wpLoose_valK rfl ?_ (fun w1 hw1 => ?_) (fun K hK => ?_); rotate_left; (focus (obtain ⟨nq, rfl⟩ := hw1; go_simp; first | done | rfl)); go_simp; refine hK _ ?_; clear hK K))
  (refine wpLoose_nil ?_; rintro _ ⟨nq, rfl⟩)
  go_wp2
  go_ret
  rename_i h1
  exact ⟨_, by rw [h1.1, e.out], rfl, below_drewN (Below.refl _ _) _⟩

theorem toldMeanOfRod_any {n b0 o0 k0 b1 o1 k1 b2 o2 k2 b3 o3 k3 : Nat} (r : RL) (k q : Nat) (w : World) (A : Cells w q [.slice (some ⟨b0, o0, none⟩) n k0, .slice (some ⟨b1, o1, none⟩) n k1, .slice (some ⟨b2, o2, none⟩) n k2, .slice (some ⟨b3, o3, none⟩) n k3]) (h : Lay w n b0 o0 k0 b1 o1 k1 b2 o2 k2 b3 o3 k3 r) (hq : n ≤ 48) (hk : k < n) :
    Calls Try.prog 66 #[.int .i64 k, .pointer (some ⟨q, 0, none⟩)] w (FlB (tS r k) w) := by
  have c0 := A.at 0 rfl
  have c1 := A.at 1 rfl
  have c2 := A.at 2 rfl
  have c3 := A.at 3 rfl
  have H := Lib.hid h
  clear h A
  go_enter Try.func66, Try.ntmps66
  go_wp2_with (go_at_call 63; refine (storeOf_any r k _ H.out hq hk).mono ?_; rintro e w' ⟨x, hx, rfl, hb⟩; have X := Lib.hid (And.intro hx hb); clear hx hb)
  go_ret
  exact ⟨_, X.out.1, rfl, X.out.2⟩

theorem sumLongOfRod_any {n b0 o0 k0 b1 o1 k1 b2 o2 k2 b3 o3 k3 : Nat} (r : RL) (q : Nat) (w : World) (A : Cells w q [.slice (some ⟨b0, o0, none⟩) n k0, .slice (some ⟨b1, o1, none⟩) n k1, .slice (some ⟨b2, o2, none⟩) n k2, .slice (some ⟨b3, o3, none⟩) n k3]) (h : Lay w n b0 o0 k0 b1 o1 k1 b2 o2 k2 b3 o3 k3 r) (hq : n ≤ 48) :
    Calls Try.prog 59 #[.agg #[.slice (some ⟨b0, o0, none⟩) n k0, .slice (some ⟨b1, o1, none⟩) n k1, .slice (some ⟨b2, o2, none⟩) n k2, .slice (some ⟨b3, o3, none⟩) n k3], .func (.func 60) #[] #[.pointer (some ⟨q, 0, none⟩)]] w (FlB (sumT (tW r) n) w) := by
  have TO := Lib.hid (fun k (hk : k < n) w1 (hb : Ext w w1) => toldLongOfRod_any r k q w1 (A.kept hb) (h.below hb) hq hk)
  have Su := Lib.hid (sumT_succ (tW r))
  have S0 : Hid (cn .f32 0 = sumT (tW r) 0) := Lib.hid rfl
  have Bw := Lib.hid (below_al1 w (.cells [Value.slice (some ⟨b0, o0, none⟩) n k0, .slice (some ⟨b1, o1, none⟩) n k1, .slice (some ⟨b2, o2, none⟩) n k2, .slice (some ⟨b3, o3, none⟩) n k3].toArray 27))
  clear A h
  generalize sumT (tW r) = S at *
  go_enter Try.func59, Try.ntmps59
  go_wp2
  go_loopw [5, 6, 10] (fun s _ i wr => ∃ k x : Nat, k ≤ n ∧ i = .int .i64 k ∧ s = .float .f32 x ∧ Hid (cn .f32 x = S k) ∧ Hid (Below w.heap.size w wr)) (fun _ _ i _ => n - (intOf i).toNat)
  case atStart => exact ⟨0, 0, Nat.zero_le _, rfl, rfl, S0, Bw⟩
  case round =>
    obtain ⟨k, x, hk, rfl, rfl, hx, hB⟩ := hrel
    by_cases hlt : k < n
    · have TOk := Lib.hid (TO.out k hlt)
      go_wp2_with (first | (refine wpList_farith rfl _ _ _ _ _ rfl rfl _ _ _ rfl rfl ?_; intro _ _ _) | (go_at_call 60; refine (TOk.out _ hB.out).mono ?_; rintro e w' ⟨y, hy, rfl, hb⟩; have Y := Lib.hid hy; have Bn := Lib.hid (below_step hB.out hb); clear hy hb))
      rename_i h1
      go_roundw
      case rel => exact ⟨k + 1, _, by omega, by go_num, rfl, Lib.hid (by rw [h1.1, hx.out, Y.out, Su.out]), Lib.hid (below_drewN Bn.out _)⟩
      case measure => simp [intOf]; omega
    · have e := Lib.hid (show k = n by omega)
      go_wp2
      go_ret
      have := e.out
      subst this
      exact ⟨_, hx.out, rfl, hB.out⟩

theorem sumHeatOfRod_any {n b0 o0 k0 b1 o1 k1 b2 o2 k2 b3 o3 k3 : Nat} (r : RL) (q : Nat) (w : World) (A : Cells w q [.slice (some ⟨b0, o0, none⟩) n k0, .slice (some ⟨b1, o1, none⟩) n k1, .slice (some ⟨b2, o2, none⟩) n k2, .slice (some ⟨b3, o3, none⟩) n k3]) (h : Lay w n b0 o0 k0 b1 o1 k1 b2 o2 k2 b3 o3 k3 r) (hq : n ≤ 48) :
    Calls Try.prog 59 #[.agg #[.slice (some ⟨b0, o0, none⟩) n k0, .slice (some ⟨b1, o1, none⟩) n k1, .slice (some ⟨b2, o2, none⟩) n k2, .slice (some ⟨b3, o3, none⟩) n k3], .func (.func 62) #[] #[.pointer (some ⟨q, 0, none⟩)]] w (FlB (sumT (tQ r) n) w) := by
  have TO := Lib.hid (fun k (hk : k < n) w1 (hb : Ext w w1) => toldHeatOfRod_any r k q w1 (A.kept hb) (h.below hb) hq hk)
  have Su := Lib.hid (sumT_succ (tQ r))
  have S0 : Hid (cn .f32 0 = sumT (tQ r) 0) := Lib.hid rfl
  have Bw := Lib.hid (below_al1 w (.cells [Value.slice (some ⟨b0, o0, none⟩) n k0, .slice (some ⟨b1, o1, none⟩) n k1, .slice (some ⟨b2, o2, none⟩) n k2, .slice (some ⟨b3, o3, none⟩) n k3].toArray 27))
  clear A h
  generalize sumT (tQ r) = S at *
  go_enter Try.func59, Try.ntmps59
  go_wp2
  go_loopw [5, 6, 10] (fun s _ i wr => ∃ k x : Nat, k ≤ n ∧ i = .int .i64 k ∧ s = .float .f32 x ∧ Hid (cn .f32 x = S k) ∧ Hid (Below w.heap.size w wr)) (fun _ _ i _ => n - (intOf i).toNat)
  case atStart => exact ⟨0, 0, Nat.zero_le _, rfl, rfl, S0, Bw⟩
  case round =>
    obtain ⟨k, x, hk, rfl, rfl, hx, hB⟩ := hrel
    by_cases hlt : k < n
    · have TOk := Lib.hid (TO.out k hlt)
      go_wp2_with (first | (refine wpList_farith rfl _ _ _ _ _ rfl rfl _ _ _ rfl rfl ?_; intro _ _ _) | (go_at_call 62; refine (TOk.out _ hB.out).mono ?_; rintro e w' ⟨y, hy, rfl, hb⟩; have Y := Lib.hid hy; have Bn := Lib.hid (below_step hB.out hb); clear hy hb))
      rename_i h1
      go_roundw
      case rel => exact ⟨k + 1, _, by omega, by go_num, rfl, Lib.hid (by rw [h1.1, hx.out, Y.out, Su.out]), Lib.hid (below_drewN Bn.out _)⟩
      case measure => simp [intOf]; omega
    · have e := Lib.hid (show k = n by omega)
      go_wp2
      go_ret
      have := e.out
      subst this
      exact ⟨_, hx.out, rfl, hB.out⟩

theorem sumHinderOf_any {n b0 o0 k0 b1 o1 k1 b2 o2 k2 b3 o3 k3 : Nat} (r : RL) (q : Nat) (w : World) (A : Cells w q [.slice (some ⟨b0, o0, none⟩) n k0, .slice (some ⟨b1, o1, none⟩) n k1, .slice (some ⟨b2, o2, none⟩) n k2, .slice (some ⟨b3, o3, none⟩) n k3]) (h : Lay w n b0 o0 k0 b1 o1 k1 b2 o2 k2 b3 o3 k3 r) (hq : n ≤ 48) :
    Calls Try.prog 59 #[.agg #[.slice (some ⟨b0, o0, none⟩) n k0, .slice (some ⟨b1, o1, none⟩) n k1, .slice (some ⟨b2, o2, none⟩) n k2, .slice (some ⟨b3, o3, none⟩) n k3], .func (.func 65) #[] #[.pointer (some ⟨q, 0, none⟩)]] w (FlB (sumT (tN r) n) w) := by
  have TO := Lib.hid (fun k (hk : k < n) w1 (hb : Ext w w1) => toldHinderOf_any r k q w1 (A.kept hb) (h.below hb) hq hk)
  have Su := Lib.hid (sumT_succ (tN r))
  have S0 : Hid (cn .f32 0 = sumT (tN r) 0) := Lib.hid rfl
  have Bw := Lib.hid (below_al1 w (.cells [Value.slice (some ⟨b0, o0, none⟩) n k0, .slice (some ⟨b1, o1, none⟩) n k1, .slice (some ⟨b2, o2, none⟩) n k2, .slice (some ⟨b3, o3, none⟩) n k3].toArray 27))
  clear A h
  generalize sumT (tN r) = S at *
  go_enter Try.func59, Try.ntmps59
  go_wp2
  go_loopw [5, 6, 10] (fun s _ i wr => ∃ k x : Nat, k ≤ n ∧ i = .int .i64 k ∧ s = .float .f32 x ∧ Hid (cn .f32 x = S k) ∧ Hid (Below w.heap.size w wr)) (fun _ _ i _ => n - (intOf i).toNat)
  case atStart => exact ⟨0, 0, Nat.zero_le _, rfl, rfl, S0, Bw⟩
  case round =>
    obtain ⟨k, x, hk, rfl, rfl, hx, hB⟩ := hrel
    by_cases hlt : k < n
    · have TOk := Lib.hid (TO.out k hlt)
      go_wp2_with (first | (refine wpList_farith rfl _ _ _ _ _ rfl rfl _ _ _ rfl rfl ?_; intro _ _ _) | (go_at_call 65; refine (TOk.out _ hB.out).mono ?_; rintro e w' ⟨y, hy, rfl, hb⟩; have Y := Lib.hid hy; have Bn := Lib.hid (below_step hB.out hb); clear hy hb))
      rename_i h1
      go_roundw
      case rel => exact ⟨k + 1, _, by omega, by go_num, rfl, Lib.hid (by rw [h1.1, hx.out, Y.out, Su.out]), Lib.hid (below_drewN Bn.out _)⟩
      case measure => simp [intOf]; omega
    · have e := Lib.hid (show k = n by omega)
      go_wp2
      go_ret
      have := e.out
      subst this
      exact ⟨_, hx.out, rfl, hB.out⟩

theorem sumMeanOfRod_any {n b0 o0 k0 b1 o1 k1 b2 o2 k2 b3 o3 k3 : Nat} (r : RL) (q : Nat) (w : World) (A : Cells w q [.slice (some ⟨b0, o0, none⟩) n k0, .slice (some ⟨b1, o1, none⟩) n k1, .slice (some ⟨b2, o2, none⟩) n k2, .slice (some ⟨b3, o3, none⟩) n k3]) (h : Lay w n b0 o0 k0 b1 o1 k1 b2 o2 k2 b3 o3 k3 r) (hq : n ≤ 48) :
    Calls Try.prog 59 #[.agg #[.slice (some ⟨b0, o0, none⟩) n k0, .slice (some ⟨b1, o1, none⟩) n k1, .slice (some ⟨b2, o2, none⟩) n k2, .slice (some ⟨b3, o3, none⟩) n k3], .func (.func 66) #[] #[.pointer (some ⟨q, 0, none⟩)]] w (FlB (sumT (tS r) n) w) := by
  have TO := Lib.hid (fun k (hk : k < n) w1 (hb : Ext w w1) => toldMeanOfRod_any r k q w1 (A.kept hb) (h.below hb) hq hk)
  have Su := Lib.hid (sumT_succ (tS r))
  have S0 : Hid (cn .f32 0 = sumT (tS r) 0) := Lib.hid rfl
  have Bw := Lib.hid (below_al1 w (.cells [Value.slice (some ⟨b0, o0, none⟩) n k0, .slice (some ⟨b1, o1, none⟩) n k1, .slice (some ⟨b2, o2, none⟩) n k2, .slice (some ⟨b3, o3, none⟩) n k3].toArray 27))
  clear A h
  generalize sumT (tS r) = S at *
  go_enter Try.func59, Try.ntmps59
  go_wp2
  go_loopw [5, 6, 10] (fun s _ i wr => ∃ k x : Nat, k ≤ n ∧ i = .int .i64 k ∧ s = .float .f32 x ∧ Hid (cn .f32 x = S k) ∧ Hid (Below w.heap.size w wr)) (fun _ _ i _ => n - (intOf i).toNat)
  case atStart => exact ⟨0, 0, Nat.zero_le _, rfl, rfl, S0, Bw⟩
  case round =>
    obtain ⟨k, x, hk, rfl, rfl, hx, hB⟩ := hrel
    by_cases hlt : k < n
    · have TOk := Lib.hid (TO.out k hlt)
      go_wp2_with (first | (refine wpList_farith rfl _ _ _ _ _ rfl rfl _ _ _ rfl rfl ?_; intro _ _ _) | (go_at_call 66; refine (TOk.out _ hB.out).mono ?_; rintro e w' ⟨y, hy, rfl, hb⟩; have Y := Lib.hid hy; have Bn := Lib.hid (below_step hB.out hb); clear hy hb))
      rename_i h1
      go_roundw
      case rel => exact ⟨k + 1, _, by omega, by go_num, rfl, Lib.hid (by rw [h1.1, hx.out, Y.out, Su.out]), Lib.hid (below_drewN Bn.out _)⟩
      case measure => simp [intOf]; omega
    · have e := Lib.hid (show k = n by omega)
      go_wp2
      go_ret
      have := e.out
      subst this
      exact ⟨_, hx.out, rfl, hB.out⟩

end Go.Proofs.Ytplepddciilbdaa
