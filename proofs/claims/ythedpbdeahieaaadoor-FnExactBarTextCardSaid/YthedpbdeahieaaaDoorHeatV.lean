/- How warm a stuff is at a heat, which part of it is molten, and how easily heat flows: both sides. -/
import Derived.Test.YthedpbdeahieaaaDoorStuff
import Derived.Test.YthedpbdeahieaaaDoorLooseB
namespace Go.Proofs.YthedpbdeahieaaaDoor
open Go.RowKit
set_option linter.unusedVariables false

theorem o32c (x c : Nat) : FloatKind.f32.format.order x c = none ∨ FloatKind.f32.format.order x c = some .lt ∨ FloatKind.f32.format.order x c = some .eq ∨ FloatKind.f32.format.order x c = some .gt := by
  cases FloatKind.f32.format.order x c with
  | none => exact .inl rfl
  | some o => cases o <;> simp
theorem cn32_zero : cn .f32 0 = 0 := by decide +kernel
theorem cn32_one : cn .f32 1065353216 = 1065353216 := by decide +kernel
theorem fopl (op : BinOp) (k : FloatKind) (x y : Nat) : fop op k (cn k x) y = fop op k x y := by
  unfold fop
  rw [← floatBits_cn op k (cn k x) y, cn_cn, floatBits_cn]
theorem fopr (op : BinOp) (k : FloatKind) (x y : Nat) : fop op k x (cn k y) = fop op k x y := by
  unfold fop
  rw [← floatBits_cn op k x (cn k y), cn_cn, floatBits_cn]

def hlt (h : Nat) : Bool := FloatKind.f32.format.order h 0 == some .lt
def hgt (h l : Nat) : Bool := FloatKind.f32.format.order h l == some .gt
def warmF (s : SF) (h : Nat) : Nat := if hlt h then fop .add .f32 s.pt (fop .quo .f32 h s.so) else if hgt h s.la then fop .add .f32 s.pt (fop .quo .f32 (fop .sub .f32 h s.la) s.fl) else cn .f32 s.pt
def partF (s : SF) (h : Nat) : Nat := if hlt h then 0 else if hgt h s.la then 1065353216 else fop .quo .f32 h s.la
def easeF (s : SF) (h : Nat) : Nat := fop .add .f32 s.es (fop .mul .f32 (partF s h) (fop .sub .f32 s.ef s.es))
theorem w1F {s : SF} {h r1 r2 : Nat} (H : hlt h = true) (f1 : FR .quo .f32 h s.so r1) (f2 : FR .add .f32 s.pt r1 r2) : cn .f32 r2 = warmF s h := by
  unfold warmF; rw [H, if_pos rfl, f2.1, f1.1]; simp only [fopl, fopr]
theorem w2F {s : SF} {h r1 r2 r3 : Nat} (H : hlt h = false) (G : hgt h s.la = true) (f1 : FR .sub .f32 h s.la r1) (f2 : FR .quo .f32 r1 s.fl r2) (f3 : FR .add .f32 s.pt r2 r3) : cn .f32 r3 = warmF s h := by
  unfold warmF; rw [H, G, if_neg (by decide), if_pos rfl, f3.1, f2.1, f1.1]; simp only [fopl, fopr]
theorem w3F {s : SF} {h : Nat} (H : hlt h = false) (G : hgt h s.la = false) : cn .f32 s.pt = warmF s h := by
  unfold warmF; rw [H, G, if_neg (by decide), if_neg (by decide)]
theorem p1F {s : SF} {h : Nat} (H : hlt h = true) : cn .f32 0 = partF s h := by
  unfold partF; rw [H, if_pos rfl]; exact cn32_zero
theorem p2F {s : SF} {h : Nat} (H : hlt h = false) (G : hgt h s.la = true) : cn .f32 1065353216 = partF s h := by
  unfold partF; rw [H, G, if_neg (by decide), if_pos rfl]; exact cn32_one
theorem p3F {s : SF} {h r1 : Nat} (H : hlt h = false) (G : hgt h s.la = false) (f1 : FR .quo .f32 h s.la r1) : cn .f32 r1 = partF s h := by
  unfold partF; rw [H, G, if_neg (by decide), if_neg (by decide), f1.1]; simp only [fopl, fopr]
theorem e1F {s : SF} {h v r1 r2 r3 : Nat} (hv : cn .f32 v = partF s h) (f1 : FR .sub .f32 s.ef s.es r1) (f2 : FR .mul .f32 v r1 r2) (f3 : FR .add .f32 s.es r2 r3) : cn .f32 r3 = easeF s h := by
  unfold easeF; rw [f3.1, f2.1, f1.1, hv]; simp only [fopl, fopr]

/-- a number up to a not-a-number's bits; the world is as it was but for questions -/
def Num (S : Nat) (w : World) (e : Ending) (w' : World) : Prop := ∃ r, cn .f32 r = S ∧ e = .returned (.float .f32 r) ∧ ∃ n, w' = w.drewN n

set_option maxHeartbeats 800000 in
theorem specWarmV_any (s : SF) (h b : Nat) (w : World) (A : Cells w b s.vs) : Calls Tryd.prog 104 #[.pointer (some ⟨b, 0, none⟩), .float .f32 h] w (Num (warmF s h) w) := by
  have c0 := A.at 0 rfl
  have c1 := A.at 1 rfl
  have c2 := A.at 2 rfl
  have c3 := A.at 3 rfl
  have c4 := A.at 4 rfl
  have c5 := A.at 5 rfl
  clear A
  rcases o32c h 0 with o1 | o1 | o1 | o1
  case inr.inl =>
    have H : hlt h = true := by unfold hlt; rw [o1]; rfl
    have H := Lib.hid H
    go_enter Tryd.func104, Tryd.ntmps104
    go_wp2
    refine wp_region_loose (fun _ _ _ => True) (by kernel_rfl) (by kernel_rfl) ?_
    repeat (first | (refine wpLoose_farith rfl _ _ _ _ _ rfl rfl _ _ _ rfl rfl ?_; intro _ _) | (refine wpLoose_valK rfl ?_ (fun w1 hw1 => ?_) (fun K hK => ?_); rotate_left; (focus (obtain ⟨nq, rfl⟩ := hw1; go_simp; first | done | rfl)); go_simp; refine hK _ ?_; clear hK K))
    (refine wpLoose_nil ?_; rintro _ ⟨nq, rfl⟩)
    go_wp2
    go_ret
    rename_i r1 f1 r2 f2
    exact ⟨_, w1F H.out f1 f2, rfl, _, rfl⟩
  all_goals
    have H : hlt h = false := by unfold hlt; rw [o1]; rfl
    have H := Lib.hid H
    rcases o32c h s.la with o2 | o2 | o2 | o2
    case inr.inr.inr =>
      have G : hgt h s.la = true := by unfold hgt; rw [o2]; rfl
      have G := Lib.hid G
      go_enter Tryd.func104, Tryd.ntmps104
      go_wp2
      refine wp_region_loose (fun _ _ _ => True) (by kernel_rfl) (by kernel_rfl) ?_
      repeat (first | (refine wpLoose_farith rfl _ _ _ _ _ rfl rfl _ _ _ rfl rfl ?_; intro _ _) | (refine wpLoose_valK rfl ?_ (fun w1 hw1 => ?_) (fun K hK => ?_); rotate_left; (focus (obtain ⟨nq, rfl⟩ := hw1; go_simp; first | done | rfl)); go_simp; refine hK _ ?_; clear hK K))
      (refine wpLoose_nil ?_; rintro _ ⟨nq, rfl⟩)
      go_wp2
      go_ret
      rename_i r1 f1 r2 f2 r3 f3
      exact ⟨_, w2F H.out G.out f1 f2 f3, rfl, _, rfl⟩
    all_goals
      have G : hgt h s.la = false := by unfold hgt; rw [o2]; rfl
      have G := Lib.hid G
      go_enter Tryd.func104, Tryd.ntmps104
      go_wp2
      go_ret
      exact ⟨_, w3F H.out G.out, rfl, 0, rfl⟩

set_option maxHeartbeats 800000 in
theorem litWarm_any (s : SF) (h q : Nat) (w : World) (A : Cells w q s.vs) : Calls Tryd.prog 125 #[.float .f32 h, .pointer (some ⟨q, 0, none⟩)] w (Num (warmF s h) w) := by
  have c0 := A.at 0 rfl
  have c1 := A.at 1 rfl
  have c2 := A.at 2 rfl
  have c3 := A.at 3 rfl
  have c4 := A.at 4 rfl
  have c5 := A.at 5 rfl
  clear A
  rcases o32c h 0 with o1 | o1 | o1 | o1
  case inr.inl =>
    have H : hlt h = true := by unfold hlt; rw [o1]; rfl
    have H := Lib.hid H
    go_enter Tryd.func125, Tryd.ntmps125
    go_wp2_with (refine wpList_farith rfl _ _ _ _ _ rfl rfl _ _ _ rfl rfl ?_; intro _ _ _)
    go_ret
    rename_i r1 j1 f1 r2 j2 f2
    exact ⟨_, w1F H.out f1 f2, rfl, _, rfl⟩
  all_goals
    have H : hlt h = false := by unfold hlt; rw [o1]; rfl
    have H := Lib.hid H
    rcases o32c h s.la with o2 | o2 | o2 | o2
    case inr.inr.inr =>
      have G : hgt h s.la = true := by unfold hgt; rw [o2]; rfl
      have G := Lib.hid G
      go_enter Tryd.func125, Tryd.ntmps125
      go_wp2_with (refine wpList_farith rfl _ _ _ _ _ rfl rfl _ _ _ rfl rfl ?_; intro _ _ _)
      go_ret
      rename_i r1 j1 f1 r2 j2 f2 r3 j3 f3
      exact ⟨_, w2F H.out G.out f1 f2 f3, rfl, _, rfl⟩
    all_goals
      have G : hgt h s.la = false := by unfold hgt; rw [o2]; rfl
      have G := Lib.hid G
      go_enter Tryd.func125, Tryd.ntmps125
      go_wp2_with (refine wpList_farith rfl _ _ _ _ _ rfl rfl _ _ _ rfl rfl ?_; intro _ _ _)
      go_ret
      exact ⟨_, w3F H.out G.out, rfl, 0, rfl⟩

end Go.Proofs.YthedpbdeahieaaaDoor
