/- The heat of a warmth: both sides; the law's walk. -/
import Derived.Test.YtgcgfnpkkhhkgabHeatV
import Derived.Test.YtgcgfnpkkhhkgabGiv2
namespace Go.Proofs.Ytgcgfnpkkhhkgab
open Go.RowKit
set_option linter.unusedVariables false

def share (p : Nat) : Bool := (FloatKind.f32.format.order p 0 == some .gt || FloatKind.f32.format.order p 0 == some .eq) && (FloatKind.f32.format.order p 1065353216 == some .lt || FloatKind.f32.format.order p 1065353216 == some .eq)
def wlt (h l : Nat) : Bool := FloatKind.f32.format.order h l == some .lt
def heatF (s : SF) (x p : Nat) : Nat := if wlt x s.pt then fop .mul .f32 s.so (fop .sub .f32 x s.pt) else if hgt x s.pt then fop .add .f32 s.la (fop .mul .f32 s.fl (fop .sub .f32 x s.pt)) else fop .mul .f32 p s.la
theorem h1F {s : SF} {x p r1 r2 : Nat} (H : wlt x s.pt = true) (f1 : FR .sub .f32 x s.pt r1) (f2 : FR .mul .f32 s.so r1 r2) : cn .f32 r2 = heatF s x p := by
  unfold heatF; rw [H, if_pos rfl, f2.1, f1.1]; simp only [fopl, fopr]
theorem h2F {s : SF} {x p r1 r2 r3 : Nat} (H : wlt x s.pt = false) (G : hgt x s.pt = true) (f1 : FR .sub .f32 x s.pt r1) (f2 : FR .mul .f32 s.fl r1 r2) (f3 : FR .add .f32 s.la r2 r3) : cn .f32 r3 = heatF s x p := by
  unfold heatF; rw [H, G, if_neg (by decide), if_pos rfl, f3.1, f2.1, f1.1]; simp only [fopl, fopr]
theorem h3F {s : SF} {x p r1 : Nat} (H : wlt x s.pt = false) (G : hgt x s.pt = false) (f1 : FR .mul .f32 p s.la r1) : cn .f32 r1 = heatF s x p := by
  unfold heatF; rw [H, G, if_neg (by decide), if_neg (by decide), f1.1]; simp only [fopl, fopr]
def forOk (s : SF) (x p : Nat) : Bool := vStuff s && fin .f32 x && share p
def forS (s : SF) (x p : Nat) : Nat := bif forOk s x p then ifF (heatF s x p) else 0
def forB (s : SF) (x p : Nat) : Bool := forOk s x p && fin .f32 (heatF s x p)
theorem GivF.no {s : SF} {x p : Nat} {w w' : World} (ht : forOk s x p = false) (hb : Below w.heap.size w w') : GivB (forS s x p) (forB s x p) w (.returned (.tuple #[.float .f32 0, .bool false])) w' := by
  unfold forS forB; rw [ht]; exact GivB.no hb
theorem GivF.num {s : SF} {x p r : Nat} {w w' : World} (ht : forOk s x p = true) (hx : cn .f32 r = heatF s x p) (hb : Below w.heap.size w w') : GivB (forS s x p) (forB s x p) w (.returned (.tuple #[.float .f32 (ifF r), .bool (fin .f32 r)])) w' := by
  unfold forS forB; rw [ht]; exact GivB.num hx hb
theorem forOk1 {s : SF} {x p : Nat} (a : vStuff s = false) : forOk s x p = false := by unfold forOk; rw [a]; rfl
theorem forOk2 {s : SF} {x p : Nat} (b : fin .f32 x = false) : forOk s x p = false := by unfold forOk; rw [b, Bool.and_false]; rfl
theorem forOk3 {s : SF} {x p : Nat} (c : share p = false) : forOk s x p = false := by unfold forOk; rw [c, Bool.and_false]
theorem forOk4 {s : SF} {x p : Nat} (a : vStuff s = true) (b : fin .f32 x = true) (c : share p = true) : forOk s x p = true := by unfold forOk; rw [a, b, c]; rfl
theorem specShare_any (p : Nat) (w : World) : Calls Try.prog 59 #[.float .f32 p] w fun e w1 => e = .returned (.bool (share p)) ∧ w = w1 := by
  have E := Lib.hid (show share p = ((FloatKind.f32.format.order p 0 == some .gt || FloatKind.f32.format.order p 0 == some .eq) && (FloatKind.f32.format.order p 1065353216 == some .lt || FloatKind.f32.format.order p 1065353216 == some .eq)) from rfl)
  rcases o32c p 0 with o1 | o1 | o1 | o1
  all_goals
    rcases o32c p 1065353216 with o2 | o2 | o2 | o2
    all_goals
      go_enter Try.func59, Try.ntmps59
      go_wp2
      go_ret
      refine ⟨ret_bb ?_, rfl⟩
      rw [E.out, o1, o2]
      rfl

set_option maxHeartbeats 800000 in
theorem specHeatV_any (s : SF) (x p b : Nat) (w : World) (A : Cells w b s.vs) : Calls Try.prog 60 #[.pointer (some ⟨b, 0, none⟩), .float .f32 x, .float .f32 p] w (Num (heatF s x p) w) := by
  have c0 := A.at 0 rfl
  have c1 := A.at 1 rfl
  have c2 := A.at 2 rfl
  have c3 := A.at 3 rfl
  have c4 := A.at 4 rfl
  have c5 := A.at 5 rfl
  clear A
  rcases o32c x s.pt with o1 | o1 | o1 | o1
  case inr.inl =>
    have H : wlt x s.pt = true := by unfold wlt; rw [o1]; rfl
    have H := Lib.hid H
    go_enter Try.func60, Try.ntmps60
    go_wp2
    refine wp_region_loose (fun _ _ _ => True) (by kernel_rfl) (by kernel_rfl) ?_
    repeat (first | (refine wpLoose_farith rfl _ _ _ _ _ rfl rfl _ _ _ rfl rfl ?_; intro _ _) | (refine wpLoose_valK rfl ?_ (fun w1 hw1 => ?_) (fun K hK => ?_); rotate_left; (focus (obtain ⟨nq, rfl⟩ := hw1; go_simp; first | done | rfl)); go_simp; refine hK _ ?_; clear hK K))
    (refine wpLoose_nil ?_; rintro _ ⟨nq, rfl⟩)
    go_wp2
    go_ret
    rename_i r1 f1 r2 f2
    exact ⟨_, h1F H.out f1 f2, rfl, _, rfl⟩
  case inr.inr.inr =>
    have H : wlt x s.pt = false := by unfold wlt; rw [o1]; rfl
    have G : hgt x s.pt = true := by unfold hgt; rw [o1]; rfl
    have H := Lib.hid H
    have G := Lib.hid G
    go_enter Try.func60, Try.ntmps60
    go_wp2
    refine wp_region_loose (fun _ _ _ => True) (by kernel_rfl) (by kernel_rfl) ?_
    repeat (first | (refine wpLoose_farith rfl _ _ _ _ _ rfl rfl _ _ _ rfl rfl ?_; intro _ _) | (refine wpLoose_valK rfl ?_ (fun w1 hw1 => ?_) (fun K hK => ?_); rotate_left; (focus (obtain ⟨nq, rfl⟩ := hw1; go_simp; first | done | rfl)); go_simp; refine hK _ ?_; clear hK K))
    (refine wpLoose_nil ?_; rintro _ ⟨nq, rfl⟩)
    go_wp2
    go_ret
    rename_i r1 f1 r2 f2 r3 f3
    exact ⟨_, h2F H.out G.out f1 f2 f3, rfl, _, rfl⟩
  all_goals
    have H : wlt x s.pt = false := by unfold wlt; rw [o1]; rfl
    have G : hgt x s.pt = false := by unfold hgt; rw [o1]; rfl
    have H := Lib.hid H
    have G := Lib.hid G
    go_enter Try.func60, Try.ntmps60
    go_wp2_with (refine wpList_farith rfl _ _ _ _ _ rfl rfl _ _ _ rfl rfl ?_; intro _ _ _)
    go_ret
    rename_i r1 j1 f1
    exact ⟨_, h3F H.out G.out f1, rfl, _, rfl⟩

set_option maxHeartbeats 1600000 in
theorem specHeatFor_any (s : SF) (x p : Nat) (w : World) : Calls Try.prog 23 #[.agg #[.float .f32 s.so, .float .f32 s.fl, .float .f32 s.es, .float .f32 s.ef, .float .f32 s.pt, .float .f32 s.la], .float .f32 x, .float .f32 p] w (GivB (forS s x p) (forB s x p) w) := by
  have A := Lib.hid (Cells.made w s.vs 26)
  have Bw := Lib.hid (below_al1 w (.cells #[.float .f32 s.so, .float .f32 s.fl, .float .f32 s.es, .float .f32 s.ef, .float .f32 s.pt, .float .f32 s.la] 26))
  cases S0 : vStuff s
  · have HS := Lib.hid S0
    clear S0
    go_enter Try.func23, Try.ntmps23
    go_wp2_with fail
    refine (specStuff_any s _ _ A.out).mono ?_
    rw [HS.out]
    rintro e w1 ⟨rfl, n1, rfl⟩
    go_wp2
    go_ret2
    exact GivF.no (forOk1 HS.out) (by repeat (first | exact Bw.out | exact Below.refl _ _ | refine Below.setCell ?_ (by first | exact Nat.le_refl _ | (simp; done) | (simp; omega) | omega) _ | refine below_drewN ?_ _ | refine Below.alloc ?_ (by first | exact Nat.le_refl _ | (simp; done) | (simp; omega) | omega) _))
  · cases F0 : fin .f32 x
    · have HS := Lib.hid S0
      have HF := Lib.hid F0
      clear S0 F0
      go_enter Try.func23, Try.ntmps23
      go_wp2_with fail
      refine (specStuff_any s _ _ A.out).mono ?_
      rw [HS.out]
      rintro e w1 ⟨rfl, n1, rfl⟩
      go_wp2_with fail
      refine (specFinite_any _ _).mono ?_
      rw [HF.out]
      rintro e w3 ⟨rfl, n2, rfl⟩
      go_wp2
      go_ret2
      exact GivF.no (forOk2 HF.out) (by repeat (first | exact Bw.out | exact Below.refl _ _ | refine Below.setCell ?_ (by first | exact Nat.le_refl _ | (simp; done) | (simp; omega) | omega) _ | refine below_drewN ?_ _ | refine Below.alloc ?_ (by first | exact Nat.le_refl _ | (simp; done) | (simp; omega) | omega) _))
    · cases P0 : share p
      · have HS := Lib.hid S0
        have HF := Lib.hid F0
        have HP := Lib.hid P0
        clear S0 F0 P0
        go_enter Try.func23, Try.ntmps23
        go_wp2_with fail
        refine (specStuff_any s _ _ A.out).mono ?_
        rw [HS.out]
        rintro e w1 ⟨rfl, n1, rfl⟩
        go_wp2_with fail
        refine (specFinite_any _ _).mono ?_
        rw [HF.out]
        rintro e w3 ⟨rfl, n2, rfl⟩
        go_wp2_with fail
        refine (specShare_any _ _).mono ?_
        rw [HP.out]
        rintro e w4 ⟨rfl, rfl⟩
        go_wp2
        go_ret2
        exact GivF.no (forOk3 HP.out) (by repeat (first | exact Bw.out | exact Below.refl _ _ | refine Below.setCell ?_ (by first | exact Nat.le_refl _ | (simp; done) | (simp; omega) | omega) _ | refine below_drewN ?_ _ | refine Below.alloc ?_ (by first | exact Nat.le_refl _ | (simp; done) | (simp; omega) | omega) _))
      · have HS := Lib.hid S0
        have HF := Lib.hid F0
        have HP := Lib.hid P0
        clear S0 F0 P0
        go_enter Try.func23, Try.ntmps23
        go_wp2_with fail
        refine (specStuff_any s _ _ A.out).mono ?_
        rw [HS.out]
        rintro e w1 ⟨rfl, n1, rfl⟩
        go_wp2_with fail
        refine (specFinite_any _ _).mono ?_
        rw [HF.out]
        rintro e w3 ⟨rfl, n2, rfl⟩
        go_wp2_with fail
        refine (specShare_any _ _).mono ?_
        rw [HP.out]
        rintro e w4 ⟨rfl, rfl⟩
        go_wp2_with fail
        refine (specHeatV_any s x p _ _ A.out.drewN).mono ?_
        rintro e w5 ⟨r, hr, rfl, n3, rfl⟩
        have HR := Lib.hid hr
        clear hr
        go_wp2_with fail
        refine (specNum_any _ _).mono ?_
        rintro e w6 ⟨rfl, n4, rfl⟩
        go_wp2
        go_ret2
        exact GivF.num (forOk4 HS.out HF.out HP.out) HR.out (by repeat (first | exact Bw.out | exact Below.refl _ _ | refine Below.setCell ?_ (by first | exact Nat.le_refl _ | (simp; done) | (simp; omega) | omega) _ | refine below_drewN ?_ _ | refine Below.alloc ?_ (by first | exact Nat.le_refl _ | (simp; done) | (simp; omega) | omega) _))

set_option maxHeartbeats 1600000 in
theorem implHeatFor_any (s : SF) (x p : Nat) (w : World) : Calls Try.prog 24 #[.agg #[.float .f32 s.so, .float .f32 s.fl, .float .f32 s.es, .float .f32 s.ef, .float .f32 s.pt, .float .f32 s.la], .float .f32 x, .float .f32 p] w (GivB (forS s x p) (forB s x p) w) := by
  have A := Lib.hid (Cells.made w s.vs 26)
  have Bw := Lib.hid (below_al1 w (.cells #[.float .f32 s.so, .float .f32 s.fl, .float .f32 s.es, .float .f32 s.ef, .float .f32 s.pt, .float .f32 s.la] 26))
  cases S0 : vStuff s
  · have HS := Lib.hid S0
    clear S0
    go_enter Try.func24, Try.ntmps24
    go_wp2_with fail
    refine (implVStuff_any s _).mono ?_
    rw [HS.out]
    rintro e w2 ⟨rfl, hb⟩
    (first | (have Bw := Lib.hid (below_step Bw.out hb)) | (have Bw := Lib.hid (below_step Bw.out (below_undrew hb))) | (have Bw := Lib.hid (below_step Bw.out (below_unal hb))) | (have Bw := Lib.hid (below_step Bw.out (below_unal (below_undrew hb)))) | (have Bw := Lib.hid (below_step Bw.out (below_undrew (below_unal hb)))) | (have Bw := Lib.hid (below_step Bw.out (below_unal (below_unal hb)))))
    (first | (have A := Lib.hid (A.out.kept hb)) | (have A := Lib.hid (A.out.kept (below_undrew hb))) | (have A := Lib.hid (A.out.kept (below_unal hb))) | (have A := Lib.hid (A.out.kept (below_unal (below_undrew hb)))) | (have A := Lib.hid (A.out.kept (below_undrew (below_unal hb)))) | (have A := Lib.hid (A.out.kept (below_unal (below_unal hb)))))
    have hz := Bw.out.size
    clear hb
    go_wp2
    go_ret2
    exact GivF.no (forOk1 HS.out) (by repeat (first | exact Bw.out | exact Below.refl _ _ | refine Below.setCell ?_ (by first | exact Nat.le_refl _ | (simp; done) | (simp; omega) | omega) _ | refine below_drewN ?_ _ | refine Below.alloc ?_ (by first | exact Nat.le_refl _ | (simp; done) | (simp; omega) | omega) _))
  · cases F0 : fin .f32 x
    · have HS := Lib.hid S0
      have HF := Lib.hid F0
      clear S0 F0
      go_enter Try.func24, Try.ntmps24
      go_wp2_with fail
      refine (implVStuff_any s _).mono ?_
      rw [HS.out]
      rintro e w2 ⟨rfl, hb⟩
      (first | (have Bw := Lib.hid (below_step Bw.out hb)) | (have Bw := Lib.hid (below_step Bw.out (below_undrew hb))) | (have Bw := Lib.hid (below_step Bw.out (below_unal hb))) | (have Bw := Lib.hid (below_step Bw.out (below_unal (below_undrew hb)))) | (have Bw := Lib.hid (below_step Bw.out (below_undrew (below_unal hb)))) | (have Bw := Lib.hid (below_step Bw.out (below_unal (below_unal hb)))))
      (first | (have A := Lib.hid (A.out.kept hb)) | (have A := Lib.hid (A.out.kept (below_undrew hb))) | (have A := Lib.hid (A.out.kept (below_unal hb))) | (have A := Lib.hid (A.out.kept (below_unal (below_undrew hb)))) | (have A := Lib.hid (A.out.kept (below_undrew (below_unal hb)))) | (have A := Lib.hid (A.out.kept (below_unal (below_unal hb)))))
      have hz := Bw.out.size
      clear hb
      go_wp2_with fail
      refine (implFinite_any _ _).mono ?_
      rw [HF.out]
      rintro e w3 ⟨rfl, n2, rfl⟩
      go_wp2
      go_ret2
      exact GivF.no (forOk2 HF.out) (by repeat (first | exact Bw.out | exact Below.refl _ _ | refine Below.setCell ?_ (by first | exact Nat.le_refl _ | (simp; done) | (simp; omega) | omega) _ | refine below_drewN ?_ _ | refine Below.alloc ?_ (by first | exact Nat.le_refl _ | (simp; done) | (simp; omega) | omega) _))
    · cases P0 : share p
      · have HS := Lib.hid S0
        have HF := Lib.hid F0
        have HP := Lib.hid P0
        clear S0 F0
        rcases o32c p 0 with p1 | p1 | p1 | p1
        all_goals
          rcases o32c p 1065353216 with p2 | p2 | p2 | p2
          all_goals
            unfold share at P0
            rw [p1, p2] at P0
            first
            | (exfalso; revert P0; decide)
            | skip
        all_goals
          clear P0
          go_enter Try.func24, Try.ntmps24
          go_wp2_with fail
          refine (implVStuff_any s _).mono ?_
          rw [HS.out]
          rintro e w2 ⟨rfl, hb⟩
          (first | (have Bw := Lib.hid (below_step Bw.out hb)) | (have Bw := Lib.hid (below_step Bw.out (below_undrew hb))) | (have Bw := Lib.hid (below_step Bw.out (below_unal hb))) | (have Bw := Lib.hid (below_step Bw.out (below_unal (below_undrew hb)))) | (have Bw := Lib.hid (below_step Bw.out (below_undrew (below_unal hb)))) | (have Bw := Lib.hid (below_step Bw.out (below_unal (below_unal hb)))))
          (first | (have A := Lib.hid (A.out.kept hb)) | (have A := Lib.hid (A.out.kept (below_undrew hb))) | (have A := Lib.hid (A.out.kept (below_unal hb))) | (have A := Lib.hid (A.out.kept (below_unal (below_undrew hb)))) | (have A := Lib.hid (A.out.kept (below_undrew (below_unal hb)))) | (have A := Lib.hid (A.out.kept (below_unal (below_unal hb)))))
          have hz := Bw.out.size
          clear hb
          go_wp2_with fail
          refine (implFinite_any _ _).mono ?_
          rw [HF.out]
          rintro e w3 ⟨rfl, n2, rfl⟩
          go_wp2
          go_ret2
          exact GivF.no (forOk3 HP.out) (by repeat (first | exact Bw.out | exact Below.refl _ _ | refine Below.setCell ?_ (by first | exact Nat.le_refl _ | (simp; done) | (simp; omega) | omega) _ | refine below_drewN ?_ _ | refine Below.alloc ?_ (by first | exact Nat.le_refl _ | (simp; done) | (simp; omega) | omega) _))
      · have HS := Lib.hid S0
        have HF := Lib.hid F0
        have HP := Lib.hid P0
        clear S0 F0
        rcases o32c p 0 with p1 | p1 | p1 | p1
        all_goals
          rcases o32c p 1065353216 with p2 | p2 | p2 | p2
          all_goals
            unfold share at P0
            rw [p1, p2] at P0
            first
            | (exfalso; revert P0; decide)
            | skip
        all_goals
          clear P0
          rcases o32c x s.pt with o1 | o1 | o1 | o1
          case inr.inl =>
            have H : wlt x s.pt = true := by unfold wlt; rw [o1]; rfl
            have H := Lib.hid H
            go_enter Try.func24, Try.ntmps24
            go_wp2_with fail
            refine (implVStuff_any s _).mono ?_
            rw [HS.out]
            rintro e w2 ⟨rfl, hb⟩
            (first | (have Bw := Lib.hid (below_step Bw.out hb)) | (have Bw := Lib.hid (below_step Bw.out (below_undrew hb))) | (have Bw := Lib.hid (below_step Bw.out (below_unal hb))) | (have Bw := Lib.hid (below_step Bw.out (below_unal (below_undrew hb)))) | (have Bw := Lib.hid (below_step Bw.out (below_undrew (below_unal hb)))) | (have Bw := Lib.hid (below_step Bw.out (below_unal (below_unal hb)))))
            (first | (have A := Lib.hid (A.out.kept hb)) | (have A := Lib.hid (A.out.kept (below_undrew hb))) | (have A := Lib.hid (A.out.kept (below_unal hb))) | (have A := Lib.hid (A.out.kept (below_unal (below_undrew hb)))) | (have A := Lib.hid (A.out.kept (below_undrew (below_unal hb)))) | (have A := Lib.hid (A.out.kept (below_unal (below_unal hb)))))
            have hz := Bw.out.size
            clear hb
            have c0 := A.out.at 0 rfl; have c1 := A.out.at 1 rfl; have c2 := A.out.at 2 rfl; have c3 := A.out.at 3 rfl; have c4 := A.out.at 4 rfl; have c5 := A.out.at 5 rfl
            go_wp2_with fail
            refine (implFinite_any _ _).mono ?_
            rw [HF.out]
            rintro e w3 ⟨rfl, n2, rfl⟩
            go_wp2_with (first | (refine wpList_farith rfl _ _ _ _ _ rfl rfl _ _ _ rfl rfl ?_; intro _ _ _) | (go_at_call 63; refine (implNum_any _ _).mono ?_; rintro e w6 ⟨rfl, n4, rfl⟩))
            go_ret2
            rename_i r1 j1 f1 r2 j2 f2
            exact GivF.num (forOk4 HS.out HF.out HP.out) (h1F H.out f1 f2) (by repeat (first | exact Bw.out | exact Below.refl _ _ | refine Below.setCell ?_ (by first | exact Nat.le_refl _ | (simp; done) | (simp; omega) | omega) _ | refine below_drewN ?_ _ | refine Below.alloc ?_ (by first | exact Nat.le_refl _ | (simp; done) | (simp; omega) | omega) _))
          case inr.inr.inr =>
            have H : wlt x s.pt = false := by unfold wlt; rw [o1]; rfl
            have G : hgt x s.pt = true := by unfold hgt; rw [o1]; rfl
            have H := Lib.hid H
            have G := Lib.hid G
            go_enter Try.func24, Try.ntmps24
            go_wp2_with fail
            refine (implVStuff_any s _).mono ?_
            rw [HS.out]
            rintro e w2 ⟨rfl, hb⟩
            (first | (have Bw := Lib.hid (below_step Bw.out hb)) | (have Bw := Lib.hid (below_step Bw.out (below_undrew hb))) | (have Bw := Lib.hid (below_step Bw.out (below_unal hb))) | (have Bw := Lib.hid (below_step Bw.out (below_unal (below_undrew hb)))) | (have Bw := Lib.hid (below_step Bw.out (below_undrew (below_unal hb)))) | (have Bw := Lib.hid (below_step Bw.out (below_unal (below_unal hb)))))
            (first | (have A := Lib.hid (A.out.kept hb)) | (have A := Lib.hid (A.out.kept (below_undrew hb))) | (have A := Lib.hid (A.out.kept (below_unal hb))) | (have A := Lib.hid (A.out.kept (below_unal (below_undrew hb)))) | (have A := Lib.hid (A.out.kept (below_undrew (below_unal hb)))) | (have A := Lib.hid (A.out.kept (below_unal (below_unal hb)))))
            have hz := Bw.out.size
            clear hb
            have c0 := A.out.at 0 rfl; have c1 := A.out.at 1 rfl; have c2 := A.out.at 2 rfl; have c3 := A.out.at 3 rfl; have c4 := A.out.at 4 rfl; have c5 := A.out.at 5 rfl
            go_wp2_with fail
            refine (implFinite_any _ _).mono ?_
            rw [HF.out]
            rintro e w3 ⟨rfl, n2, rfl⟩
            go_wp2_with (first | (refine wpList_farith rfl _ _ _ _ _ rfl rfl _ _ _ rfl rfl ?_; intro _ _ _) | (go_at_call 63; refine (implNum_any _ _).mono ?_; rintro e w6 ⟨rfl, n4, rfl⟩))
            go_ret2
            rename_i r1 j1 f1 r2 j2 f2 r3 j3 f3
            exact GivF.num (forOk4 HS.out HF.out HP.out) (h2F H.out G.out f1 f2 f3) (by repeat (first | exact Bw.out | exact Below.refl _ _ | refine Below.setCell ?_ (by first | exact Nat.le_refl _ | (simp; done) | (simp; omega) | omega) _ | refine below_drewN ?_ _ | refine Below.alloc ?_ (by first | exact Nat.le_refl _ | (simp; done) | (simp; omega) | omega) _))
          all_goals
            have H : wlt x s.pt = false := by unfold wlt; rw [o1]; rfl
            have G : hgt x s.pt = false := by unfold hgt; rw [o1]; rfl
            have H := Lib.hid H
            have G := Lib.hid G
            go_enter Try.func24, Try.ntmps24
            go_wp2_with fail
            refine (implVStuff_any s _).mono ?_
            rw [HS.out]
            rintro e w2 ⟨rfl, hb⟩
            (first | (have Bw := Lib.hid (below_step Bw.out hb)) | (have Bw := Lib.hid (below_step Bw.out (below_undrew hb))) | (have Bw := Lib.hid (below_step Bw.out (below_unal hb))) | (have Bw := Lib.hid (below_step Bw.out (below_unal (below_undrew hb)))) | (have Bw := Lib.hid (below_step Bw.out (below_undrew (below_unal hb)))) | (have Bw := Lib.hid (below_step Bw.out (below_unal (below_unal hb)))))
            (first | (have A := Lib.hid (A.out.kept hb)) | (have A := Lib.hid (A.out.kept (below_undrew hb))) | (have A := Lib.hid (A.out.kept (below_unal hb))) | (have A := Lib.hid (A.out.kept (below_unal (below_undrew hb)))) | (have A := Lib.hid (A.out.kept (below_undrew (below_unal hb)))) | (have A := Lib.hid (A.out.kept (below_unal (below_unal hb)))))
            have hz := Bw.out.size
            clear hb
            have c0 := A.out.at 0 rfl; have c1 := A.out.at 1 rfl; have c2 := A.out.at 2 rfl; have c3 := A.out.at 3 rfl; have c4 := A.out.at 4 rfl; have c5 := A.out.at 5 rfl
            go_wp2_with fail
            refine (implFinite_any _ _).mono ?_
            rw [HF.out]
            rintro e w3 ⟨rfl, n2, rfl⟩
            go_wp2_with (first | (refine wpList_farith rfl _ _ _ _ _ rfl rfl _ _ _ rfl rfl ?_; intro _ _ _) | (go_at_call 63; refine (implNum_any _ _).mono ?_; rintro e w6 ⟨rfl, n4, rfl⟩))
            go_ret2
            rename_i r1 j1 f1
            exact GivF.num (forOk4 HS.out HF.out HP.out) (h3F H.out G.out f1) (by repeat (first | exact Bw.out | exact Below.refl _ _ | refine Below.setCell ?_ (by first | exact Nat.le_refl _ | (simp; done) | (simp; omega) | omega) _ | refine below_drewN ?_ _ | refine Below.alloc ?_ (by first | exact Nat.le_refl _ | (simp; done) | (simp; omega) | omega) _))

set_option maxRecDepth 20000 in
theorem fnExactHeatFor_walk (s : SF) (x p : Nat) (w : World) (_ : s.wf) (_ : (Lit.float .f32 x).wf = true) (_ : (Lit.float .f32 p).wf = true) : Calls Try.prog 6 #[.agg #[.float .f32 s.so, .float .f32 s.fl, .float .f32 s.es, .float .f32 s.ef, .float .f32 s.pt, .float .f32 s.la], .float .f32 x, .float .f32 p] w (Tru w) := by
  have A := Lib.hid (Cells.made w s.vs 24)
  have Bw := Lib.hid (below_al1 w (.cells #[.float .f32 s.so, .float .f32 s.fl, .float .f32 s.es, .float .f32 s.ef, .float .f32 s.pt, .float .f32 s.la] 24))
  go_enter Try.func6, Try.ntmps6
  go_wp2_with fail
  refine (toStuff_any s _).mono ?_
  rintro e w1 ⟨rfl, hb⟩
  (first | (have Bw := Lib.hid (below_step Bw.out hb)) | (have Bw := Lib.hid (below_step Bw.out (below_undrew hb))) | (have Bw := Lib.hid (below_step Bw.out (below_unal hb))) | (have Bw := Lib.hid (below_step Bw.out (below_unal (below_undrew hb)))) | (have Bw := Lib.hid (below_step Bw.out (below_undrew (below_unal hb)))) | (have Bw := Lib.hid (below_step Bw.out (below_unal (below_unal hb)))))
  (first | (have A := Lib.hid (A.out.kept hb)) | (have A := Lib.hid (A.out.kept (below_undrew hb))) | (have A := Lib.hid (A.out.kept (below_unal hb))) | (have A := Lib.hid (A.out.kept (below_unal (below_undrew hb)))) | (have A := Lib.hid (A.out.kept (below_undrew (below_unal hb)))) | (have A := Lib.hid (A.out.kept (below_unal (below_unal hb)))))
  have c0 := A.out.at 0 rfl; have c1 := A.out.at 1 rfl; have c2 := A.out.at 2 rfl; have c3 := A.out.at 3 rfl; have c4 := A.out.at 4 rfl; have c5 := A.out.at 5 rfl
  clear hb
  go_wp2_with fail
  refine (specHeatFor_any s x p _).mono ?_
  rintro _ w2 ⟨r1, hr1, rfl, hb⟩
  have R1 := Lib.hid hr1
  (first | (have Bw := Lib.hid (below_step Bw.out hb)) | (have Bw := Lib.hid (below_step Bw.out (below_undrew hb))) | (have Bw := Lib.hid (below_step Bw.out (below_unal hb))) | (have Bw := Lib.hid (below_step Bw.out (below_unal (below_undrew hb)))) | (have Bw := Lib.hid (below_step Bw.out (below_undrew (below_unal hb)))) | (have Bw := Lib.hid (below_step Bw.out (below_unal (below_unal hb)))))
  (first | (have A := Lib.hid (A.out.kept hb)) | (have A := Lib.hid (A.out.kept (below_undrew hb))) | (have A := Lib.hid (A.out.kept (below_unal hb))) | (have A := Lib.hid (A.out.kept (below_unal (below_undrew hb)))) | (have A := Lib.hid (A.out.kept (below_undrew (below_unal hb)))) | (have A := Lib.hid (A.out.kept (below_unal (below_unal hb)))))
  clear c0 c1 c2 c3 c4 c5
  have c0 := A.out.at 0 rfl; have c1 := A.out.at 1 rfl; have c2 := A.out.at 2 rfl; have c3 := A.out.at 3 rfl; have c4 := A.out.at 4 rfl; have c5 := A.out.at 5 rfl
  clear hb hr1
  go_wp2_with fail
  refine (toStuff_any s _).mono ?_
  rintro e w1 ⟨rfl, hb⟩
  (first | (have Bw := Lib.hid (below_step Bw.out hb)) | (have Bw := Lib.hid (below_step Bw.out (below_undrew hb))) | (have Bw := Lib.hid (below_step Bw.out (below_unal hb))) | (have Bw := Lib.hid (below_step Bw.out (below_unal (below_undrew hb)))) | (have Bw := Lib.hid (below_step Bw.out (below_undrew (below_unal hb)))) | (have Bw := Lib.hid (below_step Bw.out (below_unal (below_unal hb)))))
  (first | (have A := Lib.hid (A.out.kept hb)) | (have A := Lib.hid (A.out.kept (below_undrew hb))) | (have A := Lib.hid (A.out.kept (below_unal hb))) | (have A := Lib.hid (A.out.kept (below_unal (below_undrew hb)))) | (have A := Lib.hid (A.out.kept (below_undrew (below_unal hb)))) | (have A := Lib.hid (A.out.kept (below_unal (below_unal hb)))))
  have c0 := A.out.at 0 rfl; have c1 := A.out.at 1 rfl; have c2 := A.out.at 2 rfl; have c3 := A.out.at 3 rfl; have c4 := A.out.at 4 rfl; have c5 := A.out.at 5 rfl
  clear hb
  go_wp2_with fail
  refine (implHeatFor_any s x p _).mono ?_
  rintro _ w4 ⟨r2, hr2, rfl, hb⟩
  have R2 := Lib.hid hr2
  (first | (have Bw := Lib.hid (below_step Bw.out hb)) | (have Bw := Lib.hid (below_step Bw.out (below_undrew hb))) | (have Bw := Lib.hid (below_step Bw.out (below_unal hb))) | (have Bw := Lib.hid (below_step Bw.out (below_unal (below_undrew hb)))) | (have Bw := Lib.hid (below_step Bw.out (below_undrew (below_unal hb)))) | (have Bw := Lib.hid (below_step Bw.out (below_unal (below_unal hb)))))
  clear hb hr2
  go_wp2_with (first | (refine wpList_up rfl Try.underlying22 Try.underlying32 _ rfl _ rfl ?_; intro _ _ _) | (go_at_call 20; refine (same_end (a := r2) (b := r1) _ (by assumption) (by assumption) (R2.out.trans R1.out.symm)).mono ?_; rintro e w' ⟨rfl, n, rfl⟩))
  go_ret
  exact Tru.below (below_drewN Bw.out _)

end Go.Proofs.Ytgcgfnpkkhhkgab
