/- How long a rod is, its heat, how much it hinders heat: what the specification and the program hand back. -/
import Derived.Test.YtplepddciilbdaaSumsS
namespace Go.Proofs.Ytplepddciilbdaa
open Go.RowKit
set_option linter.unusedVariables false

def gS (f : RL → Nat → Nat) (r : RL) : Nat := if vRod r then ifF (sumT (f r) r.W.length) else 0
def gB (f : RL → Nat → Nat) (r : RL) : Bool := vRod r && fin .f32 (sumT (f r) r.W.length)
theorem giv_no {f : RL → Nat → Nat} {r : RL} {w w' : World} (hv : vRod r = false) (hb : Below w.heap.size w w') : GivB (gS f r) (gB f r) w (.returned (.tuple #[.float .f32 0, .bool false])) w' :=
  ⟨0, by simp [gS, hv]; rfl, by simp [gB, hv], hb⟩
theorem giv_yes {f : RL → Nat → Nat} {r : RL} {x : Nat} {w w' : World} (hv : vRod r = true) (hx : cn .f32 x = sumT (f r) r.W.length) (hb : Below w.heap.size w w') : GivB (gS f r) (gB f r) w (.returned (.tuple #[.float .f32 (ifF x), .bool (fin .f32 x)])) w' := by
  have := GivB.num (w := w) hx hb
  simpa [gS, gB, hv] using this

theorem specLongOfRod_any (a b c d : Value) (r : RL) (w : World) (h : RRow w a b c d r) : Calls Try.prog 27 #[.agg #[a, b, c, d]] w (GivB (gS tW r) (gB tW r) w) := by
  have IS := Lib.hid (specIs_any a b c d r _ _ (Cells.made w [a, b, c, d] 27) (h.below (below_al1 _ _)))
  cases hv : vRod r
  · rw [hv] at IS
    clear h
    go_enter Try.func27, Try.ntmps27
    go_wp2_with (go_at_call 45; refine IS.out.mono ?_; rintro e w' ⟨rfl, n, rfl⟩)
    go_ret2
    exact giv_no hv (below_drewN (below_al1 _ _) _)
  · rw [hv] at IS
    obtain ⟨b0, o0, k0, b1, o1, k1, b2, o2, k2, b3, o3, k3, rfl, rfl, rfl, rfl, hL⟩ := h.lay (Len.ofV hv)
    have G := Lib.hid (Len.ofV hv).q
    have E1 : Hid (∀ {x : Nat} {w' : World}, cn .f32 x = sumT (tW r) r.W.length → Below w.heap.size w w' → GivB (gS tW r) (gB tW r) w (.returned (.tuple #[.float .f32 (ifF x), .bool (fin .f32 x)])) w') := Lib.hid (fun hx hb => giv_yes hv hx hb)
    clear h
    have LY := Lib.hid hL
    clear hL
    generalize r.W.length = n at *
    generalize gS tW r = GS at *
    generalize gB tW r = GB at *
    go_enter Try.func27, Try.ntmps27
    go_wp2_with (first | (go_at_call 45; refine IS.out.mono ?_; rintro e w' ⟨rfl, n1, rfl⟩) | (go_at_call 57; refine (specSumW_any r _ (LY.out.below (below_drewN (below_al1 _ _) _)) G.out).mono ?_; rintro e w' ⟨x, hx, rfl, n2, rfl⟩; have X := Lib.hid hx; clear hx) | (go_at_call 56; refine (specNum_any _ _).mono ?_; rintro e w' ⟨rfl, n3, rfl⟩))
    go_ret2
    exact E1.out X.out (by first | exact below_drewN (below_al1 _ _) _ | exact below_drewN (below_drewN (below_al1 _ _) _) _)

set_option maxHeartbeats 400000 in
theorem implLongOfRod_any (a b c d : Value) (r : RL) (w : World) (h : RRow w a b c d r) : Calls Try.prog 28 #[.agg #[a, b, c, d]] w (GivB (gS tW r) (gB tW r) w) := by
  have IV := Lib.hid (implValid_any a b c d r _ (h.below (below_al1 w (.cells [a, b, c, d].toArray 27))))
  cases hv : vRod r
  · rw [hv] at IV
    clear h
    go_enter Try.func28, Try.ntmps28
    go_wp2_with (go_at_call 18; refine IV.out.mono ?_; rintro e w' ⟨rfl, hb⟩; have B1 := Lib.hid hb; clear hb)
    go_ret2
    exact giv_no hv (below_step (below_al1 _ _) B1.out)
  · rw [hv] at IV
    obtain ⟨b0, o0, k0, b1, o1, k1, b2, o2, k2, b3, o3, k3, rfl, rfl, rfl, rfl, hL⟩ := h.lay (Len.ofV hv)
    have G := Lib.hid (Len.ofV hv).q
    have E1 : Hid (∀ {x : Nat} {w' : World}, cn .f32 x = sumT (tW r) r.W.length → Below w.heap.size w w' → GivB (gS tW r) (gB tW r) w (.returned (.tuple #[.float .f32 (ifF x), .bool (fin .f32 x)])) w') := Lib.hid (fun hx hb => giv_yes hv hx hb)
    clear h
    generalize r.W.length = n at *
    generalize gS tW r = GS at *
    generalize gB tW r = GB at *
    have LY := Lib.hid (hL.below (below_al1 w (.cells [Value.slice (some ⟨b0, o0, none⟩) n k0, .slice (some ⟨b1, o1, none⟩) n k1, .slice (some ⟨b2, o2, none⟩) n k2, .slice (some ⟨b3, o3, none⟩) n k3].toArray 27)))
    clear hL
    have A := Lib.hid (Cells.made w [.slice (some ⟨b0, o0, none⟩) n k0, .slice (some ⟨b1, o1, none⟩) n k1, .slice (some ⟨b2, o2, none⟩) n k2, .slice (some ⟨b3, o3, none⟩) n k3] 27)
    have Bw := Lib.hid (below_al1 w (.cells [Value.slice (some ⟨b0, o0, none⟩) n k0, .slice (some ⟨b1, o1, none⟩) n k1, .slice (some ⟨b2, o2, none⟩) n k2, .slice (some ⟨b3, o3, none⟩) n k3].toArray 27))
    go_enter Try.func28, Try.ntmps28
    go_wp2_with (first
      | (go_at_call 18; refine IV.out.mono ?_; rintro e w' ⟨rfl, hb⟩; have Bw := Lib.hid (below_step Bw.out hb); have A := Lib.hid (A.out.kept hb); have LY := Lib.hid (LY.out.below hb); have c0 := A.out.at 0 rfl; have c1 := A.out.at 1 rfl; have c2 := A.out.at 2 rfl; have c3 := A.out.at 3 rfl; clear hb)
      | (go_at_call 59; refine (sumLongOfRod_any r _ _ A.out LY.out G.out).mono ?_; rintro e w' ⟨x, hx, rfl, hb⟩; have X := Lib.hid hx; have Bw := Lib.hid (below_step Bw.out hb); clear hx hb)
      | (go_at_call 58; refine (implNum_any _ _).mono ?_; rintro e w' ⟨rfl, n3, rfl⟩))
    go_ret2
    exact E1.out X.out (below_drewN Bw.out _)

theorem specHeatOfRod_any (a b c d : Value) (r : RL) (w : World) (h : RRow w a b c d r) : Calls Try.prog 30 #[.agg #[a, b, c, d]] w (GivB (gS tQ r) (gB tQ r) w) := by
  have IS := Lib.hid (specIs_any a b c d r _ _ (Cells.made w [a, b, c, d] 27) (h.below (below_al1 _ _)))
  cases hv : vRod r
  · rw [hv] at IS
    clear h
    go_enter Try.func30, Try.ntmps30
    go_wp2_with (go_at_call 45; refine IS.out.mono ?_; rintro e w' ⟨rfl, n, rfl⟩)
    go_ret2
    exact giv_no hv (below_drewN (below_al1 _ _) _)
  · rw [hv] at IS
    obtain ⟨b0, o0, k0, b1, o1, k1, b2, o2, k2, b3, o3, k3, rfl, rfl, rfl, rfl, hL⟩ := h.lay (Len.ofV hv)
    have G := Lib.hid (Len.ofV hv).q
    have E1 : Hid (∀ {x : Nat} {w' : World}, cn .f32 x = sumT (tQ r) r.W.length → Below w.heap.size w w' → GivB (gS tQ r) (gB tQ r) w (.returned (.tuple #[.float .f32 (ifF x), .bool (fin .f32 x)])) w') := Lib.hid (fun hx hb => giv_yes hv hx hb)
    clear h
    have LY := Lib.hid hL
    clear hL
    generalize r.W.length = n at *
    generalize gS tQ r = GS at *
    generalize gB tQ r = GB at *
    go_enter Try.func30, Try.ntmps30
    go_wp2_with (first | (go_at_call 45; refine IS.out.mono ?_; rintro e w' ⟨rfl, n1, rfl⟩) | (go_at_call 61; refine (specHeat_any r _ _ (Cells.drewN (Cells.made w [.slice (some ⟨b0, o0, none⟩) n k0, .slice (some ⟨b1, o1, none⟩) n k1, .slice (some ⟨b2, o2, none⟩) n k2, .slice (some ⟨b3, o3, none⟩) n k3] 27)) (LY.out.below (below_drewN (below_al1 _ _) _)) G.out).mono ?_; rintro e w' ⟨x, hx, rfl, n2, rfl⟩; have X := Lib.hid hx; clear hx) | (go_at_call 56; refine (specNum_any _ _).mono ?_; rintro e w' ⟨rfl, n3, rfl⟩))
    go_ret2
    exact E1.out X.out (by first | exact below_drewN (below_al1 _ _) _ | exact below_drewN (below_drewN (below_al1 _ _) _) _)

set_option maxHeartbeats 400000 in
theorem implHeatOfRod_any (a b c d : Value) (r : RL) (w : World) (h : RRow w a b c d r) : Calls Try.prog 31 #[.agg #[a, b, c, d]] w (GivB (gS tQ r) (gB tQ r) w) := by
  have IV := Lib.hid (implValid_any a b c d r _ (h.below (below_al1 w (.cells [a, b, c, d].toArray 27))))
  cases hv : vRod r
  · rw [hv] at IV
    clear h
    go_enter Try.func31, Try.ntmps31
    go_wp2_with (go_at_call 18; refine IV.out.mono ?_; rintro e w' ⟨rfl, hb⟩; have B1 := Lib.hid hb; clear hb)
    go_ret2
    exact giv_no hv (below_step (below_al1 _ _) B1.out)
  · rw [hv] at IV
    obtain ⟨b0, o0, k0, b1, o1, k1, b2, o2, k2, b3, o3, k3, rfl, rfl, rfl, rfl, hL⟩ := h.lay (Len.ofV hv)
    have G := Lib.hid (Len.ofV hv).q
    have E1 : Hid (∀ {x : Nat} {w' : World}, cn .f32 x = sumT (tQ r) r.W.length → Below w.heap.size w w' → GivB (gS tQ r) (gB tQ r) w (.returned (.tuple #[.float .f32 (ifF x), .bool (fin .f32 x)])) w') := Lib.hid (fun hx hb => giv_yes hv hx hb)
    clear h
    generalize r.W.length = n at *
    generalize gS tQ r = GS at *
    generalize gB tQ r = GB at *
    have LY := Lib.hid (hL.below (below_al1 w (.cells [Value.slice (some ⟨b0, o0, none⟩) n k0, .slice (some ⟨b1, o1, none⟩) n k1, .slice (some ⟨b2, o2, none⟩) n k2, .slice (some ⟨b3, o3, none⟩) n k3].toArray 27)))
    clear hL
    have A := Lib.hid (Cells.made w [.slice (some ⟨b0, o0, none⟩) n k0, .slice (some ⟨b1, o1, none⟩) n k1, .slice (some ⟨b2, o2, none⟩) n k2, .slice (some ⟨b3, o3, none⟩) n k3] 27)
    have Bw := Lib.hid (below_al1 w (.cells [Value.slice (some ⟨b0, o0, none⟩) n k0, .slice (some ⟨b1, o1, none⟩) n k1, .slice (some ⟨b2, o2, none⟩) n k2, .slice (some ⟨b3, o3, none⟩) n k3].toArray 27))
    go_enter Try.func31, Try.ntmps31
    go_wp2_with (first
      | (go_at_call 18; refine IV.out.mono ?_; rintro e w' ⟨rfl, hb⟩; have Bw := Lib.hid (below_step Bw.out hb); have A := Lib.hid (A.out.kept hb); have LY := Lib.hid (LY.out.below hb); have c0 := A.out.at 0 rfl; have c1 := A.out.at 1 rfl; have c2 := A.out.at 2 rfl; have c3 := A.out.at 3 rfl; clear hb)
      | (go_at_call 59; refine (sumHeatOfRod_any r _ _ A.out LY.out G.out).mono ?_; rintro e w' ⟨x, hx, rfl, hb⟩; have X := Lib.hid hx; have Bw := Lib.hid (below_step Bw.out hb); clear hx hb)
      | (go_at_call 58; refine (implNum_any _ _).mono ?_; rintro e w' ⟨rfl, n3, rfl⟩))
    go_ret2
    exact E1.out X.out (below_drewN Bw.out _)

theorem specHinderOf_any (a b c d : Value) (r : RL) (w : World) (h : RRow w a b c d r) : Calls Try.prog 32 #[.agg #[a, b, c, d]] w (GivB (gS tN r) (gB tN r) w) := by
  have IS := Lib.hid (specIs_any a b c d r _ _ (Cells.made w [a, b, c, d] 27) (h.below (below_al1 _ _)))
  cases hv : vRod r
  · rw [hv] at IS
    clear h
    go_enter Try.func32, Try.ntmps32
    go_wp2_with (go_at_call 45; refine IS.out.mono ?_; rintro e w' ⟨rfl, n, rfl⟩)
    go_ret2
    exact giv_no hv (below_drewN (below_al1 _ _) _)
  · rw [hv] at IS
    obtain ⟨b0, o0, k0, b1, o1, k1, b2, o2, k2, b3, o3, k3, rfl, rfl, rfl, rfl, hL⟩ := h.lay (Len.ofV hv)
    have G := Lib.hid (Len.ofV hv).q
    have E1 : Hid (∀ {x : Nat} {w' : World}, cn .f32 x = sumT (tN r) r.W.length → Below w.heap.size w w' → GivB (gS tN r) (gB tN r) w (.returned (.tuple #[.float .f32 (ifF x), .bool (fin .f32 x)])) w') := Lib.hid (fun hx hb => giv_yes hv hx hb)
    clear h
    have LY := Lib.hid hL
    clear hL
    generalize r.W.length = n at *
    generalize gS tN r = GS at *
    generalize gB tN r = GB at *
    go_enter Try.func32, Try.ntmps32
    go_wp2_with (first | (go_at_call 45; refine IS.out.mono ?_; rintro e w' ⟨rfl, n1, rfl⟩) | (go_at_call 64; refine (specHin_any r _ _ (Cells.drewN (Cells.made w [.slice (some ⟨b0, o0, none⟩) n k0, .slice (some ⟨b1, o1, none⟩) n k1, .slice (some ⟨b2, o2, none⟩) n k2, .slice (some ⟨b3, o3, none⟩) n k3] 27)) (LY.out.below (below_drewN (below_al1 _ _) _)) G.out).mono ?_; rintro e w' ⟨x, hx, rfl, n2, rfl⟩; have X := Lib.hid hx; clear hx) | (go_at_call 56; refine (specNum_any _ _).mono ?_; rintro e w' ⟨rfl, n3, rfl⟩))
    go_ret2
    exact E1.out X.out (by first | exact below_drewN (below_al1 _ _) _ | exact below_drewN (below_drewN (below_al1 _ _) _) _)

set_option maxHeartbeats 400000 in
theorem implHinderOf_any (a b c d : Value) (r : RL) (w : World) (h : RRow w a b c d r) : Calls Try.prog 33 #[.agg #[a, b, c, d]] w (GivB (gS tN r) (gB tN r) w) := by
  have IV := Lib.hid (implValid_any a b c d r _ (h.below (below_al1 w (.cells [a, b, c, d].toArray 27))))
  cases hv : vRod r
  · rw [hv] at IV
    clear h
    go_enter Try.func33, Try.ntmps33
    go_wp2_with (go_at_call 18; refine IV.out.mono ?_; rintro e w' ⟨rfl, hb⟩; have B1 := Lib.hid hb; clear hb)
    go_ret2
    exact giv_no hv (below_step (below_al1 _ _) B1.out)
  · rw [hv] at IV
    obtain ⟨b0, o0, k0, b1, o1, k1, b2, o2, k2, b3, o3, k3, rfl, rfl, rfl, rfl, hL⟩ := h.lay (Len.ofV hv)
    have G := Lib.hid (Len.ofV hv).q
    have E1 : Hid (∀ {x : Nat} {w' : World}, cn .f32 x = sumT (tN r) r.W.length → Below w.heap.size w w' → GivB (gS tN r) (gB tN r) w (.returned (.tuple #[.float .f32 (ifF x), .bool (fin .f32 x)])) w') := Lib.hid (fun hx hb => giv_yes hv hx hb)
    clear h
    generalize r.W.length = n at *
    generalize gS tN r = GS at *
    generalize gB tN r = GB at *
    have LY := Lib.hid (hL.below (below_al1 w (.cells [Value.slice (some ⟨b0, o0, none⟩) n k0, .slice (some ⟨b1, o1, none⟩) n k1, .slice (some ⟨b2, o2, none⟩) n k2, .slice (some ⟨b3, o3, none⟩) n k3].toArray 27)))
    clear hL
    have A := Lib.hid (Cells.made w [.slice (some ⟨b0, o0, none⟩) n k0, .slice (some ⟨b1, o1, none⟩) n k1, .slice (some ⟨b2, o2, none⟩) n k2, .slice (some ⟨b3, o3, none⟩) n k3] 27)
    have Bw := Lib.hid (below_al1 w (.cells [Value.slice (some ⟨b0, o0, none⟩) n k0, .slice (some ⟨b1, o1, none⟩) n k1, .slice (some ⟨b2, o2, none⟩) n k2, .slice (some ⟨b3, o3, none⟩) n k3].toArray 27))
    go_enter Try.func33, Try.ntmps33
    go_wp2_with (first
      | (go_at_call 18; refine IV.out.mono ?_; rintro e w' ⟨rfl, hb⟩; have Bw := Lib.hid (below_step Bw.out hb); have A := Lib.hid (A.out.kept hb); have LY := Lib.hid (LY.out.below hb); have c0 := A.out.at 0 rfl; have c1 := A.out.at 1 rfl; have c2 := A.out.at 2 rfl; have c3 := A.out.at 3 rfl; clear hb)
      | (go_at_call 59; refine (sumHinderOf_any r _ _ A.out LY.out G.out).mono ?_; rintro e w' ⟨x, hx, rfl, hb⟩; have X := Lib.hid hx; have Bw := Lib.hid (below_step Bw.out hb); clear hx hb)
      | (go_at_call 58; refine (implNum_any _ _).mono ?_; rintro e w' ⟨rfl, n3, rfl⟩))
    go_ret2
    exact E1.out X.out (below_drewN Bw.out _)

end Go.Proofs.Ytplepddciilbdaa
