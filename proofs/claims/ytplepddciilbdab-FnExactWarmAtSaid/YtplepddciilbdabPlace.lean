/- Where a rod is warm as told: what the specification and the program hand back. -/
import Derived.Test.YtplepddciilbdabMid2
import Derived.IntWalk
import Derived.WalkMore
namespace Go.Proofs.Ytplepddciilbdab
open Go.RowKit
set_option linter.unusedVariables false

theorem find_some {p : Nat → Bool} {m : Nat} (h : p m = true) (ha : ∀ j, j < m → p j = false) : ∀ n, m < n → (List.range n).find? p = some m := by
  intro n
  induction n with
  | zero => intro hm; omega
  | succ n ih =>
    intro hm
    rw [List.range_succ, List.find?_append]
    by_cases e : m < n
    · rw [ih e]; rfl
    · have : m = n := by omega
      subst this
      rw [List.find?_eq_none.2 (fun x hx => by rw [ha x (by simpa using hx)]; simp)]
      simp [h]
theorem find_none {p : Nat → Bool} {n : Nat} (ha : ∀ j, j < n → p j = false) : (List.range n).find? p = none :=
  List.find?_eq_none.2 (fun x hx => by rw [ha x (by simpa using hx)]; simp)

def ltF (x y : Nat) : Bool := FloatKind.f32.format.order x y == some .lt
/-- is a warmth between those of two cells -/
def crs (r : RL) (q m : Nat) : Bool := ltF (r.T.getD m 0) q != ltF (r.T.getD (m + 1) 0) q
/-- the place there -/
def pV (r : RL) (q m : Nat) : Nat :=
  fop .add .f32 (cn .f32 (mid r m)) (fop .mul .f32 (fop .sub .f32 (cn .f32 (mid r (m + 1))) (cn .f32 (mid r m))) (fop .quo .f32 (fop .sub .f32 (cn .f32 q) (cn .f32 (r.T.getD m 0))) (fop .sub .f32 (cn .f32 (r.T.getD (m + 1) 0)) (cn .f32 (r.T.getD m 0)))))
def plF (r : RL) (q : Nat) : Option Nat := if vRod r && fin .f32 q && mOk r r.W.length then (List.range (r.W.length - 1)).find? (crs r q) else none
def plS (r : RL) (q : Nat) : Nat := match plF r q with | none => 0 | some m => ifF (pV r q m)
def plB (r : RL) (q : Nat) : Bool := match plF r q with | none => false | some m => fin .f32 (pV r q m)
theorem pl_no {r : RL} {q : Nat} {w w' : World} (hv : plF r q = none) (hb : Below w.heap.size w w') : GivB (plS r q) (plB r q) w (.returned (.tuple #[.float .f32 0, .bool false])) w' :=
  ⟨0, by simp [plS, hv]; rfl, by simp [plB, hv], hb⟩
theorem pl_yes {r : RL} {q m x : Nat} {w w' : World} (hv : plF r q = some m) (hx : cn .f32 x = pV r q m) (hb : Below w.heap.size w w') : GivB (plS r q) (plB r q) w (.returned (.tuple #[.float .f32 (ifF x), .bool (fin .f32 x)])) w' := by
  have := GivB.num (w := w) hx hb
  simpa [plS, plB, hv] using this

set_option maxHeartbeats 3200000 in
set_option maxRecDepth 4000 in
theorem specPlace_any (a b c d : Value) (r : RL) (q : Nat) (w : World) (h : RRow w a b c d r) : Calls Try.prog 42 #[.agg #[a, b, c, d], .float .f32 q] w (GivB (plS r q) (plB r q) w) := by
  have IS := Lib.hid (specIs_any a b c d r _ _ (Cells.made w [a, b, c, d] 25) (h.below (below_al1 _ _)))
  cases hv : vRod r
  · rw [hv] at IS
    have hn : plF r q = none := by simp [plF, hv]
    have N := Lib.hid hn
    clear h hv hn
    go_enter Try.func42, Try.ntmps42
    go_wp2_with (go_at_call 56; refine IS.out.mono ?_; rintro e w' ⟨rfl, n, rfl⟩)
    go_ret2
    exact pl_no N.out (below_drewN (below_al1 _ _) _)
  · rw [hv] at IS
    cases hf : fin .f32 q
    · have hn : plF r q = none := by simp [plF, hf]
      have N := Lib.hid hn
      clear h hv hn
      go_enter Try.func42, Try.ntmps42
      go_wp2_with (first | (go_at_call 56; refine IS.out.mono ?_; rintro e w' ⟨rfl, n, rfl⟩) | (go_at_call 78; refine (specFinite_any _ _).mono ?_; rw [hf]; rintro e w' ⟨rfl, n1, rfl⟩))
      go_ret2
      exact pl_no N.out (below_drewN (below_al1 _ _) _)
    · have PN := Lib.hid (fun (hn : (if mOk r r.W.length then (List.range (r.W.length - 1)).find? (crs r q) else none) = none) w' (hb : Below w.heap.size w w') => pl_no (r := r) (q := q) (by simpa [plF, hv, hf] using hn) hb)
      have PY := Lib.hid (fun m (hn : (if mOk r r.W.length then (List.range (r.W.length - 1)).find? (crs r q) else none) = some m) x w' (hx : cn .f32 x = pV r q m) (hb : Below w.heap.size w w') => pl_yes (r := r) (q := q) (m := m) (by simpa [plF, hv, hf] using hn) hx hb)
      have MT := Lib.hid (cn_fop)
      obtain ⟨b0, o0, k0, b1, o1, k1, b2, o2, k2, b3, o3, k3, rfl, rfl, rfl, rfl, hL⟩ := h.lay (Len.ofV hv)
      have G := Lib.hid (Len.ofV hv).q
      have HP := Lib.hid (Len.ofV hv).p
      have hG := (Len.ofV hv).q
      have hP := (Len.ofV hv).p
      have HF := Lib.hid hf
      clear h hv hf
      generalize plS r q = GS at *
      generalize plB r q = GB at *
      generalize r.W.length = n at *
      have LY := Lib.hid (hL.below (below_al1 w (.cells [Value.slice (some ⟨b0, o0, none⟩) n k0, .slice (some ⟨b1, o1, none⟩) n k1, .slice (some ⟨b2, o2, none⟩) n k2, .slice (some ⟨b3, o3, none⟩) n k3].toArray 25)))
      clear hL
      have A := Lib.hid (Cells.made w [.slice (some ⟨b0, o0, none⟩) n k0, .slice (some ⟨b1, o1, none⟩) n k1, .slice (some ⟨b2, o2, none⟩) n k2, .slice (some ⟨b3, o3, none⟩) n k3] 25)
      have Bw := Lib.hid (below_al1 w (.cells [Value.slice (some ⟨b0, o0, none⟩) n k0, .slice (some ⟨b1, o1, none⟩) n k1, .slice (some ⟨b2, o2, none⟩) n k2, .slice (some ⟨b3, o3, none⟩) n k3].toArray 25))
      have SM := Lib.hid (fun m => specMid_any r _ ((w.alloc (.cells [Value.slice (some ⟨b0, o0, none⟩) n k0, .slice (some ⟨b1, o1, none⟩) n k1, .slice (some ⟨b2, o2, none⟩) n k2, .slice (some ⟨b3, o3, none⟩) n k3].toArray 25)).drewN m) (Cells.drewN (Cells.made w [.slice (some ⟨b0, o0, none⟩) n k0, .slice (some ⟨b1, o1, none⟩) n k1, .slice (some ⟨b2, o2, none⟩) n k2, .slice (some ⟨b3, o3, none⟩) n k3] 25)) (LY.out.below (below_drewN (Below.refl _ _) m)) G.out HP.out)
      go_enter Try.func42, Try.ntmps42
      go_wp2_with (first | (go_at_call 56; refine IS.out.mono ?_; rintro e w' ⟨rfl, n1, rfl⟩) | (go_at_call 78; refine (specFinite_any _ _).mono ?_; rw [HF.out]; rintro e w' ⟨rfl, n2, rfl⟩))
      refine (SM.out _).mono ?_
      rintro _ w2 ⟨hb, (⟨ho, mb, mo, mc, rfl, hM⟩ | ⟨ho, rfl⟩)⟩
      · have Bw := Lib.hid (below_step Bw.out (below_undrew hb))
        have A := Lib.hid (A.out.kept (below_undrew hb))
        have LY := Lib.hid (LY.out.below (below_undrew hb))
        have HM := Lib.hid hM
        have PN := Lib.hid (fun hn w' hb => PN.out (by rw [if_pos ho]; exact hn) w' hb)
        have PY := Lib.hid (fun m hn x w' hx hb => PY.out m (by rw [if_pos ho]; exact hn) x w' hx hb)
        have c0 := A.out.at 0 rfl; have c1 := A.out.at 1 rfl; have c2 := A.out.at 2 rfl; have c3 := A.out.at 3 rfl
        clear hb ho hM SM
        go_wp2_with fail
        go_loopw [8, 9, 10] (fun i _ _ wr => ∃ m j : Nat, m + 1 ≤ n ∧ i = .int .i64 ((m : Int) + 1) ∧ Hid (∀ j, j < m → crs r q j = false) ∧ wr = w2.drewN j) (fun i _ _ _ => n - (intOf i).toNat)
        case atStart => exact ⟨0, 0, by omega, rfl, Lib.hid (fun j hj => absurd hj (Nat.not_lt_zero _)), rfl⟩
        case round =>
          obtain ⟨m, j, hk, rfl, hall, rfl⟩ := hrel
          by_cases hlt : m + 1 < n
          · have z1 := LY.out.T m (by omega)
            have z2 := LY.out.T (m + 1) hlt
            have y1 := HM.out m (by omega)
            have y2 := HM.out (m + 1) hlt
            have PYm := Lib.hid (fun h => PY.out m (find_some (p := crs r q) h hall.out (n - 1) (by omega)))
            have CR : Hid (crs r q m = (ltF (r.T.getD m 0) q != ltF (r.T.getD (m + 1) 0) q)) := Lib.hid rfl
            have PV : Hid (pV r q m = fop .add .f32 (cn .f32 (mid r m)) (fop .mul .f32 (fop .sub .f32 (cn .f32 (mid r (m + 1))) (cn .f32 (mid r m))) (fop .quo .f32 (fop .sub .f32 (cn .f32 q) (cn .f32 (r.T.getD m 0))) (fop .sub .f32 (cn .f32 (r.T.getD (m + 1) 0)) (cn .f32 (r.T.getD m 0)))))) := Lib.hid rfl
            unfold ltF at CR
            generalize r.T.getD m 0 = x1 at *
            generalize r.T.getD (m + 1) 0 = x2 at *
            generalize mid r m = u1 at *
            generalize mid r (m + 1) = u2 at *
            have hi0 : (0 : Int) ≤ (m : Int) := by omega
            have hi1 : (m : Int) < (n : Int) := by omega
            have hi2 : (0 : Int) ≤ (m : Int) + 1 := by omega
            have hi3 : (m : Int) + 1 < (n : Int) := by omega
            have ht : ((m : Int) + 1).toNat = m + 1 := by omega
            have HW : Hid (IntKind.i64.wrap ((m : Int) + 1 - 1) = (m : Int)) := Lib.hid (by rw [IntWalk.i64_in _ (by omega)]; omega)
            have HW' : Hid (IntKind.i64.wrap (m : Int) = (m : Int)) := Lib.hid (IntWalk.i64_in _ (by omega))
            clear hP
            cases L1 : (FloatKind.f32.format.order x1 q == some .lt) <;> cases L2 : (FloatKind.f32.format.order x2 q == some .lt)
            · have C := Lib.hid (show crs r q m = false by rw [CR.out, L1, L2]; rfl)
              go_wp2
              go_roundw
              case rel => exact ⟨m + 1, _, by omega, by go_num, Lib.hid (fun j hj => by rcases Nat.lt_succ_iff_lt_or_eq.1 hj with h | h; exact hall.out j h; subst h; exact C.out), rfl⟩
              case measure => simp [intOf]; omega
            · have C := Lib.hid (PYm.out (by rw [CR.out, L1, L2]; rfl))
              go_wp2
              have hw := HW.out
              have hw' := HW'.out
              refine wp_region_loose (fun f args v => f = 84 → ∀ x, args = #[.float .f32 x] → v = .tuple #[.float .f32 (ifF x), .bool (fin .f32 x)]) (by kernel_rfl) (by kernel_rfl) ?_
              repeat (first | (refine wpLoose_farith rfl _ _ _ _ _ rfl rfl _ _ _ rfl rfl ?_; intro _ _) | (refine wpLoose_valK rfl ?_ (fun w1 hw1 => ?_) (fun K hK => ?_); rotate_left; (focus (obtain ⟨nq, rfl⟩ := hw1; go_simp; first | done | rfl)); go_simp; refine hK _ ?_; clear hK K))
              rename_i r1 h1 r2 h2 r3 h3 r4 h4 r5 h5 r6 h6
              refine wpLoose_call rfl 84 #[.float .f32 r6] (fun w1 => ?_) (fun w1 _ => ?_) (fun v hv => ?_)
              · go_simp
              · refine (specNum_any r6 w1).mono ?_
                rintro e w3 ⟨rfl, m3, rfl⟩
                exact ⟨_, rfl, fun _ x hx => by simp at hx; subst hx; rfl, m3, rfl⟩
              obtain rfl := hv rfl _ rfl
              clear hv
              repeat (first | (refine wpLoose_farith rfl _ _ _ _ _ rfl rfl _ _ _ rfl rfl ?_; intro _ _) | (refine wpLoose_valK rfl ?_ (fun w1 hw1 => ?_) (fun K hK => ?_); rotate_left; (focus (obtain ⟨nq, rfl⟩ := hw1; go_simp; first | done | rfl)); go_simp; refine hK _ ?_; clear hK K))
              (refine wpLoose_nil ?_; rintro _ ⟨nq, rfl⟩)
              go_wp2
              go_ret2
              exact C.out _ _ (by rw [h6.1, h5.1, h4.1, h3.1, h2.1, h1.1, PV.out]) (by first | exact below_drewN Bw.out _ | exact below_drewN (below_drewN Bw.out _) _)
            · have C := Lib.hid (PYm.out (by rw [CR.out, L1, L2]; rfl))
              go_wp2
              have hw := HW.out
              have hw' := HW'.out
              refine wp_region_loose (fun f args v => f = 84 → ∀ x, args = #[.float .f32 x] → v = .tuple #[.float .f32 (ifF x), .bool (fin .f32 x)]) (by kernel_rfl) (by kernel_rfl) ?_
              repeat (first | (refine wpLoose_farith rfl _ _ _ _ _ rfl rfl _ _ _ rfl rfl ?_; intro _ _) | (refine wpLoose_valK rfl ?_ (fun w1 hw1 => ?_) (fun K hK => ?_); rotate_left; (focus (obtain ⟨nq, rfl⟩ := hw1; go_simp; first | done | rfl)); go_simp; refine hK _ ?_; clear hK K))
              rename_i r1 h1 r2 h2 r3 h3 r4 h4 r5 h5 r6 h6
              refine wpLoose_call rfl 84 #[.float .f32 r6] (fun w1 => ?_) (fun w1 _ => ?_) (fun v hv => ?_)
              · go_simp
              · refine (specNum_any r6 w1).mono ?_
                rintro e w3 ⟨rfl, m3, rfl⟩
                exact ⟨_, rfl, fun _ x hx => by simp at hx; subst hx; rfl, m3, rfl⟩
              obtain rfl := hv rfl _ rfl
              clear hv
              repeat (first | (refine wpLoose_farith rfl _ _ _ _ _ rfl rfl _ _ _ rfl rfl ?_; intro _ _) | (refine wpLoose_valK rfl ?_ (fun w1 hw1 => ?_) (fun K hK => ?_); rotate_left; (focus (obtain ⟨nq, rfl⟩ := hw1; go_simp; first | done | rfl)); go_simp; refine hK _ ?_; clear hK K))
              (refine wpLoose_nil ?_; rintro _ ⟨nq, rfl⟩)
              go_wp2
              go_ret2
              exact C.out _ _ (by rw [h6.1, h5.1, h4.1, h3.1, h2.1, h1.1, PV.out]) (by first | exact below_drewN Bw.out _ | exact below_drewN (below_drewN Bw.out _) _)
            · have C := Lib.hid (show crs r q m = false by rw [CR.out, L1, L2]; rfl)
              go_wp2
              go_roundw
              case rel => exact ⟨m + 1, _, by omega, by go_num, Lib.hid (fun j hj => by rcases Nat.lt_succ_iff_lt_or_eq.1 hj with h | h; exact hall.out j h; subst h; exact C.out), rfl⟩
              case measure => simp [intOf]; omega
          · have e := Lib.hid (show m + 1 = n by omega)
            go_wp2
            go_ret2
            exact PN.out (find_none (fun j hj => hall.out j (by have := e.out; omega))) _ (below_drewN Bw.out _)
      · have Bw := Lib.hid (below_step Bw.out (below_undrew hb))
        have PN := Lib.hid (PN.out (by rw [if_neg (by simp [ho])]))
        clear hb ho SM PY
        go_wp2
        go_ret2
        exact PN.out _ Bw.out

end Go.Proofs.Ytplepddciilbdab
