/- The middles of the cells of a rod, as the program makes them. -/
import Derived.Test.YtplepddciilbdabMid
namespace Go.Proofs.Ytplepddciilbdab
open Go.RowKit
set_option linter.unusedVariables false

theorem fop_wide {y m : Nat} (h : FR .quo .f32 y 1073741824 m) : cn .f32 m = fop .mul .f32 (cn .f32 1056964608) (cn .f32 y) := by
  rw [h.1, fop_half]
def MidTo (r : RL) (k : Nat) (zs : List Nat) : Prop := ∀ j, j < k → cn .f32 (zs.getD j 0) = mid r j
theorem MidTo.set {r : RL} {k : Nat} {zs : List Nat} {x y m z : Nat} (h : MidTo r k zs) (hk : k < zs.length) (hx : cn .f32 x = sumT (tW r) k) (hy : y = r.W.getD k 0) (h1 : FR .quo .f32 y 1073741824 m) (h2 : FR .add .f32 x m z) : MidTo r (k + 1) (zs.set k z) := by
  intro j hj
  by_cases e : j = k
  · subst e
    have e1 : (zs.set j z).getD j 0 = z := by simp [List.getD_eq_getElem?_getD, hk]
    rw [e1, h2.1, fop_wide h1, hx, hy]
    rfl
  · have e1 : (zs.set k z).getD j 0 = zs.getD j 0 := by simp [List.getD_eq_getElem?_getD, List.getElem?_set_ne (Ne.symm e)]
    rw [e1]
    exact h j (by omega)
theorem FRow.of_rowIs {wr : World} {b : Nat} {zs : List Nat} (h : wr.rowIs b 22 zs.length (fun j => .float .f32 (zs.getD j 0))) (hm : zs.length ≤ 1048576) : FRow wr (.slice (some ⟨b, 0, none⟩) zs.length zs.length) zs := by
  have hx : maxLen = 9223372036854775807 := rfl
  exact .inr ⟨b, 0, _, rfl, by omega, fun i hi => by rw [Nat.zero_add]; exact h.cell hi⟩
theorem rowIs_set {wr : World} {b k n : Nat} {zs : List Nat} {z : Nat} (h : wr.rowIs b 22 n (fun j => .float .f32 (zs.getD j 0))) (hk : k < n) (hn : zs.length = n) : (wr.setCell ⟨b, k, none⟩ (.float .f32 z)).rowIs b 22 n (fun j => .float .f32 ((zs.set k z).getD j 0)) := by
  have := h.set k (.float .f32 z)
  refine World.rowIs.congr this (fun i _ => ?_)
  by_cases e : i = k
  · subst e; simp [List.getD_eq_getElem?_getD, hn, hk]
  · simp [e, List.getD_eq_getElem?_getD, List.getElem?_set_ne (Ne.symm e)]

theorem implMid_no (a b c d : Value) (r : RL) (w : World) (h : RRow w a b c d r) (hv : vRod r = false) :
    Calls Try.prog 85 #[.agg #[a, b, c, d]] w fun e w' => e = .returned (.tuple #[.slice none 0 0, .bool false]) ∧ Below w.heap.size w w' := by
  have IV := Lib.hid (implValid_any a b c d r _ (h.below (below_al1 w (.cells [a, b, c, d].toArray 25))))
  rw [hv] at IV
  clear h hv
  go_enter Try.func85, Try.ntmps85
  go_wp2_with (go_at_call 58; refine IV.out.mono ?_; rintro e w' ⟨rfl, hb⟩; have B1 := Lib.hid hb; clear hb)
  go_ret2
  exact ⟨rfl, below_step (below_al1 _ _) B1.out⟩

set_option maxHeartbeats 1600000 in
set_option maxRecDepth 4000 in
theorem implMid_any (a b c d : Value) (r : RL) (w : World) (h : RRow w a b c d r) (hv : vRod r = true) :
    Calls Try.prog 85 #[.agg #[a, b, c, d]] w (Mids r r.W.length w) := by
  have IV := Lib.hid (implValid_any a b c d r _ (h.below (below_al1 w (.cells [a, b, c, d].toArray 25))))
  rw [hv] at IV
  obtain ⟨b0, o0, k0, b1, o1, k1, b2, o2, k2, b3, o3, k3, rfl, rfl, rfl, rfl, hL⟩ := h.lay (Len.ofV hv)
  have G := Lib.hid (Len.ofV hv).q
  have HP := Lib.hid (Len.ofV hv).p
  have hG := (Len.ofV hv).q
  clear h hv
  generalize r.W.length = n at *
  have LY := Lib.hid (hL.below (below_al1 w (.cells [Value.slice (some ⟨b0, o0, none⟩) n k0, .slice (some ⟨b1, o1, none⟩) n k1, .slice (some ⟨b2, o2, none⟩) n k2, .slice (some ⟨b3, o3, none⟩) n k3].toArray 25)))
  clear hL
  have A := Lib.hid (Cells.made w [.slice (some ⟨b0, o0, none⟩) n k0, .slice (some ⟨b1, o1, none⟩) n k1, .slice (some ⟨b2, o2, none⟩) n k2, .slice (some ⟨b3, o3, none⟩) n k3] 25)
  have Bw := Lib.hid (below_al1 w (.cells [Value.slice (some ⟨b0, o0, none⟩) n k0, .slice (some ⟨b1, o1, none⟩) n k1, .slice (some ⟨b2, o2, none⟩) n k2, .slice (some ⟨b3, o3, none⟩) n k3].toArray 25))
  have hmk := run_make_row' (P := Try.prog) 23 22 (.float .f32 0) 4 Try.underlying23 Try.rowOf32 rfl .i64 .i64 n (by omega) (by omega)
  clear hG
  go_enter Try.func85, Try.ntmps85
  go_wp2_with fail
  refine IV.out.mono ?_
  rintro _ w1 ⟨rfl, hb⟩
  have Bw := Lib.hid (below_step Bw.out hb)
  have A := Lib.hid (A.out.kept hb)
  have LY := Lib.hid (LY.out.below hb)
  have c0 := A.out.at 0 rfl; have c1 := A.out.at 1 rfl; have c2 := A.out.at 2 rfl; have c3 := A.out.at 3 rfl
  have hws : w.heap.size < w1.heap.size := A.out.lt
  clear hb
  go_wp2_with fail
  clear hmk
  go_loopw [5, 6, 7, 18] (fun s _ _ i wr => ∃ (k x : Nat) (zs : List Nat), k ≤ n ∧ i = .int .i64 k ∧ s = .float .f32 x ∧ Hid (cn .f32 x = sumT (tW r) k) ∧ Hid (zs.length = n) ∧ Hid (MidTo r k zs) ∧ Hid (wr.rowIs w1.heap.size 22 n (fun j => .float .f32 (zs.getD j 0))) ∧ Hid (Below w1.heap.size w1 wr)) (fun _ _ _ i _ => n - (intOf i).toNat)
  case atStart => exact ⟨0, 0, List.replicate n 0, Nat.zero_le _, rfl, rfl, Lib.hid rfl, Lib.hid (by simp), Lib.hid (fun j hj => absurd hj (Nat.not_lt_zero _)), Lib.hid ((World.rowIs_made w1 (.float .f32 0) n 22).congr (fun i hi => by simp [List.getD_eq_getElem?_getD, hi])), Lib.hid (below_al1 _ _)⟩
  case round =>
    obtain ⟨k, x, zs, hk, rfl, rfl, hx, hzl, hm, hr, hB⟩ := hrel
    have hG := G.out
    by_cases hlt : k < n
    · have z0 := (LY.out.below hB.out).W k hlt
      have e3 : wr.cell? ⟨w1.heap.size, k, none⟩ = some (.float .f32 (zs.getD k 0)) := hr.out.cell hlt
      have e4 : wr.frozen? ⟨w1.heap.size, k, none⟩ = false := hr.out.frozen k
      generalize hyk : r.W.getD k 0 = y at *
      have YK := Lib.hid hyk
      clear hyk
      generalize hok : zs.getD k 0 = old at *
      clear hok
      have hi : (0 : Int) ≤ (k : Int) := by omega
      have hi' : (k : Int) < (n : Int) := by omega
      go_wp2_with (refine wpList_farith rfl _ _ _ _ _ rfl rfl _ _ _ rfl rfl ?_; intro y1 j1 h1; have F1 := Lib.hid h1; clear h1)
      go_roundw
      case rel => exact ⟨k + 1, _, zs.set k _, by omega, by go_num, rfl, Lib.hid (sumW_step hx.out YK.out.symm (Hid.out (by assumption))), Lib.hid (by simp [hzl.out]), Lib.hid (hm.out.set (by rw [hzl.out]; exact hlt) hx.out YK.out.symm (Hid.out (by assumption)) (Hid.out (by assumption))), Lib.hid (rowIs_set (wr := wr.drewN _) hr.out hlt hzl.out), Lib.hid (below_drewN (Below.setCell (below_drewN hB.out _) (p := ⟨w1.heap.size, k, none⟩) (Nat.le_refl _) _) _)⟩
      case measure => simp [intOf]; omega
    · have e := Lib.hid (show k = n by omega)
      have hr' : Hid (FRow wr (.slice (some ⟨w1.heap.size, 0, none⟩) n n) zs) := Lib.hid (by
        have h1 := hr.out
        rw [← hzl.out] at h1 ⊢
        exact FRow.of_rowIs h1 (by rw [hzl.out]; omega))
      go_wp2_with fail
      refine (implList_any _ zs _ hr'.out).mono ?_
      rintro _ w2 ⟨hb, (⟨hf, rfl⟩ | ⟨hf, rfl⟩)⟩
      · have B2 := Lib.hid (below_step Bw.out (below_step hB.out hb))
        have R2 := Lib.hid (hr'.out.below hb)
        have HF := Lib.hid hf
        clear hb hf
        go_wp2
        go_ret2
        have e1 := e.out
        have e2 := hzl.out
        have m1 := hm.out
        rw [e1, ← e2] at m1
        have h1 := R2.out
        have h2 := HP.out
        rw [← e2] at h1 h2 ⊢
        exact Mids.of h2 m1 HF.out h1 B2.out
      · have B2 := Lib.hid (below_step Bw.out (below_step hB.out hb))
        have HF := Lib.hid hf
        clear hb hf
        go_wp2
        go_ret2
        have e1 := e.out
        have e2 := hzl.out
        have m1 := hm.out
        rw [e1, ← e2] at m1
        rw [← e2]
        exact Mids.no m1 HF.out B2.out
end Go.Proofs.Ytplepddciilbdab
