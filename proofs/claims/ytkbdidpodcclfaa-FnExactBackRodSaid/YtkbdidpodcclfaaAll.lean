/- Whether a rod is valid, as the program tells. -/
import Derived.Test.YtkbdidpodcclfaaValidS
import Derived.Test.YtkbdidpodcclfaaAllP
namespace Go.Proofs.Ytkbdidpodcclfaa
open Go.RowKit

theorem vRod_split {r : RL} (hl : lensOk r = true) : vRod r = (r.W.all pos && r.E.all pos && r.H.all pos && r.T.all (fin .f32)) := by
  have hl' := hl
  obtain ⟨⟨⟨⟨g1, g2⟩, g3⟩, g4⟩, g5⟩ : (((1 ≤ r.W.length ∧ r.W.length ≤ 48) ∧ r.E.length = r.W.length) ∧ r.H.length = r.W.length) ∧ r.T.length = r.W.length := by simpa [lensOk] using hl
  have key : ∀ (f : Nat → Bool) (zs : List Nat), zs.all f = true ↔ ∀ k, k < zs.length → f (zs.getD k 0) = true := fun f zs => by
    rw [List.all_eq_true]
    constructor
    · intro h k hk
      exact h _ (by simp [List.getD_eq_getElem?_getD, hk])
    · intro h x hx
      obtain ⟨i, hi, rfl⟩ := List.mem_iff_getElem.1 hx
      have := h i hi
      simpa [List.getD_eq_getElem?_getD, hi] using this
  unfold vRod
  rw [hl', Bool.true_and, Bool.eq_iff_iff, List.all_eq_true]
  simp only [Bool.and_eq_true, key, g3, g4, g5, List.mem_range, okAt]
  constructor
  · intro h
    exact ⟨⟨⟨fun k hk => (h k hk).1.1.1, fun k hk => (h k hk).1.1.2⟩, fun k hk => (h k hk).1.2⟩, fun k hk => (h k hk).2⟩
  · rintro ⟨⟨⟨h1, h2⟩, h3⟩, h4⟩ k hk
    exact ⟨⟨⟨h1 k hk, h2 k hk⟩, h3 k hk⟩, h4 k hk⟩

theorem implValid_len (a b c d : Value) (r : RL) (w : World) (h : RRow w a b c d r) (hl : lensOk r = false) :
    Calls Try.prog 46 #[.agg #[a, b, c, d]] w (BolB false w) := by
  obtain ⟨a1, a2, rfl⟩ := h.W.shape
  obtain ⟨b1, b2, rfl⟩ := h.E.shape
  obtain ⟨d1, d2, rfl⟩ := h.H.shape
  obtain ⟨e1, e2, rfl⟩ := h.T.shape
  clear h
  unfold lensOk at hl
  generalize r.W.length = m1 at *
  generalize r.E.length = m2 at *
  generalize r.H.length = m3 at *
  generalize r.T.length = n at *
  by_cases g1 : 1 ≤ n
  · have f1 : decide ((1 : Int) ≤ n) = true := by simp; omega
    by_cases g2 : n ≤ 48
    · have f2 : decide ((n : Int) ≤ 48) = true := by simp; omega
      by_cases g3 : m1 = n
      · subst g3
        by_cases g4 : m2 = m1
        · subst g4
          have g5 : ¬ m3 = m2 := by simpa [g1, g2] using hl
          have f5 : ((m3 : Int) == (m2 : Int)) = false := by simp; omega
          clear hl
          go_enter Try.func46, Try.ntmps46
          go_wp2
          go_ret
          exact ⟨rfl, below_al1 _ _⟩
        · have f4 : ((m2 : Int) == (m1 : Int)) = false := by simp; omega
          clear hl
          go_enter Try.func46, Try.ntmps46
          go_wp2
          go_ret
          exact ⟨rfl, below_al1 _ _⟩
      · have f3 : ((m1 : Int) == (n : Int)) = false := by simp; omega
        clear hl
        go_enter Try.func46, Try.ntmps46
        go_wp2
        go_ret
        exact ⟨rfl, below_al1 _ _⟩
    · have f2 : decide ((n : Int) ≤ 48) = false := by simp; omega
      clear hl
      go_enter Try.func46, Try.ntmps46
      go_wp2
      go_ret
      exact ⟨rfl, below_al1 _ _⟩
  · have f1 : decide ((1 : Int) ≤ n) = false := by simp; omega
    clear hl
    go_enter Try.func46, Try.ntmps46
    go_wp2
    go_ret
    exact ⟨rfl, below_al1 _ _⟩

set_option maxHeartbeats 1600000 in
theorem implValid_ok (a b c d : Value) (r : RL) (w : World) (h : RRow w a b c d r) (hl : lensOk r = true) :
    Calls Try.prog 46 #[.agg #[a, b, c, d]] w (BolB (vRod r) w) := by
  have R := Lib.hid (fun w1 (hb : Below w.heap.size w w1) => h.below hb)
  rw [vRod_split hl]
  obtain ⟨⟨⟨⟨g1, g2⟩, g3⟩, g4⟩, g5⟩ : (((1 ≤ r.W.length ∧ r.W.length ≤ 48) ∧ r.E.length = r.W.length) ∧ r.H.length = r.W.length) ∧ r.T.length = r.W.length := by simpa [lensOk] using hl
  obtain ⟨b0, k0, rfl⟩ := h.W.shape
  obtain ⟨b1, k1, rfl⟩ := h.E.shape
  obtain ⟨b2, k2, rfl⟩ := h.H.shape
  obtain ⟨b3, k3, rfl⟩ := h.T.shape
  rw [g3, g4, g5] at R ⊢
  clear h hl g3 g4 g5
  generalize r.W.length = n at *
  have f1 : decide ((1 : Int) ≤ n) = true := by simp; omega
  have f2 : decide ((n : Int) ≤ 48) = true := by simp; omega
  have A := Lib.hid (Cells.made w [.slice b0 n k0, .slice b1 n k1, .slice b2 n k2, .slice b3 n k3] 25)
  have Bw := Lib.hid (below_al1 w (.cells [Value.slice b0 n k0, .slice b1 n k1, .slice b2 n k2, .slice b3 n k3].toArray 25))
  clear g1 g2
  cases B0 : r.W.all pos
  · go_enter Try.func46, Try.ntmps46
    go_wp2_with (first | (go_at_call_of 76 b0; refine (allPos_any _ _ _ (R.out _ Bw.out).W).mono ?_; rw [B0]; rintro e w' ⟨rfl, hb⟩; have Bw := Lib.hid (below_step Bw.out hb); have A := Lib.hid (A.out.kept hb); have c0 := A.out.at 0 rfl; have c1 := A.out.at 1 rfl; have c2 := A.out.at 2 rfl; have c3 := A.out.at 3 rfl; clear hb))
    go_ret
    exact ⟨ret_b (by simp), Bw.out⟩
  · cases B1 : r.E.all pos
    · go_enter Try.func46, Try.ntmps46
      go_wp2_with (first | (go_at_call_of 76 b0; refine (allPos_any _ _ _ (R.out _ Bw.out).W).mono ?_; rw [B0]; rintro e w' ⟨rfl, hb⟩; have Bw := Lib.hid (below_step Bw.out hb); have A := Lib.hid (A.out.kept hb); have c0 := A.out.at 0 rfl; have c1 := A.out.at 1 rfl; have c2 := A.out.at 2 rfl; have c3 := A.out.at 3 rfl; clear hb) | (go_at_call_of 76 b1; refine (allPos_any _ _ _ (R.out _ Bw.out).E).mono ?_; rw [B1]; rintro e w' ⟨rfl, hb⟩; have Bw := Lib.hid (below_step Bw.out hb); have A := Lib.hid (A.out.kept hb); have c0 := A.out.at 0 rfl; have c1 := A.out.at 1 rfl; have c2 := A.out.at 2 rfl; have c3 := A.out.at 3 rfl; clear hb))
      go_ret
      exact ⟨ret_b (by simp), Bw.out⟩
    · cases B2 : r.H.all pos
      · go_enter Try.func46, Try.ntmps46
        go_wp2_with (first | (go_at_call_of 76 b0; refine (allPos_any _ _ _ (R.out _ Bw.out).W).mono ?_; rw [B0]; rintro e w' ⟨rfl, hb⟩; have Bw := Lib.hid (below_step Bw.out hb); have A := Lib.hid (A.out.kept hb); have c0 := A.out.at 0 rfl; have c1 := A.out.at 1 rfl; have c2 := A.out.at 2 rfl; have c3 := A.out.at 3 rfl; clear hb) | (go_at_call_of 76 b1; refine (allPos_any _ _ _ (R.out _ Bw.out).E).mono ?_; rw [B1]; rintro e w' ⟨rfl, hb⟩; have Bw := Lib.hid (below_step Bw.out hb); have A := Lib.hid (A.out.kept hb); have c0 := A.out.at 0 rfl; have c1 := A.out.at 1 rfl; have c2 := A.out.at 2 rfl; have c3 := A.out.at 3 rfl; clear hb) | (go_at_call_of 76 b2; refine (allPos_any _ _ _ (R.out _ Bw.out).H).mono ?_; rw [B2]; rintro e w' ⟨rfl, hb⟩; have Bw := Lib.hid (below_step Bw.out hb); have A := Lib.hid (A.out.kept hb); have c0 := A.out.at 0 rfl; have c1 := A.out.at 1 rfl; have c2 := A.out.at 2 rfl; have c3 := A.out.at 3 rfl; clear hb))
        go_ret
        exact ⟨ret_b (by simp), Bw.out⟩
      · cases B3 : r.T.all (fin .f32)
        · go_enter Try.func46, Try.ntmps46
          go_wp2_with (first | (go_at_call_of 76 b0; refine (allPos_any _ _ _ (R.out _ Bw.out).W).mono ?_; rw [B0]; rintro e w' ⟨rfl, hb⟩; have Bw := Lib.hid (below_step Bw.out hb); have A := Lib.hid (A.out.kept hb); have c0 := A.out.at 0 rfl; have c1 := A.out.at 1 rfl; have c2 := A.out.at 2 rfl; have c3 := A.out.at 3 rfl; clear hb) | (go_at_call_of 76 b1; refine (allPos_any _ _ _ (R.out _ Bw.out).E).mono ?_; rw [B1]; rintro e w' ⟨rfl, hb⟩; have Bw := Lib.hid (below_step Bw.out hb); have A := Lib.hid (A.out.kept hb); have c0 := A.out.at 0 rfl; have c1 := A.out.at 1 rfl; have c2 := A.out.at 2 rfl; have c3 := A.out.at 3 rfl; clear hb) | (go_at_call_of 76 b2; refine (allPos_any _ _ _ (R.out _ Bw.out).H).mono ?_; rw [B2]; rintro e w' ⟨rfl, hb⟩; have Bw := Lib.hid (below_step Bw.out hb); have A := Lib.hid (A.out.kept hb); have c0 := A.out.at 0 rfl; have c1 := A.out.at 1 rfl; have c2 := A.out.at 2 rfl; have c3 := A.out.at 3 rfl; clear hb) | (go_at_call_of 76 b3; refine (allFin_any _ _ _ (R.out _ Bw.out).T).mono ?_; rw [B3]; rintro e w' ⟨rfl, hb⟩; have Bw := Lib.hid (below_step Bw.out hb); have A := Lib.hid (A.out.kept hb); have c0 := A.out.at 0 rfl; have c1 := A.out.at 1 rfl; have c2 := A.out.at 2 rfl; have c3 := A.out.at 3 rfl; clear hb))
          go_ret
          exact ⟨ret_b (by simp), Bw.out⟩
        · go_enter Try.func46, Try.ntmps46
          go_wp2_with (first | (go_at_call_of 76 b0; refine (allPos_any _ _ _ (R.out _ Bw.out).W).mono ?_; rw [B0]; rintro e w' ⟨rfl, hb⟩; have Bw := Lib.hid (below_step Bw.out hb); have A := Lib.hid (A.out.kept hb); have c0 := A.out.at 0 rfl; have c1 := A.out.at 1 rfl; have c2 := A.out.at 2 rfl; have c3 := A.out.at 3 rfl; clear hb) | (go_at_call_of 76 b1; refine (allPos_any _ _ _ (R.out _ Bw.out).E).mono ?_; rw [B1]; rintro e w' ⟨rfl, hb⟩; have Bw := Lib.hid (below_step Bw.out hb); have A := Lib.hid (A.out.kept hb); have c0 := A.out.at 0 rfl; have c1 := A.out.at 1 rfl; have c2 := A.out.at 2 rfl; have c3 := A.out.at 3 rfl; clear hb) | (go_at_call_of 76 b2; refine (allPos_any _ _ _ (R.out _ Bw.out).H).mono ?_; rw [B2]; rintro e w' ⟨rfl, hb⟩; have Bw := Lib.hid (below_step Bw.out hb); have A := Lib.hid (A.out.kept hb); have c0 := A.out.at 0 rfl; have c1 := A.out.at 1 rfl; have c2 := A.out.at 2 rfl; have c3 := A.out.at 3 rfl; clear hb) | (go_at_call_of 76 b3; refine (allFin_any _ _ _ (R.out _ Bw.out).T).mono ?_; rw [B3]; rintro e w' ⟨rfl, hb⟩; have Bw := Lib.hid (below_step Bw.out hb); have A := Lib.hid (A.out.kept hb); have c0 := A.out.at 0 rfl; have c1 := A.out.at 1 rfl; have c2 := A.out.at 2 rfl; have c3 := A.out.at 3 rfl; clear hb))
          go_ret
          exact ⟨ret_b (by simp), Bw.out⟩

theorem implValid_any (a b c d : Value) (r : RL) (w : World) (h : RRow w a b c d r) : Calls Try.prog 46 #[.agg #[a, b, c, d]] w (BolB (vRod r) w) := by
  cases hl : lensOk r
  · have : vRod r = false := by simp [vRod, hl]
    rw [this]
    exact implValid_len a b c d r w h hl
  · exact implValid_ok a b c d r w h hl

end Go.Proofs.Ytkbdidpodcclfaa
