/- Whether a rod is valid, as the specification tells. -/
import Derived.Test.YtkbdidpodcclfaaRodC
namespace Go.Proofs.Ytkbdidpodcclfaa
open Go.RowKit

def okAt (r : RL) (k : Nat) : Bool := pos (r.W.getD k 0) && pos (r.E.getD k 0) && pos (r.H.getD k 0) && fin .f32 (r.T.getD k 0)
def lensOk (r : RL) : Bool := decide (1 ≤ r.W.length) && decide (r.W.length ≤ 48) && (r.E.length == r.W.length) && (r.H.length == r.W.length) && (r.T.length == r.W.length)
def vRod (r : RL) : Bool := lensOk r && (List.range r.W.length).all (okAt r)

theorem vRod_no {r : RL} (hl : lensOk r = true) {k : Nat} (hk : k < r.W.length) (h : okAt r k = false) : vRod r = false := by
  unfold vRod
  rw [hl, Bool.true_and, List.all_eq_false]
  exact ⟨k, by simpa using hk, by simp [h]⟩
theorem vRod_yes {r : RL} (hl : lensOk r = true) (h : ∀ j, j < r.W.length → okAt r j = true) : vRod r = true := by
  unfold vRod
  rw [hl, Bool.true_and, List.all_eq_true]
  intro x hx
  exact h x (by simpa using hx)

theorem specIs_len (a b c d : Value) (r : RL) (p : Nat) (w : World) (A : Cells w p [a, b, c, d]) (h : RRow w a b c d r) (hl : lensOk r = false) :
    Calls Try.prog 44 #[.pointer (some ⟨p, 0, none⟩)] w (Bol false w) := by
  have c0 := A.at 0 rfl
  have c1 := A.at 1 rfl
  have c2 := A.at 2 rfl
  have c3 := A.at 3 rfl
  have N1 := h.W.len
  obtain ⟨a1, a2, rfl⟩ := h.W.shape
  obtain ⟨b1, b2, rfl⟩ := h.E.shape
  obtain ⟨d1, d2, rfl⟩ := h.H.shape
  obtain ⟨e1, e2, rfl⟩ := h.T.shape
  clear A h
  unfold lensOk at hl
  generalize r.W.length = n at *
  generalize r.E.length = m1 at *
  generalize r.H.length = m2 at *
  generalize r.T.length = m3 at *
  by_cases g1 : 1 ≤ n
  · by_cases g2 : n ≤ 48
    · have f1 : decide ((n : Int) < 1) = false := by simp; omega
      have f2 : decide ((48 : Int) < n) = false := by simp; omega
      by_cases g3 : m1 = n
      · subst g3
        by_cases g4 : m2 = m1
        · subst g4
          have g5 : ¬ m3 = m2 := by simpa [g1, g2] using hl
          have f5 : ((m3 : Int) == (m2 : Int)) = false := by simp; omega
          have f5' : ((m3 : Int) != (m2 : Int)) = true := by simp; omega
          clear hl
          go_enter Try.func44, Try.ntmps44
          go_wp2
          go_ret
          exact ⟨rfl, 0, rfl⟩
        · have f4 : ((m2 : Int) == (m1 : Int)) = false := by simp; omega
          have f4' : ((m2 : Int) != (m1 : Int)) = true := by simp; omega
          clear hl
          go_enter Try.func44, Try.ntmps44
          go_wp2
          go_ret
          exact ⟨rfl, 0, rfl⟩
      · have f3 : ((m1 : Int) == (n : Int)) = false := by simp; omega
        have f3' : ((m1 : Int) != (n : Int)) = true := by simp; omega
        clear hl
        go_enter Try.func44, Try.ntmps44
        go_wp2
        go_ret
        exact ⟨rfl, 0, rfl⟩
    · have f1 : decide ((n : Int) < 1) = false := by simp; omega
      have f2 : decide ((48 : Int) < n) = true := by simp; omega
      clear hl
      go_enter Try.func44, Try.ntmps44
      go_wp2
      go_ret
      exact ⟨rfl, 0, rfl⟩
  · have f1 : decide ((n : Int) < 1) = true := by simp; omega
    clear hl
    go_enter Try.func44, Try.ntmps44
    go_wp2
    go_ret
    exact ⟨rfl, 0, rfl⟩

set_option maxHeartbeats 1600000 in
theorem specIs_ok (a b c d : Value) (r : RL) (p : Nat) (w : World) (A : Cells w p [a, b, c, d]) (h : RRow w a b c d r) (hl : lensOk r = true) :
    Calls Try.prog 44 #[.pointer (some ⟨p, 0, none⟩)] w (Bol (vRod r) w) := by
  have c0 := A.at 0 rfl
  have c1 := A.at 1 rfl
  have c2 := A.at 2 rfl
  have c3 := A.at 3 rfl
  have VN := Lib.hid (fun k (hk : k < r.W.length) (h : okAt r k = false) => vRod_no hl hk h)
  have VY := Lib.hid (fun h => vRod_yes hl h)
  have OK : Hid (∀ k, okAt r k = (pos (r.W.getD k 0) && pos (r.E.getD k 0) && pos (r.H.getD k 0) && fin .f32 (r.T.getD k 0))) := Lib.hid (fun k => rfl)
  obtain ⟨⟨⟨⟨g1, g2⟩, g3⟩, g4⟩, g5⟩ : (((1 ≤ r.W.length ∧ r.W.length ≤ 48) ∧ r.E.length = r.W.length) ∧ r.H.length = r.W.length) ∧ r.T.length = r.W.length := by simpa [lensOk] using hl
  obtain ⟨b0, o0, k0, rfl, h0⟩ := h.W.cells g1
  obtain ⟨b1, o1, k1, rfl, h1⟩ := h.E.cells (by omega)
  obtain ⟨b2, o2, k2, rfl, h2⟩ := h.H.cells (by omega)
  obtain ⟨b3, o3, k3, rfl, h3⟩ := h.T.cells (by omega)
  rw [g3] at h1 c1
  rw [g4] at h2 c2
  rw [g5] at h3 c3
  clear A h hl g3 g4 g5
  generalize r.W.length = n at *
  have f1 : decide ((n : Int) < 1) = false := by simp; omega
  have f2 : decide ((48 : Int) < n) = false := by simp; omega
  have G := Lib.hid g2
  clear g1 g2
  go_enter Try.func44, Try.ntmps44
  go_wp2
  go_loopw [4] (fun i wr => ∃ k q : Nat, k ≤ n ∧ i = .int .i64 k ∧ Hid (∀ j, j < k → okAt r j = true) ∧ wr = w.drewN q) (fun i _ => n - (intOf i).toNat)
  case atStart => exact ⟨0, 0, Nat.zero_le _, rfl, Lib.hid (fun j hj => absurd hj (Nat.not_lt_zero _)), rfl⟩
  case round =>
    obtain ⟨k, q, hk, rfl, hall, rfl⟩ := hrel
    by_cases hlt : k < n
    · have z0 := h0 k hlt
      have z1 := h1 k hlt
      have z2 := h2 k hlt
      have z3 := h3 k hlt
      have hG := G.out
      have hi : (0 : Int) ≤ (k : Int) := by omega
      have hi' : (k : Int) < (n : Int) := by omega
      have VNk := Lib.hid (VN.out k hlt)
      clear h0 h1 h2 h3
      have O := Lib.hid (OK.out k)
      generalize hy0 : (r.W.getD k 0) = y0 at *
      generalize hy1 : (r.E.getD k 0) = y1 at *
      generalize hy2 : (r.H.getD k 0) = y2 at *
      generalize hy3 : (r.T.getD k 0) = y3 at *
      clear hy0 hy1 hy2 hy3
      cases B0 : pos y0
      · have O' := Lib.hid (VNk.out (by rw [O.out]; simp [B0]))
        clear O
        go_wp2_with (first | (go_at_call_of 61 y0; refine (specAbove_any y0 _).mono ?_; rw [B0]; rintro e w' ⟨rfl, n0, rfl⟩))
        go_ret
        exact ⟨ret_b O'.out, _, rfl⟩
      · cases B1 : pos y1
        · have O' := Lib.hid (VNk.out (by rw [O.out]; simp [B0, B1]))
          clear O
          go_wp2_with (first | (go_at_call_of 61 y0; refine (specAbove_any y0 _).mono ?_; rw [B0]; rintro e w' ⟨rfl, n0, rfl⟩) | (go_at_call_of 61 y1; refine (specAbove_any y1 _).mono ?_; rw [B1]; rintro e w' ⟨rfl, n1, rfl⟩))
          go_ret
          exact ⟨ret_b O'.out, _, rfl⟩
        · cases B2 : pos y2
          · have O' := Lib.hid (VNk.out (by rw [O.out]; simp [B0, B1, B2]))
            clear O
            go_wp2_with (first | (go_at_call_of 61 y0; refine (specAbove_any y0 _).mono ?_; rw [B0]; rintro e w' ⟨rfl, n0, rfl⟩) | (go_at_call_of 61 y1; refine (specAbove_any y1 _).mono ?_; rw [B1]; rintro e w' ⟨rfl, n1, rfl⟩) | (go_at_call_of 61 y2; refine (specAbove_any y2 _).mono ?_; rw [B2]; rintro e w' ⟨rfl, n2, rfl⟩))
            go_ret
            exact ⟨ret_b O'.out, _, rfl⟩
          · cases B3 : fin .f32 y3
            · have O' := Lib.hid (VNk.out (by rw [O.out]; simp [B0, B1, B2, B3]))
              clear O
              go_wp2_with (first | (go_at_call_of 61 y0; refine (specAbove_any y0 _).mono ?_; rw [B0]; rintro e w' ⟨rfl, n0, rfl⟩) | (go_at_call_of 61 y1; refine (specAbove_any y1 _).mono ?_; rw [B1]; rintro e w' ⟨rfl, n1, rfl⟩) | (go_at_call_of 61 y2; refine (specAbove_any y2 _).mono ?_; rw [B2]; rintro e w' ⟨rfl, n2, rfl⟩) | (go_at_call_of 70 y3; refine (specFinite_any y3 _).mono ?_; rw [B3]; rintro e w' ⟨rfl, n3, rfl⟩))
              go_ret
              exact ⟨ret_b O'.out, _, rfl⟩
            · have O' := Lib.hid (show okAt r k = true by rw [O.out]; simp [B0, B1, B2, B3])
              clear O
              go_wp2_with (first | (go_at_call_of 61 y0; refine (specAbove_any y0 _).mono ?_; rw [B0]; rintro e w' ⟨rfl, n0, rfl⟩) | (go_at_call_of 61 y1; refine (specAbove_any y1 _).mono ?_; rw [B1]; rintro e w' ⟨rfl, n1, rfl⟩) | (go_at_call_of 61 y2; refine (specAbove_any y2 _).mono ?_; rw [B2]; rintro e w' ⟨rfl, n2, rfl⟩) | (go_at_call_of 70 y3; refine (specFinite_any y3 _).mono ?_; rw [B3]; rintro e w' ⟨rfl, n3, rfl⟩))
              go_roundw
              case rel => exact ⟨k + 1, _, by omega, by go_num, Lib.hid (fun j hj => by rcases Nat.lt_succ_iff_lt_or_eq.1 hj with h | h; exact hall.out j h; subst h; exact O'.out), rfl⟩
              case measure => simp [intOf]; omega
    · have e := Lib.hid (show k = n by omega)
      clear h0 h1 h2 h3
      go_wp2
      go_ret
      have := e.out
      subst this
      exact ⟨ret_b (VY.out hall.out), _, rfl⟩

theorem specIs_any (a b c d : Value) (r : RL) (p : Nat) (w : World) (A : Cells w p [a, b, c, d]) (h : RRow w a b c d r) :
    Calls Try.prog 44 #[.pointer (some ⟨p, 0, none⟩)] w (Bol (vRod r) w) := by
  cases hl : lensOk r
  · have : vRod r = false := by simp [vRod, hl]
    rw [this]
    exact specIs_len a b c d r p w A h hl
  · exact specIs_ok a b c d r p w A h hl

end Go.Proofs.Ytkbdidpodcclfaa
