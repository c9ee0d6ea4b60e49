/- Whether all numbers of a list are as a function tells; whether a rod is valid, as the program tells. -/
import Derived.Test.YtplepddciilbdabValidS
namespace Go.Proofs.Ytplepddciilbdab
open Go.RowKit

/-- an index, or -1 -/
def Idx (b : Bool) (w : World) (e : Ending) (w' : World) : Prop := ∃ i : Int, e = .returned (.int .i64 i) ∧ decide (0 ≤ i) = b ∧ ∃ n, w' = w.drewN n
theorem any_some {f : Nat → Bool} {zs : List Nat} {k : Nat} (hk : k < zs.length) (h : f (zs.getD k 0) = true) : zs.any f = true := by
  rw [List.any_eq_true]
  refine ⟨zs.getD k 0, ?_, h⟩
  simp [List.getD_eq_getElem?_getD, hk]
theorem not_any_not (f : Nat → Bool) (zs : List Nat) : (!(zs.any (fun z => !(f z)))) = zs.all f := by
  induction zs with
  | nil => rfl
  | cons x xs ih => simp only [List.any_cons, List.all_cons, ← ih]; cases f x <;> simp
theorem any_none {f : Nat → Bool} {zs : List Nat} (h : ∀ k, k < zs.length → f (zs.getD k 0) = false) : zs.any f = false := by
  rw [List.any_eq_false]
  intro x hx
  obtain ⟨i, hi, rfl⟩ := List.mem_iff_getElem.1 hx
  have := h i hi
  simpa [List.getD_eq_getElem?_getD, hi] using this

theorem litPos_any (y q : Nat) (w : World) (hq : w.cell? ⟨q, 0, none⟩ = some (.func (.func 102) #[] #[])) :
    Calls Try.prog 123 #[.float .f32 y, .pointer (some ⟨q, 0, none⟩)] w (Bol (!(pos y)) w) := by
  go_enter Try.func123, Try.ntmps123
  go_wp2_with (go_at_call 102; refine (implPos_any _ _).mono ?_; rintro e w' ⟨rfl, n, rfl⟩)
  go_ret
  exact ⟨rfl, _, rfl⟩

theorem idxPos_any (v : Value) (zs : List Nat) (q : Nat) (w : World) (h : FRow w v zs) (hq : w.cell? ⟨q, 0, none⟩ = some (.func (.func 102) #[] #[])) :
    Calls Try.prog 88 #[v, .func (.func 123) #[] #[.pointer (some ⟨q, 0, none⟩)]] w (Idx (zs.any (fun z => !(pos z))) w) := by
  have VS := Lib.hid (fun k (hk : k < zs.length) (h : (!(pos (zs.getD k 0))) = true) => any_some (f := fun z => !(pos z)) hk h)
  have VN := Lib.hid (fun h => any_none (f := fun z => !(pos z)) (zs := zs) h)
  have HC := Lib.hid (fun (hn : 1 ≤ zs.length) => h.cells hn)
  have HL := Lib.hid h.len
  obtain ⟨a, cap, rfl⟩ := h.shape
  clear h
  generalize hb : zs.any (fun z => !(pos z)) = b at *
  clear hb
  have HG : Hid (∀ k, zs.getD k 0 = zs.getD k 0) := Lib.hid (fun k => rfl)
  generalize hn : zs.length = n at *
  clear hn
  go_enter Try.func88, Try.ntmps88
  go_wp2
  go_loopw [5, 8] (fun _ i wr => ∃ k q : Nat, k ≤ n ∧ i = .int .i64 k ∧ Hid (∀ j, j < k → (!(pos (zs.getD j 0))) = false) ∧ wr = w.drewN q) (fun _ i _ => n - (intOf i).toNat)
  case atStart => exact ⟨0, 0, Nat.zero_le _, rfl, Lib.hid (fun j hj => absurd hj (Nat.not_lt_zero _)), rfl⟩
  case round =>
    obtain ⟨k, q, hk, rfl, hall, rfl⟩ := hrel
    by_cases hlt : k < n
    · obtain ⟨b0, o0, cap', e, hc⟩ := HC.out (by omega)
      have ea : a = some ⟨b0, o0, none⟩ := by cases e; rfl
      have z0 := hc k hlt
      have VSk := Lib.hid (VS.out k hlt)
      clear e hc
      subst ea
      have hG := HL.out
      have hi : (0 : Int) ≤ (k : Int) := by omega
      have hi' : (k : Int) < (n : Int) := by omega
      generalize hy : zs.getD k 0 = y at *
      cases B : pos y
      · have V := Lib.hid (VSk.out (by rw [B]; rfl))
        go_wp2_with (go_at_call 123; refine (litPos_any y _ _ (by simpa using hq)).mono ?_; rw [B]; rintro e w' ⟨rfl, n, rfl⟩)
        go_ret
        exact ⟨_, rfl, by rw [V.out]; simp, _, rfl⟩
      · have V := Lib.hid (show (!(pos (zs.getD k 0))) = false by rw [hy, B]; rfl)
        clear hy
        go_wp2_with (go_at_call 123; refine (litPos_any y _ _ (by simpa using hq)).mono ?_; rw [B]; rintro e w' ⟨rfl, n, rfl⟩)
        go_roundw
        case rel => exact ⟨k + 1, _, by omega, by go_num, Lib.hid (fun j hj => by rcases Nat.lt_succ_iff_lt_or_eq.1 hj with h | h; exact hall.out j h; subst h; exact V.out), rfl⟩
        case measure => simp [intOf]; omega
    · have e := Lib.hid (show k = n by omega)
      go_wp2
      go_ret
      have := e.out
      subst this
      exact ⟨_, rfl, by rw [VN.out hall.out]; rfl, _, rfl⟩

theorem allPos_any (v : Value) (zs : List Nat) (w : World) (h : FRow w v zs) : Calls Try.prog 101 #[v, .func (.func 102) #[] #[]] w (BolB (zs.all (pos)) w) := by
  have H := Lib.hid (h.below (below_al1 w (.cells [Value.func (.func 102) #[] #[]].toArray 77)))
  have e := Lib.hid (show (!(zs.any (fun z => !(pos z)))) = zs.all (pos) from not_any_not _ _)
  clear h
  go_enter Try.func101, Try.ntmps101
  go_wp2_with (first | (go_at_call 88; refine (idxPos_any _ zs _ _ H.out (by simp)).mono ?_; rintro e w' ⟨i, rfl, hi, n, rfl⟩) | go_in)
  go_ret
  exact ⟨ret_b e.out.symm, below_drewN (below_al1 _ _) _⟩

theorem litFin_any (y q : Nat) (w : World) (hq : w.cell? ⟨q, 0, none⟩ = some (.func (.func 86) #[] #[])) :
    Calls Try.prog 123 #[.float .f32 y, .pointer (some ⟨q, 0, none⟩)] w (Bol (!(fin .f32 y)) w) := by
  go_enter Try.func123, Try.ntmps123
  go_wp2_with (go_at_call 86; refine (implFinite_any _ _).mono ?_; rintro e w' ⟨rfl, n, rfl⟩)
  go_ret
  exact ⟨rfl, _, rfl⟩

theorem idxFin_any (v : Value) (zs : List Nat) (q : Nat) (w : World) (h : FRow w v zs) (hq : w.cell? ⟨q, 0, none⟩ = some (.func (.func 86) #[] #[])) :
    Calls Try.prog 88 #[v, .func (.func 123) #[] #[.pointer (some ⟨q, 0, none⟩)]] w (Idx (zs.any (fun z => !(fin .f32 z))) w) := by
  have VS := Lib.hid (fun k (hk : k < zs.length) (h : (!(fin .f32 (zs.getD k 0))) = true) => any_some (f := fun z => !(fin .f32 z)) hk h)
  have VN := Lib.hid (fun h => any_none (f := fun z => !(fin .f32 z)) (zs := zs) h)
  have HC := Lib.hid (fun (hn : 1 ≤ zs.length) => h.cells hn)
  have HL := Lib.hid h.len
  obtain ⟨a, cap, rfl⟩ := h.shape
  clear h
  generalize hb : zs.any (fun z => !(fin .f32 z)) = b at *
  clear hb
  have HG : Hid (∀ k, zs.getD k 0 = zs.getD k 0) := Lib.hid (fun k => rfl)
  generalize hn : zs.length = n at *
  clear hn
  go_enter Try.func88, Try.ntmps88
  go_wp2
  go_loopw [5, 8] (fun _ i wr => ∃ k q : Nat, k ≤ n ∧ i = .int .i64 k ∧ Hid (∀ j, j < k → (!(fin .f32 (zs.getD j 0))) = false) ∧ wr = w.drewN q) (fun _ i _ => n - (intOf i).toNat)
  case atStart => exact ⟨0, 0, Nat.zero_le _, rfl, Lib.hid (fun j hj => absurd hj (Nat.not_lt_zero _)), rfl⟩
  case round =>
    obtain ⟨k, q, hk, rfl, hall, rfl⟩ := hrel
    by_cases hlt : k < n
    · obtain ⟨b0, o0, cap', e, hc⟩ := HC.out (by omega)
      have ea : a = some ⟨b0, o0, none⟩ := by cases e; rfl
      have z0 := hc k hlt
      have VSk := Lib.hid (VS.out k hlt)
      clear e hc
      subst ea
      have hG := HL.out
      have hi : (0 : Int) ≤ (k : Int) := by omega
      have hi' : (k : Int) < (n : Int) := by omega
      generalize hy : zs.getD k 0 = y at *
      cases B : fin .f32 y
      · have V := Lib.hid (VSk.out (by rw [B]; rfl))
        go_wp2_with (go_at_call 123; refine (litFin_any y _ _ (by simpa using hq)).mono ?_; rw [B]; rintro e w' ⟨rfl, n, rfl⟩)
        go_ret
        exact ⟨_, rfl, by rw [V.out]; simp, _, rfl⟩
      · have V := Lib.hid (show (!(fin .f32 (zs.getD k 0))) = false by rw [hy, B]; rfl)
        clear hy
        go_wp2_with (go_at_call 123; refine (litFin_any y _ _ (by simpa using hq)).mono ?_; rw [B]; rintro e w' ⟨rfl, n, rfl⟩)
        go_roundw
        case rel => exact ⟨k + 1, _, by omega, by go_num, Lib.hid (fun j hj => by rcases Nat.lt_succ_iff_lt_or_eq.1 hj with h | h; exact hall.out j h; subst h; exact V.out), rfl⟩
        case measure => simp [intOf]; omega
    · have e := Lib.hid (show k = n by omega)
      go_wp2
      go_ret
      have := e.out
      subst this
      exact ⟨_, rfl, by rw [VN.out hall.out]; rfl, _, rfl⟩

theorem allFin_any (v : Value) (zs : List Nat) (w : World) (h : FRow w v zs) : Calls Try.prog 101 #[v, .func (.func 86) #[] #[]] w (BolB (zs.all (fin .f32)) w) := by
  have H := Lib.hid (h.below (below_al1 w (.cells [Value.func (.func 86) #[] #[]].toArray 77)))
  have e := Lib.hid (show (!(zs.any (fun z => !(fin .f32 z)))) = zs.all (fin .f32) from not_any_not _ _)
  clear h
  go_enter Try.func101, Try.ntmps101
  go_wp2_with (first | (go_at_call 88; refine (idxFin_any _ zs _ _ H.out (by simp)).mono ?_; rintro e w' ⟨i, rfl, hi, n, rfl⟩) | go_in)
  go_ret
  exact ⟨ret_b e.out.symm, below_drewN (below_al1 _ _) _⟩

theorem vRod_split {r : RL} (hl : lensOk r = true) : vRod r = (r.W.all pos && r.E.all pos && r.H.all pos && r.T.all (fin .f32)) := by
  have hl' := hl
  obtain ⟨⟨⟨⟨g1, g2⟩, g3⟩, g4⟩, g5⟩ : (((1 ≤ r.W.length ∧ r.W.length ≤ 48) ∧ r.E.length = r.W.length) ∧ r.H.length = r.W.length) ∧ r.T.length = r.W.length := by simpa [lensOk] using hl
  have key : ∀ (f : Nat → Bool) (zs : List Nat), zs.all f = true ↔ ∀ k, k < zs.length → f (zs.getD k 0) = true := fun f zs => by
    rw [List.all_eq_true]
    constructor
    · intro h k hk
      exact h _ (by simp [List.getD_eq_getElem?_getD, hk])
    · intro h x hx
      obtain ⟨i, hi, rfl⟩ := List.mem_iff_getElem.1 hx
      have := h i hi
      simpa [List.getD_eq_getElem?_getD, hi] using this
  unfold vRod
  rw [hl', Bool.true_and, Bool.eq_iff_iff, List.all_eq_true]
  simp only [Bool.and_eq_true, key, g3, g4, g5, List.mem_range, okAt]
  constructor
  · intro h
    exact ⟨⟨⟨fun k hk => (h k hk).1.1.1, fun k hk => (h k hk).1.1.2⟩, fun k hk => (h k hk).1.2⟩, fun k hk => (h k hk).2⟩
  · rintro ⟨⟨⟨h1, h2⟩, h3⟩, h4⟩ k hk
    exact ⟨⟨⟨h1 k hk, h2 k hk⟩, h3 k hk⟩, h4 k hk⟩

theorem implValid_len (a b c d : Value) (r : RL) (w : World) (h : RRow w a b c d r) (hl : lensOk r = false) :
    Calls Try.prog 58 #[.agg #[a, b, c, d]] w (BolB false w) := by
  obtain ⟨a1, a2, rfl⟩ := h.W.shape
  obtain ⟨b1, b2, rfl⟩ := h.E.shape
  obtain ⟨d1, d2, rfl⟩ := h.H.shape
  obtain ⟨e1, e2, rfl⟩ := h.T.shape
  clear h
  unfold lensOk at hl
  generalize r.W.length = m1 at *
  generalize r.E.length = m2 at *
  generalize r.H.length = m3 at *
  generalize r.T.length = n at *
  by_cases g1 : 1 ≤ n
  · have f1 : decide ((1 : Int) ≤ n) = true := by simp; omega
    by_cases g2 : n ≤ 48
    · have f2 : decide ((n : Int) ≤ 48) = true := by simp; omega
      by_cases g3 : m1 = n
      · subst g3
        by_cases g4 : m2 = m1
        · subst g4
          have g5 : ¬ m3 = m2 := by simpa [g1, g2] using hl
          have f5 : ((m3 : Int) == (m2 : Int)) = false := by simp; omega
          clear hl
          go_enter Try.func58, Try.ntmps58
          go_wp2
          go_ret
          exact ⟨rfl, below_al1 _ _⟩
        · have f4 : ((m2 : Int) == (m1 : Int)) = false := by simp; omega
          clear hl
          go_enter Try.func58, Try.ntmps58
          go_wp2
          go_ret
          exact ⟨rfl, below_al1 _ _⟩
      · have f3 : ((m1 : Int) == (n : Int)) = false := by simp; omega
        clear hl
        go_enter Try.func58, Try.ntmps58
        go_wp2
        go_ret
        exact ⟨rfl, below_al1 _ _⟩
    · have f2 : decide ((n : Int) ≤ 48) = false := by simp; omega
      clear hl
      go_enter Try.func58, Try.ntmps58
      go_wp2
      go_ret
      exact ⟨rfl, below_al1 _ _⟩
  · have f1 : decide ((1 : Int) ≤ n) = false := by simp; omega
    clear hl
    go_enter Try.func58, Try.ntmps58
    go_wp2
    go_ret
    exact ⟨rfl, below_al1 _ _⟩

set_option maxHeartbeats 1600000 in
theorem implValid_ok (a b c d : Value) (r : RL) (w : World) (h : RRow w a b c d r) (hl : lensOk r = true) :
    Calls Try.prog 58 #[.agg #[a, b, c, d]] w (BolB (vRod r) w) := by
  have R := Lib.hid (fun w1 (hb : Below w.heap.size w w1) => h.below hb)
  rw [vRod_split hl]
  obtain ⟨⟨⟨⟨g1, g2⟩, g3⟩, g4⟩, g5⟩ : (((1 ≤ r.W.length ∧ r.W.length ≤ 48) ∧ r.E.length = r.W.length) ∧ r.H.length = r.W.length) ∧ r.T.length = r.W.length := by simpa [lensOk] using hl
  obtain ⟨b0, k0, rfl⟩ := h.W.shape
  obtain ⟨b1, k1, rfl⟩ := h.E.shape
  obtain ⟨b2, k2, rfl⟩ := h.H.shape
  obtain ⟨b3, k3, rfl⟩ := h.T.shape
  rw [g3, g4, g5] at R ⊢
  clear h hl g3 g4 g5
  generalize r.W.length = n at *
  have f1 : decide ((1 : Int) ≤ n) = true := by simp; omega
  have f2 : decide ((n : Int) ≤ 48) = true := by simp; omega
  have A := Lib.hid (Cells.made w [.slice b0 n k0, .slice b1 n k1, .slice b2 n k2, .slice b3 n k3] 25)
  have Bw := Lib.hid (below_al1 w (.cells [Value.slice b0 n k0, .slice b1 n k1, .slice b2 n k2, .slice b3 n k3].toArray 25))
  clear g1 g2
  cases B0 : r.W.all pos
  · go_enter Try.func58, Try.ntmps58
    go_wp2_with (first | (go_at_call_of 101 b0; refine (allPos_any _ _ _ (R.out _ Bw.out).W).mono ?_; rw [B0]; rintro e w' ⟨rfl, hb⟩; have Bw := Lib.hid (below_step Bw.out hb); have A := Lib.hid (A.out.kept hb); have c0 := A.out.at 0 rfl; have c1 := A.out.at 1 rfl; have c2 := A.out.at 2 rfl; have c3 := A.out.at 3 rfl; clear hb))
    go_ret
    exact ⟨ret_b (by simp), Bw.out⟩
  · cases B1 : r.E.all pos
    · go_enter Try.func58, Try.ntmps58
      go_wp2_with (first | (go_at_call_of 101 b0; refine (allPos_any _ _ _ (R.out _ Bw.out).W).mono ?_; rw [B0]; rintro e w' ⟨rfl, hb⟩; have Bw := Lib.hid (below_step Bw.out hb); have A := Lib.hid (A.out.kept hb); have c0 := A.out.at 0 rfl; have c1 := A.out.at 1 rfl; have c2 := A.out.at 2 rfl; have c3 := A.out.at 3 rfl; clear hb) | (go_at_call_of 101 b1; refine (allPos_any _ _ _ (R.out _ Bw.out).E).mono ?_; rw [B1]; rintro e w' ⟨rfl, hb⟩; have Bw := Lib.hid (below_step Bw.out hb); have A := Lib.hid (A.out.kept hb); have c0 := A.out.at 0 rfl; have c1 := A.out.at 1 rfl; have c2 := A.out.at 2 rfl; have c3 := A.out.at 3 rfl; clear hb))
      go_ret
      exact ⟨ret_b (by simp), Bw.out⟩
    · cases B2 : r.H.all pos
      · go_enter Try.func58, Try.ntmps58
        go_wp2_with (first | (go_at_call_of 101 b0; refine (allPos_any _ _ _ (R.out _ Bw.out).W).mono ?_; rw [B0]; rintro e w' ⟨rfl, hb⟩; have Bw := Lib.hid (below_step Bw.out hb); have A := Lib.hid (A.out.kept hb); have c0 := A.out.at 0 rfl; have c1 := A.out.at 1 rfl; have c2 := A.out.at 2 rfl; have c3 := A.out.at 3 rfl; clear hb) | (go_at_call_of 101 b1; refine (allPos_any _ _ _ (R.out _ Bw.out).E).mono ?_; rw [B1]; rintro e w' ⟨rfl, hb⟩; have Bw := Lib.hid (below_step Bw.out hb); have A := Lib.hid (A.out.kept hb); have c0 := A.out.at 0 rfl; have c1 := A.out.at 1 rfl; have c2 := A.out.at 2 rfl; have c3 := A.out.at 3 rfl; clear hb) | (go_at_call_of 101 b2; refine (allPos_any _ _ _ (R.out _ Bw.out).H).mono ?_; rw [B2]; rintro e w' ⟨rfl, hb⟩; have Bw := Lib.hid (below_step Bw.out hb); have A := Lib.hid (A.out.kept hb); have c0 := A.out.at 0 rfl; have c1 := A.out.at 1 rfl; have c2 := A.out.at 2 rfl; have c3 := A.out.at 3 rfl; clear hb))
        go_ret
        exact ⟨ret_b (by simp), Bw.out⟩
      · cases B3 : r.T.all (fin .f32)
        · go_enter Try.func58, Try.ntmps58
          go_wp2_with (first | (go_at_call_of 101 b0; refine (allPos_any _ _ _ (R.out _ Bw.out).W).mono ?_; rw [B0]; rintro e w' ⟨rfl, hb⟩; have Bw := Lib.hid (below_step Bw.out hb); have A := Lib.hid (A.out.kept hb); have c0 := A.out.at 0 rfl; have c1 := A.out.at 1 rfl; have c2 := A.out.at 2 rfl; have c3 := A.out.at 3 rfl; clear hb) | (go_at_call_of 101 b1; refine (allPos_any _ _ _ (R.out _ Bw.out).E).mono ?_; rw [B1]; rintro e w' ⟨rfl, hb⟩; have Bw := Lib.hid (below_step Bw.out hb); have A := Lib.hid (A.out.kept hb); have c0 := A.out.at 0 rfl; have c1 := A.out.at 1 rfl; have c2 := A.out.at 2 rfl; have c3 := A.out.at 3 rfl; clear hb) | (go_at_call_of 101 b2; refine (allPos_any _ _ _ (R.out _ Bw.out).H).mono ?_; rw [B2]; rintro e w' ⟨rfl, hb⟩; have Bw := Lib.hid (below_step Bw.out hb); have A := Lib.hid (A.out.kept hb); have c0 := A.out.at 0 rfl; have c1 := A.out.at 1 rfl; have c2 := A.out.at 2 rfl; have c3 := A.out.at 3 rfl; clear hb) | (go_at_call_of 101 b3; refine (allFin_any _ _ _ (R.out _ Bw.out).T).mono ?_; rw [B3]; rintro e w' ⟨rfl, hb⟩; have Bw := Lib.hid (below_step Bw.out hb); have A := Lib.hid (A.out.kept hb); have c0 := A.out.at 0 rfl; have c1 := A.out.at 1 rfl; have c2 := A.out.at 2 rfl; have c3 := A.out.at 3 rfl; clear hb))
          go_ret
          exact ⟨ret_b (by simp), Bw.out⟩
        · go_enter Try.func58, Try.ntmps58
          go_wp2_with (first | (go_at_call_of 101 b0; refine (allPos_any _ _ _ (R.out _ Bw.out).W).mono ?_; rw [B0]; rintro e w' ⟨rfl, hb⟩; have Bw := Lib.hid (below_step Bw.out hb); have A := Lib.hid (A.out.kept hb); have c0 := A.out.at 0 rfl; have c1 := A.out.at 1 rfl; have c2 := A.out.at 2 rfl; have c3 := A.out.at 3 rfl; clear hb) | (go_at_call_of 101 b1; refine (allPos_any _ _ _ (R.out _ Bw.out).E).mono ?_; rw [B1]; rintro e w' ⟨rfl, hb⟩; have Bw := Lib.hid (below_step Bw.out hb); have A := Lib.hid (A.out.kept hb); have c0 := A.out.at 0 rfl; have c1 := A.out.at 1 rfl; have c2 := A.out.at 2 rfl; have c3 := A.out.at 3 rfl; clear hb) | (go_at_call_of 101 b2; refine (allPos_any _ _ _ (R.out _ Bw.out).H).mono ?_; rw [B2]; rintro e w' ⟨rfl, hb⟩; have Bw := Lib.hid (below_step Bw.out hb); have A := Lib.hid (A.out.kept hb); have c0 := A.out.at 0 rfl; have c1 := A.out.at 1 rfl; have c2 := A.out.at 2 rfl; have c3 := A.out.at 3 rfl; clear hb) | (go_at_call_of 101 b3; refine (allFin_any _ _ _ (R.out _ Bw.out).T).mono ?_; rw [B3]; rintro e w' ⟨rfl, hb⟩; have Bw := Lib.hid (below_step Bw.out hb); have A := Lib.hid (A.out.kept hb); have c0 := A.out.at 0 rfl; have c1 := A.out.at 1 rfl; have c2 := A.out.at 2 rfl; have c3 := A.out.at 3 rfl; clear hb))
          go_ret
          exact ⟨ret_b (by simp), Bw.out⟩

theorem implValid_any (a b c d : Value) (r : RL) (w : World) (h : RRow w a b c d r) : Calls Try.prog 58 #[.agg #[a, b, c, d]] w (BolB (vRod r) w) := by
  cases hl : lensOk r
  · have : vRod r = false := by simp [vRod, hl]
    rw [this]
    exact implValid_len a b c d r w h hl
  · exact implValid_ok a b c d r w h hl

end Go.Proofs.Ytplepddciilbdab
