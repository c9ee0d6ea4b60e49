/- The least and the greatest warmth of a plate: both sides, and the law. -/
import Derived.Test.YtcjhaeiknenajaaPlLay
import Derived.Test.YtcjhaeiknenajaaOpenP
import Derived.Deep.RegionHeld3
import Derived.OwnWalk
namespace Go.Proofs.Ytcjhaeiknenajaa
open Go.RowKit
set_option linter.unusedVariables false

def ltF (a b : Nat) : Bool := FloatKind.f32.format.order a b == some Ordering.lt
def gtF (a b : Nat) : Bool := FloatKind.f32.format.order a b == some Ordering.gt
def cv (a b : Nat) : Int := bif ltF a b then -1 else bif gtF a b then 1 else 0
theorem cv_lt {a b : Nat} (h : ltF a b = true) : cv a b = -1 := by unfold cv; rw [h]; rfl
theorem cv_nlt {a b : Nat} (h : ltF a b = false) : ∃ t : Int, cv a b = t ∧ decide (t < 0) = false := by
  unfold cv; rw [h]
  cases gtF a b
  · exact ⟨0, rfl, by decide⟩
  · exact ⟨1, rfl, by decide⟩
theorem lt_gt {a b : Nat} (h : gtF a b = true) : ltF a b = false := by
  unfold gtF at h; unfold ltF
  have : FloatKind.f32.format.order a b = some Ordering.gt := by simpa using h
  rw [this]; rfl
theorem cv_gt {a b : Nat} (h : gtF a b = true) : cv a b = 1 := by unfold cv; rw [lt_gt h, h]; rfl
theorem cv_ngt {a b : Nat} (h : gtF a b = false) : ∃ t : Int, cv a b = t ∧ decide (0 < t) = false := by
  unfold cv; rw [h]
  cases ltF a b
  · exact ⟨0, rfl, by decide⟩
  · exact ⟨-1, rfl, by decide⟩
theorem self_eq {a : Nat} (h : fin .f32 a = true) : (FloatKind.f32.format.order a a != some Ordering.eq) = false := by
  rw [ord_key, finP_nn h]
  simp
/-- the first one of a list that none beats by f -/
def pickL (f : Nat → Nat → Bool) (zs : List Nat) : Nat → Nat
  | 0 => zs.getD 0 0
  | k + 1 => bif f (zs.getD (k + 1) 0) (pickL f zs k) then zs.getD (k + 1) 0 else pickL f zs k
theorem pickL_yes {f : Nat → Nat → Bool} {zs : List Nat} {k : Nat} (h : f (zs.getD (k + 1) 0) (pickL f zs k) = true) : pickL f zs (k + 1) = zs.getD (k + 1) 0 := by
  show (bif f (zs.getD (k + 1) 0) (pickL f zs k) then zs.getD (k + 1) 0 else pickL f zs k) = _
  rw [h]; rfl
theorem pickL_no {f : Nat → Nat → Bool} {zs : List Nat} {k : Nat} (h : f (zs.getD (k + 1) 0) (pickL f zs k) = false) : pickL f zs (k + 1) = pickL f zs k := by
  show (bif f (zs.getD (k + 1) 0) (pickL f zs k) then zs.getD (k + 1) 0 else pickL f zs k) = _
  rw [h]; rfl
theorem pickL_fin {f : Nat → Nat → Bool} {zs : List Nat} (h : ∀ k, k < zs.length → fin .f32 (zs.getD k 0) = true) : ∀ k, k < zs.length → fin .f32 (pickL f zs k) = true
  | 0, hk => h 0 hk
  | k + 1, hk => by
    cases e : f (zs.getD (k + 1) 0) (pickL f zs k)
    · rw [pickL_no e]; exact pickL_fin h k (by omega)
    · rw [pickL_yes e]; exact h _ hk

theorem isNaN_any (a : Nat) (w : World) (h : fin .f32 a = true) : Calls Try.prog 107 #[.float .f32 a] w (Bol false w) := by
  have E := Lib.hid (self_eq h)
  go_enter Try.func107, Try.ntmps107
  go_wp2
  go_ret
  exact ⟨ret_b E.out.symm, 0, rfl⟩
def Int1 (t : Int) (w : World) (e : Ending) (w' : World) : Prop := e = .returned (.int .i64 t) ∧ ∃ n, w' = w.drewN n
theorem cmp_any (a b : Nat) (w : World) (ha : fin .f32 a = true) (hb : fin .f32 b = true) : Calls Try.prog 84 #[.float .f32 a, .float .f32 b] w (Int1 (cv a b) w) := by
  cases hl : ltF a b
  · cases hg : gtF a b
    · have E : Hid (cv a b = 0) := Lib.hid (by unfold cv; rw [hl, hg]; rfl)
      unfold ltF at hl; unfold gtF at hg
      go_enter Try.func84, Try.ntmps84
      go_wp2_with fail
      refine (isNaN_any a _ ha).mono ?_
      rintro e w' ⟨rfl, n, rfl⟩
      go_wp2_with fail
      refine (isNaN_any b _ hb).mono ?_
      rintro e w' ⟨rfl, m, rfl⟩
      go_wp2
      go_ret
      exact ⟨by rw [E.out]; rfl, _, rfl⟩
    · have E : Hid (cv a b = 1) := Lib.hid (cv_gt hg)
      unfold ltF at hl; unfold gtF at hg
      go_enter Try.func84, Try.ntmps84
      go_wp2_with fail
      refine (isNaN_any a _ ha).mono ?_
      rintro e w' ⟨rfl, n, rfl⟩
      go_wp2_with fail
      refine (isNaN_any b _ hb).mono ?_
      rintro e w' ⟨rfl, m, rfl⟩
      go_wp2
      go_ret
      exact ⟨by rw [E.out]; rfl, _, rfl⟩
  · have E : Hid (cv a b = -1) := Lib.hid (cv_lt hl)
    unfold ltF at hl
    go_enter Try.func84, Try.ntmps84
    go_wp2_with fail
    refine (isNaN_any a _ ha).mono ?_
    rintro e w' ⟨rfl, n, rfl⟩
    go_wp2_with fail
    refine (isNaN_any b _ hb).mono ?_
    rintro e w' ⟨rfl, m, rfl⟩
    go_wp2
    go_ret
    exact ⟨by rw [E.out]; rfl, _, rfl⟩

set_option maxHeartbeats 800000 in
theorem minF_any (b0 o0 k0 n : Nat) (zs : List Nat) (w : World) (hn : zs.length = n) (h1 : 1 ≤ n) (h9 : n ≤ 144) (hc : ∀ i, i < n → w.cell? ⟨b0, o0 + i, none⟩ = some (.float .f32 (zs.getD i 0))) (hf : ∀ i, i < n → fin .f32 (zs.getD i 0) = true) :
    Calls Try.prog 83 #[ps b0 o0 n k0, .func (.func 84) #[] #[]] w fun e w' => e = .returned (.float .f32 (pickL ltF zs (n - 1))) ∧ ∃ m, w' = w.drewN m := by
  have H := Lib.hid hc
  have HF := Lib.hid hf
  have PF := Lib.hid (fun k hk => pickL_fin (f := ltF) (zs := zs) (by rw [hn]; exact hf) k (by rw [hn]; exact hk))
  have PY := Lib.hid (fun k h => pickL_yes (f := ltF) (zs := zs) (k := k) h)
  have PN := Lib.hid (fun k h => pickL_no (f := ltF) (zs := zs) (k := k) h)
  have P0 : Hid (pickL ltF zs 0 = zs.getD 0 0) := Lib.hid rfl
  have z0 := hc 0 (by omega)
  rw [Nat.add_zero, ← P0.out] at z0
  clear hc hf hn
  generalize pickL ltF zs = pk at *
  go_enter Try.func83, Try.ntmps83
  go_wp2
  go_loopw [5, 6] (fun s i wr => ∃ k m : Nat, k < n ∧ i = .int .i64 ((k + 1 : Nat) : Int) ∧ s = .float .f32 (pk k) ∧ wr = w.drewN m) (fun _ i _ => n - (intOf i).toNat)
  case atStart => exact ⟨0, 0, h1, rfl, rfl, rfl⟩
  case round =>
    obtain ⟨k, m, hk, rfl, rfl, rfl⟩ := hrel
    by_cases hlt : k + 1 < n
    · have z1 := H.out (k + 1) hlt
      have F1 := Lib.hid (HF.out (k + 1) hlt)
      have F0 := Lib.hid (PF.out k hk)
      have PYk := Lib.hid (PY.out k)
      have PNk := Lib.hid (PN.out k)
      generalize zs.getD (k + 1) 0 = y at *
      have hi : (0 : Int) ≤ ((k + 1 : Nat) : Int) := by omega
      have hi' : ((k + 1 : Nat) : Int) < (n : Int) := by omega
      cases L : ltF y (pk k)
      · have E := Lib.hid (PNk.out L)
        obtain ⟨t, ht, hd⟩ := cv_nlt L
        have HT := Lib.hid ht
        clear ht
        go_wp2_with (first | (go_at_call 84; refine (cmp_any y (pk k) _ F1.out F0.out).mono ?_; rw [HT.out]; rintro e w' ⟨rfl, n4, rfl⟩))
        go_roundw
        case rel => exact ⟨k + 1, _, by omega, by go_num, by rw [E.out], rfl⟩
        case measure => simp [intOf]; omega
      · have E := Lib.hid (PYk.out L)
        have HT := Lib.hid (cv_lt L)
        go_wp2_with (first | (go_at_call 84; refine (cmp_any y (pk k) _ F1.out F0.out).mono ?_; rw [HT.out]; rintro e w' ⟨rfl, n4, rfl⟩))
        go_roundw
        case rel => exact ⟨k + 1, _, by omega, by go_num, by rw [E.out], rfl⟩
        case measure => simp [intOf]; omega
    · have e := Lib.hid (show k = n - 1 by omega)
      go_wp2
      go_ret
      exact ⟨by rw [← e.out]; rfl, _, rfl⟩

set_option maxHeartbeats 800000 in
theorem maxF_any (b0 o0 k0 n : Nat) (zs : List Nat) (w : World) (hn : zs.length = n) (h1 : 1 ≤ n) (h9 : n ≤ 144) (hc : ∀ i, i < n → w.cell? ⟨b0, o0 + i, none⟩ = some (.float .f32 (zs.getD i 0))) (hf : ∀ i, i < n → fin .f32 (zs.getD i 0) = true) :
    Calls Try.prog 85 #[ps b0 o0 n k0, .func (.func 84) #[] #[]] w fun e w' => e = .returned (.float .f32 (pickL gtF zs (n - 1))) ∧ ∃ m, w' = w.drewN m := by
  have H := Lib.hid hc
  have HF := Lib.hid hf
  have PF := Lib.hid (fun k hk => pickL_fin (f := gtF) (zs := zs) (by rw [hn]; exact hf) k (by rw [hn]; exact hk))
  have PY := Lib.hid (fun k h => pickL_yes (f := gtF) (zs := zs) (k := k) h)
  have PN := Lib.hid (fun k h => pickL_no (f := gtF) (zs := zs) (k := k) h)
  have P0 : Hid (pickL gtF zs 0 = zs.getD 0 0) := Lib.hid rfl
  have z0 := hc 0 (by omega)
  rw [Nat.add_zero, ← P0.out] at z0
  clear hc hf hn
  generalize pickL gtF zs = pk at *
  go_enter Try.func85, Try.ntmps85
  go_wp2
  go_loopw [5, 6] (fun s i wr => ∃ k m : Nat, k < n ∧ i = .int .i64 ((k + 1 : Nat) : Int) ∧ s = .float .f32 (pk k) ∧ wr = w.drewN m) (fun _ i _ => n - (intOf i).toNat)
  case atStart => exact ⟨0, 0, h1, rfl, rfl, rfl⟩
  case round =>
    obtain ⟨k, m, hk, rfl, rfl, rfl⟩ := hrel
    by_cases hlt : k + 1 < n
    · have z1 := H.out (k + 1) hlt
      have F1 := Lib.hid (HF.out (k + 1) hlt)
      have F0 := Lib.hid (PF.out k hk)
      have PYk := Lib.hid (PY.out k)
      have PNk := Lib.hid (PN.out k)
      generalize zs.getD (k + 1) 0 = y at *
      have hi : (0 : Int) ≤ ((k + 1 : Nat) : Int) := by omega
      have hi' : ((k + 1 : Nat) : Int) < (n : Int) := by omega
      cases L : gtF y (pk k)
      · have E := Lib.hid (PNk.out L)
        obtain ⟨t, ht, hd⟩ := cv_ngt L
        have HT := Lib.hid ht
        clear ht
        go_wp2_with (first | (go_at_call 84; refine (cmp_any y (pk k) _ F1.out F0.out).mono ?_; rw [HT.out]; rintro e w' ⟨rfl, n4, rfl⟩))
        go_roundw
        case rel => exact ⟨k + 1, _, by omega, by go_num, by rw [E.out], rfl⟩
        case measure => simp [intOf]; omega
      · have E := Lib.hid (PYk.out L)
        have HT := Lib.hid (cv_gt L)
        go_wp2_with (first | (go_at_call 84; refine (cmp_any y (pk k) _ F1.out F0.out).mono ?_; rw [HT.out]; rintro e w' ⟨rfl, n4, rfl⟩))
        go_roundw
        case rel => exact ⟨k + 1, _, by omega, by go_num, by rw [E.out], rfl⟩
        case measure => simp [intOf]; omega
    · have e := Lib.hid (show k = n - 1 by omega)
      go_wp2
      go_ret
      exact ⟨by rw [← e.out]; rfl, _, rfl⟩

def rLo (r : PL) : Nat := bif vPl r then pickL ltF r.W (r.W.length - 1) else 0
def rHi (r : PL) : Nat := bif vPl r then pickL gtF r.W (r.W.length - 1) else 0
def Rng (r : PL) (w : World) (e : Ending) (w' : World) : Prop := e = .returned (.tuple #[.float .f32 (rLo r), .float .f32 (rHi r), .bool (vPl r)]) ∧ Below w.heap.size w w'
theorem rng_no {r : PL} {w w' : World} (h : vPl r = false) (hb : Below w.heap.size w w') : Rng r w (.returned (.tuple #[.float .f32 0, .float .f32 0, .bool false])) w' := by
  refine ⟨?_, hb⟩
  unfold rLo rHi; rw [h]; rfl
theorem rng_yes {r : PL} {w w' : World} (h : vPl r = true) (hb : Below w.heap.size w w') : Rng r w (.returned (.tuple #[.float .f32 (pickL ltF r.W (r.W.length - 1)), .float .f32 (pickL gtF r.W (r.W.length - 1)), .bool true])) w' := by
  refine ⟨?_, hb⟩
  unfold rLo rHi; rw [h]; rfl
theorem vPl_W {r : PL} (h : vPl r = true) : ∀ k, k < r.W.length → fin .f32 (r.W.getD k 0) = true := by
  unfold vPl at h
  simp only [Bool.and_eq_true] at h
  exact fun k hk => all_at h.1.1.2 hk

set_option maxHeartbeats 800000 in
theorem specRange_any (a b c d : Value) (r : PL) (w : World) (h : PRow w a b c d r) : Calls Try.prog 35 #[.agg #[.int .i64 r.X, .int .i64 r.Y, a, b, c, d]] w (Rng r w) := by
  have IV := Lib.hid (specPl_any a b c d r w.heap.size _ (Cells.made w (pvs r a b c d) 28) (h.below (below_al1 w (.cells (pvs r a b c d).toArray 28))))
  cases hv : vPl r
  · have E0 := Lib.hid (fun w' hb => rng_no (w := w) (w' := w') hv hb)
    rw [hv] at IV
    clear h
    go_enter Try.func35, Try.ntmps35
    go_wp2_with fail
    refine IV.out.mono ?_
    rintro e w' ⟨rfl, n1, rfl⟩
    go_wp2
    go_ret3
    exact E0.out _ (below_drewN (below_al1 _ _) _)
  · have E1 := Lib.hid (fun w' hb => rng_yes (w := w) (w' := w') hv hb)
    have WF := Lib.hid (vPl_W hv)
    rw [hv] at IV
    have NN0 := PlN.ofV hv
    obtain ⟨b0, o0, k0, b1, o1, k1, b2, o2, k2, b3, o3, k3, rfl, rfl, rfl, rfl, hL⟩ := h.lay NN0
    generalize hgn : r.W.length = n at *
    clear hgn
    have NN := Lib.hid NN0
    have LY := Lib.hid hL
    have N9 := Lib.hid NN0.q
    clear NN0 hL
    clear hv h
    generalize Rng r w = RG at *
    have A := Lib.hid (Cells.made w (pvs r (ps b0 o0 n k0) (ps b1 o1 n k1) (ps b2 o2 n k2) (ps b3 o3 n k3)) 28)
    have Bw := Lib.hid (below_al1 w (.cells (pvs r (ps b0 o0 n k0) (ps b1 o1 n k1) (ps b2 o2 n k2) (ps b3 o3 n k3)).toArray 28))
    have LY := Lib.hid (LY.out.below (below_al1 w (.cells (pvs r (ps b0 o0 n k0) (ps b1 o1 n k1) (ps b2 o2 n k2) (ps b3 o3 n k3)).toArray 28)))
    have lY := Lib.hid (fun k h => pickL_yes (f := ltF) (zs := r.W) (k := k) h)
    have lN := Lib.hid (fun k h => pickL_no (f := ltF) (zs := r.W) (k := k) h)
    have l0 : Hid (pickL ltF r.W 0 = r.W.getD 0 0) := Lib.hid rfl
    have gY := Lib.hid (fun k h => pickL_yes (f := gtF) (zs := r.W) (k := k) h)
    have gN := Lib.hid (fun k h => pickL_no (f := gtF) (zs := r.W) (k := k) h)
    have g0 : Hid (pickL gtF r.W 0 = r.W.getD 0 0) := Lib.hid rfl
    generalize pickL ltF r.W = pl at *
    generalize pickL gtF r.W = pg at *
    have n1 := NN.out.p
    have z0 := LY.out.W 0 (by omega)
    rw [Nat.add_zero] at z0
    generalize r.W.getD 0 0 = y0 at *
    clear WF
    go_enter Try.func35, Try.ntmps35
    go_wp2_with fail
    refine IV.out.mono ?_
    rintro e w' ⟨rfl, m1, rfl⟩
    have c0 := A.out.at 0 rfl; have c1 := A.out.at 1 rfl; have c2 := A.out.at 2 rfl; have c3 := A.out.at 3 rfl; have c4 := A.out.at 4 rfl; have c5 := A.out.at 5 rfl
    go_wp2_with fail
    go_loopw [5, 6, 7] (fun s t i wr => ∃ k m : Nat, k < n ∧ i = .int .i64 ((k + 1 : Nat) : Int) ∧ s = .float .f32 (pl k) ∧ t = .float .f32 (pg k) ∧ wr = (w.alloc (.cells (pvs r (ps b0 o0 n k0) (ps b1 o1 n k1) (ps b2 o2 n k2) (ps b3 o3 n k3)).toArray 28)).drewN m) (fun _ _ i _ => n - (intOf i).toNat)
    case atStart => exact ⟨0, _, n1, rfl, by rw [l0.out], by rw [g0.out], rfl⟩
    case round =>
      obtain ⟨k, m, hk, rfl, rfl, rfl, rfl⟩ := hrel
      have hG := N9.out
      by_cases hlt : k + 1 < n
      · have z1 := LY.out.W (k + 1) hlt
        have lYk := Lib.hid (lY.out k)
        have lNk := Lib.hid (lN.out k)
        have gYk := Lib.hid (gY.out k)
        have gNk := Lib.hid (gN.out k)
        generalize r.W.getD (k + 1) 0 = y at *
        have hi : (0 : Int) ≤ ((k + 1 : Nat) : Int) := by omega
        have hi' : ((k + 1 : Nat) : Int) < (n : Int) := by omega
        cases L : ltF y (pl k) <;> cases U : gtF y (pg k)
        all_goals
          have EL := Lib.hid L
          have EU := Lib.hid U
          unfold ltF at L
          unfold gtF at U
          go_wp2
          go_roundw
          case rel => exact ⟨k + 1, _, by omega, by go_num, by first | rw [lNk.out EL.out] | rw [lYk.out EL.out], by first | rw [gNk.out EU.out] | rw [gYk.out EU.out], rfl⟩
          case measure => simp [intOf]; omega
      · have e := Lib.hid (show k = n - 1 by omega)
        go_wp2
        go_ret3
        have ee := e.out
        rw [ee]
        exact E1.out _ (below_drewN (below_al1 _ _) _)

set_option maxHeartbeats 800000 in
theorem implRange_any (a b c d : Value) (r : PL) (w : World) (h : PRow w a b c d r) : Calls Try.prog 36 #[.agg #[.int .i64 r.X, .int .i64 r.Y, a, b, c, d]] w (Rng r w) := by
  have IV := Lib.hid (implPl_any a b c d r _ (h.below (below_al1 w (.cells (pvs r a b c d).toArray 28))))
  cases hv : vPl r
  · have E0 := Lib.hid (fun w' hb => rng_no (w := w) (w' := w') hv hb)
    rw [hv] at IV
    clear h
    go_enter Try.func36, Try.ntmps36
    go_wp2_with fail
    refine IV.out.mono ?_
    rintro e w' ⟨rfl, hb⟩
    go_wp2
    go_ret3
    exact E0.out _ (below_step (below_al1 _ _) hb)
  · have E1 := Lib.hid (fun w' hb => rng_yes (w := w) (w' := w') hv hb)
    have WF := Lib.hid (vPl_W hv)
    rw [hv] at IV
    have NN0 := PlN.ofV hv
    obtain ⟨b0, o0, k0, b1, o1, k1, b2, o2, k2, b3, o3, k3, rfl, rfl, rfl, rfl, hL⟩ := h.lay NN0
    generalize hgn : r.W.length = n at *
    clear hgn
    have NN := Lib.hid NN0
    have LY := Lib.hid hL
    have N9 := Lib.hid NN0.q
    clear NN0 hL
    clear hv h
    generalize Rng r w = RG at *
    have A := Lib.hid (Cells.made w (pvs r (ps b0 o0 n k0) (ps b1 o1 n k1) (ps b2 o2 n k2) (ps b3 o3 n k3)) 28)
    have Bw := Lib.hid (below_al1 w (.cells (pvs r (ps b0 o0 n k0) (ps b1 o1 n k1) (ps b2 o2 n k2) (ps b3 o3 n k3)).toArray 28))
    have LY := Lib.hid (LY.out.below (below_al1 w (.cells (pvs r (ps b0 o0 n k0) (ps b1 o1 n k1) (ps b2 o2 n k2) (ps b3 o3 n k3)).toArray 28)))
    go_enter Try.func36, Try.ntmps36
    go_wp2_with fail
    refine IV.out.mono ?_
    rintro e w1 ⟨rfl, hb⟩
    have Bw := Lib.hid (below_step Bw.out hb)
    have A := Lib.hid (A.out.kept hb)
    have LY := Lib.hid (LY.out.below hb)
    have c0 := A.out.at 0 rfl; have c1 := A.out.at 1 rfl; have c2 := A.out.at 2 rfl; have c3 := A.out.at 3 rfl; have c4 := A.out.at 4 rfl; have c5 := A.out.at 5 rfl
    clear hb
    have n1 := NN.out.p
    have hw := NN.out.W
    have MI := Lib.hid (fun m => minF_any b0 o0 k0 n r.W (w1.drewN m) hw n1 N9.out (fun i hi => LY.out.W i hi) (fun i hi => WF.out i (by first | omega | exact hi)))
    have MA := Lib.hid (fun m => maxF_any b0 o0 k0 n r.W (w1.drewN m) hw n1 N9.out (fun i hi => LY.out.W i hi) (fun i hi => WF.out i (by first | omega | exact hi)))
    clear hw n1 WF
    go_wp2
    refine wp_region_loose (fun f _ v => (f = 83 → v = .float .f32 (pickL ltF r.W (n - 1))) ∧ (f = 85 → v = .float .f32 (pickL gtF r.W (n - 1)))) (by kernel_rfl) (by kernel_rfl) ?_
    repeat (first | (refine wpLoose_farith rfl _ _ _ _ _ rfl rfl _ _ _ rfl rfl ?_; intro _ _) | (refine wpLoose_valK rfl ?_ (fun w1 hw1 => ?_) (fun K hK => ?_); rotate_left; (focus (obtain ⟨nq, rfl⟩ := hw1; go_simp; first | done | rfl)); go_simp; refine hK _ ?_; clear hK K))
    refine wpLoose_call rfl 83 #[ps b0 o0 n k0, .func (.func 84) #[] #[]] (fun w2 => ?_) (fun w2 hw2 => ?_) ?_
    · go_simp
    · obtain ⟨nq, rfl⟩ := hw2
      refine (MI.out _).mono ?_
      rintro e w3 ⟨rfl, m, rfl⟩
      exact ⟨_, rfl, ⟨fun _ => rfl, fun h => absurd h (by decide)⟩, m, rfl⟩
    rintro v ⟨hv1, _⟩
    obtain rfl := hv1 rfl
    repeat (first | (refine wpLoose_farith rfl _ _ _ _ _ rfl rfl _ _ _ rfl rfl ?_; intro _ _) | (refine wpLoose_valK rfl ?_ (fun w1 hw1 => ?_) (fun K hK => ?_); rotate_left; (focus (obtain ⟨nq, rfl⟩ := hw1; go_simp; first | done | rfl)); go_simp; refine hK _ ?_; clear hK K))
    refine wpLoose_call rfl 85 #[ps b0 o0 n k0, .func (.func 84) #[] #[]] (fun w2 => ?_) (fun w2 hw2 => ?_) ?_
    · go_simp
    · obtain ⟨nq, rfl⟩ := hw2
      refine (MA.out _).mono ?_
      rintro e w3 ⟨rfl, m, rfl⟩
      exact ⟨_, rfl, ⟨fun h => absurd h (by decide), fun _ => rfl⟩, m, rfl⟩
    rintro v ⟨_, hv2⟩
    obtain rfl := hv2 rfl
    repeat (first | (refine wpLoose_farith rfl _ _ _ _ _ rfl rfl _ _ _ rfl rfl ?_; intro _ _) | (refine wpLoose_valK rfl ?_ (fun w1 hw1 => ?_) (fun K hK => ?_); rotate_left; (focus (obtain ⟨nq, rfl⟩ := hw1; go_simp; first | done | rfl)); go_simp; refine hK _ ?_; clear hK K))
    (refine wpLoose_nil ?_; rintro _ ⟨nq, rfl⟩)
    go_wp2
    go_ret3
    exact E1.out _ (below_drewN Bw.out _)

end Go.Proofs.Ytcjhaeiknenajaa
