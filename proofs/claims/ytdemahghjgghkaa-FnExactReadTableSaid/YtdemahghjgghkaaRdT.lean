/- Reading tables: both sides. -/
import Derived.Test.YtdemahghjgghkaaTab
import Derived.Test.YtdemahghjgghkaaSnW
import Derived.Test.YtdemahghjgghkaaLooseB
import Derived.Test.YtdemahghjgghkaaSz7
namespace Go.Proofs.Ytdemahghjgghkaa
open Go.RowKit
set_option linter.unusedVariables false

/-- a row whose slice has room for its length -/
def FRowC (w : World) (v : Value) (zs : List Nat) : Prop := FRow w v zs ∧ ∀ a n c, v = .slice a n c → n ≤ c
theorem FRowC.below {w w' : World} {v : Value} {zs : List Nat} (h : FRowC w v zs) (hb : Below w.heap.size w w') : FRowC w' v zs := ⟨h.1.below hb, h.2⟩
theorem toFC_any (v : Value) (zs : List Nat) (w : World) (h : FRow w v zs) (hl : zs.length ≤ 1048576) :
    Calls Try.prog 16 #[v] w (fun e w' => ∃ x, e = .returned x ∧ FRowC w' x zs ∧ Below w.heap.size w w') := (toF_new v zs w h hl).mono fun _ _ ⟨he, hf, hb, _⟩ => ⟨_, he, ⟨hf, fun a n c e => by cases e; exact Nat.le_refl _⟩, hb⟩

theorem least (p : Nat → Bool) (n : Nat) : p n = true → ∃ i, i ≤ n ∧ p i = true ∧ ∀ j, j < i → p j = false := by
  induction n using Nat.strongRecOn with
  | _ n ih =>
    intro h
    by_cases g : ∃ j, j < n ∧ p j = true
    · obtain ⟨j, hj, hp⟩ := g
      obtain ⟨i, a, b, c⟩ := ih j hj hp
      exact ⟨i, by omega, b, c⟩
    · refine ⟨n, Nat.le_refl _, h, fun j hj => ?_⟩
      cases e : p j
      · rfl
      · exact absurd ⟨j, hj, e⟩ g
/-- the first i with t at most the x of i + 1 -/
def FirstAt (xs : List Nat) (t i : Nat) : Prop := i + 1 < xs.length ∧ leN t (xs.getD (i + 1) 0) = true ∧ ∀ j, j < i → leN t (xs.getD (j + 1) 0) = false
theorem first_at {xs : List Nat} {t : Nat} (h : 2 ≤ xs.length) (hl : leN t (xs.getD (xs.length - 1) 0) = true) : ∃ i, FirstAt xs t i := by
  obtain ⟨i, a, b, c⟩ := least (fun j => leN t (xs.getD (j + 1) 0)) (xs.length - 2) (by show leN t (xs.getD (xs.length - 2 + 1) 0) = true; rw [show xs.length - 2 + 1 = xs.length - 1 by omega]; exact hl)
  exact ⟨i, by omega, b, c⟩
def rdW (xs : List Nat) (t : Nat) : Bool := wth t (xs.getD 0 0) (xs.getD (xs.length - 1) 0)
def rdV (xs ys : List Nat) (t i : Nat) : Nat := fop .add .f32 (ys.getD i 0) (fop .mul .f32 (fop .quo .f32 (fop .sub .f32 t (xs.getD i 0)) (fop .sub .f32 (xs.getD (i + 1) 0) (xs.getD i 0))) (fop .sub .f32 (ys.getD (i + 1) 0) (ys.getD i 0)))
theorem rdV_of {xs ys : List Nat} {t i r0 r1 r2 r3 r4 r5 : Nat} (f0 : FR .sub .f32 t (xs.getD i 0) r0) (f1 : FR .sub .f32 (xs.getD (i + 1) 0) (xs.getD i 0) r1) (f2 : FR .quo .f32 r0 r1 r2) (f3 : FR .sub .f32 (ys.getD (i + 1) 0) (ys.getD i 0) r3) (f4 : FR .mul .f32 r2 r3 r4) (f5 : FR .add .f32 (ys.getD i 0) r4 r5) : cn .f32 r5 = rdV xs ys t i := by
  unfold rdV
  simp only [f0.1, f1.1, f2.1, f3.1, f4.1, f5.1, fopl', fopr']
theorem gt_leT {x y : Nat} (hx : fin .f32 x = true) (hy : fin .f32 y = true) : (FloatKind.f32.format.order x y == some .gt) = !leN x y := by
  unfold leN
  rw [ordk (nn_finT hx) (nn_finT hy)]
  rcases Int.lt_trichotomy (key FloatKind.f32.format x) (key FloatKind.f32.format y) with h | h | h
  · rw [icmp_lt h]; rfl
  · rw [icmp_eq h]; rfl
  · rw [icmp_gt h]; rfl
/-- a number that lies between finite ones is finite -/
theorem wth_fin {t a b : Nat} (ha : fin .f32 a = true) (hb : fin .f32 b = true) (h : wth t a b = true) : fin .f32 t = true := by
  unfold wth at h
  rw [Bool.and_eq_true] at h
  have hn : nn .f32 t = false := by
    cases hn : nn .f32 t
    · rfl
    · have := h.1
      unfold geN at this
      rw [ord_key, hn] at this
      exact absurd this (by simp)
  cases hf : fin .f32 t
  · exfalso
    obtain ⟨h1, h2⟩ := h
    unfold geN at h1
    unfold leN at h2
    rw [ordk hn (nn_finT ha)] at h1
    rw [ordk hn (nn_finT hb)] at h2
    have fa := (fin_iff32 a).symm.trans ha
    have fb := (fin_iff32 b).symm.trans hb
    have ft := (fin_iff32 t).symm.trans hf
    have nt := nn_big hn
    have fa := of_decide_eq_true fa
    have fb := of_decide_eq_true fb
    have ft := of_decide_eq_false ft
    rcases Int.lt_trichotomy (key FloatKind.f32.format t) (key FloatKind.f32.format a) with g | g | g
    · rw [icmp_lt g] at h1; exact absurd h1 (by decide)
    · rw [s_key t, s_key a] at g; split at g <;> split at g <;> omega
    · rcases Int.lt_trichotomy (key FloatKind.f32.format t) (key FloatKind.f32.format b) with k | k | k
      · rw [s_key t] at g k
        cases hs : (t / 2147483648 % 2 == 1) <;> rw [hs] at g k <;> simp only [Bool.false_eq_true, if_false, if_true] at g k
        · rw [s_key b] at k; split at k <;> omega
        · rw [s_key a] at g; split at g <;> omega
      · rw [s_key t, s_key b] at k; split at k <;> split at k <;> omega
      · rw [icmp_gt k] at h2; exact absurd h2 (by decide)
  · rfl

theorem litAt_any (y t q : Nat) (w : World) (hq : w.cell? ⟨q, 0, none⟩ = some (.float .f32 t)) :
    Calls Try.prog 49 #[.float .f32 y, .pointer (some ⟨q, 0, none⟩)] w (BolS (leN t y) w) := by
  go_enter Try.func49, Try.ntmps49
  go_wp2
  go_ret
  exact ⟨rfl, rfl⟩
theorem idxAt_any (b off p cap t q i : Nat) (g : Nat → Nat) (w : World) (hp : p ≤ 1000) (hc : ∀ j, j < p → w.cell? ⟨b, off + j, none⟩ = some (.float .f32 (g j))) (hi : i < p) (h1 : leN t (g i) = true) (h2 : ∀ j, j < i → leN t (g j) = false) (hq : w.cell? ⟨q, 0, none⟩ = some (.float .f32 t)) :
    Calls Try.prog 48 #[.slice (some ⟨b, off, none⟩) p cap, .func (.func 49) #[] #[.pointer (some ⟨q, 0, none⟩)]] w (fun e w' => e = .returned (.int .i64 i) ∧ ∃ n, w' = w.drewN n) := by
  have HC := Lib.hid hc
  have H1 := Lib.hid h1
  have H2 := Lib.hid h2
  clear hc h1 h2
  go_enter Try.func48, Try.ntmps48
  go_wp2
  go_loopw [5, 8] (fun _ s wr => ∃ k m : Nat, k ≤ i ∧ s = .int .i64 k ∧ wr = w.drewN m) (fun _ s _ => p - (intOf s).toNat)
  case atStart => exact ⟨0, 0, Nat.zero_le _, rfl, rfl⟩
  case round =>
    obtain ⟨k, m, hk, rfl, rfl⟩ := hrel
    have z0 := HC.out k (by omega)
    have hi1 : (0 : Int) ≤ (k : Int) := by omega
    have hi2 : (k : Int) < (p : Int) := by omega
    by_cases hlt : k < i
    · have L := Lib.hid (H2.out k hlt)
      generalize g k = y at *
      go_wp2_with (go_at_call 49; refine (litAt_any y t _ _ (by simpa using hq)).mono ?_; rw [L.out]; rintro e w' ⟨rfl, rfl⟩)
      go_roundw
      case rel => exact ⟨k + 1, _, by omega, by go_num, rfl⟩
      case measure => simp [intOf]; omega
    · have e : k = i := by omega
      subst e
      have L := Lib.hid H1.out
      generalize g k = y at *
      go_wp2_with (go_at_call 49; refine (litAt_any y t _ _ (by simpa using hq)).mono ?_; rw [L.out]; rintro e w' ⟨rfl, rfl⟩)
      go_ret
      exact ⟨rfl, _, rfl⟩

set_option maxHeartbeats 1600000 in
theorem specRead_any (v v' : Value) (xs ys : List Nat) (t i : Nat) (w : World) (h : FRow w v xs) (h' : FRow w v' ys) (h2 : 2 ≤ xs.length) (h16 : xs.length ≤ 16) (hl : ys.length = xs.length) (hf : xs.all (fin .f32) = true) (hi : rdW xs t = true → FirstAt xs t i) :
    Calls Try.prog 46 #[v, v', .float .f32 t] w (GivB (cS (rdW xs t) (rdV xs ys t i)) (cB (rdW xs t) (rdV xs ys t i)) w) := by
  have HR := Lib.hid (fun h : rdW xs t = true => hi h)
  have HG := Lib.hid (fun (h : rdW xs t = true) k (hk : k < xs.length) => gt_leT (wth_fin (all_at hf 0 (by omega)) (all_at hf (xs.length - 1) (by omega)) h) (all_at hf k hk))
  have HV := Lib.hid (fun r0 r1 r2 r3 r4 r5 f0 f1 f2 f3 f4 f5 => @rdV_of xs ys t i r0 r1 r2 r3 r4 r5 f0 f1 f2 f3 f4 f5)
  have HE := Lib.hid (show rdW xs t = (geN t (xs.getD 0 0) && leN t (xs.getD (xs.length - 1) 0)) from rfl)
  have FN := Lib.hid (fun (e : rdW xs t = false) (w1 : World) (hb : Below w.heap.size w w1) => cGiv_no (V := rdV xs ys t i) e hb)
  have FY := Lib.hid (fun (e : rdW xs t = true) (x : Nat) (w1 : World) (hx : cn .f32 x = rdV xs ys t i) (hb : Below w.heap.size w w1) => cGiv_yes e hx hb)
  clear hi hf
  have HC := Lib.hid (h.cells (by omega))
  have HD := Lib.hid (h'.cells (by omega))
  obtain ⟨a, cap, rfl⟩ := h.shape
  obtain ⟨a', cap', rfl⟩ := h'.shape
  clear h h'
  generalize hS : cS (rdW xs t) (rdV xs ys t i) = S at *
  generalize hB : cB (rdW xs t) (rdV xs ys t i) = B at *
  clear hS hB
  rw [hl] at HD ⊢
  clear hl
  obtain ⟨b0, p0, c0, e, hc⟩ := HC.out
  obtain rfl : a = some ⟨b0, p0, none⟩ := by cases e; rfl
  clear e HC
  obtain ⟨b1, p1, c1, e, hd⟩ := HD.out
  obtain rfl : a' = some ⟨b1, p1, none⟩ := by cases e; rfl
  clear e HD
  have z0 := hc 0 (by omega)
  have z0' := z0
  rw [Nat.add_zero] at z0'
  have zl := hc (xs.length - 1) (by omega)
  have HC := Lib.hid hc
  have HD := Lib.hid hd
  clear hc hd
  unfold FirstAt at HR
  generalize hn : xs.length = n at *
  clear hn
  have hn0 : (0 : Int) < (n : Int) := by omega
  have hnN : 0 < n := by omega
  have hn1 : (0 : Int) ≤ (n : Int) - 1 := by omega
  have hn1' : (1 : Int) ≤ (n : Int) := by omega
  have hn2 : (n : Int) - 1 < (n : Int) := by omega
  have hnt : ((n : Int) - 1).toNat = n - 1 := by omega
  cases B0 : geN t (xs.getD 0 0)
  · have E := Lib.hid (FN.out (HE.out.trans (by rw [B0]; rfl : _ = false)))
    have o0 : (FloatKind.f32.format.order t (xs.getD 0 0) == some .gt || FloatKind.f32.format.order t (xs.getD 0 0) == some .eq) = false := B0
    clear B0 HE HR HG HV FN FY
    generalize xs.getD 0 0 = q0 at *
    generalize xs.getD (n - 1) 0 = ql at *
    go_enter Try.func46, Try.ntmps46
    go_wp2
    go_ret2
    exact E.out _ (Below.refl _ _)
  · have o0 : (FloatKind.f32.format.order t (xs.getD 0 0) == some .gt || FloatKind.f32.format.order t (xs.getD 0 0) == some .eq) = true := B0
    cases B1 : leN t (xs.getD (n - 1) 0)
    · have E := Lib.hid (FN.out (HE.out.trans (by rw [B1]; exact Bool.and_false _ : _ = false)))
      have o1 : (FloatKind.f32.format.order t (xs.getD (n - 1) 0) == some .lt || FloatKind.f32.format.order t (xs.getD (n - 1) 0) == some .eq) = false := B1
      clear B0 B1 HE HR HG HV FN FY
      generalize xs.getD 0 0 = q0 at *
      generalize xs.getD (n - 1) 0 = ql at *
      go_enter Try.func46, Try.ntmps46
      go_wp2
      go_ret2
      exact E.out _ (Below.refl _ _)
    · have o1 : (FloatKind.f32.format.order t (xs.getD (n - 1) 0) == some .lt || FloatKind.f32.format.order t (xs.getD (n - 1) 0) == some .eq) = true := B1
      have e := HE.out.trans (by rw [B0, B1]; try rfl)
      have E := Lib.hid (FY.out e)
      have HR := Lib.hid (HR.out e)
      have HG := Lib.hid (HG.out e)
      clear B0 B1 HE FN FY e
      generalize xs.getD 0 0 = q0 at *
      generalize xs.getD (n - 1) 0 = ql at *
      go_enter Try.func46, Try.ntmps46
      go_wp2
      clear z0 z0' zl o0 o1
      obtain ⟨hi1, -, -⟩ := HR.out
      go_loopw [8] (fun s wr => ∃ k : Nat, k ≤ i ∧ s = .int .i64 k ∧ wr = w) (fun s _ => i + 1 - (intOf s).toNat)
      case atStart => exact ⟨0, Nat.zero_le _, rfl, rfl⟩
      case round =>
        obtain ⟨k, hk, rfl, rfl⟩ := hrel
        by_cases hlt : k < i
        · have og := HG.out (k + 1) (by omega)
          rw [HR.out.2.2 k hlt] at og
          have z1 := HC.out (k + 1) (by omega)
          clear HR HG HV E
          have hi : (0 : Int) ≤ (k : Int) := by omega
          have hi' : (k : Int) < (n : Int) := by omega
          have hi2 : (0 : Int) ≤ (k : Int) + 1 := by omega
          have hi3 : (k : Int) + 1 < (n : Int) := by omega
          have ht : ((k : Int) + 1).toNat = k + 1 := by omega
          generalize xs.getD (k + 1) 0 = q1 at *
          go_wp2
          go_roundw
          case rel => exact ⟨k + 1, by omega, by go_num, by first | rfl | trivial⟩
          case measure => simp [intOf]; omega
        · obtain rfl : k = i := by omega
          have og := HG.out (k + 1) (by omega)
          rw [HR.out.2.1] at og
          have z0 := HC.out k (by omega)
          have z1 := HC.out (k + 1) (by omega)
          have y0 := HD.out k (by omega)
          have y1 := HD.out (k + 1) (by omega)
          clear HR HG HC HD
          generalize xs.getD k 0 = x0 at *
          generalize xs.getD (k + 1) 0 = x1 at *
          generalize ys.getD k 0 = u0 at *
          generalize ys.getD (k + 1) 0 = u1 at *
          have hi : (0 : Int) ≤ (k : Int) := by omega
          have hi' : (k : Int) < (n : Int) := by omega
          have hi2 : (0 : Int) ≤ (k : Int) + 1 := by omega
          have hi3 : (k : Int) + 1 < (n : Int) := by omega
          have ht : ((k : Int) + 1).toNat = k + 1 := by omega
          have HW : Hid (IntKind.i64.wrap ((k : Int) + 1) = (k : Int) + 1) := Lib.hid (IntWalk.i64_in _ (by omega))
          go_wp2
          have hw := HW.out
          refine wp_region_loose (fun _ _ _ => True) (by kernel_rfl) (by kernel_rfl) ?_
          repeat (first | (refine wpLoose_farith rfl _ _ _ _ _ rfl rfl _ _ _ rfl rfl ?_; intro _ _) | (refine wpLoose_valK rfl ?_ (fun w1 hw1 => ?_) (fun K hK => ?_); rotate_left; (focus (obtain ⟨nq, rfl⟩ := hw1; go_simp; first | done | rfl)); go_simp; refine hK _ ?_; clear hK K))
          (refine wpLoose_nil ?_; rintro _ ⟨nq, rfl⟩)
          clear hw
          rename_i r0 h0 r1 h1 r2 h2
          go_wp2
          have hw := HW.out
          refine wp_region_loose (fun f args v => f = 53 → ∀ x, args = #[.float .f32 x] → v = .tuple #[.float .f32 (ifF x), .bool (fin .f32 x)]) (by kernel_rfl) (by kernel_rfl) ?_
          repeat (first | (refine wpLoose_farith rfl _ _ _ _ _ rfl rfl _ _ _ rfl rfl ?_; intro _ _) | (refine wpLoose_valK rfl ?_ (fun w1 hw1 => ?_) (fun K hK => ?_); rotate_left; (focus (obtain ⟨nq, rfl⟩ := hw1; go_simp; first | done | rfl)); go_simp; refine hK _ ?_; clear hK K))
          rename_i r3 h3 r4 h4 r5 h5
          refine wpLoose_call rfl 53 #[.float .f32 r5] (fun w1 => ?_) (fun w1 _ => ?_) (fun v hv => ?_)
          · go_simp
          · refine (specNum_any r5 w1).mono ?_
            rintro e w3 ⟨rfl, m3, rfl⟩
            exact ⟨_, rfl, fun _ x hx => by simp at hx; subst hx; rfl, m3, rfl⟩
          obtain rfl := hv rfl _ rfl
          clear hv
          repeat (first | (refine wpLoose_farith rfl _ _ _ _ _ rfl rfl _ _ _ rfl rfl ?_; intro _ _) | (refine wpLoose_valK rfl ?_ (fun w1 hw1 => ?_) (fun K hK => ?_); rotate_left; (focus (obtain ⟨nq, rfl⟩ := hw1; go_simp; first | done | rfl)); go_simp; refine hK _ ?_; clear hK K))
          (refine wpLoose_nil ?_; rintro _ ⟨nq, rfl⟩)
          clear hw
          go_wp2
          go_ret2
          exact E.out _ _ (HV.out _ _ _ _ _ _ h0 h1 h2 h3 h4 h5) (by repeat (first | (with_reducible refine below_drewN ?_ _) | (with_reducible exact Below.refl _ _)))

theorem specRT_any (v v' : Value) (xs ys : List Nat) (t i : Nat) (w : World) (h : FRow w v xs) (h' : FRow w v' ys) (hi : tbl xs ys = true → rdW xs t = true → FirstAt xs t i) :
    Calls Try.prog 19 #[v, v', .float .f32 t] w (GivB (cS (tbl xs ys && rdW xs t) (rdV xs ys t i)) (cB (tbl xs ys && rdW xs t) (rdV xs ys t i)) w) := by
  have HT := Lib.hid (specTab_any v v' xs ys w h h')
  have HR := Lib.hid (fun (ht : tbl xs ys = true) w1 (hb : Below w.heap.size w w1) => specRead_any v v' xs ys t i w1 (h.below hb) (h'.below hb) (tbl_of ht).1 (tbl_of ht).2.1 (tbl_of ht).2.2.1 (tbl_of ht).2.2.2.1 (hi ht))
  have SW := Lib.hid (tbl_swap xs ys)
  obtain ⟨a, cap, rfl⟩ := h.shape
  obtain ⟨a', cap', rfl⟩ := h'.shape
  clear h h' hi
  generalize rdV xs ys t i = V at *
  generalize rdW xs t = R at *
  cases B : tbl xs ys
  · have H := Lib.hid (B)
    clear B
    go_enter Try.func19, Try.ntmps19
    go_wp2_with fail
    refine HT.out.mono ?_
    rw [H.out]
    rintro e w1 ⟨rfl, hb⟩
    have Bw := Lib.hid hb
    clear hb
    go_wp2
    go_ret2
    exact cGiv_no rfl Bw.out
  · have H := Lib.hid (B)
    have HR := Lib.hid (HR.out B)
    clear B
    rw [Bool.true_and]
    generalize cS R V = S at *
    generalize cB R V = O at *
    go_enter Try.func19, Try.ntmps19
    go_wp2_with fail
    refine HT.out.mono ?_
    rw [H.out]
    rintro e w1 ⟨rfl, hb⟩
    have Bw := Lib.hid hb
    clear hb
    go_wp2_with fail
    refine (HR.out _ Bw.out).mono ?_
    rintro e w2 ⟨r, hr, rfl, hb⟩
    have Q := Lib.hid hr
    have Bw := Lib.hid (below_step Bw.out hb)
    clear hb hr
    go_wp2
    go_ret2
    exact ⟨_, Q.out, rfl, Bw.out⟩

theorem specBT_any (v v' : Value) (xs ys : List Nat) (t i : Nat) (w : World) (h : FRow w v xs) (h' : FRow w v' ys) (hi : tbl ys xs = true → rdW ys t = true → FirstAt ys t i) :
    Calls Try.prog 22 #[v, v', .float .f32 t] w (GivB (cS (tbl ys xs && rdW ys t) (rdV ys xs t i)) (cB (tbl ys xs && rdW ys t) (rdV ys xs t i)) w) := by
  have HT := Lib.hid (specTab_any v v' xs ys w h h')
  have HR := Lib.hid (fun (ht : tbl ys xs = true) w1 (hb : Below w.heap.size w w1) => specRead_any v' v ys xs t i w1 (h'.below hb) (h.below hb) (tbl_of ht).1 (tbl_of ht).2.1 (tbl_of ht).2.2.1 (tbl_of ht).2.2.2.1 (hi ht))
  have SW := Lib.hid (tbl_swap xs ys)
  obtain ⟨a, cap, rfl⟩ := h.shape
  obtain ⟨a', cap', rfl⟩ := h'.shape
  clear h h' hi
  generalize rdV ys xs t i = V at *
  generalize rdW ys t = R at *
  cases B : tbl ys xs
  · have H := Lib.hid (SW.out.trans B)
    clear B
    go_enter Try.func22, Try.ntmps22
    go_wp2_with fail
    refine HT.out.mono ?_
    rw [H.out]
    rintro e w1 ⟨rfl, hb⟩
    have Bw := Lib.hid hb
    clear hb
    go_wp2
    go_ret2
    exact cGiv_no rfl Bw.out
  · have H := Lib.hid (SW.out.trans B)
    have HR := Lib.hid (HR.out B)
    clear B
    rw [Bool.true_and]
    generalize cS R V = S at *
    generalize cB R V = O at *
    go_enter Try.func22, Try.ntmps22
    go_wp2_with fail
    refine HT.out.mono ?_
    rw [H.out]
    rintro e w1 ⟨rfl, hb⟩
    have Bw := Lib.hid hb
    clear hb
    go_wp2_with fail
    refine (HR.out _ Bw.out).mono ?_
    rintro e w2 ⟨r, hr, rfl, hb⟩
    have Q := Lib.hid hr
    have Bw := Lib.hid (below_step Bw.out hb)
    clear hb hr
    go_wp2
    go_ret2
    exact ⟨_, Q.out, rfl, Bw.out⟩

set_option maxHeartbeats 1600000 in
theorem implRT_any (v v' : Value) (xs ys : List Nat) (t i : Nat) (w : World) (h : FRowC w v xs) (h' : FRow w v' ys) (hi : tbl xs ys = true → rdW xs t = true → FirstAt xs t i) :
    Calls Try.prog 20 #[v, v', .float .f32 t] w (GivB (cS (tbl xs ys && rdW xs t) (rdV xs ys t i)) (cB (tbl xs ys && rdW xs t) (rdV xs ys t i)) w) := by
  have HT := Lib.hid (fun w1 (hb : Below w.heap.size w w1) => implTab_any v v' xs ys w1 (h.1.below hb) (h'.below hb))
  have TO := Lib.hid (fun h : tbl xs ys = true => tbl_of h)
  have HR := Lib.hid (fun (h1 : tbl xs ys = true) (h2 : rdW xs t = true) => hi h1 h2)
  have HV := Lib.hid (fun r0 r1 r2 r3 r4 r5 f0 f1 f2 f3 f4 f5 => @rdV_of xs ys t i r0 r1 r2 r3 r4 r5 f0 f1 f2 f3 f4 f5)
  have HC := Lib.hid (fun (hn : 1 ≤ xs.length) => h.1.cells hn)
  have HD := Lib.hid (fun (hn : 1 ≤ ys.length) => h'.cells hn)
  have CP := Lib.hid h.2
  have B1 := Lib.hid (below_al1 w (.cells #[.float .f32 t] 25))
  have A := Lib.hid (Cells.made w [.float .f32 t] 25)
  obtain ⟨a, cap, rfl⟩ := h.1.shape
  obtain ⟨a', cap', rfl⟩ := h'.shape
  have CP2 := Lib.hid (CP.out _ _ _ rfl)
  clear CP
  clear h h' hi
  cases T : tbl xs ys
  · rw [Bool.false_and]
    generalize rdV xs ys t i = V at *
    have HT2 := Lib.hid (fun w1 hb => T ▸ HT.out w1 hb)
    clear HT
    have FACT := Lib.hid (fun (w1 : World) (_ : Ext (w.alloc (.cells #[.float .f32 t] 25)) w1) => True.intro)
    clear T
    go_enter Try.func20, Try.ntmps20
    go_wp2
    refine wp_region_looseC (Ext (w.alloc (.cells #[.float .f32 t] 25))) (fun f args v => f = 17 → v = .bool false) (Ext.start _) (by kernel_rfl) (by kernel_rfl) ?_
    repeat ((with_reducible refine wpLoose_cons ?_); (first | ((with_reducible refine wpLoose_skip ?_ ?_); (focus (go_simp; done)); intro K hK; go_simp; refine hK _ ?_; clear hK K) | (refine wpLoose_valG ?_ ?_ (fun w1 hw1 => ?_) (fun K hK => ?_); (focus (go_simp; done)); rotate_left; (focus (have hF := FACT.out w1 hw1; go_simp; first | done | rfl)); go_simp; refine hK _ ?_; clear hK K) | fail))
    refine wpLoose_callGS ?_ 17 #[.slice a xs.length cap, .slice a' ys.length cap'] (fun w1 => ?_) (fun w1 hw1 => ?_) (fun v1 hv1 => ?_)
    · go_simp
    · go_simp
    · refine (HT2.out w1 (below_step B1.out hw1)).mono ?_
      rintro e w2 ⟨rfl, hb⟩
      exact ⟨_, rfl, fun _ => rfl, hb⟩
    obtain rfl := hv1 rfl
    clear hv1
    repeat ((with_reducible refine wpLoose_cons ?_); (first | ((with_reducible refine wpLoose_skip ?_ ?_); (focus (go_simp; done)); intro K hK; go_simp; refine hK _ ?_; clear hK K) | (refine wpLoose_valG ?_ ?_ (fun w1 hw1 => ?_) (fun K hK => ?_); (focus (go_simp; done)); rotate_left; (focus (have hF := FACT.out w1 hw1; go_simp; first | done | rfl)); go_simp; refine hK _ ?_; clear hK K) | fail))
    refine wpLoose_nil ?_
    intro w9 hb9
    have Bw := Lib.hid (below_step B1.out hb9)
    clear hb9
    go_wp2
    go_ret2
    exact cGiv_no rfl Bw.out
  · rw [Bool.true_and]
    obtain ⟨h2, h16, hl, hf, -⟩ := TO.out T
    have HT2 := Lib.hid (fun w1 hb => T ▸ HT.out w1 hb)
    clear HT
    have HR1 := Lib.hid (HR.out T)
    clear HR
    have FN := Lib.hid (fun (e : rdW xs t = false) (w1 : World) (hb : Below w.heap.size w w1) => cGiv_no (V := rdV xs ys t i) e hb)
    have FY := Lib.hid (fun (e : rdW xs t = true) (x : Nat) (w1 : World) (hx : cn .f32 x = rdV xs ys t i) (hb : Below w.heap.size w w1) => cGiv_yes e hx hb)
    have HE := Lib.hid (show rdW xs t = wth t (xs.getD 0 0) (xs.getD (xs.length - 1) 0) from rfl)
    clear T TO hf
    generalize hS : cS (rdW xs t) (rdV xs ys t i) = S at *
    generalize hB : cB (rdW xs t) (rdV xs ys t i) = B at *
    clear hS hB
    rw [hl] at HD HT2 ⊢
    clear hl
    obtain ⟨b0, p0, c0, e, hc⟩ := HC.out (by omega)
    obtain rfl : a = some ⟨b0, p0, none⟩ := by cases e; rfl
    clear e HC
    obtain ⟨b1, p1, c1, e, hd⟩ := HD.out (by omega)
    obtain rfl : a' = some ⟨b1, p1, none⟩ := by cases e; rfl
    clear e HD
    have z0 := hc 0 (by omega)
    rw [Nat.add_zero] at z0
    have zl := hc (xs.length - 1) (by omega)
    have FACT := Lib.hid (fun (w1 : World) (hw : Ext (w.alloc (.cells #[.float .f32 t] 25)) w1) => And.intro (hw.cell (A.out.at 0 rfl)) (And.intro (Ext.cell (below_step B1.out hw) z0) (Ext.cell (below_step B1.out hw) zl)))
    have HC := Lib.hid (fun w1 (hb : Below w.heap.size w w1) j (hj : j < xs.length) => Ext.cell hb (hc j hj))
    have HD := Lib.hid (fun w1 (hb : Below w.heap.size w w1) j (hj : j < xs.length) => Ext.cell hb (hd j hj))
    clear hc hd z0 zl
    unfold FirstAt at HR1
    generalize hn : xs.length = n at *
    clear hn
    have hn0 : (0 : Int) < (n : Int) := by omega
    have hnN : 0 < n := by omega
    have hn1 : (0 : Int) ≤ (n : Int) - 1 := by omega
    have hn1' : (1 : Int) ≤ (n : Int) := by omega
    have hn2 : (n : Int) - 1 < (n : Int) := by omega
    have hnt : ((n : Int) - 1).toNat = n - 1 := by omega
    have HWn : Hid (IntKind.i64.wrap ((n : Int) - 1) = (n : Int) - 1) := Lib.hid (IntWalk.i64_in _ (by omega))
    cases T : rdW xs t
    · have E := Lib.hid (FN.out T)
      have HE2 := Lib.hid (HE.out.symm.trans T)
      clear HE
      clear T HR1 FN FY HV
      go_enter Try.func20, Try.ntmps20
      go_wp2
      have hwn := HWn.out
      refine wp_region_looseC (Ext (w.alloc (.cells #[.float .f32 t] 25))) (fun f args v => (f = 17 → v = .bool true) ∧ (f = 47 → v = .bool false)) (Ext.start _) (by kernel_rfl) (by kernel_rfl) ?_
      repeat ((with_reducible refine wpLoose_cons ?_); (first | ((with_reducible refine wpLoose_skip ?_ ?_); (focus (go_simp; done)); intro K hK; go_simp; refine hK _ ?_; clear hK K) | (refine wpLoose_valG ?_ ?_ (fun w1 hw1 => ?_) (fun K hK => ?_); (focus (go_simp; done)); rotate_left; (focus (have hF := FACT.out w1 hw1; go_simp; first | done | rfl)); go_simp; refine hK _ ?_; clear hK K) | fail))
      refine wpLoose_callGS ?_ 17 #[.slice (some ⟨b0, p0, none⟩) n cap, .slice (some ⟨b1, p1, none⟩) n cap'] (fun w1 => ?_) (fun w1 hw1 => ?_) (fun v1 hv1 => ?_)
      · go_simp
      · go_simp
      · refine (HT2.out w1 (below_step B1.out hw1)).mono ?_
        rintro e w2 ⟨rfl, hb⟩
        exact ⟨_, rfl, ⟨fun _ => rfl, fun h => absurd h (by decide)⟩, hb⟩
      obtain rfl := hv1.1 rfl
      clear hv1
      repeat ((with_reducible refine wpLoose_cons ?_); (first | ((with_reducible refine wpLoose_skip ?_ ?_); (focus (go_simp; done)); intro K hK; go_simp; refine hK _ ?_; clear hK K) | (refine wpLoose_valG ?_ ?_ (fun w1 hw1 => ?_) (fun K hK => ?_); (focus (go_simp; done)); rotate_left; (focus (have hF := FACT.out w1 hw1; go_simp; first | done | rfl)); go_simp; refine hK _ ?_; clear hK K) | fail))
      refine wpLoose_callGS ?_ 47 #[.float .f32 t, .float .f32 (xs.getD 0 0), .float .f32 (xs.getD (n - 1) 0)] (fun w1 => ?_) (fun w1 hw1 => ?_) (fun v1 hv1 => ?_)
      · go_simp
      · go_simp
      · refine (implWithin_any t _ _ w1).mono ?_
        rw [HE2.out]
        rintro e w2 ⟨rfl, rfl⟩
        exact ⟨_, rfl, ⟨fun h => absurd h (by decide), fun _ => rfl⟩, Below.refl _ _⟩
      obtain rfl := hv1.2 rfl
      clear hv1
      repeat ((with_reducible refine wpLoose_cons ?_); (first | ((with_reducible refine wpLoose_skip ?_ ?_); (focus (go_simp; done)); intro K hK; go_simp; refine hK _ ?_; clear hK K) | (refine wpLoose_valG ?_ ?_ (fun w1 hw1 => ?_) (fun K hK => ?_); (focus (go_simp; done)); rotate_left; (focus (have hF := FACT.out w1 hw1; go_simp; first | done | rfl)); go_simp; refine hK _ ?_; clear hK K) | fail))
      refine wpLoose_nil ?_
      intro w9 hb9
      have A := Lib.hid (A.out.kept hb9)
      have Bw := Lib.hid (below_step B1.out hb9)
      clear hb9 hwn FACT
      go_wp2
      go_ret2
      exact E.out _ Bw.out
    · have E := Lib.hid (FY.out T)
      have HE2 := Lib.hid (HE.out.symm.trans T)
      clear HE
      have HR2 := Lib.hid (HR1.out T)
      clear T FN FY HR1
      go_enter Try.func20, Try.ntmps20
      go_wp2
      have hwn := HWn.out
      refine wp_region_looseC (Ext (w.alloc (.cells #[.float .f32 t] 25))) (fun f args v => (f = 17 → v = .bool true) ∧ (f = 47 → v = .bool true)) (Ext.start _) (by kernel_rfl) (by kernel_rfl) ?_
      repeat ((with_reducible refine wpLoose_cons ?_); (first | ((with_reducible refine wpLoose_skip ?_ ?_); (focus (go_simp; done)); intro K hK; go_simp; refine hK _ ?_; clear hK K) | (refine wpLoose_valG ?_ ?_ (fun w1 hw1 => ?_) (fun K hK => ?_); (focus (go_simp; done)); rotate_left; (focus (have hF := FACT.out w1 hw1; go_simp; first | done | rfl)); go_simp; refine hK _ ?_; clear hK K) | fail))
      refine wpLoose_callGS ?_ 17 #[.slice (some ⟨b0, p0, none⟩) n cap, .slice (some ⟨b1, p1, none⟩) n cap'] (fun w1 => ?_) (fun w1 hw1 => ?_) (fun v1 hv1 => ?_)
      · go_simp
      · go_simp
      · refine (HT2.out w1 (below_step B1.out hw1)).mono ?_
        rintro e w2 ⟨rfl, hb⟩
        exact ⟨_, rfl, ⟨fun _ => rfl, fun h => absurd h (by decide)⟩, hb⟩
      obtain rfl := hv1.1 rfl
      clear hv1
      repeat ((with_reducible refine wpLoose_cons ?_); (first | ((with_reducible refine wpLoose_skip ?_ ?_); (focus (go_simp; done)); intro K hK; go_simp; refine hK _ ?_; clear hK K) | (refine wpLoose_valG ?_ ?_ (fun w1 hw1 => ?_) (fun K hK => ?_); (focus (go_simp; done)); rotate_left; (focus (have hF := FACT.out w1 hw1; go_simp; first | done | rfl)); go_simp; refine hK _ ?_; clear hK K) | fail))
      refine wpLoose_callGS ?_ 47 #[.float .f32 t, .float .f32 (xs.getD 0 0), .float .f32 (xs.getD (n - 1) 0)] (fun w1 => ?_) (fun w1 hw1 => ?_) (fun v1 hv1 => ?_)
      · go_simp
      · go_simp
      · refine (implWithin_any t _ _ w1).mono ?_
        rw [HE2.out]
        rintro e w2 ⟨rfl, rfl⟩
        exact ⟨_, rfl, ⟨fun h => absurd h (by decide), fun _ => rfl⟩, Below.refl _ _⟩
      obtain rfl := hv1.2 rfl
      clear hv1
      repeat ((with_reducible refine wpLoose_cons ?_); (first | ((with_reducible refine wpLoose_skip ?_ ?_); (focus (go_simp; done)); intro K hK; go_simp; refine hK _ ?_; clear hK K) | (refine wpLoose_valG ?_ ?_ (fun w1 hw1 => ?_) (fun K hK => ?_); (focus (go_simp; done)); rotate_left; (focus (have hF := FACT.out w1 hw1; go_simp; first | done | rfl)); go_simp; refine hK _ ?_; clear hK K) | fail))
      refine wpLoose_nil ?_
      intro w9 hb9
      have A := Lib.hid (A.out.kept hb9)
      have Bw := Lib.hid (below_step B1.out hb9)
      clear hb9 hwn FACT
      obtain ⟨hi1, -, -⟩ := HR2.out
      have hcap : n ≤ cap := CP2.out
      have hcap1 : ¬ cap = 1 := by omega
      have hcapI : (1 : Int) ≤ (cap : Int) := by omega
      have hcapN : 1 ≤ cap := by omega
      have ct := A.out.at 0 rfl
      have IXF := Lib.hid (fun m => idxAt_any b0 (p0 + 1) (n - 1) (cap - 1) t w.heap.size i (fun j => xs.getD (j + 1) 0) (w9.drewN m) (by omega) (fun j hj => by rw [Nat.add_assoc, Nat.add_comm 1 j]; exact HC.out w9 Bw.out (j + 1) (by omega)) (by omega) HR2.out.2.1 HR2.out.2.2 ct)
      have IX0 := Lib.hid (idxAt_any b0 (p0 + 1) (n - 1) (cap - 1) t w.heap.size i (fun j => xs.getD (j + 1) 0) w9 (by omega) (fun j hj => by rw [Nat.add_assoc, Nat.add_comm 1 j]; exact HC.out w9 Bw.out (j + 1) (by omega)) (by omega) HR2.out.2.1 HR2.out.2.2 ct)
      have z0 := HC.out w9 Bw.out i (by omega)
      have z1 := HC.out w9 Bw.out (i + 1) (by omega)
      have y0 := HD.out w9 Bw.out i (by omega)
      have y1 := HD.out w9 Bw.out (i + 1) (by omega)
      clear HR2 HC HD HE2 HT2
      generalize xs.getD i 0 = x0 at *
      generalize xs.getD (i + 1) 0 = x1 at *
      generalize ys.getD i 0 = u0 at *
      generalize ys.getD (i + 1) 0 = u1 at *
      go_wp2_with fail
      first | refine IX0.out.mono ?_ | refine (IXF.out _).mono ?_
      rintro e w' ⟨rfl, nI, rfl⟩
      clear IX0 IXF
      have hi : (0 : Int) ≤ (i : Int) := by omega
      have hi' : (i : Int) < (n : Int) := by omega
      have hi2 : (0 : Int) ≤ (i : Int) + 1 := by omega
      have hi3 : (i : Int) + 1 < (n : Int) := by omega
      have ht : ((i : Int) + 1).toNat = i + 1 := by omega
      have HW : Hid (IntKind.i64.wrap ((i : Int) + 1) = (i : Int) + 1) := Lib.hid (IntWalk.i64_in _ (by omega))
      go_wp2
      have hw := HW.out
      refine wp_region_loose (fun _ _ _ => True) (by kernel_rfl) (by kernel_rfl) ?_
      repeat (first | (refine wpLoose_farith rfl _ _ _ _ _ rfl rfl _ _ _ rfl rfl ?_; intro _ _) | (refine wpLoose_valK rfl ?_ (fun w1 hw1 => ?_) (fun K hK => ?_); rotate_left; (focus (obtain ⟨nq, rfl⟩ := hw1; go_simp; first | done | rfl)); go_simp; refine hK _ ?_; clear hK K))
      (refine wpLoose_nil ?_; rintro _ ⟨nq, rfl⟩)
      clear hw
      rename_i r0 h0 r1 h1 r2 h2
      go_wp2
      have hw := HW.out
      refine wp_region_loose (fun f args v => f = 50 → ∀ x, args = #[.float .f32 x] → v = .tuple #[.float .f32 (ifF x), .bool (fin .f32 x)]) (by kernel_rfl) (by kernel_rfl) ?_
      repeat (first | (refine wpLoose_farith rfl _ _ _ _ _ rfl rfl _ _ _ rfl rfl ?_; intro _ _) | (refine wpLoose_valK rfl ?_ (fun w1 hw1 => ?_) (fun K hK => ?_); rotate_left; (focus (obtain ⟨nq, rfl⟩ := hw1; go_simp; first | done | rfl)); go_simp; refine hK _ ?_; clear hK K))
      rename_i r3 h3 r4 h4 r5 h5
      refine wpLoose_call rfl 50 #[.float .f32 r5] (fun w1 => ?_) (fun w1 _ => ?_) (fun v hv => ?_)
      · go_simp
      · refine (implNum_any r5 w1).mono ?_
        rintro e w3 ⟨rfl, m3, rfl⟩
        exact ⟨_, rfl, fun _ x hx => by simp at hx; subst hx; rfl, m3, rfl⟩
      obtain rfl := hv rfl _ rfl
      clear hv
      repeat (first | (refine wpLoose_farith rfl _ _ _ _ _ rfl rfl _ _ _ rfl rfl ?_; intro _ _) | (refine wpLoose_valK rfl ?_ (fun w1 hw1 => ?_) (fun K hK => ?_); rotate_left; (focus (obtain ⟨nq, rfl⟩ := hw1; go_simp; first | done | rfl)); go_simp; refine hK _ ?_; clear hK K))
      (refine wpLoose_nil ?_; rintro _ ⟨nq, rfl⟩)
      clear hw
      go_wp2
      go_ret2
      exact E.out _ _ (HV.out _ _ _ _ _ _ h0 h1 h2 h3 h4 h5) (by repeat (first | (with_reducible exact Bw.out) | (with_reducible refine below_drewN ?_ _)))

theorem implBT_any (v v' : Value) (xs ys : List Nat) (t i : Nat) (w : World) (h : FRow w v xs) (h' : FRowC w v' ys) (hi : tbl ys xs = true → rdW ys t = true → FirstAt ys t i) :
    Calls Try.prog 23 #[v, v', .float .f32 t] w (GivB (cS (tbl ys xs && rdW ys t) (rdV ys xs t i)) (cB (tbl ys xs && rdW ys t) (rdV ys xs t i)) w) := by
  have HR2 := Lib.hid (implRT_any v' v ys xs t i w h' h hi)
  obtain ⟨a, cap, rfl⟩ := h.shape
  obtain ⟨a', cap', rfl⟩ := h'.1.shape
  clear h h' hi
  generalize cS (tbl ys xs && rdW ys t) (rdV ys xs t i) = S at *
  generalize cB (tbl ys xs && rdW ys t) (rdV ys xs t i) = O at *
  go_enter Try.func23, Try.ntmps23
  go_wp2_with fail
  refine HR2.out.mono ?_
  rintro e w2 ⟨r, hr, rfl, hb⟩
  have Q := Lib.hid hr
  have Bw := Lib.hid hb
  clear hb hr
  go_wp2
  go_ret2
  exact ⟨_, Q.out, rfl, Bw.out⟩

end Go.Proofs.Ytdemahghjgghkaa
