/- Logarithms: halved and doubled until they are near 1, and a series. -/
import Derived.Test.YtdemahghjgghkaaSame
import Derived.Test.YtdemahghjgghkaaHalf
import Derived.Lib.Hide
namespace Go.Proofs.Ytdemahghjgghkaa
open Go.RowKit

/-- a whole number as a 64-bit float -/
def fi (n : Int) : Nat := floatOfInt .f64 n

theorem fi_up (j : Nat) (h : j < 300) : floatBits .add .f64 (fi j) 4607182418800017408 = some (fi (j + 1)) := by
  have : ∀ j, j < 300 → floatBits .add .f64 (fi (j : Nat)) 4607182418800017408 = some (fi ((j : Nat) + 1)) := by decide +kernel
  exact this j h
theorem fi_down' : ∀ k, k < 600 → floatBits .sub .f64 (fi (300 - (k : Nat))) 4607182418800017408 = some (fi (300 - (k : Nat) - 1)) := by decide +kernel
theorem fi_down (n : Int) (h0 : -299 ≤ n) (h1 : n ≤ 300) : floatBits .sub .f64 (fi n) 4607182418800017408 = some (fi (n - 1)) := by
  have := fi_down' (300 - n).toNat (by omega)
  rw [show 300 - ((300 - n).toNat : Int) = n by omega] at this
  exact this

theorem fi_zero : fi ((0 : Nat) : Int) = 0 := by decide +kernel

def nh (r : Nat) : Nat := if r < 4609434218613702656 then 0 else (r - 4609434218613702656) / 4503599627370496 + 1
def x1 (r : Nat) : Nat := r - nh r * 4503599627370496
def nd (r : Nat) : Nat := if 4604930618986332160 ≤ r then 0 else (4604930618986332160 - r + 4503599627370495) / 4503599627370496
def x2 (r : Nat) : Nat := x1 r + nd (x1 r) * 4503599627370496
def en (r : Nat) : Int := (nh r : Int) - nd (x1 r)

def InR (r : Nat) : Prop := 3936146074321813504 ≤ r ∧ r < 5183643171103440896

theorem nh_step {r j y : Nat} (hr : InR r) (hy : y = r - j * 4503599627370496) (hj : j ≤ nh r) (h : 4609434218613702656 ≤ y) : j < nh r ∧ y - 4503599627370496 = r - (j + 1) * 4503599627370496 ∧ 9007199254740992 ≤ y ∧ y < 9218868437227405312 ∧ j < 300 := by
  unfold InR at hr
  unfold nh at hj ⊢
  split at hj <;> rename_i h1
  · omega
  · rw [if_neg h1]; omega
theorem nh_end {r j y : Nat} (hr : InR r) (hy : y = r - j * 4503599627370496) (hj : j ≤ nh r) (h : y < 4609434218613702656) : j = nh r ∧ y = x1 r := by
  unfold InR at hr
  have e : j = nh r := by
    unfold nh at hj ⊢
    split at hj <;> rename_i h1
    · rw [if_pos h1]; omega
    · rw [if_neg h1]; omega
  exact ⟨e, by unfold x1; rw [← e]; exact hy⟩
theorem x1_range {r : Nat} (hr : InR r) : 3936146074321813504 ≤ x1 r ∧ x1 r < 4609434218613702656 := by
  unfold InR at hr
  unfold x1 nh
  split <;> omega
theorem nh_le {r : Nat} (hr : InR r) : nh r ≤ 200 := by
  unfold InR at hr
  unfold nh
  split <;> omega
theorem nd_le {r : Nat} (hr : InR r) : nd (x1 r) ≤ 200 := by
  have := x1_range hr
  unfold nd
  split <;> omega
theorem nd_step {x j y : Nat} (hx : 3936146074321813504 ≤ x) (hy : y = x + j * 4503599627370496) (hj : j ≤ nd x) (h : y < 4604930618986332160) : j < nd x ∧ y + 4503599627370496 = x + (j + 1) * 4503599627370496 ∧ 4503599627370496 ≤ y := by
  unfold nd at hj ⊢
  split at hj <;> rename_i h1
  · omega
  · rw [if_neg h1]; omega
theorem nd_end {x j y : Nat} (hy : y = x + j * 4503599627370496) (hj : j ≤ nd x) (h : 4604930618986332160 ≤ y) : j = nd x := by
  unfold nd at hj ⊢
  split at hj <;> rename_i h1
  · rw [if_pos h1]; omega
  · rw [if_neg h1]; omega
theorem x2_range {r : Nat} (hr : InR r) : 4604930618986332160 ≤ x2 r ∧ x2 r < 4609434218613702656 := by
  have := x1_range hr
  unfold x2 nd
  split <;> omega
theorem y_small {r j y : Nat} (hr : InR r) (hy : y = r - j * 4503599627370496) : y ≤ 9218868437227405312 := by
  unfold InR at hr; omega
theorem y_small2 {r j y : Nat} (hr : InR r) (hy : y = x1 r + j * 4503599627370496) (hj : j ≤ nd (x1 r)) : y < 4609434218613702657 := by
  have := x1_range hr
  unfold nd at hj
  split at hj <;> omega

def fbits : Value → Nat | .float _ b => b | _ => 0
def ms (x : Value) : Nat := 4610000000000000000 - fbits x
theorem log_start {f y r : Nat} (h : f = fi ((nh r : Int) - ((0 : Nat) : Int))) (h' : y = x1 r) : Hid (f = fi ((nh r : Int) - ((0 : Nat) : Int)) ∧ y = x1 r + 0 * 4503599627370496 ∧ 0 ≤ nd (x1 r)) :=
  Lib.hid ⟨h, by rw [Nat.zero_mul, Nat.add_zero]; exact h', Nat.zero_le _⟩
theorem half_step {r j y : Nat} (hr : InR r) (hy : y = r - j * 4503599627370496) (hj : j ≤ nh r) (h : 4609434218613702656 ≤ y) :
    ∃ y2, floatBits .quo .f64 y 4611686018427387904 = some y2 ∧ j + 1 ≤ nh r ∧ y2 = r - (j + 1) * 4503599627370496 ∧ y2 < y ∧ j < 300 := by
  obtain ⟨s1, s2, s3, s4, s5⟩ := nh_step hr hy hj h
  exact ⟨_, half_exact y s3 s4, s1, s2, by omega, s5⟩
theorem twice_step {r j y : Nat} (hr : InR r) (hy : y = x1 r + j * 4503599627370496) (hj : j ≤ nd (x1 r)) (h : y < 4604930618986332160) :
    ∃ y2, floatBits .mul .f64 y 4611686018427387904 = some y2 ∧ j + 1 ≤ nd (x1 r) ∧ y2 = x1 r + (j + 1) * 4503599627370496 ∧ ms (.float .f64 y2) < ms (.float .f64 y) := by
  obtain ⟨s1, s2, s3⟩ := nd_step (x1_range hr).1 hy hj h
  refine ⟨_, twice_exact y s3 (by omega), s1, s2, ?_⟩
  have e1 : ms (.float .f64 (y + 4503599627370496)) = 4610000000000000000 - (y + 4503599627370496) := rfl
  have e2 : ms (.float .f64 y) = 4610000000000000000 - y := rfl
  rw [e1, e2]
  omega
theorem fi_succ {j f2 : Nat} (h : fi ((j : Int) + 1) = f2) : f2 = fi ((j + 1 : Nat) : Int) := by
  rw [← h]
  congr 1
theorem fi_next {n i : Nat} {f2 : Nat} (h : fi ((n : Int) - (i : Int) - 1) = f2) : f2 = fi ((n : Int) - ((i + 1 : Nat) : Int)) := by
  rw [← h]
  congr 1
  omega

theorem ord_ge {y c : Nat} (hy : y ≤ 9218868437227405312) (hc : c ≤ 9218868437227405312) (h : c ≤ y) : ∃ o, FloatKind.f64.format.order y c = some o ∧ (o = .gt ∨ o = .eq) := by
  rw [pos_order y c hy hc]
  refine ⟨_, rfl, ?_⟩
  simp only [compare, compareOfLessAndEq]
  rw [if_neg (by omega)]
  split <;> simp
theorem ord_lt {y c : Nat} (hy : y ≤ 9218868437227405312) (hc : c ≤ 9218868437227405312) (h : y < c) : FloatKind.f64.format.order y c = some .lt := by
  rw [pos_order y c hy hc]
  simp only [compare, compareOfLessAndEq]
  rw [if_pos (by omega)]



def qTo (u : Nat) : Nat → Nat
  | 0 => 0
  | j + 1 => fop .add .f64 (fop .quo .f64 4607182418800017408 (fi (25 - 2 * (j : Int)))) (fop .mul .f64 u (qTo u j))
def sE (x : Nat) : Nat := fop .quo .f64 (fop .sub .f64 x 4607182418800017408) (fop .add .f64 x 4607182418800017408)
def lgE (x e : Nat) : Nat := fop .add .f64 (fop .mul .f64 4611686018427387904 (fop .mul .f64 (sE x) (qTo (fop .mul .f64 (sE x) (sE x)) 13))) (fop .mul .f64 e 4604418534313441775)

theorem cn_small {b : Nat} (h : b ≤ 9218868437227405312) : cn .f64 b = b := by
  refine cn_of_num ?_
  rw [nn64]
  exact decide_eq_false (by omega)

theorem fop_cnl (op : BinOp) (k : FloatKind) (x y : Nat) : fop op k (cn k x) y = fop op k x y := by
  unfold fop
  rw [← floatBits_cn op k (cn k x) y, cn_cn, floatBits_cn]
theorem fop_cnr (op : BinOp) (k : FloatKind) (x y : Nat) : fop op k x (cn k y) = fop op k x y := by
  unfold fop
  rw [← floatBits_cn op k x (cn k y), cn_cn, floatBits_cn]

def Flw (P : Nat → Prop) (w : World) (e : Ending) (w' : World) : Prop := ∃ r n, P r ∧ e = .returned (.float .f64 r) ∧ w' = w.drewN n

set_option maxHeartbeats 1000000 in
theorem implLog_any (r : Nat) (w : World) (hr : InR r) : Calls Try.prog 86 #[.float .f64 r] w (Flw (fun t => cn .f64 t = lgE (x2 r) (fi (en r))) w) := by
  have HR := Lib.hid hr
  clear hr
  go_enter Try.func86, Try.ntmps86
  go_wp2
  go_loop [3, 4] (fun x e => ∃ j y f : Nat, x = .float .f64 y ∧ e = .float .f64 f ∧ Hid (y = r - j * 4503599627370496 ∧ j ≤ nh r ∧ f = fi (j : Int))) (fun x _ => fbits x)
  case atStart => exact ⟨0, r, 0, rfl, rfl, Lib.hid ⟨by omega, Nat.zero_le _, fi_zero.symm⟩⟩
  case round =>
    obtain ⟨j, y, f, rfl, rfl, hy⟩ := hrel
    have hys := y_small HR.out hy.out.1
    by_cases hge : 4609434218613702656 ≤ y
    · obtain ⟨y2, hf, s1, s2, s3, s5⟩ := half_step HR.out hy.out.1 hy.out.2.1 hge
      have hq := fun w => run_float_arith (P := Try.prog) w .quo 29 .f64 y 4611686018427387904 y2 hf
      have hup := fi_up j s5
      rw [← hy.out.2.2] at hup
      generalize hf2 : fi ((j : Int) + 1) = f2 at *
      have F2 := Lib.hid hf2
      clear hf2
      have ha := fun w => run_float_arith (P := Try.prog) w .add 29 .f64 f 4607182418800017408 f2 hup
      clear hup
      obtain ⟨o, ho, hoo⟩ := ord_ge hys (by omega) hge
      have S2 := Lib.hid (And.intro s2 (And.intro s1 s3))
      clear s2 s1 s3 hge hf
      rcases hoo with rfl | rfl
      all_goals
        go_wp2
        go_round
        case rel => exact ⟨j + 1, y2, f2, rfl, rfl, Lib.hid ⟨S2.out.1, S2.out.2.1, fi_succ F2.out⟩⟩
        case measure => exact S2.out.2.2
    · obtain ⟨s1, s2⟩ := nh_end HR.out hy.out.1 hy.out.2.1 (by omega)
      have ho := ord_lt hys (by omega) (show y < 4609434218613702656 by omega)
      have S1 := Lib.hid s1
      have S2 := Lib.hid s2
      clear s1 s2 hge
      go_wp2
      have S3 : Hid (f = fi ((nh r : Int) - ((0 : Nat) : Int))) := Lib.hid (by rw [hy.out.2.2, S1.out]; simp)
      go_loop [3, 4] (fun x e => ∃ i z : Nat, ∃ f : Nat, x = .float .f64 z ∧ e = .float .f64 f ∧ Hid (f = fi ((nh r : Int) - (i : Int)) ∧ z = x1 r + i * 4503599627370496 ∧ i ≤ nd (x1 r))) (fun x _ => ms x)
      case atStart => exact ⟨0, y, f, rfl, rfl, log_start S3.out S2.out⟩
      case round =>
        obtain ⟨i, z, f, rfl, rfl, hz⟩ := hrel
        have hzs := y_small2 HR.out hz.out.2.1 hz.out.2.2
        clear S1 S2 S3 ho hys hy
        by_cases hlt : z < 4604930618986332160
        · obtain ⟨z2, hf, s1, s2, s3⟩ := twice_step HR.out hz.out.2.1 hz.out.2.2 hlt
          have b1 := nh_le HR.out
          have b2 := nd_le HR.out
          have hq := fun w => run_float_arith (P := Try.prog) w .mul 29 .f64 z 4611686018427387904 z2 hf
          have hdn := fi_down ((nh r : Int) - (i : Int)) (by omega) (by omega)
          rw [← hz.out.1] at hdn
          have ha := fun w => run_float_arith (P := Try.prog) w .sub 29 .f64 f 4607182418800017408 _ hdn
          have ho := ord_lt (show z ≤ 9218868437227405312 by omega) (by omega) hlt
          have S := Lib.hid (And.intro s1 (And.intro s2 s3))
          clear s1 s2 s3 hlt hdn hf b1 b2 hzs
          generalize hf2 : fi ((nh r : Int) - (i : Int) - 1) = f2 at *
          have F2 := Lib.hid hf2
          clear hf2
          go_wp2
          go_round
          case rel => exact ⟨i + 1, z2, f2, rfl, rfl, Lib.hid ⟨fi_next F2.out, S.out.2.1, S.out.1⟩⟩
          case measure => exact S.out.2.2
        · obtain ⟨o, ho, hoo⟩ := ord_ge (show z ≤ 9218868437227405312 by omega) (show 4604930618986332160 ≤ 9218868437227405312 by omega) (show 4604930618986332160 ≤ z by omega)
          have e1 := nd_end hz.out.2.1 hz.out.2.2 (by omega)
          have ez : z = x2 r := by unfold x2; rw [hz.out.2.1, e1]
          have ef : f = fi (en r) := by unfold en; rw [hz.out.1, e1]
          have EZ := Lib.hid (And.intro ez ef)
          have ZS := Lib.hid hzs
          clear hlt e1 ez ef hz hzs
          rcases hoo with rfl | rfl
          all_goals
            go_wp2_with (refine wpList_farith rfl _ _ _ _ _ rfl rfl _ _ _ rfl rfl ?_; intro _ _ _)
            rename_i ra ja ha rb jb hb rc jc hc rd jd hd _ _ _
            have H0 : Hid (cn .f64 0 = qTo (cn .f64 rd) 0) := Lib.hid (cn_small (by omega))
            go_loopw [7, 8] (fun q k wr => ∃ i qv n : Nat, ∃ kk : Int, k = .int .i64 kk ∧ -1 ≤ kk ∧ kk ≤ 25 ∧ q = .float .f64 qv ∧ wr = w.drewN n ∧ Hid (kk = 25 - 2 * (i : Int) ∧ cn .f64 qv = qTo (cn .f64 rd) i)) (fun _ k _ => (intOf k + 2).toNat)
            case atStart => exact ⟨0, 0, _, 25, rfl, by omega, by omega, rfl, rfl, Lib.hid ⟨by omega, H0.out⟩⟩
            case round =>
              obtain ⟨i, qv, n, kk, rfl, k0, k1, rfl, rfl, hq⟩ := hrel
              by_cases hk : 1 ≤ kk
              · go_wp2_with (refine wpList_farith rfl _ _ _ _ _ rfl rfl _ _ _ rfl rfl ?_; intro _ _ _)
                rename_i re je he rf jf hf rg jg hg
                go_roundw
                case rel =>
                  refine ⟨i + 1, rg, _, kk - 2, by go_num, by omega, by omega, rfl, rfl, Lib.hid ⟨by have := hq.out.1; omega, ?_⟩⟩
                  rw [hg.1, he.1, hf.1, hq.out.2, qTo, ← hq.out.1]
                  simp only [fop_cnl, fop_cnr]
                  rfl
                case measure => simp [intOf]; omega
              · have ei : i = 13 := by have := hq.out.1; omega
                have EI := Lib.hid ei
                clear ei
                go_wp2_with (refine wpList_farith rfl _ _ _ _ _ rfl rfl _ _ _ rfl rfl ?_; intro _ _ _)
                go_ret
                rename_i rm jm hm rn jn hn ro jo ho2 rp jp hp
                refine ⟨_, _, ?_, rfl, rfl⟩
                show cn .f64 rp = _
                rw [lgE, sE, hp.1, hn.1, hm.1, ho2.1, hq.out.2, EI.out, hd.1, hc.1, ha.1, hb.1, EZ.out.1, EZ.out.2]
                simp only [fop_cnl, fop_cnr]

theorem spec_start {y r : Nat} {ee : Int} (h : ee = (nh r : Int)) (h' : y = x1 r) : Hid (ee = (nh r : Int) - ((0 : Nat) : Int) ∧ y = x1 r + 0 * 4503599627370496 ∧ 0 ≤ nd (x1 r)) :=
  Lib.hid ⟨by omega, by rw [Nat.zero_mul, Nat.add_zero]; exact h', Nat.zero_le _⟩

theorem ord_gt0 {y : Nat} (hy : y ≤ 9218868437227405312) (h : 0 < y) : FloatKind.f64.format.order y 0 = some .gt := by
  rw [pos_order y 0 hy (by omega)]
  simp only [compare, compareOfLessAndEq]
  rw [if_neg (by omega), if_neg (by omega)]
theorem ord_same {y : Nat} (hy : y ≤ 9218868437227405312) : FloatKind.f64.format.order y y = some .eq := by
  rw [order_self, nn64, decide_eq_false (by omega)]
  rfl

set_option maxHeartbeats 1000000 in
theorem specLog_any (r : Nat) (w : World) (hr : InR r) : Calls Try.prog 81 #[.float .f64 r] w (Flw (fun t => cn .f64 t = lgE (x2 r) (fi (en r))) w) := by
  have HR := Lib.hid hr
  have o1 := ord_same (show r ≤ 9218868437227405312 by unfold InR at hr; omega)
  have o2 := ord_gt0 (show r ≤ 9218868437227405312 by unfold InR at hr; omega) (by unfold InR at hr; omega)
  have o3 := ord_lt (show r ≤ 9218868437227405312 by unfold InR at hr; omega) (show 9218868437227405311 ≤ 9218868437227405312 by omega) (by unfold InR at hr; omega)
  clear hr
  go_enter Try.func81, Try.ntmps81
  go_wp2_with go_in
  clear o1 o2 o3
  go_loop [0, 3] (fun x e => ∃ j y : Nat, x = .float .f64 y ∧ e = .int .i64 (j : Int) ∧ j ≤ 200 ∧ Hid (y = r - j * 4503599627370496 ∧ j ≤ nh r)) (fun x _ => fbits x)
  case atStart => exact ⟨0, r, rfl, rfl, by omega, Lib.hid ⟨by omega, Nat.zero_le _⟩⟩
  case round =>
    obtain ⟨j, y, rfl, rfl, hj, hy⟩ := hrel
    have hys := y_small HR.out hy.out.1
    by_cases hge : 4609434218613702656 ≤ y
    · obtain ⟨y2, hf, s1, s2, s3, s5⟩ := half_step HR.out hy.out.1 hy.out.2 hge
      have hq := fun w => run_float_arith (P := Try.prog) w .quo 29 .f64 y 4611686018427387904 y2 hf
      obtain ⟨o, ho, hoo⟩ := ord_ge hys (by omega) hge
      have hj1 : j + 1 ≤ 200 := Nat.le_trans s1 (nh_le HR.out)
      have S2 := Lib.hid (And.intro s2 (And.intro s1 s3))
      clear s2 s1 s3 s5 hge hf hys
      rcases hoo with rfl | rfl
      all_goals
        go_wp2
        go_round
        case rel => exact ⟨j + 1, y2, rfl, by go_num, hj1, Lib.hid ⟨S2.out.1, S2.out.2.1⟩⟩
        case measure => exact S2.out.2.2
    · obtain ⟨s1, s2⟩ := nh_end HR.out hy.out.1 hy.out.2 (by omega)
      have ho := ord_lt hys (by omega) (show y < 4609434218613702656 by omega)
      have S1 := Lib.hid s1
      have S2 := Lib.hid s2
      clear s1 s2 hge hys
      go_wp2
      have S3 : Hid ((j : Int) = (nh r : Int)) := Lib.hid (by rw [S1.out])
      go_loop [0, 3] (fun x e => ∃ i z : Nat, ∃ ee : Int, x = .float .f64 z ∧ e = .int .i64 ee ∧ -300 ≤ ee ∧ ee ≤ 300 ∧ Hid (ee = (nh r : Int) - (i : Int) ∧ z = x1 r + i * 4503599627370496 ∧ i ≤ nd (x1 r))) (fun x _ => ms x)
      case atStart => exact ⟨0, y, (j : Int), rfl, rfl, by omega, by omega, spec_start S3.out S2.out⟩
      case round =>
        obtain ⟨i, z, ee, rfl, rfl, he0, he1, hz⟩ := hrel
        have hzs := y_small2 HR.out hz.out.2.1 hz.out.2.2
        clear S1 S2 S3 ho hy hj
        by_cases hlt : z < 4604930618986332160
        · obtain ⟨z2, hf, s1, s2, s3⟩ := twice_step HR.out hz.out.2.1 hz.out.2.2 hlt
          have b1 := nh_le HR.out
          have b2 := nd_le HR.out
          have hq := fun w => run_float_arith (P := Try.prog) w .mul 29 .f64 z 4611686018427387904 z2 hf
          have ho := ord_lt (show z ≤ 9218868437227405312 by omega) (by omega) hlt
          have hee : -300 ≤ ee - 1 := by have := hz.out.1; omega
          have E2 := Lib.hid (show ee - 1 = (nh r : Int) - ((i + 1 : Nat) : Int) by have := hz.out.1; omega)
          have S := Lib.hid (And.intro s1 (And.intro s2 s3))
          clear s1 s2 s3 hlt hf b1 b2 hzs
          go_wp2
          go_round
          case rel => exact ⟨i + 1, z2, ee - 1, rfl, by go_num, hee, by omega, Lib.hid ⟨E2.out, S.out.2.1, S.out.1⟩⟩
          case measure => exact S.out.2.2
        · obtain ⟨o, ho, hoo⟩ := ord_ge (show z ≤ 9218868437227405312 by omega) (show 4604930618986332160 ≤ 9218868437227405312 by omega) (show 4604930618986332160 ≤ z by omega)
          have e1 := nd_end hz.out.2.1 hz.out.2.2 (by omega)
          have ez : z = x2 r := by unfold x2; rw [hz.out.2.1, e1]
          have ef : ee = en r := by unfold en; rw [hz.out.1, e1]
          have EZ := Lib.hid (And.intro ez ef)
          clear hlt e1 ez ef hz hzs
          rcases hoo with rfl | rfl
          all_goals
            go_wp2_with (refine wpList_farith rfl _ _ _ _ _ rfl rfl _ _ _ rfl rfl ?_; intro _ _ _)
            rename_i ra ja ha rb jb hb rc jc hc rd jd hd _ _ _
            have H0 : Hid (cn .f64 0 = qTo (cn .f64 rd) 0) := Lib.hid (cn_small (by omega))
            go_loopw [6, 7] (fun q k wr => ∃ i qv n : Nat, ∃ kk : Int, k = .int .i64 kk ∧ -1 ≤ kk ∧ kk ≤ 25 ∧ q = .float .f64 qv ∧ wr = w.drewN n ∧ Hid (kk = 25 - 2 * (i : Int) ∧ cn .f64 qv = qTo (cn .f64 rd) i)) (fun _ k _ => (intOf k + 2).toNat)
            case atStart => exact ⟨0, 0, _, 25, rfl, by omega, by omega, rfl, rfl, Lib.hid ⟨by omega, H0.out⟩⟩
            case round =>
              obtain ⟨i, qv, n, kk, rfl, k0, k1, rfl, rfl, hq⟩ := hrel
              by_cases hk : 1 ≤ kk
              · go_wp2_with (refine wpList_farith rfl _ _ _ _ _ rfl rfl _ _ _ rfl rfl ?_; intro _ _ _)
                rename_i re je he rf jf hf rg jg hg
                go_roundw
                case rel =>
                  refine ⟨i + 1, rg, _, kk - 2, by go_num, by omega, by omega, rfl, rfl, Lib.hid ⟨by have := hq.out.1; omega, ?_⟩⟩
                  rw [hg.1, he.1, hf.1, hq.out.2, qTo, ← hq.out.1]
                  simp only [fop_cnl, fop_cnr]
                  rfl
                case measure => simp [intOf]; omega
              · have ei : i = 13 := by have := hq.out.1; omega
                have EI := Lib.hid ei
                clear ei
                go_wp2_with (refine wpList_farith rfl _ _ _ _ _ rfl rfl _ _ _ rfl rfl ?_; intro _ _ _)
                go_ret
                rename_i rm jm hm rn jn hn ro jo ho2 rp jp hp
                refine ⟨_, _, ?_, rfl, rfl⟩
                show cn .f64 rp = _
                rw [lgE, sE, hp.1, hn.1, hm.1, ho2.1, hq.out.2, EI.out, hd.1, hc.1, ha.1, hb.1, EZ.out.1, EZ.out.2]
                simp only [fop_cnl, fop_cnr]
                rfl
end Go.Proofs.Ytdemahghjgghkaa
