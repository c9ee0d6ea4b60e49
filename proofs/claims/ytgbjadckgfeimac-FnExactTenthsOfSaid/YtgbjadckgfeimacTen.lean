/- Tenths of decibels. -/
import Derived.Test.YtgbjadckgfeimacLe
import Derived.Test.YtgbjadckgfeimacLogW
namespace Go.Proofs.Ytgbjadckgfeimac
open Go.RowKit

theorem cut_le (way : Ieee.Toward) (neg : Bool) (n d : Nat) : way.cut neg n d ≤ n / 2 ^ min d (n.log2 + 2) + 1 := by
  unfold Ieee.Toward.cut
  simp only [Nat.one_shiftLeft]
  have : ∀ b : Bool, b.toNat ≤ 1 := fun b => by cases b <;> decide
  exact Nat.add_le_add_left (this _) _

theorem whole_le {K : Nat} (way : Ieee.Toward) (neg : Bool) {m : Nat} {e : Int} (h : Le (K : Int) m e) : way.cut neg (m <<< e.toNat) (-e).toNat ≤ 2 ^ K + 1 := by
  refine Nat.le_trans (cut_le way neg _ _) (Nat.add_le_add_right ?_ 1)
  rcases h with h | ⟨h1, h2⟩
  · subst h
    rw [Nat.shiftLeft_eq, Nat.zero_mul, Nat.zero_div]
    exact Nat.zero_le _
  · by_cases he : 0 ≤ e
    · rw [show (-e).toNat = 0 by omega, Nat.zero_min, Nat.pow_zero, Nat.div_one, Nat.shiftLeft_eq]
      have := Nat.mul_le_mul_right (2 ^ e.toNat) h2
      rw [← Nat.pow_add, show ((K : Int) - e).toNat + e.toNat = K by omega] at this
      exact this
    · rw [show e.toNat = 0 by omega, Nat.shiftLeft_zero]
      by_cases hd : (-e).toNat ≤ m.log2 + 2
      · rw [Nat.min_eq_left hd]
        have h3 : 2 ^ ((K : Int) - e).toNat = 2 ^ K * 2 ^ (-e).toNat := by rw [← Nat.pow_add]; congr 1; omega
        rw [h3] at h2
        exact Nat.div_le_of_le_mul (by rw [Nat.mul_comm]; exact h2)
      · rw [Nat.min_eq_right (by omega)]
        have a1 : m < 2 ^ (m.log2 + 1) := Nat.lt_log2_self
        have a2 : 2 ^ (m.log2 + 1) ≤ 2 ^ (m.log2 + 2) := Nat.pow_le_pow_right (by decide) (by omega)
        rw [Nat.div_eq_of_lt (by omega)]
        exact Nat.zero_le _

def floorV (x : Nat) : Nat := Ieee.double.write ((Ieee.double.read x).integral .down)

theorem floor_Bl {x : Nat} (h : Bl 23 x) : Bl 24 (floorV x) := by
  obtain ⟨s, m, e, hr, hm⟩ := h
  unfold floorV
  rw [hr]
  show Bl 24 (Ieee.double.nearest s (Ieee.Toward.down.cut s (m <<< e.toNat) (-e).toNat) 0)
  have hw := whole_le (K := 23) .down s hm
  refine near_Le s (.inr ⟨by omega, ?_⟩) (by omega) (by omega)
  exact Nat.le_trans hw (by decide)

theorem signed_bd (s : Bool) (k : Nat) (h : k ≤ 16777217) : -16777217 ≤ Ieee.signed s k 0 ∧ Ieee.signed s k 0 ≤ 16777217 := by
  unfold Ieee.signed
  rw [Nat.shiftLeft_zero]
  cases s
  · rw [if_neg (by decide)]; omega
  · rw [if_pos rfl]; omega

theorem int_of_Bl {x : Nat} (h : Bl 24 x) : ∃ n, floatToIntVal .f64 x .i64 = some n := by
  obtain ⟨s, m, e, hr, hm⟩ := h
  have hw := whole_le (K := 24) .zero s hm
  obtain ⟨b0, b1⟩ := signed_bd s _ (Nat.le_trans hw (by decide))
  refine ⟨Ieee.signed s (Ieee.Toward.zero.cut s (m <<< e.toNat) (-e).toNat) 0, ?_⟩
  unfold floatToIntVal
  rw [show FloatKind.f64.decode x = .number s m e from hr]
  have ht : (Ieee.Datum.number s m e).toInt .zero = some (Ieee.signed s (Ieee.Toward.zero.cut s (m <<< e.toNat) (-e).toNat) 0) := rfl
  rw [ht]
  show (if _ then _ else _) = _
  rw [if_pos]
  have m0 : IntKind.i64.min = -9223372036854775808 := by decide
  have m1 : IntKind.i64.max = 9223372036854775807 := by decide
  rw [m0, m1]
  omega

theorem tn_Bl {r : Nat} (hr : InR r) : Bl 23 (tnE (x2 r) (fi (en r))) := by
  have h1 := mul_Bl (lgE_Bl hr) (Bl_of_B (show leB 6 4631308968768463603 = true by decide +kernel)) (by omega) (by omega)
  exact (add_Bl h1 ((Bl_of_B (show leB 0 4602678819172646912 = true by decide +kernel)).mono (by omega)) (by omega) (by omega)).mono (by omega)

theorem Bl_num {K : Int} {x : Nat} (h : Bl K x) : nn .f64 x = false := by
  obtain ⟨s, m, e, hr, _⟩ := h
  unfold nn
  rw [show FloatKind.f64.decode x = .number s m e from hr]
  rfl

/-- the tenths of a positive finite number -/
def tn (a : Nat) : Nat := floorV (tnE (x2 (cvu a)) (fi (en (cvu a))))

theorem run_floor (x : Nat) (w : World) (hn : nn .f64 x = false) : (callFunc 75 #[.float .f64 x]).run Try.prog w = .ok (.value (.float .f64 (floorV x))) w := by
  rw [run_callFunc_extern (e := Extern.MathFloor.toIntegral "math.archFloor" .down) Try.func75 (by kernel_rfl) (by kernel_rfl) (by kernel_rfl) (by kernel_rfl)]
  have e : Extern.MathFloor.toIntegral "math.archFloor" .down #[.float .f64 x] = (match Ieee.double.read x with
    | .nan s t => if FloatKind.f64.format.quiet t = t then (Sem.pure (.float .f64 x) : Sem Value) else Sem.bind (choose (.extern "math.Floor,Ceil,Trunc,RoundToEven.signallingNaN kept" 2)) fun kept => Sem.pure (.float .f64 (if kept == 1 then x else FloatKind.f64.encode (.nan s (FloatKind.f64.format.quiet t))))
    | d => (Sem.pure (.float .f64 (FloatKind.f64.encode (d.integral .down))) : Sem Value)) := rfl
  rw [e]
  unfold floorV
  unfold nn FloatKind.decode at hn
  cases h : Ieee.double.read x with
  | number s m i => rfl
  | infinity s => rfl
  | nan s t => rw [show FloatKind.f64.format.read x = _ from h] at hn; simp [Ieee.Datum.isNaN] at hn

theorem floor_any (x : Nat) (w : World) (hn : nn .f64 x = false) : Calls Try.prog 53 #[.float .f64 x] w fun e w' => e = .returned (.float .f64 (floorV x)) ∧ w = w' := by
  have hf := fun w => run_floor x w hn
  clear hn
  go_enter Try.func53, Try.ntmps53
  go_wp2
  go_ret
  exact ⟨rfl, rfl⟩

theorem floor_of {a r t u v : Nat} (w : World) (h0 : 0 < a) (h1 : a < 2139095040) (hu : UR a r) (ht : Hid (cn .f64 t = lgE (x2 r) (fi (en r)))) (hm : FR .mul .f64 t 4631308968768463603 u) (hp : FR .add .f64 u 4602678819172646912 v) :
    Calls Try.prog 53 #[.float .f64 v] w fun e w' => e = .returned (.float .f64 (tn a)) ∧ w = w' := by
  have hn : nn .f32 a = false := by rw [nn32]; exact decide_eq_false (by omega)
  have er := up_lit hu hn rfl
  have hb := tn_Bl (InR_of hu h0 h1)
  have e : cn .f64 v = tnE (x2 r) (fi (en r)) := by
    rw [tnE, hp.1, hm.1, ht.out]
    simp only [fop_cnr]
  have hv : nn .f64 v = false := by rw [← nn_cn, e]; exact Bl_num hb
  rw [cn_of_num hv] at e
  rw [tn, ← er, ← e]
  exact floor_any v w hv

def Ten (n : Int) (b : Bool) (w : World) (e : Ending) (w' : World) : Prop := e = .returned (.tuple #[.int .i64 n, .bool b]) ∧ ∃ q, w' = w.drewN q

theorem tn_int (a : Nat) (h0 : 0 < a) (h1 : a < 2139095040) : ∃ n, floatToIntVal .f64 (tn a) .i64 = some n := by
  obtain ⟨r, _, hr, _⟩ := run_up (P := Try.prog) Try.underlying28 Try.underlying22 a default
  have hn : nn .f32 a = false := by rw [nn32]; exact decide_eq_false (by omega)
  have hb := tn_Bl (InR_of hr h0 h1)
  rw [up_lit hr hn rfl] at hb
  exact int_of_Bl (floor_Bl hb)

theorem specTen_pos (a : Nat) (n : Int) (w : World) (h0 : 0 < a) (h1 : a < 2139095040) (hn : floatToIntVal .f64 (tn a) .i64 = some n) : Calls Try.prog 51 #[.float .f32 a] w fun e w' => e = .returned (.int .i64 n) ∧ ∃ q, w' = w.drewN q := by
  have hcv := fun w => run_convert_float_int (P := Try.prog) w 22 2 .f64 .i64 (tn a) n (by rw [Try.underlying22]; rfl) Try.underlying2 hn
  clear hn
  generalize hT : tn a = T at *
  have HT0 := Lib.hid hT
  clear hT
  go_enter Try.func51, Try.ntmps51
  go_wp2_with (first | (refine wpList_up rfl Try.underlying28 Try.underlying22 _ rfl _ rfl ?_; intro _ _ _) | (refine wpList_farith rfl _ _ _ _ _ rfl rfl _ _ _ rfl rfl ?_; intro _ _ _) | (go_at_call 74; refine (specLog_any _ _ (InR_of (by assumption) h0 h1)).mono ?_; rintro e w' ⟨t, n, ht, rfl, rfl⟩; have HT := Lib.hid ht; clear ht) | (go_at_call 53; refine (floor_of _ h0 h1 (by assumption) (by assumption) (by assumption) (by assumption)).mono ?_; rw [HT0.out]; rintro e w' ⟨rfl, rfl⟩))
  go_ret
  exact ⟨rfl, _, rfl⟩

theorem implTen_pos (a : Nat) (n : Int) (w : World) (h0 : 0 < a) (h1 : a < 2139095040) (hn : floatToIntVal .f64 (tn a) .i64 = some n) : Calls Try.prog 22 #[.float .f32 a] w (Ten n true w) := by
  have hcv := fun w => run_convert_float_int (P := Try.prog) w 22 2 .f64 .i64 (tn a) n (by rw [Try.underlying22]; rfl) Try.underlying2 hn
  obtain ⟨o1, o2⟩ := pos_order32 a h0 (by omega)
  have hf : fin .f32 a = true := by
    unfold fin
    rw [nn32, decide_eq_false (by omega)]
    unfold FloatKind.decode
    rw [show FloatKind.f32.format.read a = _ from pos_read32 a h1]
    rfl
  clear hn o2
  generalize hT : tn a = T at *
  have HT0 := Lib.hid hT
  clear hT
  go_enter Try.func22, Try.ntmps22
  go_wp2_with (first | (refine wpList_up rfl Try.underlying28 Try.underlying22 _ rfl _ rfl ?_; intro _ _ _) | (refine wpList_farith rfl _ _ _ _ _ rfl rfl _ _ _ rfl rfl ?_; intro _ _ _) | (go_at_call 48; refine (implFinite_any _ _).mono ?_; rw [hf]; rintro e w' ⟨rfl, n, rfl⟩) | (go_at_call 52; refine (implLog_any _ _ (InR_of (by assumption) h0 h1)).mono ?_; rintro e w' ⟨t, n, ht, rfl, rfl⟩; have HT := Lib.hid ht; clear ht) | (go_at_call 53; refine (floor_of _ h0 h1 (by assumption) (by assumption) (by assumption) (by assumption)).mono ?_; rw [HT0.out]; rintro e w' ⟨rfl, rfl⟩))
  go_ret2
  exact ⟨rfl, _, rfl⟩

theorem specTenN_pos (a : Nat) (n : Int) (w : World) (h0 : 0 < a) (h1 : a < 2139095040) (hn : floatToIntVal .f64 (tn a) .i64 = some n) : Calls Try.prog 21 #[.float .f32 a] w (Ten n true w) := by
  obtain ⟨o1, o2⟩ := pos_order32 a h0 (by omega)
  have hf : fin .f32 a = true := by
    unfold fin
    rw [nn32, decide_eq_false (by omega)]
    unfold FloatKind.decode
    rw [show FloatKind.f32.format.read a = _ from pos_read32 a h1]
    rfl
  have HN := Lib.hid hn
  clear hn o2
  go_enter Try.func21, Try.ntmps21
  go_wp2_with (first | (go_at_call 50; refine (specFinite_any _ _).mono ?_; rw [hf]; rintro e w' ⟨rfl, n, rfl⟩) | (go_at_call 51; refine (specTen_pos _ _ _ h0 h1 HN.out).mono ?_; rintro e w' ⟨rfl, n, rfl⟩))
  go_ret2
  exact ⟨rfl, _, rfl⟩

theorem implTen_inf (a : Nat) (w : World) (hf : fin .f32 a = false) : Calls Try.prog 22 #[.float .f32 a] w (Ten 0 false w) := by
  go_enter Try.func22, Try.ntmps22
  go_wp2_with (go_at_call 48; refine (implFinite_any _ _).mono ?_; rw [hf]; rintro e w' ⟨rfl, n, rfl⟩)
  go_ret2
  exact ⟨rfl, _, rfl⟩
theorem specTen_inf (a : Nat) (w : World) (hf : fin .f32 a = false) : Calls Try.prog 21 #[.float .f32 a] w (Ten 0 false w) := by
  go_enter Try.func21, Try.ntmps21
  go_wp2_with (go_at_call 50; refine (specFinite_any _ _).mono ?_; rw [hf]; rintro e w' ⟨rfl, n, rfl⟩)
  go_ret2
  exact ⟨rfl, _, rfl⟩
theorem implTen_neg (a : Nat) (w : World) (hf : fin .f32 a = true) (o : FloatKind.f32.format.order a 0 = some .lt ∨ FloatKind.f32.format.order a 0 = some .eq) : Calls Try.prog 22 #[.float .f32 a] w (Ten 0 false w) := by
  rcases o with o | o
  all_goals
    go_enter Try.func22, Try.ntmps22
    go_wp2_with (go_at_call 48; refine (implFinite_any _ _).mono ?_; rw [hf]; rintro e w' ⟨rfl, n, rfl⟩)
    go_ret2
    exact ⟨rfl, _, rfl⟩
theorem specTen_neg (a : Nat) (w : World) (hf : fin .f32 a = true) (o : FloatKind.f32.format.order a 0 = some .lt ∨ FloatKind.f32.format.order a 0 = some .eq) : Calls Try.prog 21 #[.float .f32 a] w (Ten 0 false w) := by
  rcases o with o | o
  all_goals
    go_enter Try.func21, Try.ntmps21
    go_wp2_with (go_at_call 50; refine (specFinite_any _ _).mono ?_; rw [hf]; rintro e w' ⟨rfl, n, rfl⟩)
    go_ret2
    exact ⟨rfl, _, rfl⟩

theorem tens_agree (a : Nat) (ha : a < 4294967296) : ∃ n b, ∀ w, Calls Try.prog 21 #[.float .f32 a] w (Ten n b w) ∧ Calls Try.prog 22 #[.float .f32 a] w (Ten n b w) := by
  cases hf : fin .f32 a
  · exact ⟨_, _, fun w => ⟨specTen_inf a w hf, implTen_inf a w hf⟩⟩
  · have hn : nn .f32 a = false := by
      cases hn : nn .f32 a
      · rfl
      · rw [fin_nan hn] at hf; cases hf
    by_cases hz : a = 0 ∨ a = 2147483648
    · exact ⟨_, _, fun w => ⟨specTen_neg a w hf (.inr (ord32_zero hz)), implTen_neg a w hf (.inr (ord32_zero hz))⟩⟩
    · by_cases hneg : 2147483648 < a
      · have o := (ord32_neg ha hneg hn).1
        exact ⟨_, _, fun w => ⟨specTen_neg a w hf (.inl o), implTen_neg a w hf (.inl o)⟩⟩
      · have hb : a < 2139095040 := by
          rw [nn32] at hn
          have := of_decide_eq_false hn
          by_cases hi : a = 2139095040
          · subst hi
            rw [show fin .f32 2139095040 = false by decide +kernel] at hf; cases hf
          · omega
        obtain ⟨n, hnn⟩ := tn_int a (by omega) hb
        exact ⟨_, _, fun w => ⟨specTenN_pos a n w (by omega) hb hnn, implTen_pos a n w (by omega) hb hnn⟩⟩

theorem fnExactTenthsOf_walk (a : Nat) (w : World) (wa : (Lit.float .f32 a).wf = true) :
    Calls Try.prog 6 #[.float .f32 a] w (Tru w) := by
  obtain ⟨n, b, hh⟩ := tens_agree a (wf32 wa)
  have H := Lib.hid hh
  clear hh
  go_enter Try.func6, Try.ntmps6
  go_wp2_with (first | (go_at_call 21; refine ((H.out _).1).mono ?_; rintro e w' ⟨rfl, q, rfl⟩) | (go_at_call 22; refine ((H.out _).2).mono ?_; rintro e w' ⟨rfl, q, rfl⟩))
  go_ret
  exact Tru.drewN
end Go.Proofs.Ytgbjadckgfeimac
