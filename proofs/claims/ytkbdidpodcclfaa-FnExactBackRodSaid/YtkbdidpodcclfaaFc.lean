/- Conversions between the two float kinds, and the walk's rules for them. -/
import Derived.Test.YtkbdidpodcclfaaFl
namespace Go.Proofs.Ytkbdidpodcclfaa
open Go

theorem read_word_fin (f : Ieee.Format) (neg : Bool) (r : Nat) (h : r < f.infRung) : (f.read (f.word neg r)).isInfinity = false := by
  have h1 := Ieee.Format.infRung_lt f
  have hs : 0 < f.signWeight := Nat.two_pow_pos _
  have e : f.word neg r % f.signWeight = r := by
    unfold Ieee.Format.word
    split
    · rw [Nat.add_mod_left, Nat.mod_eq_of_lt (by omega)]
    · exact Nat.mod_eq_of_lt (by omega)
  unfold Ieee.Format.read
  simp only [e]
  split
  · rfl
  · first | rfl | (rw [if_pos h]; rfl)

theorem read_single_bounds {b : Nat} {s : Bool} {m : Nat} {e : Int} (h : Ieee.single.read b = .number s m e) : m < 2 ^ 24 ∧ -149 ≤ e ∧ e ≤ 104 := by
  have sw : Ieee.single.signWeight = 2147483648 := by decide
  have bn : Ieee.single.binade = 8388608 := by decide
  have ir : Ieee.single.infRung = 2139095040 := by decide
  have lp : Ieee.single.leastPlace = -149 := by decide
  unfold Ieee.Format.read at h
  simp only [sw, bn, ir, lp] at h
  split at h
  · simp only [Ieee.Datum.number.injEq] at h
    omega
  · split at h
    · simp only [Ieee.Datum.number.injEq] at h
      omega
    · split at h <;> simp at h

theorem cut_zero (neg : Bool) (n : Nat) : Ieee.Toward.even.cut neg n 0 = n := by
  unfold Ieee.Toward.cut
  simp [Nat.mod_one]

theorem up_num (T K : Nat) (hT : T ≤ 1149) (hK : K < 9007199254740992) : min (T * 4503599627370496 + K) 9218868437227405312 < 9218868437227405312 :=
  Nat.lt_of_le_of_lt (Nat.min_le_left _ _) (by omega)

theorem up_kept (m : Nat) (hl : m.log2 < 24) : m * 2 ^ (52 - m.log2) < 9007199254740992 := by
  have hup : m < 2 ^ (m.log2 + 1) := Nat.lt_log2_self
  have h : m * 2 ^ (52 - m.log2) < 2 ^ (m.log2 + 1) * 2 ^ (52 - m.log2) := Nat.mul_lt_mul_of_pos_right hup (Nat.two_pow_pos _)
  rw [← Nat.pow_add, show m.log2 + 1 + (52 - m.log2) = 53 by omega] at h
  exact h

theorem double_inf : Ieee.double.infRung = 9218868437227405312 := by decide
theorem double_binade : Ieee.double.binade = 4503599627370496 := by decide
theorem double_least : Ieee.double.leastPlace = -1074 := by decide
theorem double_fraction : (Ieee.double.fractionBits : Int) = 52 := by decide

theorem up_nearest (s : Bool) (m : Nat) (e : Int) (hz : m ≠ 0) (hl : m.log2 < 24) (h0 : -149 ≤ e) (h1 : e ≤ 104) :
    ∃ r, Ieee.double.nearest s m e = Ieee.double.word s r ∧ r < 9218868437227405312 := by
  have e1 : max (e + (m.log2 : Int) - 52) (-1074) = e + (m.log2 : Int) - 52 := by omega
  have e2 : (e + (m.log2 : Int) - 52 - e).toNat = 0 := by omega
  have e3 : (e - (e + (m.log2 : Int) - 52)).toNat = 52 - m.log2 := by omega
  have e4 : (e + (m.log2 : Int) - 52 - -1074).toNat ≤ 1149 := by omega
  refine ⟨min ((e + (m.log2 : Int) - 52 - -1074).toNat * 4503599627370496 + m * 2 ^ (52 - m.log2)) 9218868437227405312, ?_, up_num _ _ e4 (up_kept m hl)⟩
  unfold Ieee.Format.nearest
  rw [if_neg hz]
  simp only [double_least, double_fraction, double_binade, double_inf, e1, e2, e3, cut_zero, Nat.shiftLeft_eq]

theorem up_fits (s : Bool) (m : Nat) (e : Int) (hm : m < 2 ^ 24) (h0 : -149 ≤ e) (h1 : e ≤ 104) : (Ieee.double.read (Ieee.double.write (.number s m e))).isInfinity = false := by
  show (Ieee.double.read (Ieee.double.nearest s m e)).isInfinity = false
  by_cases hz : m = 0
  · subst hz
    exact read_word_fin Ieee.double s 0 (by rw [double_inf]; omega)
  · obtain ⟨r, er, hr⟩ := up_nearest s m e hz ((Nat.log2_lt hz).2 hm) h0 h1
    rw [er]
    exact read_word_fin _ _ _ (by rw [double_inf]; exact hr)

theorem up_some {b : Nat} (h : nn .f32 b = false) : ∃ r, floatToFloatBits .f32 b .f64 = some r := by
  unfold floatToFloatBits
  rw [if_neg (by decide)]
  unfold nn at h
  cases e : FloatKind.f32.decode b with
  | nan s t => rw [e] at h; simp [Ieee.Datum.isNaN] at h
  | infinity s => exact ⟨_, rfl⟩
  | number s m i =>
    obtain ⟨hm, h0, h1⟩ := read_single_bounds (show Ieee.single.read b = _ from e)
    have hf := up_fits s m i hm h0 h1
    simp only
    rw [if_neg (by rw [show FloatKind.f64.decode (FloatKind.f64.encode (.number s m i)) = Ieee.double.read (Ieee.double.write (.number s m i)) from rfl, hf]; simp)]
    exact ⟨_, rfl⟩

theorem ftf_num {s d : FloatKind} {b r : Nat} (hsd : s ≠ d) (h : floatToFloatBits s b d = some r) : nn d r = false := by
  unfold floatToFloatBits at h
  rw [if_neg hsd] at h
  split at h
  · cases h
  · cases h; exact read_write _ _ rfl
  · split at h
    · cases h
    · cases h; exact read_write _ _ rfl

theorem ftf_nan {s d : FloatKind} {b : Nat} (hsd : s ≠ d) (h : nn s b = true) : floatToFloatBits s b d = none := by
  obtain ⟨sg, t, e⟩ := decode_nan h
  unfold floatToFloatBits FloatKind.decode
  rw [if_neg hsd, e]

/-- a 32-bit number made a 64-bit one -/
def cvu (b : Nat) : Nat := (floatToFloatBits .f32 b .f64).getD (qn .f64)
/-- narrowing, of what is not too great -/
def cvd (b : Nat) : Nat := (floatToFloatBits .f64 b .f32).getD (qn .f32)
/-- too great to be narrowed -/
def ovf (b : Nat) : Bool := !nn .f64 b && (floatToFloatBits .f64 b .f32).isNone

def UR (m r : Nat) : Prop := cn .f64 r = cvu (cn .f32 m) ∧ (Lit.float .f64 r).wf = true
def DR (m r : Nat) : Prop := (ovf (cn .f64 m) = false → cn .f32 r = cvd (cn .f64 m)) ∧ (Lit.float .f32 r).wf = true

section
variable {P : Program}
theorem nan_conv_wf (k : FloatKind) (b t : Nat) : nn k ((Question.nanConv k b).cut t) = true ∧ (Lit.float k ((Question.nanConv k b).cut t)).wf = true :=
  nan_cut k (.nanConv k b) t (by intro t; cases k <;> rfl)

theorem run_cvt_nan {S D : TypeId} {s d : FloatKind} (hs : P.underlying S = some (.float s)) (hd : P.underlying D = some (.float d)) (hsd : s ≠ d) (b : Nat) (w : World) (h : nn s b = true) :
    (convert S D (.float s b)).run P w = .ok (.float d ((Question.nanConv d b).cut (w.tape w.drawn (.nanConv d b)))) (w.drewN 1) := by
  obtain ⟨sg, t, e⟩ := decode_nan h
  have e' : (convert S D (.float s b)).run P w = (Sem.bind (choose (.nanConv d b)) fun t => Sem.pure (.float d t)).run P w := by
    simp only [convert, Sem.run_bind, run_underlying hs, run_underlying hd, Result.andThen_ok, Conv.floatToFloat, if_neg hsd]
    rw [show s.decode b = .nan sg t from e]
    rfl
  rw [e']
  exact run_choose _ (by cases d <;> rfl) _ w

theorem run_up {S D : TypeId} (hs : P.underlying S = some (.float .f32)) (hd : P.underlying D = some (.float .f64)) (m : Nat) (w : World) :
    ∃ r j, UR m r ∧ (convert S D (.float .f32 m)).run P w = .ok (.float .f64 r) (w.drewN j) := by
  cases h : nn .f32 m
  · obtain ⟨r, hr⟩ := up_some h
    refine ⟨r, 0, ⟨?_, ?_⟩, run_convert_float_float w S D .f32 .f64 m r (by rw [hs]; rfl) hd hr⟩
    · rw [cn_of_num h, cn_of_num (ftf_num (by decide) hr), cvu, hr]; rfl
    · unfold floatToFloatBits at hr
      rw [if_neg (by decide)] at hr
      split at hr
      · cases hr
      · cases hr; exact encode_wf ..
      · split at hr
        · cases hr
        · cases hr; exact encode_wf ..
  · have hc := nan_conv_wf .f64 m (w.tape w.drawn (.nanConv .f64 m))
    refine ⟨_, 1, ⟨?_, hc.2⟩, run_cvt_nan hs hd (by decide) m w h⟩
    rw [cn_of_nan hc.1, cn_of_nan h, cvu, ftf_nan (by decide) (nn_qn _)]; rfl

theorem run_down {S D : TypeId} (hs : P.underlying S = some (.float .f64)) (hd : P.underlying D = some (.float .f32)) (m : Nat) (w : World) :
    ∃ r j, DR m r ∧ (convert S D (.float .f64 m)).run P w = .ok (.float .f32 r) (w.drewN j) := by
  cases h : nn .f64 m
  · cases hr : floatToFloatBits .f64 m .f32 with
    | some r =>
      refine ⟨r, 0, ⟨fun _ => ?_, ?_⟩, run_convert_float_float w S D .f64 .f32 m r (by rw [hs]; rfl) hd hr⟩
      · rw [cn_of_num h, cn_of_num (ftf_num (by decide) hr), cvd, hr]; rfl
      · unfold floatToFloatBits at hr
        rw [if_neg (by decide)] at hr
        split at hr
        · cases hr
        · cases hr; exact encode_wf ..
        · split at hr
          · cases hr
          · cases hr; exact encode_wf ..
    | none =>
      refine ⟨(Question.floatToFloat m).cut (w.tape w.drawn (.floatToFloat m)), 1, ⟨fun ho => ?_, ?_⟩, ?_⟩
      · rw [cn_of_num h] at ho
        simp [ovf, h, hr] at ho
      · have : (Question.floatToFloat m).cut (w.tape w.drawn (.floatToFloat m)) < 2 ^ 32 := Nat.mod_lt _ (by decide)
        simpa [Lit.wf] using this
      · have e' : (convert S D (.float .f64 m)).run P w = (Sem.bind (choose (.floatToFloat m)) fun t => Sem.pure (.float .f32 t)).run P w := by
          simp only [convert, Sem.run_bind, run_underlying hs, run_underlying hd, Result.andThen_ok, Conv.floatToFloat]
          rw [if_neg (by decide)]
          unfold floatToFloatBits at hr
          rw [if_neg (by decide)] at hr
          split at hr
          · rename_i he; unfold nn at h; rw [he] at h; simp [Ieee.Datum.isNaN] at h
          · cases hr
          · rename_i sg mm ee he
            split at hr
            · rename_i hi
              rw [he]
              simp only [hi, if_true]
              rfl
            · cases hr
        rw [e']
        exact run_choose _ rfl _ w
  · have hc := nan_conv_wf .f32 m (w.tape w.drawn (.nanConv .f32 m))
    refine ⟨_, 1, ⟨fun _ => ?_, hc.2⟩, run_cvt_nan hs hd (by decide) m w h⟩
    rw [cn_of_nan hc.1, cn_of_nan h, cvd, ftf_nan (by decide) (nn_qn _)]; rfl

variable {ops : Array Oper} {Q : Exit → Act → World → Prop} {rest : List Oper} {o : Oper} {a : Act} {w : World}
theorem wp_up {K : Act → World → Prop} {S D : TypeId} (hs : P.underlying S = some (.float .f32)) (hd : P.underlying D = some (.float .f64)) (x : Operand) (ho : o.op = .convert S D x) (m : Nat)
    (hx : a.eval x = .float .f32 m) (h : ∀ r j, UR m r → K (a.put o.dst (.float .f64 r)) (w.drewN j)) : o.wp P a w K Q := by
  obtain ⟨r, j, hr, hw⟩ := run_up hs hd m w
  unfold Oper.wp execOp
  simp only [ho, hx, Sem.run_bind, Sem.run_pure, Result.andThen_ok, hw]
  exact h r j hr
theorem wpList_up (hgd : o.guard = none) {S D : TypeId} (hs : P.underlying S = some (.float .f32)) (hd : P.underlying D = some (.float .f64)) (x : Operand) (ho : o.op = .convert S D x) (m : Nat)
    (hx : a.eval x = .float .f32 m) (h : ∀ r j, UR m r → wpList P ops Q rest (a.put o.dst (.float .f64 r)) (w.drewN j)) : wpList P ops Q (o :: rest) a w :=
  wpList_plain hgd fun _ hK => wp_up hs hd x ho m hx fun r j hr => hK _ _ (h r j hr)
theorem wp_down {K : Act → World → Prop} {S D : TypeId} (hs : P.underlying S = some (.float .f64)) (hd : P.underlying D = some (.float .f32)) (x : Operand) (ho : o.op = .convert S D x) (m : Nat)
    (hx : a.eval x = .float .f64 m) (h : ∀ r j, DR m r → K (a.put o.dst (.float .f32 r)) (w.drewN j)) : o.wp P a w K Q := by
  obtain ⟨r, j, hr, hw⟩ := run_down hs hd m w
  unfold Oper.wp execOp
  simp only [ho, hx, Sem.run_bind, Sem.run_pure, Result.andThen_ok, hw]
  exact h r j hr
theorem wpList_down (hgd : o.guard = none) {S D : TypeId} (hs : P.underlying S = some (.float .f64)) (hd : P.underlying D = some (.float .f32)) (x : Operand) (ho : o.op = .convert S D x) (m : Nat)
    (hx : a.eval x = .float .f64 m) (h : ∀ r j, DR m r → wpList P ops Q rest (a.put o.dst (.float .f32 r)) (w.drewN j)) : wpList P ops Q (o :: rest) a w :=
  wpList_plain hgd fun _ hK => wp_down hs hd x ho m hx fun r j hr => hK _ _ (h r j hr)
end
end Go.Proofs.Ytkbdidpodcclfaa
