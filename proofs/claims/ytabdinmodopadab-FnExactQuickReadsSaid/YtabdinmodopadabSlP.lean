/- Slow sensors: their shares. -/
import Derived.Test.YtabdinmodopadabRds
import Derived.Test.YtabdinmodopadabLst
import Derived.Test.YtabdinmodopadabExpN
import Derived.Test.YtabdinmodopadabSg32
namespace Go.Proofs.Ytabdinmodopadab
open Go.RowKit
set_option linter.unusedVariables false

def snB (zs : List Nat) (f t u : Nat) : Bool := rds zs && fin .f32 f && pos t && pos u
def snA (t u : Nat) : Nat := Op.negFloat .f32 (fop .quo .f32 t u)
def snK (c : Nat) : Nat := fop .sub .f32 1065353216 c
/-- what a slow sensor tells behind k reads -/
def slS (zs : List Nat) (k f : Nat) : Nat → Nat
  | 0 => cn .f32 f
  | i + 1 => fop .add .f32 (slS zs k f i) (fop .mul .f32 k (fop .sub .f32 (zs.getD i 0) (slS zs k f i)))
def slL (zs : List Nat) (k f : Nat) : Nat → List Nat
  | 0 => []
  | i + 1 => slL zs k f i ++ [slS zs k f (i + 1)]
theorem slL_len (zs : List Nat) (k f : Nat) : ∀ n, (slL zs k f n).length = n
  | 0 => rfl
  | n + 1 => by rw [slL, List.length_append, slL_len zs k f n]; rfl
theorem slS_of {zs : List Nat} {k f i s kv r0 r1 r2 : Nat} (hs : cn .f32 s = slS zs k f i) (hk : cn .f32 kv = k) (f0 : FR .sub .f32 (zs.getD i 0) s r0) (f1 : FR .mul .f32 kv r0 r1) (f2 : FR .add .f32 s r1 r2) : cn .f32 r2 = slS zs k f (i + 1) := by
  unfold slS
  simp only [f2.1, f1.1, f0.1, hs, hk, fopl']
/-- what it was told -/
def qkS (zs : List Nat) (f : Nat) : Nat → Nat
  | 0 => f
  | i + 1 => zs.getD i 0
def qkV (zs : List Nat) (k f i : Nat) : Nat := fop .add .f32 (qkS zs f i) (fop .quo .f32 (fop .sub .f32 (zs.getD i 0) (qkS zs f i)) k)
def qkL (zs : List Nat) (k f : Nat) : Nat → List Nat
  | 0 => []
  | i + 1 => qkL zs k f i ++ [qkV zs k f i]
theorem qkL_len (zs : List Nat) (k f : Nat) : ∀ n, (qkL zs k f n).length = n
  | 0 => rfl
  | n + 1 => by rw [qkL, List.length_append, qkL_len zs k f n]; rfl
theorem qkV_of {zs : List Nat} {k f i kv r0 r1 r2 : Nat} (hk : cn .f32 kv = k) (f0 : FR .sub .f32 (zs.getD i 0) (qkS zs f i) r0) (f1 : FR .quo .f32 r0 kv r1) (f2 : FR .add .f32 (qkS zs f i) r1 r2) : cn .f32 r2 = qkV zs k f i := by
  unfold qkV
  simp only [f2.1, f1.1, f0.1, hk, fopl', fopr']
theorem map_snoc {ys S : List Nat} {r : Nat} {V : Nat} (h : ys.map (cn .f32) = S) (hr : cn .f32 r = V) : (ys ++ [r]).map (cn .f32) = S ++ [V] := by
  rw [List.map_append, h, List.map_cons, List.map_nil, hr]
theorem lstG_of {ys S : List Nat} (h : ys.map (cn .f32) = S) : S.all (fin .f32) = ys.all (fin .f32) := by rw [← h, all_fin_cn]
theorem Own.nil (w : World) (base : Nat) : Own w base (.slice none 0 0) [] := ⟨rfl, .inl ⟨rfl, rfl⟩⟩
theorem sl_bad {b : Bool} {S : List Nat} {w w' : World} (h : b = false) (hb : Below w.heap.size w w') : LstO (lstS b S) (lstG b S) w (.returned (.tuple #[.slice none 0 0, .bool false])) w' := by
  subst h; exact LstO.no hb
theorem sl_inf {b : Bool} {ys S : List Nat} {w w' : World} (hm : ys.map (cn .f32) = S) (h : ys.all (fin .f32) = false) (hb : Below w.heap.size w w') : LstO (lstS b S) (lstG b S) w (.returned (.tuple #[.slice none 0 0, .bool false])) w' := by
  have e : S.all (fin .f32) = false := (lstG_of hm).trans h
  unfold lstS lstG; rw [e, Bool.and_false]; exact LstO.no hb
theorem sl_yes {b : Bool} {v : Value} {ys S : List Nat} {w w' : World} (hb : b = true) (hm : ys.map (cn .f32) = S) (h : ys.all (fin .f32) = true) (ho : Own w' w.heap.size v ys) (hbw : Below w.heap.size w w') : LstO (lstS b S) (lstG b S) w (.returned (.tuple #[v, .bool true])) w' := by
  have e : S.all (fin .f32) = true := (lstG_of hm).trans h
  unfold lstS lstG; rw [e, hb]; exact ⟨v, ys, rfl, ho.orow, hm, hbw⟩
theorem gt0_of {r S : Nat} (h : cn .f32 r = S) : gt0 r = gt0 S := by
  unfold gt0; rw [← h]
  have : FloatKind.f32.format.order (cn .f32 r) 0 = FloatKind.f32.format.order r 0 := by rw [← order_cn .f32 (cn .f32 r) 0, cn_cn, order_cn]
  rw [this]
theorem sn_Nng {t u : Nat} (ht : pos t = true) (hu : pos u = true) : Nng (fop .quo .f32 t u) := by
  obtain ⟨a, b, _⟩ := pos_nz ht
  exact quo_Nng a b hu
theorem sn_arg {t u p : Nat} (ht : pos t = true) (hu : pos u = true) (f : FR .quo .f32 t u p) : Op.negFloat .f32 p = snA t u := by
  have e : p = fop .quo .f32 t u := Nng_is (sn_Nng ht hu) (by rw [f.1]; simp only [fopl', fopr'])
  rw [e]; rfl
theorem snK_of {c l r : Nat} (h : cn .f32 l = c) (f : FR .sub .f32 1065353216 l r) : cn .f32 r = snK c := by
  unfold snK; rw [f.1, h]; simp only [fopl']
theorem sn_parts {zs : List Nat} {f t u : Nat} (h : snB zs f t u = true) : rds zs = true ∧ pos t = true ∧ pos u = true := by
  unfold snB at h
  simp only [Bool.and_eq_true] at h
  exact ⟨h.1.1.1, h.1.2, h.2⟩

theorem specKn_any (t u c : Nat) (w : World) (ht : pos t = true) (hu : pos u = true) (hc : ∀ w, Calls Try.prog 59 #[.float .f32 (snA t u)] w (ExV c w)) : Calls Try.prog 52 #[.float .f32 t, .float .f32 u] w (ExV (snK c) w) := by
  have HT := Lib.hid ht
  have HU := Lib.hid hu
  have HC := Lib.hid hc
  clear ht hu hc
  go_enter Try.func52, Try.ntmps52
  go_wp2_with (refine wpList_farith rfl _ _ _ _ _ rfl rfl _ _ _ rfl rfl ?_; intro r0 j0 g0; have f0 := Lib.hid g0; clear g0; refine Stop.go ?_)
  refine Stop.mk ?_
  have ea := sn_arg HT.out HU.out f0.out
  have HL := Lib.hid HC.out
  rw [← ea] at HL
  clear ea HC f0
  go_wp2_with fail
  refine (HL.out _).mono ?_
  rintro e w' ⟨l, nl, hl, rfl, rfl⟩
  have L := Lib.hid hl
  clear hl HL
  go_wp2_with (refine wpList_farith rfl _ _ _ _ _ rfl rfl _ _ _ rfl rfl ?_; intro r1 j1 g1; have f1 := Lib.hid g1; clear g1; refine Stop.go ?_)
  refine Stop.mk ?_
  have V := Lib.hid (snK_of L.out f1.out)
  clear f1
  go_wp2
  go_ret
  exact ⟨_, _, V.out, rfl, by first | rfl | simp only [World.drewN_drewN]⟩
theorem specKn_tot (t u : Nat) (w : World) : Calls Try.prog 52 #[.float .f32 t, .float .f32 u] w (ExA w) := by
  go_enter Try.func52, Try.ntmps52
  go_wp2_with (refine wpList_farith rfl _ _ _ _ _ rfl rfl _ _ _ rfl rfl ?_; intro r0 j0 g0; have f0 := Lib.hid g0; clear g0; refine Stop.go ?_)
  refine Stop.mk ?_
  go_wp2_with fail
  refine (exps_any _ _).1.mono ?_
  rintro e w' ⟨l, nl, rfl, rfl⟩
  go_wp2_with (refine wpList_farith rfl _ _ _ _ _ rfl rfl _ _ _ rfl rfl ?_; intro r1 j1 g1; have f1 := Lib.hid g1; clear g1; refine Stop.go ?_)
  refine Stop.mk ?_
  go_wp2
  go_ret
  exact ⟨_, _, rfl, by first | rfl | simp only [World.drewN_drewN]⟩
set_option maxHeartbeats 800000 in
theorem specSn_any (v : Value) (zs : List Nat) (f t u : Nat) (w : World) (h : FRow w v zs) : Calls Try.prog 51 #[v, .float .f32 f, .float .f32 t, .float .f32 u] w (BolB (snB zs f t u) w) := by
  have Bw := Lib.hid (Below.refl w.heap.size w)
  have HR := Lib.hid (specRds_any v zs w h)
  have GE := Lib.hid (show snB zs f t u = (rds zs && fin .f32 f && pos t && pos u) from rfl)
  obtain ⟨a, cap, rfl⟩ := h.shape
  clear h
  generalize snB zs f t u = B at *
  generalize rds zs = R at *
  generalize zs.length = n at *
  cases R
  · have E := Lib.hid (GE.out.trans (by simp : _ = false))
    go_enter Try.func51, Try.ntmps51
    go_wp2_with fail
    refine HR.out.mono ?_
    rintro e w1 ⟨rfl, hb⟩
    have Bw := Lib.hid (below_step Bw.out hb)
    have Bp := Lib.hid Bw.out
    clear hb
    go_wp2
    go_ret
    exact ⟨ret_b E.out, Bw.out⟩
  · skip
    cases B0 : fin .f32 f
    · skip
      have E := Lib.hid (GE.out.trans (by rw [B0]; simp : _ = false))
      have H0 := Lib.hid B0
      clear B0 GE
      go_enter Try.func51, Try.ntmps51
      go_wp2_with fail
      refine HR.out.mono ?_
      rintro e w1 ⟨rfl, hb⟩
      have Bw := Lib.hid (below_step Bw.out hb)
      have Bp := Lib.hid Bw.out
      clear hb
      go_wp2_with fail
      refine (specFinite_any f _).mono ?_
      rw [H0.out]
      rintro e w' ⟨rfl, n0, rfl⟩
      go_wp2
      go_ret
      exact ⟨ret_b E.out, (by repeat (first | (with_reducible exact Bw.out) | (with_reducible exact Bp.out) | (with_reducible refine below_drewN ?_ _) | (with_reducible exact Below.refl _ _)))⟩
    · skip
      cases B1 : pos t
      · skip
        have E := Lib.hid (GE.out.trans (by rw [B1]; simp : _ = false))
        have H0 := Lib.hid B0
        have H1 := Lib.hid B1
        clear B0 B1 GE
        go_enter Try.func51, Try.ntmps51
        go_wp2_with fail
        refine HR.out.mono ?_
        rintro e w1 ⟨rfl, hb⟩
        have Bw := Lib.hid (below_step Bw.out hb)
        have Bp := Lib.hid Bw.out
        clear hb
        go_wp2_with fail
        refine (specFinite_any f _).mono ?_
        rw [H0.out]
        rintro e w' ⟨rfl, n0, rfl⟩
        go_wp2_with fail
        refine (specAbove_any t _).mono ?_
        rw [H1.out]
        rintro e w' ⟨rfl, n1, rfl⟩
        go_wp2
        go_ret
        exact ⟨ret_b E.out, (by repeat (first | (with_reducible exact Bw.out) | (with_reducible exact Bp.out) | (with_reducible refine below_drewN ?_ _) | (with_reducible exact Below.refl _ _)))⟩
      · skip
        cases B2 : pos u
        · skip
          have E := Lib.hid (GE.out.trans (by rw [B2]; simp : _ = false))
          have H0 := Lib.hid B0
          have H1 := Lib.hid B1
          have H2 := Lib.hid B2
          clear B0 B1 B2 GE
          go_enter Try.func51, Try.ntmps51
          go_wp2_with fail
          refine HR.out.mono ?_
          rintro e w1 ⟨rfl, hb⟩
          have Bw := Lib.hid (below_step Bw.out hb)
          have Bp := Lib.hid Bw.out
          clear hb
          go_wp2_with fail
          refine (specFinite_any f _).mono ?_
          rw [H0.out]
          rintro e w' ⟨rfl, n0, rfl⟩
          go_wp2_with fail
          refine (specAbove_any t _).mono ?_
          rw [H1.out]
          rintro e w' ⟨rfl, n1, rfl⟩
          go_wp2_with fail
          refine (specAbove_any u _).mono ?_
          rw [H2.out]
          rintro e w' ⟨rfl, n2, rfl⟩
          go_wp2
          go_ret
          exact ⟨ret_b E.out, (by repeat (first | (with_reducible exact Bw.out) | (with_reducible exact Bp.out) | (with_reducible refine below_drewN ?_ _) | (with_reducible exact Below.refl _ _)))⟩
        · skip
          have E := Lib.hid (GE.out.trans (by rw [B0, B1, B2]; rfl : _ = true))
          have H0 := Lib.hid B0
          have H1 := Lib.hid B1
          have H2 := Lib.hid B2
          clear B0 B1 B2 GE
          go_enter Try.func51, Try.ntmps51
          go_wp2_with fail
          refine HR.out.mono ?_
          rintro e w1 ⟨rfl, hb⟩
          have Bw := Lib.hid (below_step Bw.out hb)
          have Bp := Lib.hid Bw.out
          clear hb
          go_wp2_with fail
          refine (specFinite_any f _).mono ?_
          rw [H0.out]
          rintro e w' ⟨rfl, n0, rfl⟩
          go_wp2_with fail
          refine (specAbove_any t _).mono ?_
          rw [H1.out]
          rintro e w' ⟨rfl, n1, rfl⟩
          go_wp2_with fail
          refine (specAbove_any u _).mono ?_
          rw [H2.out]
          rintro e w' ⟨rfl, n2, rfl⟩
          go_wp2
          go_ret
          exact ⟨ret_b E.out, (by repeat (first | (with_reducible exact Bw.out) | (with_reducible exact Bp.out) | (with_reducible refine below_drewN ?_ _) | (with_reducible exact Below.refl _ _)))⟩

theorem implKn_any (t u c : Nat) (w : World) (ht : pos t = true) (hu : pos u = true) (hc : ∀ w, Calls Try.prog 64 #[.float .f32 (snA t u)] w (ExV c w)) : Calls Try.prog 55 #[.float .f32 t, .float .f32 u] w (ExV (snK c) w) := by
  have HT := Lib.hid ht
  have HU := Lib.hid hu
  have HC := Lib.hid hc
  clear ht hu hc
  go_enter Try.func55, Try.ntmps55
  go_wp2_with (refine wpList_farith rfl _ _ _ _ _ rfl rfl _ _ _ rfl rfl ?_; intro r0 j0 g0; have f0 := Lib.hid g0; clear g0; refine Stop.go ?_)
  refine Stop.mk ?_
  have ea := sn_arg HT.out HU.out f0.out
  have HL := Lib.hid HC.out
  rw [← ea] at HL
  clear ea HC f0
  go_wp2_with fail
  refine (HL.out _).mono ?_
  rintro e w' ⟨l, nl, hl, rfl, rfl⟩
  have L := Lib.hid hl
  clear hl HL
  go_wp2_with (refine wpList_farith rfl _ _ _ _ _ rfl rfl _ _ _ rfl rfl ?_; intro r1 j1 g1; have f1 := Lib.hid g1; clear g1; refine Stop.go ?_)
  refine Stop.mk ?_
  have V := Lib.hid (snK_of L.out f1.out)
  clear f1
  go_wp2
  go_ret
  exact ⟨_, _, V.out, rfl, by first | rfl | simp only [World.drewN_drewN]⟩
theorem implKn_tot (t u : Nat) (w : World) : Calls Try.prog 55 #[.float .f32 t, .float .f32 u] w (ExA w) := by
  go_enter Try.func55, Try.ntmps55
  go_wp2_with (refine wpList_farith rfl _ _ _ _ _ rfl rfl _ _ _ rfl rfl ?_; intro r0 j0 g0; have f0 := Lib.hid g0; clear g0; refine Stop.go ?_)
  refine Stop.mk ?_
  go_wp2_with fail
  refine (exps_any _ _).2.mono ?_
  rintro e w' ⟨l, nl, rfl, rfl⟩
  go_wp2_with (refine wpList_farith rfl _ _ _ _ _ rfl rfl _ _ _ rfl rfl ?_; intro r1 j1 g1; have f1 := Lib.hid g1; clear g1; refine Stop.go ?_)
  refine Stop.mk ?_
  go_wp2
  go_ret
  exact ⟨_, _, rfl, by first | rfl | simp only [World.drewN_drewN]⟩
set_option maxHeartbeats 800000 in
theorem implSn_any (v : Value) (zs : List Nat) (f t u : Nat) (w : World) (h : FRow w v zs) : Calls Try.prog 54 #[v, .float .f32 f, .float .f32 t, .float .f32 u] w (BolB (snB zs f t u) w) := by
  have Bw := Lib.hid (Below.refl w.heap.size w)
  have HR := Lib.hid (implRds_any v zs w h)
  have GE := Lib.hid (show snB zs f t u = (rds zs && fin .f32 f && pos t && pos u) from rfl)
  obtain ⟨a, cap, rfl⟩ := h.shape
  clear h
  generalize snB zs f t u = B at *
  generalize rds zs = R at *
  generalize zs.length = n at *
  cases R
  · have E := Lib.hid (GE.out.trans (by simp : _ = false))
    go_enter Try.func54, Try.ntmps54
    go_wp2_with fail
    refine HR.out.mono ?_
    rintro e w1 ⟨rfl, hb⟩
    have Bw := Lib.hid (below_step Bw.out hb)
    have Bp := Lib.hid Bw.out
    clear hb
    go_wp2
    go_ret
    exact ⟨ret_b E.out, Bw.out⟩
  · skip
    cases B0 : fin .f32 f
    · skip
      have E := Lib.hid (GE.out.trans (by rw [B0]; simp : _ = false))
      have H0 := Lib.hid B0
      clear B0 GE
      go_enter Try.func54, Try.ntmps54
      go_wp2_with fail
      refine HR.out.mono ?_
      rintro e w1 ⟨rfl, hb⟩
      have Bw := Lib.hid (below_step Bw.out hb)
      have Bp := Lib.hid Bw.out
      clear hb
      go_wp2_with fail
      refine (implFinite_any f _).mono ?_
      rw [H0.out]
      rintro e w' ⟨rfl, n0, rfl⟩
      go_wp2
      go_ret
      exact ⟨ret_b E.out, (by repeat (first | (with_reducible exact Bw.out) | (with_reducible exact Bp.out) | (with_reducible refine below_drewN ?_ _) | (with_reducible exact Below.refl _ _)))⟩
    · skip
      cases B1 : pos t
      · skip
        have E := Lib.hid (GE.out.trans (by rw [B1]; simp : _ = false))
        have H0 := Lib.hid B0
        have H1 := Lib.hid B1
        clear B0 B1 GE
        go_enter Try.func54, Try.ntmps54
        go_wp2_with fail
        refine HR.out.mono ?_
        rintro e w1 ⟨rfl, hb⟩
        have Bw := Lib.hid (below_step Bw.out hb)
        have Bp := Lib.hid Bw.out
        clear hb
        go_wp2_with fail
        refine (implFinite_any f _).mono ?_
        rw [H0.out]
        rintro e w' ⟨rfl, n0, rfl⟩
        go_wp2_with fail
        refine (implPos_any t _).mono ?_
        rw [H1.out]
        rintro e w' ⟨rfl, n1, rfl⟩
        go_wp2
        go_ret
        exact ⟨ret_b E.out, (by repeat (first | (with_reducible exact Bw.out) | (with_reducible exact Bp.out) | (with_reducible refine below_drewN ?_ _) | (with_reducible exact Below.refl _ _)))⟩
      · skip
        cases B2 : pos u
        · skip
          have E := Lib.hid (GE.out.trans (by rw [B2]; simp : _ = false))
          have H0 := Lib.hid B0
          have H1 := Lib.hid B1
          have H2 := Lib.hid B2
          clear B0 B1 B2 GE
          go_enter Try.func54, Try.ntmps54
          go_wp2_with fail
          refine HR.out.mono ?_
          rintro e w1 ⟨rfl, hb⟩
          have Bw := Lib.hid (below_step Bw.out hb)
          have Bp := Lib.hid Bw.out
          clear hb
          go_wp2_with fail
          refine (implFinite_any f _).mono ?_
          rw [H0.out]
          rintro e w' ⟨rfl, n0, rfl⟩
          go_wp2_with fail
          refine (implPos_any t _).mono ?_
          rw [H1.out]
          rintro e w' ⟨rfl, n1, rfl⟩
          go_wp2_with fail
          refine (implPos_any u _).mono ?_
          rw [H2.out]
          rintro e w' ⟨rfl, n2, rfl⟩
          go_wp2
          go_ret
          exact ⟨ret_b E.out, (by repeat (first | (with_reducible exact Bw.out) | (with_reducible exact Bp.out) | (with_reducible refine below_drewN ?_ _) | (with_reducible exact Below.refl _ _)))⟩
        · skip
          have E := Lib.hid (GE.out.trans (by rw [B0, B1, B2]; rfl : _ = true))
          have H0 := Lib.hid B0
          have H1 := Lib.hid B1
          have H2 := Lib.hid B2
          clear B0 B1 B2 GE
          go_enter Try.func54, Try.ntmps54
          go_wp2_with fail
          refine HR.out.mono ?_
          rintro e w1 ⟨rfl, hb⟩
          have Bw := Lib.hid (below_step Bw.out hb)
          have Bp := Lib.hid Bw.out
          clear hb
          go_wp2_with fail
          refine (implFinite_any f _).mono ?_
          rw [H0.out]
          rintro e w' ⟨rfl, n0, rfl⟩
          go_wp2_with fail
          refine (implPos_any t _).mono ?_
          rw [H1.out]
          rintro e w' ⟨rfl, n1, rfl⟩
          go_wp2_with fail
          refine (implPos_any u _).mono ?_
          rw [H2.out]
          rintro e w' ⟨rfl, n2, rfl⟩
          go_wp2
          go_ret
          exact ⟨ret_b E.out, (by repeat (first | (with_reducible exact Bw.out) | (with_reducible exact Bp.out) | (with_reducible refine below_drewN ?_ _) | (with_reducible exact Below.refl _ _)))⟩

theorem ifAll_true (v : Value) (zs : List Nat) (w : World) (h : FRow w v zs) (hz : zs.all (fin .f32) = true) : Calls Try.prog 56 #[v] w fun e w' => e = .returned (.tuple #[v, .bool true]) ∧ Below w.heap.size w w' := by
  have HA := Lib.hid (hz ▸ allFin_any v zs w h)
  obtain ⟨a, cap, rfl⟩ := h.shape
  clear h hz
  generalize zs.length = n at *
  go_enter Try.func56, Try.ntmps56
  go_wp2_with fail
  refine HA.out.mono ?_
  rintro e w1 ⟨rfl, hb⟩
  have Bw := Lib.hid hb
  clear hb
  go_wp2
  go_ret2
  exact ⟨rfl, Bw.out⟩

theorem ifAll_false (v : Value) (zs : List Nat) (w : World) (h : FRow w v zs) (hz : zs.all (fin .f32) = false) : Calls Try.prog 56 #[v] w fun e w' => e = .returned (.tuple #[.slice none 0 0, .bool false]) ∧ Below w.heap.size w w' := by
  have HA := Lib.hid (hz ▸ allFin_any v zs w h)
  obtain ⟨a, cap, rfl⟩ := h.shape
  clear h hz
  generalize zs.length = n at *
  go_enter Try.func56, Try.ntmps56
  go_wp2_with fail
  refine HA.out.mono ?_
  rintro e w1 ⟨rfl, hb⟩
  have Bw := Lib.hid hb
  clear hb
  go_wp2
  go_ret2
  exact ⟨rfl, Bw.out⟩

end Go.Proofs.Ytabdinmodopadab
