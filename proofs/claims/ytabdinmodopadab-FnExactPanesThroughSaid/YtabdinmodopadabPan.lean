/- What goes through panes: the program and the specification. -/
import Derived.Test.YtabdinmodopadabPanM
import Derived.Test.YtabdinmodopadabGiv
import Derived.Test.YtabdinmodopadabSl
import Derived.OwnWalk
namespace Go.Proofs.Ytabdinmodopadab
open Go.RowKit
set_option linter.unusedVariables false

theorem results_tmp4 {fn : Func} {t u v x : Tmp} (h : fn.results = #[.tmp t, .tmp u, .tmp v, .tmp x]) (tmps : Array Value) (P : Program) (w : World) :
    (results fn tmps).run P w = .ok (.tuple #[tmps.getD t undef, tmps.getD u undef, tmps.getD v undef, tmps.getD x undef]) w := by
  simp [results, h]
def pnG (r q : Nat) : Nat := fop .sub .f32 1065353216 (fop .mul .f32 r q)
def pnS (p q : Nat) : Nat := fop .add .f32 p q
def pnOk (r p q : Nat) : Bool := shr p && shr q && shr (pnS p q) && gt0 (pnG r q)
theorem pnOk_spec (r p q : Nat) : pnOk r p q = (lst p && lst q && leN (pnS p q) 1065353216 && gt0 (pnG r q)) := by
  unfold pnOk; rw [show (lst p && lst q && leN (pnS p q) 1065353216) = _ from share_eq p q]; rfl
/-- what goes through, what comes back from behind, and what comes back -/
structure PN where
  t : Nat
  r : Nat
  b : Nat
def pnStep (s : PN) (p q : Nat) : PN :=
  ⟨fop .quo .f32 (fop .mul .f32 s.t p) (pnG s.r q),
   fop .add .f32 q (fop .quo .f32 (fop .mul .f32 (fop .mul .f32 p p) s.r) (pnG s.r q)),
   fop .add .f32 s.b (fop .quo .f32 (fop .mul .f32 (fop .mul .f32 s.t s.t) q) (pnG s.r q))⟩
def pnAt (P Q : List Nat) : Nat → PN
  | 0 => ⟨1065353216, 0, 0⟩
  | k + 1 => pnStep (pnAt P Q k) (P.getD k 0) (Q.getD k 0)
def pnAll (P Q : List Nat) : Nat → Bool
  | 0 => true
  | k + 1 => pnAll P Q k && pnOk (pnAt P Q k).r (P.getD k 0) (Q.getD k 0)
theorem pnAll_le {P Q : List Nat} {k : Nat} : ∀ n, pnAll P Q n = true → k ≤ n → pnAll P Q k = true
  | 0, h, hk => by obtain rfl : k = 0 := by omega
                   exact h
  | n + 1, h, hk => by
    by_cases e : k = n + 1
    · subst e; exact h
    · unfold pnAll at h
      rw [Bool.and_eq_true] at h
      exact pnAll_le n h.1 (by omega)
def pnU (s : PN) : Nat := fop .sub .f32 (fop .sub .f32 1065353216 s.t) s.b
def pnB (P Q : List Nat) : Bool := decide (P.length ≤ 6) && decide (Q.length = P.length) && pnAll P Q P.length && fin .f32 (pnU (pnAt P Q P.length))
theorem pnB_bad {P Q : List Nat} {k : Nat} (hk : k < P.length) (h : pnOk (pnAt P Q k).r (P.getD k 0) (Q.getD k 0) = false) : pnB P Q = false := by
  cases hB : pnB P Q
  · rfl
  · unfold pnB at hB
    simp only [Bool.and_eq_true] at hB
    have := pnAll_le (k := k + 1) _ hB.1.2 (by omega)
    unfold pnAll at this
    rw [h, Bool.and_false] at this; cases this
theorem pnB_end {P Q : List Nat} (h1 : P.length ≤ 6) (h2 : Q.length = P.length) (h3 : pnAll P Q P.length = true) : pnB P Q = fin .f32 (pnU (pnAt P Q P.length)) := by
  unfold pnB; rw [decide_eq_true h1, decide_eq_true h2, h3]; rfl
theorem pnU_fin {s : PN} (h : fin .f32 (pnU s) = true) : fin .f32 s.t = true ∧ fin .f32 s.b = true := by
  obtain ⟨h1, h2⟩ := sub_fin2 h
  exact ⟨(sub_fin2 h1).2, h2⟩
theorem pnG_of {r q S x y : Nat} (hr : cn .f32 r = S) (f0 : FR .mul .f32 r q x) (f1 : FR .sub .f32 1065353216 x y) : cn .f32 y = pnG S q := by
  unfold pnG; simp only [f1.1, f0.1, hr, fopl', fopr']
theorem pnS_of {p q x : Nat} (f0 : FR .add .f32 p q x) : cn .f32 x = pnS p q := by
  unfold pnS; simp only [f0.1, fopl', fopr']
theorem pnT_of {s : PN} {p q t g x y : Nat} (ht : cn .f32 t = s.t) (hg : cn .f32 g = pnG s.r q) (f0 : FR .mul .f32 t p x) (f1 : FR .quo .f32 x g y) : cn .f32 y = (pnStep s p q).t := by
  show cn .f32 y = fop .quo .f32 (fop .mul .f32 s.t p) (pnG s.r q)
  simp only [f1.1, f0.1, ht, hg, fopr']
theorem pnB_of {s : PN} {p q t b g x y z u : Nat} (ht : cn .f32 t = s.t) (hb : cn .f32 b = s.b) (hg : cn .f32 g = pnG s.r q) (f0 : FR .mul .f32 t t x) (f1 : FR .mul .f32 x q y) (f2 : FR .quo .f32 y g z) (f3 : FR .add .f32 b z u) : cn .f32 u = (pnStep s p q).b := by
  show cn .f32 u = fop .add .f32 s.b (fop .quo .f32 (fop .mul .f32 (fop .mul .f32 s.t s.t) q) (pnG s.r q))
  simp only [f3.1, f2.1, f1.1, f0.1, ht, hb, hg, fopr']
theorem pnR_of {s : PN} {p q r g x y z u : Nat} (hr : cn .f32 r = s.r) (hg : cn .f32 g = pnG s.r q) (f0 : FR .mul .f32 p p x) (f1 : FR .mul .f32 x r y) (f2 : FR .quo .f32 y g z) (f3 : FR .add .f32 q z u) : cn .f32 u = (pnStep s p q).r := by
  show cn .f32 u = fop .add .f32 q (fop .quo .f32 (fop .mul .f32 (fop .mul .f32 p p) s.r) (pnG s.r q))
  simp only [f3.1, f2.1, f1.1, f0.1, hr, hg, fopl', fopr']
theorem pnU_of {s : PN} {t b x y : Nat} (ht : cn .f32 t = s.t) (hb : cn .f32 b = s.b) (f0 : FR .sub .f32 1065353216 t x) (f1 : FR .sub .f32 x b y) : cn .f32 y = pnU s := by
  unfold pnU
  simp only [f1.1, f0.1, ht, hb, fopl']
theorem le_cn' {x X c : Nat} {v : Bool} (h : cn .f32 x = X) (e : leN X c = v) : (FloatKind.f32.format.order x c == some .lt || FloatKind.f32.format.order x c == some .eq) = v := by
  rw [← e, ← h]; unfold leN; rw [← order_cn .f32 (cn .f32 x) c, cn_cn, order_cn]
theorem gt_cn' {x X : Nat} {v : Bool} (h : cn .f32 x = X) (e : gt0 X = v) : (FloatKind.f32.format.order x 0 == some .gt) = v := by
  rw [← e, ← h]; unfold gt0; rw [← order_cn .f32 (cn .f32 x) 0, cn_cn, order_cn]
theorem shr_cn' {x X : Nat} (h : cn .f32 x = X) : shr x = shr X := by
  rw [← h]; unfold shr leN geN
  rw [← order_cn .f32 (cn .f32 x) 0, ← order_cn .f32 (cn .f32 x) 1065353216, cn_cn, order_cn, order_cn]
theorem fin_cn' {x X : Nat} (h : cn .f32 x = X) : fin .f32 x = fin .f32 X := by rw [← h, fin_cn]

/-- three numbers up to a not-a-number's bits, and a bool -/
def Tri (S T U : Nat) (b : Bool) (w : World) (e : Ending) (w' : World) : Prop := ∃ r s u, cn .f32 r = S ∧ cn .f32 s = T ∧ cn .f32 u = U ∧ e = .returned (.tuple #[.float .f32 r, .float .f32 s, .float .f32 u, .bool b]) ∧ Below w.heap.size w w'
def pnV (b : Bool) (x : Nat) : Nat := bif b then x else 0
abbrev PanC (P Q : List Nat) (w : World) : Ending → World → Prop := Tri (pnV (pnB P Q) (pnAt P Q P.length).t) (pnV (pnB P Q) (pnAt P Q P.length).b) (pnV (pnB P Q) (pnU (pnAt P Q P.length))) (pnB P Q) w
theorem PanC.no {P Q : List Nat} {w w' : World} (h : pnB P Q = false) (hb : Below w.heap.size w w') : PanC P Q w (.returned (.tuple #[.float .f32 0, .float .f32 0, .float .f32 0, .bool false])) w' := by
  unfold PanC pnV; rw [h]
  have z : cn .f32 0 = 0 := by decide +kernel
  exact ⟨0, 0, 0, z, z, z, rfl, hb⟩
theorem PanC.yes {P Q : List Nat} {w w' : World} {t b u : Nat} (h : pnB P Q = true) (ht : cn .f32 t = (pnAt P Q P.length).t) (hb : cn .f32 b = (pnAt P Q P.length).b) (hu : cn .f32 u = pnU (pnAt P Q P.length)) (hw : Below w.heap.size w w') : PanC P Q w (.returned (.tuple #[.float .f32 t, .float .f32 b, .float .f32 u, .bool true])) w' := by
  unfold PanC pnV; rw [h]
  exact ⟨t, b, u, ht, hb, hu, rfl, hw⟩

set_option maxRecDepth 10000 in
set_option maxHeartbeats 1600000 in
theorem specPan_any (v v' : Value) (P Q : List Nat) (w : World) (h : FRow w v P) (h' : FRow w v' Q) : Calls Try.prog 30 #[v, v'] w (PanC P Q w) := by
  have FN := Lib.hid (fun (e : pnB P Q = false) (w1 : World) (hb : Below w.heap.size w w1) => PanC.no e hb)
  have FY := Lib.hid (fun (e : pnB P Q = true) (t b u : Nat) (w1 : World) (ht : cn .f32 t = (pnAt P Q P.length).t) (hb : cn .f32 b = (pnAt P Q P.length).b) (hu : cn .f32 u = pnU (pnAt P Q P.length)) (hw : Below w.heap.size w w1) => PanC.yes e ht hb hu hw)
  have FX := Lib.hid (fun k (hk : k < P.length) (hb : pnOk (pnAt P Q k).r (P.getD k 0) (Q.getD k 0) = false) => pnB_bad hk hb)
  have FE := Lib.hid (fun h1 h2 h3 => @pnB_end P Q h1 h2 h3)
  have FS := Lib.hid (fun k => show pnAt P Q (k + 1) = pnStep (pnAt P Q k) (P.getD k 0) (Q.getD k 0) from rfl)
  have FG := Lib.hid (fun k => show pnAll P Q (k + 1) = (pnAll P Q k && pnOk (pnAt P Q k).r (P.getD k 0) (Q.getD k 0)) from rfl)
  have F0 : Hid (cn .f32 1065353216 = (pnAt P Q 0).t ∧ cn .f32 0 = (pnAt P Q 0).r ∧ cn .f32 0 = (pnAt P Q 0).b ∧ pnAll P Q 0 = true) := Lib.hid ⟨by show _ = 1065353216; decide +kernel, by show _ = 0; decide +kernel, by show _ = 0; decide +kernel, rfl⟩
  have HP := Lib.hid (fun w1 (hb : Below w.heap.size w w1) (hn : 1 ≤ P.length) => (h.below hb).cells hn)
  have HQ := Lib.hid (fun w1 (hb : Below w.heap.size w w1) (hn : 1 ≤ Q.length) => (h'.below hb).cells hn)
  have HL := Lib.hid h.len
  have HM := Lib.hid h'.len
  obtain ⟨a, cap, rfl⟩ := h.shape
  obtain ⟨a', cap', rfl⟩ := h'.shape
  clear h h'
  have Bw := Lib.hid (Below.refl w.heap.size w)
  by_cases B1 : P.length ≤ 6
  rotate_left
  · have E := Lib.hid (FN.out (by unfold pnB; simp [B1]))
    have o1 : decide ((6 : Int) < (P.length : Int)) = true := by simp; omega
    have gL := HL.out
    generalize hC : PanC P Q w = C at *
    clear FN FY FX FE FS FG F0 HP HQ hC B1
    generalize P.length = n at *
    generalize Q.length = m at *
    go_enter Try.func30, Try.ntmps30
    go_wp2
    ((try simp only [Exit.inBlock, Exit.then]); refine bodyPost_ret (results_tmp4 rfl _ _ _) rfl ?_)
    exact E.out _ (by repeat (first | (with_reducible exact Bw.out) | (with_reducible exact Below.refl _ _) | (with_reducible refine below_drewN ?_ _)))
  · by_cases B2 : Q.length = P.length
    rotate_left
    · have E := Lib.hid (FN.out (by unfold pnB; simp [B2]))
      have o1 : decide ((6 : Int) < (P.length : Int)) = false := by simp; omega
      have o2 : ((Q.length : Int) != (P.length : Int)) = true := by simp; omega
      have o3 : ((Q.length : Int) == (P.length : Int)) = false := by simp; omega
      have o4 : ((P.length : Int) != (Q.length : Int)) = true := by simp; omega
      have o5 : ((P.length : Int) == (Q.length : Int)) = false := by simp; omega
      have gL := HL.out
      have gM := HM.out
      generalize hC : PanC P Q w = C at *
      clear FN FY FX FE FS FG F0 HP HQ hC B1 B2
      generalize P.length = n at *
      generalize Q.length = m at *
      go_enter Try.func30, Try.ntmps30
      go_wp2
      ((try simp only [Exit.inBlock, Exit.then]); refine bodyPost_ret (results_tmp4 rfl _ _ _) rfl ?_)
      exact E.out _ (by repeat (first | (with_reducible exact Bw.out) | (with_reducible exact Below.refl _ _) | (with_reducible refine below_drewN ?_ _)))
    · have FE2 := Lib.hid (FE.out B1 B2)
      clear FE
      have o1 : decide ((6 : Int) < (P.length : Int)) = false := by simp; omega
      have n6 := B1
      generalize hC : PanC P Q w = C at *
      clear hC B1
      generalize P.length = n at *
      generalize Q.length = m at *
      subst B2
      have o2 : ((m : Int) != (m : Int)) = false := by simp
      have o3 : ((m : Int) == (m : Int)) = true := by simp
      have gL := HL.out
      clear HM
      go_enter Try.func30, Try.ntmps30
      go_wp2
      go_loopw [8, 9, 10, 11, 12, 13, 14, 28] (fun vt vr vb _ _ _ _ vi wr => ∃ k t r b : Nat, k ≤ m ∧ vi = .int .i64 k ∧ vt = .float .f32 t ∧ vr = .float .f32 r ∧ vb = .float .f32 b ∧ Hid (cn .f32 t = (pnAt P Q k).t) ∧ Hid (cn .f32 r = (pnAt P Q k).r) ∧ Hid (cn .f32 b = (pnAt P Q k).b) ∧ Hid (pnAll P Q k = true) ∧ Hid (Below w.heap.size w wr)) (fun _ _ _ _ _ _ _ vi _ => m - (intOf vi).toNat)
      case atStart => exact ⟨0, 1065353216, 0, 0, Nat.zero_le _, rfl, rfl, rfl, rfl, Lib.hid F0.out.1, Lib.hid F0.out.2.1, Lib.hid F0.out.2.2.1, Lib.hid F0.out.2.2.2, Bw⟩
      case round =>
        obtain ⟨k, t, r, b, hk, rfl, rfl, rfl, rfl, Ht, Hr, Hb, Ha, Bw⟩ := hrel
        by_cases hlt : k < m
        · obtain ⟨b0, o0, c0, e, hc⟩ := HP.out wr Bw.out (by omega)
          have ea : a = some ⟨b0, o0, none⟩ := by cases e; rfl
          have z0 := hc k hlt
          clear e hc
          obtain ⟨b1, o9, c1, e, hc⟩ := HQ.out wr Bw.out (by omega)
          have ea' : a' = some ⟨b1, o9, none⟩ := by cases e; rfl
          have z1 := hc k hlt
          clear e hc HP HQ FE2 F0
          subst ea
          subst ea'
          have hi : (0 : Int) ≤ (k : Int) := by omega
          have hi' : (k : Int) < (m : Int) := by omega
          have STk := Lib.hid (FS.out k)
          have FXk := Lib.hid (fun h => FN.out (FX.out k hlt h))
          have FAk := Lib.hid (fun (h : pnOk (pnAt P Q k).r (P.getD k 0) (Q.getD k 0) = true) => (FG.out k).trans (show (pnAll P Q k && pnOk (pnAt P Q k).r (P.getD k 0) (Q.getD k 0)) = true by rw [Ha.out, h]; rfl))
          clear FS FX FG FN FY Ha
          generalize pnAt P Q k = s0 at *
          generalize P.getD k 0 = p at *
          generalize Q.getD k 0 = q at *
          cases B0 : lst p
          · skip
            have E := Lib.hid (FXk.out (by rw [pnOk_spec]; simp [B0]))
            have H0 := Lib.hid B0
            clear FXk FAk STk B0
            go_wp2_with fail
            refine (specLeast_any p _).mono ?_
            rw [H0.out]
            rintro e w' ⟨rfl, n0, rfl⟩
            go_wp2
            ((try simp only [Exit.inBlock, Exit.then]); refine bodyPost_ret (results_tmp4 rfl _ _ _) rfl ?_)
            exact E.out _ (by repeat (first | (with_reducible exact Bw.out) | (with_reducible exact Below.refl _ _) | (with_reducible refine below_drewN ?_ _)))
          · skip
            cases B1 : lst q
            · skip
              have E := Lib.hid (FXk.out (by rw [pnOk_spec]; simp [B0, B1]))
              have H0 := Lib.hid B0
              have H1 := Lib.hid B1
              clear FXk FAk STk B0 B1
              go_wp2_with fail
              refine (specLeast_any p _).mono ?_
              rw [H0.out]
              rintro e w' ⟨rfl, n0, rfl⟩
              go_wp2_with fail
              refine (specLeast_any q _).mono ?_
              rw [H1.out]
              rintro e w' ⟨rfl, n1, rfl⟩
              go_wp2
              ((try simp only [Exit.inBlock, Exit.then]); refine bodyPost_ret (results_tmp4 rfl _ _ _) rfl ?_)
              exact E.out _ (by repeat (first | (with_reducible exact Bw.out) | (with_reducible exact Below.refl _ _) | (with_reducible refine below_drewN ?_ _)))
            · skip
              cases B2 : leN (pnS p q) 1065353216
              · skip
                have E := Lib.hid (FXk.out (by rw [pnOk_spec]; simp [B0, B1, B2]))
                have H0 := Lib.hid B0
                have H1 := Lib.hid B1
                have H2 := Lib.hid B2
                clear FXk FAk STk B0 B1 B2
                go_wp2_with fail
                refine (specLeast_any p _).mono ?_
                rw [H0.out]
                rintro e w' ⟨rfl, n0, rfl⟩
                go_wp2_with fail
                refine (specLeast_any q _).mono ?_
                rw [H1.out]
                rintro e w' ⟨rfl, n1, rfl⟩
                go_wp2_with (refine upon_fa .add rfl _ .f32 p q ?_; intro r2 j2 g2; have f2 := Lib.hid g2; clear g2; refine Stop.go ?_)
                refine Stop.mk ?_
                have c2 := le_cn' (pnS_of f2.out) H2.out
                go_wp2
                ((try simp only [Exit.inBlock, Exit.then]); refine bodyPost_ret (results_tmp4 rfl _ _ _) rfl ?_)
                exact E.out _ (by repeat (first | (with_reducible exact Bw.out) | (with_reducible exact Below.refl _ _) | (with_reducible refine below_drewN ?_ _)))
              · skip
                cases B3 : gt0 (pnG s0.r q)
                · skip
                  have E := Lib.hid (FXk.out (by rw [pnOk_spec]; simp [B0, B1, B2, B3]))
                  have H0 := Lib.hid B0
                  have H1 := Lib.hid B1
                  have H2 := Lib.hid B2
                  have H3 := Lib.hid B3
                  clear FXk FAk STk B0 B1 B2 B3
                  go_wp2_with fail
                  refine (specLeast_any p _).mono ?_
                  rw [H0.out]
                  rintro e w' ⟨rfl, n0, rfl⟩
                  go_wp2_with fail
                  refine (specLeast_any q _).mono ?_
                  rw [H1.out]
                  rintro e w' ⟨rfl, n1, rfl⟩
                  go_wp2_with (refine upon_fa .add rfl _ .f32 p q ?_; intro r2 j2 g2; have f2 := Lib.hid g2; clear g2; refine Stop.go ?_)
                  refine Stop.mk ?_
                  have c2 := le_cn' (pnS_of f2.out) H2.out
                  go_wp2_with (refine wpList_farith rfl _ _ _ _ _ rfl rfl _ _ _ rfl rfl ?_; intro r0 j0 g0; have f0 := Lib.hid g0; clear g0; refine Stop.go ?_)
                  refine Stop.mk ?_
                  go_wp2_with (refine wpList_farith rfl _ _ _ _ _ rfl rfl _ _ _ rfl rfl ?_; intro r1 j1 g1; have f1 := Lib.hid g1; clear g1; refine Stop.go ?_)
                  refine Stop.mk ?_
                  have Hg := Lib.hid (pnG_of Hr.out f0.out f1.out)
                  have c3 := gt_cn' Hg.out H3.out
                  go_wp2
                  ((try simp only [Exit.inBlock, Exit.then]); refine bodyPost_ret (results_tmp4 rfl _ _ _) rfl ?_)
                  exact E.out _ (by repeat (first | (with_reducible exact Bw.out) | (with_reducible exact Below.refl _ _) | (with_reducible refine below_drewN ?_ _)))
                · skip
                  have PA := Lib.hid (FAk.out (by rw [pnOk_spec]; simp [B0, B1, B2, B3]))
                  have H0 := Lib.hid B0
                  have H1 := Lib.hid B1
                  have H2 := Lib.hid B2
                  have H3 := Lib.hid B3
                  clear FXk FAk B0 B1 B2 B3
                  go_wp2_with fail
                  refine (specLeast_any p _).mono ?_
                  rw [H0.out]
                  rintro e w' ⟨rfl, n0, rfl⟩
                  go_wp2_with fail
                  refine (specLeast_any q _).mono ?_
                  rw [H1.out]
                  rintro e w' ⟨rfl, n1, rfl⟩
                  go_wp2_with (refine upon_fa .add rfl _ .f32 p q ?_; intro r2 j2 g2; have f2 := Lib.hid g2; clear g2; refine Stop.go ?_)
                  refine Stop.mk ?_
                  have c2 := le_cn' (pnS_of f2.out) H2.out
                  go_wp2_with (refine wpList_farith rfl _ _ _ _ _ rfl rfl _ _ _ rfl rfl ?_; intro r0 j0 g0; have f0 := Lib.hid g0; clear g0; refine Stop.go ?_)
                  refine Stop.mk ?_
                  go_wp2_with (refine wpList_farith rfl _ _ _ _ _ rfl rfl _ _ _ rfl rfl ?_; intro r1 j1 g1; have f1 := Lib.hid g1; clear g1; refine Stop.go ?_)
                  refine Stop.mk ?_
                  have Hg := Lib.hid (pnG_of Hr.out f0.out f1.out)
                  have c3 := gt_cn' Hg.out H3.out
                  go_wp2_with (refine wpList_farith rfl _ _ _ _ _ rfl rfl _ _ _ rfl rfl ?_; intro r4 j4 g4; have f4 := Lib.hid g4; clear g4; refine Stop.go ?_)
                  refine Stop.mk ?_
                  go_wp2_with (refine wpList_farith rfl _ _ _ _ _ rfl rfl _ _ _ rfl rfl ?_; intro r5 j5 g5; have f5 := Lib.hid g5; clear g5; refine Stop.go ?_)
                  refine Stop.mk ?_
                  go_wp2_with (refine wpList_farith rfl _ _ _ _ _ rfl rfl _ _ _ rfl rfl ?_; intro r6 j6 g6; have f6 := Lib.hid g6; clear g6; refine Stop.go ?_)
                  refine Stop.mk ?_
                  go_wp2_with (refine wpList_farith rfl _ _ _ _ _ rfl rfl _ _ _ rfl rfl ?_; intro r7 j7 g7; have f7 := Lib.hid g7; clear g7; refine Stop.go ?_)
                  refine Stop.mk ?_
                  go_wp2_with (refine wpList_farith rfl _ _ _ _ _ rfl rfl _ _ _ rfl rfl ?_; intro r8 j8 g8; have f8 := Lib.hid g8; clear g8; refine Stop.go ?_)
                  refine Stop.mk ?_
                  go_wp2_with (refine wpList_farith rfl _ _ _ _ _ rfl rfl _ _ _ rfl rfl ?_; intro r9 j9 g9; have f9 := Lib.hid g9; clear g9; refine Stop.go ?_)
                  refine Stop.mk ?_
                  go_wp2_with (refine wpList_farith rfl _ _ _ _ _ rfl rfl _ _ _ rfl rfl ?_; intro r10 j10 g10; have f10 := Lib.hid g10; clear g10; refine Stop.go ?_)
                  refine Stop.mk ?_
                  go_wp2_with (refine wpList_farith rfl _ _ _ _ _ rfl rfl _ _ _ rfl rfl ?_; intro r11 j11 g11; have f11 := Lib.hid g11; clear g11; refine Stop.go ?_)
                  refine Stop.mk ?_
                  go_wp2_with (refine wpList_farith rfl _ _ _ _ _ rfl rfl _ _ _ rfl rfl ?_; intro r12 j12 g12; have f12 := Lib.hid g12; clear g12; refine Stop.go ?_)
                  refine Stop.mk ?_
                  go_wp2_with (refine wpList_farith rfl _ _ _ _ _ rfl rfl _ _ _ rfl rfl ?_; intro r13 j13 g13; have f13 := Lib.hid g13; clear g13; refine Stop.go ?_)
                  refine Stop.mk ?_
                  have HT := Lib.hid (pnT_of Ht.out Hg.out f8.out f9.out)
                  have HB := Lib.hid (pnB_of (p := p) Ht.out Hb.out Hg.out f4.out f5.out f6.out f7.out)
                  have HR := Lib.hid (pnR_of Hr.out Hg.out f10.out f11.out f12.out f13.out)
                  go_wp2
                  go_roundw
                  case rel => exact ⟨k + 1, r9, r13, r7, by omega, by go_num, rfl, rfl, rfl, Lib.hid (by rw [STk.out]; exact HT.out), Lib.hid (by rw [STk.out]; exact HR.out), Lib.hid (by rw [STk.out]; exact HB.out), PA, Lib.hid (by repeat (first | (with_reducible exact Bw.out) | (with_reducible exact Below.refl _ _) | (with_reducible refine below_drewN ?_ _)))⟩
                  case measure => simp [intOf]; omega
        · have e := Lib.hid (show k = m by omega)
          have Ek := Lib.hid (FE2.out (by rw [← e.out]; exact Ha.out))
          have Ht := Lib.hid (show cn .f32 t = (pnAt P Q m).t by rw [← e.out]; exact Ht.out)
          have Hb := Lib.hid (show cn .f32 b = (pnAt P Q m).b by rw [← e.out]; exact Hb.out)
          clear FX FE2 FS FG F0 HP HQ Ha Hr
          generalize pnAt P Q m = s0 at *
          generalize pnB P Q = BB at *
          cases D2 : fin .f32 (pnU s0)
          · skip
            have E := Lib.hid (FN.out (Ek.out.trans D2))
            have H2 := Lib.hid D2
            cases D0 : fin .f32 s0.t
            · skip
              have H0 := Lib.hid D0
              clear D0 D2 FN FY Ek
              go_wp2_with (refine wpList_farith rfl _ _ _ _ _ rfl rfl _ _ _ rfl rfl ?_; intro r20 j20 g20; have f20 := Lib.hid g20; clear g20; refine Stop.go ?_)
              refine Stop.mk ?_
              go_wp2_with (refine wpList_farith rfl _ _ _ _ _ rfl rfl _ _ _ rfl rfl ?_; intro r21 j21 g21; have f21 := Lib.hid g21; clear g21; refine Stop.go ?_)
              refine Stop.mk ?_
              have Hu := Lib.hid (pnU_of Ht.out Hb.out f20.out f21.out)
              go_wp2_with fail
              refine (specFinite_any t _).mono ?_
              rw [(fin_cn' Ht.out).trans H0.out]
              rintro e w' ⟨rfl, m0, rfl⟩
              go_wp2
              ((try simp only [Exit.inBlock, Exit.then]); refine bodyPost_ret (results_tmp4 rfl _ _ _) rfl ?_)
              exact E.out _ (by repeat (first | (with_reducible exact Bw.out) | (with_reducible exact Below.refl _ _) | (with_reducible refine below_drewN ?_ _)))
            · skip
              cases D1 : fin .f32 s0.b
              · skip
                have H0 := Lib.hid D0
                have H1 := Lib.hid D1
                clear D0 D1 D2 FN FY Ek
                go_wp2_with (refine wpList_farith rfl _ _ _ _ _ rfl rfl _ _ _ rfl rfl ?_; intro r20 j20 g20; have f20 := Lib.hid g20; clear g20; refine Stop.go ?_)
                refine Stop.mk ?_
                go_wp2_with (refine wpList_farith rfl _ _ _ _ _ rfl rfl _ _ _ rfl rfl ?_; intro r21 j21 g21; have f21 := Lib.hid g21; clear g21; refine Stop.go ?_)
                refine Stop.mk ?_
                have Hu := Lib.hid (pnU_of Ht.out Hb.out f20.out f21.out)
                go_wp2_with fail
                refine (specFinite_any t _).mono ?_
                rw [(fin_cn' Ht.out).trans H0.out]
                rintro e w' ⟨rfl, m0, rfl⟩
                go_wp2_with fail
                refine (specFinite_any b _).mono ?_
                rw [(fin_cn' Hb.out).trans H1.out]
                rintro e w' ⟨rfl, m1, rfl⟩
                go_wp2
                ((try simp only [Exit.inBlock, Exit.then]); refine bodyPost_ret (results_tmp4 rfl _ _ _) rfl ?_)
                exact E.out _ (by repeat (first | (with_reducible exact Bw.out) | (with_reducible exact Below.refl _ _) | (with_reducible refine below_drewN ?_ _)))
              · skip
                have H0 := Lib.hid D0
                have H1 := Lib.hid D1
                clear D0 D1 D2 FN FY Ek
                go_wp2_with (refine wpList_farith rfl _ _ _ _ _ rfl rfl _ _ _ rfl rfl ?_; intro r20 j20 g20; have f20 := Lib.hid g20; clear g20; refine Stop.go ?_)
                refine Stop.mk ?_
                go_wp2_with (refine wpList_farith rfl _ _ _ _ _ rfl rfl _ _ _ rfl rfl ?_; intro r21 j21 g21; have f21 := Lib.hid g21; clear g21; refine Stop.go ?_)
                refine Stop.mk ?_
                have Hu := Lib.hid (pnU_of Ht.out Hb.out f20.out f21.out)
                go_wp2_with fail
                refine (specFinite_any t _).mono ?_
                rw [(fin_cn' Ht.out).trans H0.out]
                rintro e w' ⟨rfl, m0, rfl⟩
                go_wp2_with fail
                refine (specFinite_any b _).mono ?_
                rw [(fin_cn' Hb.out).trans H1.out]
                rintro e w' ⟨rfl, m1, rfl⟩
                go_wp2_with fail
                refine (specFinite_any r21 _).mono ?_
                rw [(fin_cn' Hu.out).trans H2.out]
                rintro e w' ⟨rfl, m2, rfl⟩
                go_wp2
                ((try simp only [Exit.inBlock, Exit.then]); refine bodyPost_ret (results_tmp4 rfl _ _ _) rfl ?_)
                exact E.out _ (by repeat (first | (with_reducible exact Bw.out) | (with_reducible exact Below.refl _ _) | (with_reducible refine below_drewN ?_ _)))
          · skip
            have E := Lib.hid (FY.out (Ek.out.trans D2))
            have H2 := Lib.hid D2
            have H0 := Lib.hid (pnU_fin D2).1
            have H1 := Lib.hid (pnU_fin D2).2
            clear D2 FN FY Ek
            go_wp2_with (refine wpList_farith rfl _ _ _ _ _ rfl rfl _ _ _ rfl rfl ?_; intro r20 j20 g20; have f20 := Lib.hid g20; clear g20; refine Stop.go ?_)
            refine Stop.mk ?_
            go_wp2_with (refine wpList_farith rfl _ _ _ _ _ rfl rfl _ _ _ rfl rfl ?_; intro r21 j21 g21; have f21 := Lib.hid g21; clear g21; refine Stop.go ?_)
            refine Stop.mk ?_
            have Hu := Lib.hid (pnU_of Ht.out Hb.out f20.out f21.out)
            go_wp2_with fail
            refine (specFinite_any t _).mono ?_
            rw [(fin_cn' Ht.out).trans H0.out]
            rintro e w' ⟨rfl, m0, rfl⟩
            go_wp2_with fail
            refine (specFinite_any b _).mono ?_
            rw [(fin_cn' Hb.out).trans H1.out]
            rintro e w' ⟨rfl, m1, rfl⟩
            go_wp2_with fail
            refine (specFinite_any r21 _).mono ?_
            rw [(fin_cn' Hu.out).trans H2.out]
            rintro e w' ⟨rfl, m2, rfl⟩
            go_wp2
            ((try simp only [Exit.inBlock, Exit.then]); refine bodyPost_ret (results_tmp4 rfl _ _ _) rfl ?_)
            exact E.out t b r21 _ Ht.out Hb.out Hu.out (by repeat (first | (with_reducible exact Bw.out) | (with_reducible exact Below.refl _ _) | (with_reducible refine below_drewN ?_ _)))

set_option maxRecDepth 10000 in
set_option maxHeartbeats 1600000 in
theorem implPan_any (v v' : Value) (P Q : List Nat) (w : World) (h : FRow w v P) (h' : FRow w v' Q) : Calls Try.prog 31 #[v, v'] w (PanC P Q w) := by
  have FN := Lib.hid (fun (e : pnB P Q = false) (w1 : World) (hb : Below w.heap.size w w1) => PanC.no e hb)
  have FY := Lib.hid (fun (e : pnB P Q = true) (t b u : Nat) (w1 : World) (ht : cn .f32 t = (pnAt P Q P.length).t) (hb : cn .f32 b = (pnAt P Q P.length).b) (hu : cn .f32 u = pnU (pnAt P Q P.length)) (hw : Below w.heap.size w w1) => PanC.yes e ht hb hu hw)
  have FX := Lib.hid (fun k (hk : k < P.length) (hb : pnOk (pnAt P Q k).r (P.getD k 0) (Q.getD k 0) = false) => pnB_bad hk hb)
  have FE := Lib.hid (fun h1 h2 h3 => @pnB_end P Q h1 h2 h3)
  have FS := Lib.hid (fun k => show pnAt P Q (k + 1) = pnStep (pnAt P Q k) (P.getD k 0) (Q.getD k 0) from rfl)
  have FG := Lib.hid (fun k => show pnAll P Q (k + 1) = (pnAll P Q k && pnOk (pnAt P Q k).r (P.getD k 0) (Q.getD k 0)) from rfl)
  have F0 : Hid (cn .f32 1065353216 = (pnAt P Q 0).t ∧ cn .f32 0 = (pnAt P Q 0).r ∧ cn .f32 0 = (pnAt P Q 0).b ∧ pnAll P Q 0 = true) := Lib.hid ⟨by show _ = 1065353216; decide +kernel, by show _ = 0; decide +kernel, by show _ = 0; decide +kernel, rfl⟩
  have HP := Lib.hid (fun w1 (hb : Below w.heap.size w w1) (hn : 1 ≤ P.length) => (h.below hb).cells hn)
  have HQ := Lib.hid (fun w1 (hb : Below w.heap.size w w1) (hn : 1 ≤ Q.length) => (h'.below hb).cells hn)
  have HL := Lib.hid h.len
  have HM := Lib.hid h'.len
  obtain ⟨a, cap, rfl⟩ := h.shape
  obtain ⟨a', cap', rfl⟩ := h'.shape
  clear h h'
  have Bw := Lib.hid (Below.refl w.heap.size w)
  by_cases B1 : P.length ≤ 6
  rotate_left
  · have E := Lib.hid (FN.out (by unfold pnB; simp [B1]))
    have o1 : decide ((6 : Int) < (P.length : Int)) = true := by simp; omega
    have gL := HL.out
    generalize hC : PanC P Q w = C at *
    clear FN FY FX FE FS FG F0 HP HQ hC B1
    generalize P.length = n at *
    generalize Q.length = m at *
    go_enter Try.func31, Try.ntmps31
    go_wp2
    ((try simp only [Exit.inBlock, Exit.then]); refine bodyPost_ret (results_tmp4 rfl _ _ _) rfl ?_)
    exact E.out _ (by repeat (first | (with_reducible exact Bw.out) | (with_reducible exact Below.refl _ _) | (with_reducible refine below_drewN ?_ _)))
  · by_cases B2 : Q.length = P.length
    rotate_left
    · have E := Lib.hid (FN.out (by unfold pnB; simp [B2]))
      have o1 : decide ((6 : Int) < (P.length : Int)) = false := by simp; omega
      have o2 : ((Q.length : Int) != (P.length : Int)) = true := by simp; omega
      have o3 : ((Q.length : Int) == (P.length : Int)) = false := by simp; omega
      have o4 : ((P.length : Int) != (Q.length : Int)) = true := by simp; omega
      have o5 : ((P.length : Int) == (Q.length : Int)) = false := by simp; omega
      have gL := HL.out
      have gM := HM.out
      generalize hC : PanC P Q w = C at *
      clear FN FY FX FE FS FG F0 HP HQ hC B1 B2
      generalize P.length = n at *
      generalize Q.length = m at *
      go_enter Try.func31, Try.ntmps31
      go_wp2
      ((try simp only [Exit.inBlock, Exit.then]); refine bodyPost_ret (results_tmp4 rfl _ _ _) rfl ?_)
      exact E.out _ (by repeat (first | (with_reducible exact Bw.out) | (with_reducible exact Below.refl _ _) | (with_reducible refine below_drewN ?_ _)))
    · have FE2 := Lib.hid (FE.out B1 B2)
      clear FE
      have o1 : decide ((6 : Int) < (P.length : Int)) = false := by simp; omega
      have n6 := B1
      generalize hC : PanC P Q w = C at *
      clear hC B1
      generalize P.length = n at *
      generalize Q.length = m at *
      subst B2
      have o2 : ((m : Int) != (m : Int)) = false := by simp
      have o3 : ((m : Int) == (m : Int)) = true := by simp
      have gL := HL.out
      clear HM
      go_enter Try.func31, Try.ntmps31
      go_wp2
      go_loopw [8, 9, 10, 11, 12, 13, 14, 29] (fun vt vb vr _ _ _ _ vi wr => ∃ k t r b : Nat, k ≤ m ∧ vi = .int .i64 k ∧ vt = .float .f32 t ∧ vr = .float .f32 r ∧ vb = .float .f32 b ∧ Hid (cn .f32 t = (pnAt P Q k).t) ∧ Hid (cn .f32 r = (pnAt P Q k).r) ∧ Hid (cn .f32 b = (pnAt P Q k).b) ∧ Hid (pnAll P Q k = true) ∧ Hid (Below w.heap.size w wr)) (fun _ _ _ _ _ _ _ vi _ => m - (intOf vi).toNat)
      case atStart => exact ⟨0, 1065353216, 0, 0, Nat.zero_le _, rfl, rfl, rfl, rfl, Lib.hid F0.out.1, Lib.hid F0.out.2.1, Lib.hid F0.out.2.2.1, Lib.hid F0.out.2.2.2, Bw⟩
      case round =>
        obtain ⟨k, t, r, b, hk, rfl, rfl, rfl, rfl, Ht, Hr, Hb, Ha, Bw⟩ := hrel
        by_cases hlt : k < m
        · obtain ⟨b0, o0, c0, e, hc⟩ := HP.out wr Bw.out (by omega)
          have ea : a = some ⟨b0, o0, none⟩ := by cases e; rfl
          have z0 := hc k hlt
          clear e hc
          obtain ⟨b1, o9, c1, e, hc⟩ := HQ.out wr Bw.out (by omega)
          have ea' : a' = some ⟨b1, o9, none⟩ := by cases e; rfl
          have z1 := hc k hlt
          clear e hc HP HQ FE2 F0
          subst ea
          subst ea'
          have hi : (0 : Int) ≤ (k : Int) := by omega
          have hi' : (k : Int) < (m : Int) := by omega
          have STk := Lib.hid (FS.out k)
          have FXk := Lib.hid (fun h => FN.out (FX.out k hlt h))
          have FAk := Lib.hid (fun (h : pnOk (pnAt P Q k).r (P.getD k 0) (Q.getD k 0) = true) => (FG.out k).trans (show (pnAll P Q k && pnOk (pnAt P Q k).r (P.getD k 0) (Q.getD k 0)) = true by rw [Ha.out, h]; rfl))
          clear FS FX FG FN FY Ha
          generalize pnAt P Q k = s0 at *
          generalize P.getD k 0 = p at *
          generalize Q.getD k 0 = q at *
          cases B0 : shr p
          · skip
            have E := Lib.hid (FXk.out (by unfold pnOk; simp [B0]))
            have H0 := Lib.hid B0
            clear FXk FAk STk B0
            go_wp2_with (refine wpList_farith rfl _ _ _ _ _ rfl rfl _ _ _ rfl rfl ?_; intro r0 j0 g0; have f0 := Lib.hid g0; clear g0; refine Stop.go ?_)
            refine Stop.mk ?_
            go_wp2_with (refine wpList_farith rfl _ _ _ _ _ rfl rfl _ _ _ rfl rfl ?_; intro r1 j1 g1; have f1 := Lib.hid g1; clear g1; refine Stop.go ?_)
            refine Stop.mk ?_
            have Hg := Lib.hid (pnG_of Hr.out f0.out f1.out)
            go_wp2_with fail
            refine (implShare_any p _).mono ?_
            rw [H0.out]
            rintro e w' ⟨rfl, rfl⟩
            go_wp2
            ((try simp only [Exit.inBlock, Exit.then]); refine bodyPost_ret (results_tmp4 rfl _ _ _) rfl ?_)
            exact E.out _ (by repeat (first | (with_reducible exact Bw.out) | (with_reducible exact Below.refl _ _) | (with_reducible refine below_drewN ?_ _)))
          · skip
            cases B1 : shr q
            · skip
              have E := Lib.hid (FXk.out (by unfold pnOk; simp [B0, B1]))
              have H0 := Lib.hid B0
              have H1 := Lib.hid B1
              clear FXk FAk STk B0 B1
              go_wp2_with (refine wpList_farith rfl _ _ _ _ _ rfl rfl _ _ _ rfl rfl ?_; intro r0 j0 g0; have f0 := Lib.hid g0; clear g0; refine Stop.go ?_)
              refine Stop.mk ?_
              go_wp2_with (refine wpList_farith rfl _ _ _ _ _ rfl rfl _ _ _ rfl rfl ?_; intro r1 j1 g1; have f1 := Lib.hid g1; clear g1; refine Stop.go ?_)
              refine Stop.mk ?_
              have Hg := Lib.hid (pnG_of Hr.out f0.out f1.out)
              go_wp2_with fail
              refine (implShare_any p _).mono ?_
              rw [H0.out]
              rintro e w' ⟨rfl, rfl⟩
              go_wp2_with fail
              refine (implShare_any q _).mono ?_
              rw [H1.out]
              rintro e w' ⟨rfl, rfl⟩
              go_wp2
              ((try simp only [Exit.inBlock, Exit.then]); refine bodyPost_ret (results_tmp4 rfl _ _ _) rfl ?_)
              exact E.out _ (by repeat (first | (with_reducible exact Bw.out) | (with_reducible exact Below.refl _ _) | (with_reducible refine below_drewN ?_ _)))
            · skip
              cases B2 : shr (pnS p q)
              · skip
                have E := Lib.hid (FXk.out (by unfold pnOk; simp [B0, B1, B2]))
                have H0 := Lib.hid B0
                have H1 := Lib.hid B1
                have H2 := Lib.hid B2
                clear FXk FAk STk B0 B1 B2
                go_wp2_with (refine wpList_farith rfl _ _ _ _ _ rfl rfl _ _ _ rfl rfl ?_; intro r0 j0 g0; have f0 := Lib.hid g0; clear g0; refine Stop.go ?_)
                refine Stop.mk ?_
                go_wp2_with (refine wpList_farith rfl _ _ _ _ _ rfl rfl _ _ _ rfl rfl ?_; intro r1 j1 g1; have f1 := Lib.hid g1; clear g1; refine Stop.go ?_)
                refine Stop.mk ?_
                have Hg := Lib.hid (pnG_of Hr.out f0.out f1.out)
                go_wp2_with fail
                refine (implShare_any p _).mono ?_
                rw [H0.out]
                rintro e w' ⟨rfl, rfl⟩
                go_wp2_with fail
                refine (implShare_any q _).mono ?_
                rw [H1.out]
                rintro e w' ⟨rfl, rfl⟩
                go_wp2_with (refine upon_fa .add rfl _ .f32 p q ?_; intro r2 j2 g2; have f2 := Lib.hid g2; clear g2; refine Stop.go ?_)
                refine Stop.mk ?_
                have c2 := Lib.hid (shr_cn' (pnS_of f2.out))
                go_wp2_with fail
                refine (implShare_any r2 _).mono ?_
                rw [c2.out, H2.out]
                rintro e w' ⟨rfl, rfl⟩
                go_wp2
                ((try simp only [Exit.inBlock, Exit.then]); refine bodyPost_ret (results_tmp4 rfl _ _ _) rfl ?_)
                exact E.out _ (by repeat (first | (with_reducible exact Bw.out) | (with_reducible exact Below.refl _ _) | (with_reducible refine below_drewN ?_ _)))
              · skip
                cases B3 : gt0 (pnG s0.r q)
                · skip
                  have E := Lib.hid (FXk.out (by unfold pnOk; simp [B0, B1, B2, B3]))
                  have H0 := Lib.hid B0
                  have H1 := Lib.hid B1
                  have H2 := Lib.hid B2
                  have H3 := Lib.hid B3
                  clear FXk FAk STk B0 B1 B2 B3
                  go_wp2_with (refine wpList_farith rfl _ _ _ _ _ rfl rfl _ _ _ rfl rfl ?_; intro r0 j0 g0; have f0 := Lib.hid g0; clear g0; refine Stop.go ?_)
                  refine Stop.mk ?_
                  go_wp2_with (refine wpList_farith rfl _ _ _ _ _ rfl rfl _ _ _ rfl rfl ?_; intro r1 j1 g1; have f1 := Lib.hid g1; clear g1; refine Stop.go ?_)
                  refine Stop.mk ?_
                  have Hg := Lib.hid (pnG_of Hr.out f0.out f1.out)
                  go_wp2_with fail
                  refine (implShare_any p _).mono ?_
                  rw [H0.out]
                  rintro e w' ⟨rfl, rfl⟩
                  go_wp2_with fail
                  refine (implShare_any q _).mono ?_
                  rw [H1.out]
                  rintro e w' ⟨rfl, rfl⟩
                  go_wp2_with (refine upon_fa .add rfl _ .f32 p q ?_; intro r2 j2 g2; have f2 := Lib.hid g2; clear g2; refine Stop.go ?_)
                  refine Stop.mk ?_
                  have c2 := Lib.hid (shr_cn' (pnS_of f2.out))
                  go_wp2_with fail
                  refine (implShare_any r2 _).mono ?_
                  rw [c2.out, H2.out]
                  rintro e w' ⟨rfl, rfl⟩
                  have c3 := gt_cn' Hg.out H3.out
                  go_wp2
                  ((try simp only [Exit.inBlock, Exit.then]); refine bodyPost_ret (results_tmp4 rfl _ _ _) rfl ?_)
                  exact E.out _ (by repeat (first | (with_reducible exact Bw.out) | (with_reducible exact Below.refl _ _) | (with_reducible refine below_drewN ?_ _)))
                · skip
                  have PA := Lib.hid (FAk.out (by unfold pnOk; simp [B0, B1, B2, B3]))
                  have H0 := Lib.hid B0
                  have H1 := Lib.hid B1
                  have H2 := Lib.hid B2
                  have H3 := Lib.hid B3
                  clear FXk FAk B0 B1 B2 B3
                  go_wp2_with (refine wpList_farith rfl _ _ _ _ _ rfl rfl _ _ _ rfl rfl ?_; intro r0 j0 g0; have f0 := Lib.hid g0; clear g0; refine Stop.go ?_)
                  refine Stop.mk ?_
                  go_wp2_with (refine wpList_farith rfl _ _ _ _ _ rfl rfl _ _ _ rfl rfl ?_; intro r1 j1 g1; have f1 := Lib.hid g1; clear g1; refine Stop.go ?_)
                  refine Stop.mk ?_
                  have Hg := Lib.hid (pnG_of Hr.out f0.out f1.out)
                  go_wp2_with fail
                  refine (implShare_any p _).mono ?_
                  rw [H0.out]
                  rintro e w' ⟨rfl, rfl⟩
                  go_wp2_with fail
                  refine (implShare_any q _).mono ?_
                  rw [H1.out]
                  rintro e w' ⟨rfl, rfl⟩
                  go_wp2_with (refine upon_fa .add rfl _ .f32 p q ?_; intro r2 j2 g2; have f2 := Lib.hid g2; clear g2; refine Stop.go ?_)
                  refine Stop.mk ?_
                  have c2 := Lib.hid (shr_cn' (pnS_of f2.out))
                  go_wp2_with fail
                  refine (implShare_any r2 _).mono ?_
                  rw [c2.out, H2.out]
                  rintro e w' ⟨rfl, rfl⟩
                  have c3 := gt_cn' Hg.out H3.out
                  go_wp2_with (refine wpList_farith rfl _ _ _ _ _ rfl rfl _ _ _ rfl rfl ?_; intro r4 j4 g4; have f4 := Lib.hid g4; clear g4; refine Stop.go ?_)
                  refine Stop.mk ?_
                  go_wp2_with (refine wpList_farith rfl _ _ _ _ _ rfl rfl _ _ _ rfl rfl ?_; intro r5 j5 g5; have f5 := Lib.hid g5; clear g5; refine Stop.go ?_)
                  refine Stop.mk ?_
                  go_wp2_with (refine wpList_farith rfl _ _ _ _ _ rfl rfl _ _ _ rfl rfl ?_; intro r6 j6 g6; have f6 := Lib.hid g6; clear g6; refine Stop.go ?_)
                  refine Stop.mk ?_
                  go_wp2_with (refine wpList_farith rfl _ _ _ _ _ rfl rfl _ _ _ rfl rfl ?_; intro r7 j7 g7; have f7 := Lib.hid g7; clear g7; refine Stop.go ?_)
                  refine Stop.mk ?_
                  go_wp2_with (refine wpList_farith rfl _ _ _ _ _ rfl rfl _ _ _ rfl rfl ?_; intro r8 j8 g8; have f8 := Lib.hid g8; clear g8; refine Stop.go ?_)
                  refine Stop.mk ?_
                  go_wp2_with (refine wpList_farith rfl _ _ _ _ _ rfl rfl _ _ _ rfl rfl ?_; intro r9 j9 g9; have f9 := Lib.hid g9; clear g9; refine Stop.go ?_)
                  refine Stop.mk ?_
                  go_wp2_with (refine wpList_farith rfl _ _ _ _ _ rfl rfl _ _ _ rfl rfl ?_; intro r10 j10 g10; have f10 := Lib.hid g10; clear g10; refine Stop.go ?_)
                  refine Stop.mk ?_
                  go_wp2_with (refine wpList_farith rfl _ _ _ _ _ rfl rfl _ _ _ rfl rfl ?_; intro r11 j11 g11; have f11 := Lib.hid g11; clear g11; refine Stop.go ?_)
                  refine Stop.mk ?_
                  go_wp2_with (refine wpList_farith rfl _ _ _ _ _ rfl rfl _ _ _ rfl rfl ?_; intro r12 j12 g12; have f12 := Lib.hid g12; clear g12; refine Stop.go ?_)
                  refine Stop.mk ?_
                  go_wp2_with (refine wpList_farith rfl _ _ _ _ _ rfl rfl _ _ _ rfl rfl ?_; intro r13 j13 g13; have f13 := Lib.hid g13; clear g13; refine Stop.go ?_)
                  refine Stop.mk ?_
                  have HT := Lib.hid (pnT_of Ht.out Hg.out f8.out f9.out)
                  have HB := Lib.hid (pnB_of (p := p) Ht.out Hb.out Hg.out f4.out f5.out f6.out f7.out)
                  have HR := Lib.hid (pnR_of Hr.out Hg.out f10.out f11.out f12.out f13.out)
                  go_wp2
                  go_roundw
                  case rel => exact ⟨k + 1, r9, r13, r7, by omega, by go_num, rfl, rfl, rfl, Lib.hid (by rw [STk.out]; exact HT.out), Lib.hid (by rw [STk.out]; exact HR.out), Lib.hid (by rw [STk.out]; exact HB.out), PA, Lib.hid (by repeat (first | (with_reducible exact Bw.out) | (with_reducible exact Below.refl _ _) | (with_reducible refine below_drewN ?_ _)))⟩
                  case measure => simp [intOf]; omega
        · have e := Lib.hid (show k = m by omega)
          have Ek := Lib.hid (FE2.out (by rw [← e.out]; exact Ha.out))
          have Ht := Lib.hid (show cn .f32 t = (pnAt P Q m).t by rw [← e.out]; exact Ht.out)
          have Hb := Lib.hid (show cn .f32 b = (pnAt P Q m).b by rw [← e.out]; exact Hb.out)
          clear FX FE2 FS FG F0 HP HQ Ha Hr
          generalize pnAt P Q m = s0 at *
          generalize pnB P Q = BB at *
          cases D2 : fin .f32 (pnU s0)
          · skip
            have E := Lib.hid (FN.out (Ek.out.trans D2))
            have H2 := Lib.hid D2
            clear D2 FN FY Ek
            go_wp2_with (refine wpList_farith rfl _ _ _ _ _ rfl rfl _ _ _ rfl rfl ?_; intro r20 j20 g20; have f20 := Lib.hid g20; clear g20; refine Stop.go ?_)
            refine Stop.mk ?_
            go_wp2_with (refine wpList_farith rfl _ _ _ _ _ rfl rfl _ _ _ rfl rfl ?_; intro r21 j21 g21; have f21 := Lib.hid g21; clear g21; refine Stop.go ?_)
            refine Stop.mk ?_
            have Hu := Lib.hid (pnU_of Ht.out Hb.out f20.out f21.out)
            go_wp2_with fail
            refine (implNum_any r21 _).mono ?_
            rw [(fin_cn' Hu.out).trans H2.out]
            rintro e w' ⟨rfl, m0, rfl⟩
            go_wp2
            ((try simp only [Exit.inBlock, Exit.then]); refine bodyPost_ret (results_tmp4 rfl _ _ _) rfl ?_)
            exact E.out _ (by repeat (first | (with_reducible exact Bw.out) | (with_reducible exact Below.refl _ _) | (with_reducible refine below_drewN ?_ _)))
          · skip
            have E := Lib.hid (FY.out (Ek.out.trans D2))
            have H2 := Lib.hid D2
            clear D2 FN FY Ek
            go_wp2_with (refine wpList_farith rfl _ _ _ _ _ rfl rfl _ _ _ rfl rfl ?_; intro r20 j20 g20; have f20 := Lib.hid g20; clear g20; refine Stop.go ?_)
            refine Stop.mk ?_
            go_wp2_with (refine wpList_farith rfl _ _ _ _ _ rfl rfl _ _ _ rfl rfl ?_; intro r21 j21 g21; have f21 := Lib.hid g21; clear g21; refine Stop.go ?_)
            refine Stop.mk ?_
            have Hu := Lib.hid (pnU_of Ht.out Hb.out f20.out f21.out)
            have EI := Lib.hid (show ifF r21 = r21 by unfold ifF; rw [(fin_cn' Hu.out).trans H2.out]; rfl)
            go_wp2_with fail
            refine (implNum_any r21 _).mono ?_
            rw [(fin_cn' Hu.out).trans H2.out, EI.out]
            rintro e w' ⟨rfl, m0, rfl⟩
            go_wp2
            ((try simp only [Exit.inBlock, Exit.then]); refine bodyPost_ret (results_tmp4 rfl _ _ _) rfl ?_)
            exact E.out t b r21 _ Ht.out Hb.out Hu.out (by repeat (first | (with_reducible exact Bw.out) | (with_reducible exact Below.refl _ _) | (with_reducible refine below_drewN ?_ _)))
end Go.Proofs.Ytabdinmodopadab
