/- Arguments that are plates, opened: two integers, three slices of numbers, and a slice of bools. -/
import Derived.Test.YtkmfinegmkacpabPl
import Derived.Test.YtkmfinegmkacpabOpen3
namespace Go.Proofs.Ytkmfinegmkacpab
open Go.RowKit Go.ChangeShapes Go.WideShapes Go.Joins Go.Deep

/-- a plate's numbers are numbers -/
structure PWf (r : PL) : Prop where
  X : (Lit.int .i64 r.X).wf = true
  Y : (Lit.int .i64 r.Y).wf = true
  W : ∀ i, i < r.W.length → (Lit.float .f32 (r.W.getD i 0)).wf = true
  E : ∀ i, i < r.E.length → (Lit.float .f32 (r.E.getD i 0)).wf = true
  G : ∀ i, i < r.G.length → (Lit.float .f32 (r.G.getD i 0)).wf = true

section
variable {H : Type} {enc : TypeId × Value → H} {P : Program} {w : World} {base : Nat} {spare : Nat → Bool} {held : Bool}

theorem trp_f32s {t e : TypeId} {n : Nat} {v : Value} {y : DataW H × List MemPlace} (ht : P.underlying t = some (.slice e)) (he : P.underlying e = some (.float .f32)) (hc : P.cellsOf e = 1)
    (h : DataW.trod enc P w base spare held n t [v] = some y) : ∃ zs, FRow w v zs ∧ ∀ i, i < zs.length → (Lit.float .f32 (zs.getD i 0)).wf = true := by
  have hv : ∃ a len cap, v = .slice a len cap := by
    rcases Deep.open_slice1 ht hc h with ⟨hcs, _⟩ | ⟨x, l, c, m, n, V, D, Pl, hcs, _⟩
    · simp at hcs; exact ⟨_, _, _, hcs⟩
    · simp at hcs; exact ⟨_, _, _, hcs⟩
  obtain ⟨a, len, cap, rfl⟩ := hv
  obtain ⟨zs, hz, hw⟩ := open_f32s (enc := enc) (P := P) (w := w) (base := base) (spare := spare) (held := held) (d := y.1) (ps := y.2) ht he hc ⟨n, by simpa [Value.cells] using h⟩
  exact ⟨zs, hz, hw⟩

theorem trp_bools {t e : TypeId} {n : Nat} {v : Value} {y : DataW H × List MemPlace} (ht : P.underlying t = some (.slice e)) (he : P.underlying e = some .bool) (hc : P.cellsOf e = 1)
    (h : DataW.trod enc P w base spare held n t [v] = some y) : ∃ zs, BRow w v zs := by
  rcases Deep.open_slice1 ht hc h with ⟨hcs, _⟩ | ⟨x, len, cap, m, n, V, D, Pl, hcs, _, hl, hm, hmm, _, hV⟩
  · simp at hcs
    subst hcs
    exact ⟨[], .inl ⟨⟨_, _, rfl⟩, rfl⟩⟩
  · simp at hcs
    subst hcs
    have hlm : len ≤ m := by rw [hmm]; split <;> omega
    have hb : ∀ i, i < len → ∃ b, V i = .bool b := by
      intro i hi
      have h2 := (hV i (by omega)).2
      cases n with
      | zero => simp [DataW.trod] at h2
      | succ n =>
        cases hv : V i <;> simp [DataW.trod, he, hv] at h2
        exact ⟨_, rfl⟩
    obtain ⟨B, hB⟩ := Deep.choose_lt hb
    refine ⟨(List.range len).map B, ?_⟩
    by_cases h0 : len = 0
    · subst h0; exact .inl ⟨⟨_, _, rfl⟩, rfl⟩
    · obtain ⟨xb, xo, xs⟩ := x
      have hs : xs = none := by simpa [Addr.add] using World.cell?_spot (hV 0 (by omega)).1
      subst hs
      refine .inr ⟨xb, xo, cap, by simp, by simp; omega, fun i hi => ?_⟩
      have hi' : i < len := by simpa using hi
      have := (hV i (by omega)).1
      rw [hB i hi'] at this
      have ea : (⟨xb, xo, none⟩ : Addr).add i = ⟨xb, xo + i, none⟩ := by
        by_cases h : i = 0
        · subst h; simp [Addr.add]
        · simp [Addr.add, h]
      rw [ea] at this
      simpa [hi', List.getD_eq_getElem?_getD] using this

theorem open_plate {rr : Reach} {b0 : Nat} {t s e sb eb : TypeId} {f0 f1 f2 f3 f4 f5 : Field} {v : Value} {d : DataW H} {p : List MemPlace} (hs : P.underlying t = some (.struct #[f0, f1, f2, f3, f4, f5])) (hone : oneCellFields P #[f0, f1, f2, f3, f4, f5] = true) (hC : P.cellsOf t = 6)
    (e0 : P.underlying f0.type = some (.int .i64)) (e1 : P.underlying f1.type = some (.int .i64)) (e2 : f2.type = s) (e3 : f3.type = s) (e4 : f4.type = s) (e5 : f5.type = sb)
    (us : P.underlying s = some (.slice e)) (ue : P.underlying e = some (.float .f32)) (uc : P.cellsOf e = 1) (usb : P.underlying sb = some (.slice eb)) (ueb : P.underlying eb = some .bool) (ucb : P.cellsOf eb = 1)
    (hv : Value.okWide P w rr b0 t v) (h : DataW.Trod enc P w base spare held t v d p) : ∃ (r : PL) (a b c d : Value), v = .agg #[.int .i64 r.X, .int .i64 r.Y, a, b, c, d] ∧ PRow w a b c d r ∧ PWf r := by
  obtain ⟨cs, rfl, hsz⟩ := okWide_struct hs hv
  obtain ⟨l⟩ := cs
  obtain ⟨fuel, hf⟩ := h
  obtain ⟨xs, m, _, _, hl, hx, hg⟩ := DataW.trod_struct hs hf
  have hx' : xs.length = 6 := hx
  have hl' : l.length = 6 := by simpa [Value.cells] using hl.trans hC
  match l, hl', xs, hx' with
  | [c0, c1, c2, c3, c4, c5], _, [y0, y1, y2, y3, y4, y5], _ =>
    obtain ⟨o0, k0⟩ := hone_of hone 0 f0 rfl
    obtain ⟨o1, k1⟩ := hone_of hone 1 f1 rfl
    obtain ⟨o2, k2⟩ := hone_of hone 2 f2 rfl
    obtain ⟨o3, k3⟩ := hone_of hone 3 f3 rfl
    obtain ⟨o4, k4⟩ := hone_of hone 4 f4 rfl
    obtain ⟨o5, k5⟩ := hone_of hone 5 f5 rfl
    have g0 := hg 0 f0 rfl
    have g1 := hg 1 f1 rfl
    have g2 := hg 2 f2 rfl
    have g3 := hg 3 f3 rfl
    have g4 := hg 4 f4 rfl
    have g5 := hg 5 f5 rfl
    rw [o0, k0] at g0
    rw [o1, k1] at g1
    rw [o2, k2, e2] at g2
    rw [o3, k3, e3] at g3
    rw [o4, k4, e4] at g4
    rw [o5, k5, e5] at g5
    obtain ⟨b0, rfl, w0⟩ := tr_i64 e0 (show DataW.trod enc P w base spare held m f0.type [c0] = some y0 from g0)
    obtain ⟨b1, rfl, w1⟩ := tr_i64 e1 (show DataW.trod enc P w base spare held m f1.type [c1] = some y1 from g1)
    obtain ⟨z2, r2, w2⟩ := trp_f32s us ue uc (show DataW.trod enc P w base spare held m s [c2] = some y2 from g2)
    obtain ⟨z3, r3, w3⟩ := trp_f32s us ue uc (show DataW.trod enc P w base spare held m s [c3] = some y3 from g3)
    obtain ⟨z4, r4, w4⟩ := trp_f32s us ue uc (show DataW.trod enc P w base spare held m s [c4] = some y4 from g4)
    obtain ⟨z5, r5⟩ := trp_bools usb ueb ucb (show DataW.trod enc P w base spare held m sb [c5] = some y5 from g5)
    exact ⟨⟨b0, b1, z2, z3, z4, z5⟩, c2, c3, c4, c5, rfl, ⟨r2, r3, r4, r5⟩, w0, w1, w2, w3, w4⟩
end
end Go.Proofs.Ytkmfinegmkacpab
