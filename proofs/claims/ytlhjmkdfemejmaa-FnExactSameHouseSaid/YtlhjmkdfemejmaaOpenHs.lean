/- Arguments that are houses, opened: three slices of numbers, and a slice of links. -/
import Derived.Test.YtlhjmkdfemejmaaHs
import Derived.Lib.SmallJoins
namespace Go.Proofs.Ytlhjmkdfemejmaa
open Go.RowKit Go.ChangeShapes Go.WideShapes Go.Joins Go.Deep

/-- a house's numbers are numbers -/
structure HWf (r : HS) : Prop where
  W : ∀ i, i < r.W.length → (Lit.float .f32 (r.W.getD i 0)).wf = true
  H : ∀ i, i < r.H.length → (Lit.float .f32 (r.H.getD i 0)).wf = true
  L : ∀ i, i < r.L.length → (Lit.float .f32 (r.L.getD i 0)).wf = true
  K : ∀ x ∈ r.K, x.wf

section
variable {H : Type} {enc : TypeId × Value → H} {P : Program} {w : World} {base : Nat} {spare : Nat → Bool} {held : Bool}

theorem trh_f32s {t e : TypeId} {n : Nat} {v : Value} {y : DataW H × List MemPlace} (ht : P.underlying t = some (.slice e)) (he : P.underlying e = some (.float .f32)) (hc : P.cellsOf e = 1)
    (h : DataW.trod enc P w base spare held n t [v] = some y) : ∃ zs, FRow w v zs ∧ ∀ i, i < zs.length → (Lit.float .f32 (zs.getD i 0)).wf = true := by
  have hv : ∃ a len cap, v = .slice a len cap := by
    rcases Deep.open_slice1 ht hc h with ⟨hcs, _⟩ | ⟨x, l, c, m, n, V, D, Pl, hcs, _⟩
    · simp at hcs; exact ⟨_, _, _, hcs⟩
    · simp at hcs; exact ⟨_, _, _, hcs⟩
  obtain ⟨a, len, cap, rfl⟩ := hv
  obtain ⟨zs, hz, hw⟩ := open_f32s (enc := enc) (P := P) (w := w) (base := base) (spare := spare) (held := held) (d := y.1) (ps := y.2) ht he hc ⟨n, by simpa [Value.cells] using h⟩
  exact ⟨zs, hz, hw⟩
theorem trh_i64 {t : TypeId} {n : Nat} {v : Value} {y : DataW H × List MemPlace} (he : P.underlying t = some (.int .i64)) (h : DataW.trod enc P w base spare held n t [v] = some y) :
    ∃ b, v = .int .i64 b ∧ (Lit.int .i64 b).wf = true := by
  cases n with
  | zero => simp [DataW.trod] at h
  | succ n =>
    cases v <;> simp [DataW.trod, he] at h
    rename_i k b
    obtain ⟨⟨rfl, hw⟩, _⟩ := h
    exact ⟨b, rfl, hw⟩
theorem tr_link {t : TypeId} {f0 f1 f2 : Field} {n : Nat} {cs : List Value} {y : DataW H × List MemPlace} (hs : P.underlying t = some (.struct #[f0, f1, f2])) (hone : oneCellFields P #[f0, f1, f2] = true) (hC : P.cellsOf t = 3)
    (e0 : P.underlying f0.type = some (.int .i64)) (e1 : P.underlying f1.type = some (.int .i64)) (e2 : P.underlying f2.type = some (.float .f32))
    (h : DataW.trod enc P w base spare held n t cs = some y) : ∃ s : LK, cs = s.vs ∧ s.wf := by
  obtain ⟨xs, m, _, _, hl, hx, hg⟩ := DataW.trod_struct hs h
  have hx' : xs.length = 3 := hx
  match cs, hl.trans hC, xs, hx' with
  | [c0, c1, c2], _, [y0, y1, y2], _ =>
    obtain ⟨o0, k0⟩ := hone_of hone 0 f0 rfl
    obtain ⟨o1, k1⟩ := hone_of hone 1 f1 rfl
    obtain ⟨o2, k2⟩ := hone_of hone 2 f2 rfl
    have g0 := hg 0 f0 rfl
    have g1 := hg 1 f1 rfl
    have g2 := hg 2 f2 rfl
    rw [o0, k0] at g0
    rw [o1, k1] at g1
    rw [o2, k2] at g2
    obtain ⟨b0, rfl, w0⟩ := trh_i64 e0 (show DataW.trod enc P w base spare held m f0.type [c0] = some y0 from g0)
    obtain ⟨b1, rfl, w1⟩ := trh_i64 e1 (show DataW.trod enc P w base spare held m f1.type [c1] = some y1 from g1)
    obtain ⟨b2, rfl, w2⟩ := trF_f32 e2 (show DataW.trod enc P w base spare held m f2.type [c2] = some y2 from g2)
    exact ⟨⟨b0, b1, b2⟩, rfl, w0, w1, w2⟩
theorem trh_links {t e : TypeId} {f0 f1 f2 : Field} {n : Nat} {v : Value} {y : DataW H × List MemPlace} (ht : P.underlying t = some (.slice e)) (hs : P.underlying e = some (.struct #[f0, f1, f2])) (hone : oneCellFields P #[f0, f1, f2] = true) (hC : P.cellsOf e = 3)
    (e0 : P.underlying f0.type = some (.int .i64)) (e1 : P.underlying f1.type = some (.int .i64)) (e2 : P.underlying f2.type = some (.float .f32))
    (h : DataW.trod enc P w base spare held n t [v] = some y) : ∃ zs, LRow w v zs ∧ ∀ x ∈ zs, x.wf := by
  have hv : ∃ a len cap, v = .slice a len cap := by
    rcases Deep.open_slice ht h with ⟨hcs, _⟩ | ⟨x, l, c, m, n, D, Pl, hcs, _⟩
    · simp at hcs; exact ⟨_, _, _, hcs⟩
    · simp at hcs; exact ⟨_, _, _, hcs⟩
  obtain ⟨a, len, cap, rfl⟩ := hv
  exact open_srow (enc := enc) (P := P) (w := w) (base := base) (spare := spare) (held := held) (d := y.1) (ps := y.2) LK.len (by decide) ht hC (fun n cs y h => tr_link hs hone hC e0 e1 e2 h) ⟨n, by simpa [Value.cells] using h⟩

theorem open_house {rr : Reach} {b0 : Nat} {t s e sb eb : TypeId} {f0 f1 f2 f3 g0 g1 g2 : Field} {v : Value} {d : DataW H} {p : List MemPlace} (hs : P.underlying t = some (.struct #[f0, f1, f2, f3])) (hone : oneCellFields P #[f0, f1, f2, f3] = true) (hC : P.cellsOf t = 4)
    (e0 : f0.type = s) (e1 : f1.type = s) (e2 : f2.type = s) (e3 : f3.type = sb)
    (us : P.underlying s = some (.slice e)) (ue : P.underlying e = some (.float .f32)) (uc : P.cellsOf e = 1) (usb : P.underlying sb = some (.slice eb)) (ueb : P.underlying eb = some (.struct #[g0, g1, g2])) (hob : oneCellFields P #[g0, g1, g2] = true) (ucb : P.cellsOf eb = 3)
    (d0 : P.underlying g0.type = some (.int .i64)) (d1 : P.underlying g1.type = some (.int .i64)) (d2 : P.underlying g2.type = some (.float .f32))
    (hv : Value.okWide P w rr b0 t v) (h : DataW.Trod enc P w base spare held t v d p) : ∃ (r : HS) (a b c d : Value), v = .agg #[a, b, c, d] ∧ HRow w a b c d r ∧ HWf r := by
  obtain ⟨cs, rfl, hsz⟩ := okWide_struct hs hv
  obtain ⟨l⟩ := cs
  obtain ⟨fuel, hf⟩ := h
  obtain ⟨xs, m, _, _, hl, hx, hg⟩ := DataW.trod_struct hs hf
  have hx' : xs.length = 4 := hx
  have hl' : l.length = 4 := by simpa [Value.cells] using hl.trans hC
  match l, hl', xs, hx' with
  | [c0, c1, c2, c3], _, [y0, y1, y2, y3], _ =>
    obtain ⟨o0, k0⟩ := hone_of hone 0 f0 rfl
    obtain ⟨o1, k1⟩ := hone_of hone 1 f1 rfl
    obtain ⟨o2, k2⟩ := hone_of hone 2 f2 rfl
    obtain ⟨o3, k3⟩ := hone_of hone 3 f3 rfl
    have g0 := hg 0 f0 rfl
    have g1 := hg 1 f1 rfl
    have g2 := hg 2 f2 rfl
    have g3 := hg 3 f3 rfl
    rw [o0, k0, e0] at g0
    rw [o1, k1, e1] at g1
    rw [o2, k2, e2] at g2
    rw [o3, k3, e3] at g3
    obtain ⟨z0, r0, w0⟩ := trh_f32s us ue uc (show DataW.trod enc P w base spare held m s [c0] = some y0 from g0)
    obtain ⟨z1, r1, w1⟩ := trh_f32s us ue uc (show DataW.trod enc P w base spare held m s [c1] = some y1 from g1)
    obtain ⟨z2, r2, w2⟩ := trh_f32s us ue uc (show DataW.trod enc P w base spare held m s [c2] = some y2 from g2)
    obtain ⟨z3, r3, w3⟩ := trh_links usb ueb hob ucb d0 d1 d2 (show DataW.trod enc P w base spare held m sb [c3] = some y3 from g3)
    exact ⟨⟨z0, z1, z2, z3⟩, c0, c1, c2, c3, rfl, ⟨r0, r1, r2, r3⟩, w0, w1, w2, w3⟩
end
end Go.Proofs.Ytlhjmkdfemejmaa
