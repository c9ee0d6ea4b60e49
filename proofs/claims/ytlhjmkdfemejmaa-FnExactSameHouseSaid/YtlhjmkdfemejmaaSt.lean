/- Slices of structs, as lists: their cells one behind the other. -/
import Derived.Test.YtlhjmkdfemejmaaFr
import Derived.Test.YtlhjmkdfemejmaaOpenF
import Derived.Deep.Slices
namespace Go.Proofs.Ytlhjmkdfemejmaa
open Go.RowKit Go.ChangeShapes Go.WideShapes Go.Joins Go.Deep
set_option linter.unusedVariables false

section
variable {α : Type} (vs : α → List Value)

/-- all cells of a list -/
def flS (zs : List α) : List Value := zs.flatMap vs
theorem flS_length {m : Nat} (hv : ∀ x, (vs x).length = m) : ∀ zs : List α, (flS vs zs).length = zs.length * m := by
  intro zs
  induction zs with
  | nil => simp [flS]
  | cons x xs ih =>
    unfold flS at ih ⊢
    rw [List.flatMap_cons, List.length_append, hv, ih, List.length_cons, Nat.succ_mul, Nat.add_comm]
theorem flS_at {m : Nat} (hv : ∀ x, (vs x).length = m) : ∀ {zs : List α} {i : Nat} {x : α}, zs[i]? = some x → ∀ {j : Nat} {u : Value}, (vs x)[j]? = some u → (flS vs zs)[i * m + j]? = some u := by
  intro zs
  induction zs with
  | nil => intro i x h; simp at h
  | cons y ys ih =>
    intro i x h j u hu
    unfold flS
    rw [List.flatMap_cons]
    cases i with
    | zero =>
      simp at h
      subst h
      have hj := (List.getElem?_eq_some_iff.1 hu).1
      rw [Nat.zero_mul, Nat.zero_add, List.getElem?_append_left hj]
      exact hu
    | succ i =>
      simp at h
      have hl := hv y
      rw [List.getElem?_append_right (by rw [hl, Nat.succ_mul]; omega), hl, show (i + 1) * m + j - m = i * m + j by rw [Nat.succ_mul]; omega]
      exact ih h hu
theorem flS_inv {m : Nat} (hv : ∀ x, (vs x).length = m) : ∀ {zs : List α} {k : Nat} {u : Value}, (flS vs zs)[k]? = some u → ∃ i j x, k = i * m + j ∧ zs[i]? = some x ∧ (vs x)[j]? = some u := by
  intro zs
  induction zs with
  | nil => intro k u h; simp [flS] at h
  | cons y ys ih =>
    intro k u h
    unfold flS at h
    rw [List.flatMap_cons] at h
    have hl := hv y
    by_cases hk : k < m
    · rw [List.getElem?_append_left (by omega)] at h
      exact ⟨0, k, y, by omega, by simp, h⟩
    · rw [List.getElem?_append_right (by omega), hl] at h
      obtain ⟨i, j, x, e, h1, h2⟩ := ih h
      exact ⟨i + 1, j, x, by rw [Nat.succ_mul]; omega, by simpa using h1, h2⟩

/-- the value v reads as the list zs of structs: empty, or a row of their cells -/
def SRow (w : World) (v : Value) (zs : List α) : Prop :=
  ((∃ a c, v = .slice a 0 c) ∧ zs = []) ∨
  ∃ b off cap, v = .slice (some ⟨b, off, none⟩) zs.length cap ∧ zs.length ≤ maxLen ∧ ∀ j u, (flS vs zs)[j]? = some u → w.cell? ⟨b, off + j, none⟩ = some u
variable {vs}
theorem SRow.below {w w' : World} {v : Value} {zs : List α} (h : SRow vs w v zs) (hb : Below w.heap.size w w') : SRow vs w' v zs := by
  rcases h with h | ⟨b, off, cap, e, hm, hc⟩
  · exact .inl h
  · refine .inr ⟨b, off, cap, e, hm, fun j u hu => ?_⟩
    have := hc j u hu
    rw [hb.cell (p := ⟨b, off + j, none⟩) (cell_lt this)]
    exact this
theorem SRow.drewN {w : World} {v : Value} {zs : List α} {n : Nat} (h : SRow vs w v zs) : SRow vs (w.drewN n) v zs := h
theorem SRow.shape {w : World} {v : Value} {zs : List α} (h : SRow vs w v zs) : ∃ a cap, v = .slice a zs.length cap := by
  rcases h with ⟨h, rfl⟩ | ⟨b, off, cap, rfl, _⟩
  · exact h
  · exact ⟨_, _, rfl⟩
theorem SRow.len {w : World} {v : Value} {zs : List α} (h : SRow vs w v zs) : zs.length ≤ 9223372036854775807 := by
  rcases h with ⟨_, rfl⟩ | ⟨_, _, _, _, hm, _⟩
  · simp
  · exact hm
/-- the cells of each struct -/
theorem SRow.cells {m : Nat} (hv : ∀ x, (vs x).length = m) {w : World} {v : Value} {zs : List α} (h : SRow vs w v zs) (hn : 1 ≤ zs.length) : ∃ b off cap, v = .slice (some ⟨b, off, none⟩) zs.length cap ∧ ∀ i x, zs[i]? = some x → ∀ j u, (vs x)[j]? = some u → w.cell? ⟨b, off + (i * m + j), none⟩ = some u := by
  rcases h with ⟨_, rfl⟩ | ⟨b, off, cap, e, hm, hc⟩
  · simp at hn
  · exact ⟨b, off, cap, e, fun i x hx j u hu => hc _ _ (flS_at vs hv hx hu)⟩
theorem SRow.of_cells {w : World} {p : Nat} {zs : List α} (h : Cells w p (flS vs zs)) (hm : zs.length ≤ maxLen) : SRow vs w (.slice (some ⟨p, 0, none⟩) zs.length zs.length) zs :=
  .inr ⟨p, 0, _, rfl, hm, fun j u hu => by rw [Nat.zero_add]; exact h.1 j _ hu⟩

/-- an argument that is a slice of structs -/
theorem open_srow [Inhabited α] {wf : α → Prop} {m : Nat} (hv : ∀ x, (vs x).length = m) (hm0 : 0 < m) {H : Type} {enc : TypeId × Value → H} {P : Program} {w : World} {base : Nat} {spare : Nat → Bool} {held : Bool} {t e : TypeId} {a : Option Addr} {len cap : Nat} {d : DataW H} {ps : List MemPlace}
    (ht : P.underlying t = some (.slice e)) (hc : P.cellsOf e = m) (tr : ∀ n cs y, DataW.trod enc P w base spare held n e cs = some y → ∃ s : α, cs = vs s ∧ wf s) (h : DataW.Trod enc P w base spare held t (.slice a len cap) d ps) :
    ∃ zs, SRow vs w (.slice a len cap) zs ∧ ∀ x ∈ zs, wf x := by
  obtain ⟨fuel, hf⟩ := h
  rcases open_slice ht hf with ⟨hcs, _⟩ | ⟨x, l, c, k, n, D, Pl, hcs, _, hl, hm, hmm, _, hV⟩
  · simp [Value.cells] at hcs
    obtain ⟨rfl, rfl, rfl⟩ := hcs
    exact ⟨[], .inl ⟨⟨_, _, rfl⟩, rfl⟩, fun i hi => by simp at hi⟩
  · simp [Value.cells] at hcs
    obtain ⟨rfl, rfl, rfl⟩ := hcs
    rw [hc] at hV
    have hlk : len ≤ k := by rw [hmm]; split <;> omega
    have hb : ∀ i, i < len → ∃ s : α, (∀ j u, (vs s)[j]? = some u → w.cell? (x.add (i * m + j)) = some u) ∧ wf s := by
      intro i hi
      obtain ⟨cs, h1, h2⟩ := hV i (by omega)
      obtain ⟨s, rfl, hw⟩ := tr _ _ _ h2
      obtain ⟨_, hn, hat⟩ := World.cells?_some h1
      refine ⟨s, fun j u hu => ?_, hw⟩
      have hj := (List.getElem?_eq_some_iff.1 hu).1
      rw [← Go.Deep.add_add, hat j (by omega), hu]
    obtain ⟨B, hB⟩ := choose_lt hb
    refine ⟨(List.range len).map B, ?_, fun y hy => ?_⟩
    · by_cases h0 : len = 0
      · subst h0; exact .inl ⟨⟨_, _, rfl⟩, rfl⟩
      · obtain ⟨xb, xo, xs⟩ := x
        have hs : xs = none := by
          have hz := (hB 0 (by omega)).1 0
          have hl0 := hv (B 0)
          have := hz _ (List.getElem?_eq_getElem (show 0 < (vs (B 0)).length by omega))
          simpa [Addr.add] using World.cell?_spot this
        subst hs
        refine .inr ⟨xb, xo, cap, by simp, by simp; omega, fun j u hu => ?_⟩
        obtain ⟨i, r, y, rfl, h1, h2⟩ := flS_inv vs hv hu
        have hi : i < len := by
          have := (List.getElem?_eq_some_iff.1 h1).1
          simpa using this
        have ey : y = B i := by
          rw [List.getElem?_map, List.getElem?_range hi] at h1
          simpa using h1.symm
        subst ey
        have := (hB i hi).1 r u h2
        have ea : (⟨xb, xo, none⟩ : Addr).add (i * m + r) = ⟨xb, xo + (i * m + r), none⟩ := by
          by_cases h : i * m + r = 0
          · rw [h]; simp [Addr.add]
          · generalize i * m + r = q at *
            simp [Addr.add, h]
        rw [ea] at this
        exact this
    · obtain ⟨i, hi, rfl⟩ := List.mem_map.1 hy
      exact (hB i (List.mem_range.1 hi)).2

/-- a row of structs that is being filled: the first k stand, the rest is zero -/
def partS (vs : α → List Value) (Z : List Value) (m : Nat) (zs : List α) (k j : Nat) : Value := if j < k * m then (flS vs zs).getD j undef else Z.getD (j % m) undef
theorem partS_lt {Z : List Value} {m k j : Nat} {zs : List α} {u : Value} (h : (flS vs zs)[j]? = some u) (hj : j < k * m) : partS vs Z m zs k j = u := by
  unfold partS; rw [if_pos hj, List.getD_eq_getElem?_getD, h]; rfl
theorem partS_far {Z : List Value} {m k j : Nat} {zs : List α} (h : j < k * m ∨ (k + 1) * m ≤ j) : partS vs Z m zs k j = partS vs Z m zs (k + 1) j := by
  unfold partS
  rcases h with h | h
  · rw [if_pos h, if_pos (by rw [Nat.succ_mul]; omega)]
  · rw [if_neg (by rw [Nat.succ_mul] at h; omega), if_neg (by omega)]
theorem row_of_partS {Z : List Value} {m : Nat} (hv : ∀ x, (vs x).length = m) {wr : World} {b : Nat} {t : TypeId} {zs : List α} (h : wr.rowIs b t (zs.length * m) (partS vs Z m zs zs.length)) : Cells wr b (flS vs zs) := by
  refine ⟨fun i v hv' => ?_, fun i => h.frozen i, h.lt⟩
  have hi := (List.getElem?_eq_some_iff.1 hv').1
  rw [flS_length vs hv] at hi
  rw [h.cell hi, partS_lt hv' hi]
end
theorem rowIs_madeS (w : World) (Z : Array Value) (n : Nat) (t : TypeId) (f : Nat → Value) (hf : ∀ i, i < n → Z[i % Z.size]! = f i) : (w.alloc (.cells (madeCells Z n) t)).rowIs w.heap.size t n f :=
  ⟨_, blk_alloc_new _ _, size_madeCells _ _, fun i hi => by rw [← hf i hi]; simp [madeCells, hi]⟩
/-- make of structs -/
theorem run_make_srow {P : Program} (t e : TypeId) (z : Value) (size bytes : Nat) (ht : P.underlying t = some (.slice e)) (hinfo : (P.info? e).map (fun i => (i.zero, i.size, i.bytes)) = some (some z, size, bytes))
    (kl kc : IntKind) (n : Nat) (hbytes : bytes * n ≤ 281474976710656) (h63 : n ≤ 9223372036854775807) (w : World) :
    (Instr.makeSlice t (.int kl (n : Int)) (.int kc (n : Int))).run P w = .ok (.slice (some ⟨w.heap.size, 0, none⟩) n n) (w.alloc (.cells (madeCells z.cells (n * size)) e)) := by
  obtain ⟨i, hi, hzz⟩ := Option.map_eq_some_iff.1 hinfo
  simp only [Prod.mk.injEq] at hzz
  obtain ⟨hz, hs, hb⟩ := hzz
  have hb' : (i.bytes : Int) * (n : Int) ≤ 281474976710656 := by
    have h : ((i.bytes * n : Nat) : Int) ≤ 281474976710656 := by rw [hb]; omega
    rwa [Int.natCast_mul] at h
  have hr := run_make (P := P) w t e i z ht hi hz kl kc n n (by omega) (Int.le_refl _) hb' (by omega)
  simp only [Int.toNat_natCast, hs] at hr
  exact hr
end Go.Proofs.Ytlhjmkdfemejmaa
