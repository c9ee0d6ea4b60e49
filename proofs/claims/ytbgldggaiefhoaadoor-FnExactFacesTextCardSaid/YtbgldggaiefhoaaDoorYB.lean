/- Several texts in one, for a claim holds 60 files at most: OpenF St Giv2 Giv3 Fu SnQ SnP SnW SnS SnNQ SnN SnLQ SnL SnA FcS FaceA ArF FcTx. -/
import Derived.Test.YtbgldggaiefhoaaDoorYA
import Derived.Lib.SmallJoins
import Derived.Deep.Slices
import Derived.Laws.ResultCell
import Derived.Deep.QuietTactic
import Derived.BigQuiet

/- Arguments that are faces, opened: three 32-bit numbers. -/
namespace Go.Proofs.YtbgldggaiefhoaaDoor
open Go.RowKit Go.ChangeShapes Go.WideShapes Go.Joins Go.Deep

/-- a face's three numbers -/
structure FA where
  wd : Nat
  sh : Nat
  wm : Nat
def FA.wf (s : FA) : Prop := (Lit.float .f32 s.wd).wf = true ∧ (Lit.float .f32 s.sh).wf = true ∧ (Lit.float .f32 s.wm).wf = true
abbrev FA.vs (s : FA) : List Value := [.float .f32 s.wd, .float .f32 s.sh, .float .f32 s.wm]

section
variable {H : Type} {enc : TypeId × Value → H} {P : Program} {w : World} {base : Nat} {spare : Nat → Bool} {held : Bool}

theorem trF_f32 {t : TypeId} {n : Nat} {v : Value} {y : DataW H × List MemPlace} (he : P.underlying t = some (.float .f32)) (h : DataW.trod enc P w base spare held n t [v] = some y) :
    ∃ b, v = .float .f32 b ∧ (Lit.float .f32 b).wf = true := by
  cases n with
  | zero => simp [DataW.trod] at h
  | succ n =>
    cases v <;> simp [DataW.trod, he] at h
    rename_i k b
    obtain ⟨⟨rfl, hw⟩, _⟩ := h
    exact ⟨b, rfl, hw⟩

theorem tr_face {t : TypeId} {f0 f1 f2 : Field} {n : Nat} {cs : List Value} {y : DataW H × List MemPlace} (hs : P.underlying t = some (.struct #[f0, f1, f2])) (hone : oneCellFields P #[f0, f1, f2] = true) (hC : P.cellsOf t = 3)
    (e0 : P.underlying f0.type = some (.float .f32)) (e1 : P.underlying f1.type = some (.float .f32)) (e2 : P.underlying f2.type = some (.float .f32))
    (h : DataW.trod enc P w base spare held n t cs = some y) : ∃ s : FA, cs = s.vs ∧ s.wf := by
  obtain ⟨xs, m, _, _, hl, hx, hg⟩ := DataW.trod_struct hs h
  have hx' : xs.length = 3 := hx
  match cs, hl.trans hC, xs, hx' with
  | [c0, c1, c2], _, [y0, y1, y2], _ =>
    obtain ⟨o0, k0⟩ := hone_of hone 0 f0 rfl
    obtain ⟨o1, k1⟩ := hone_of hone 1 f1 rfl
    obtain ⟨o2, k2⟩ := hone_of hone 2 f2 rfl
    have g0 := hg 0 f0 rfl
    have g1 := hg 1 f1 rfl
    have g2 := hg 2 f2 rfl
    rw [o0, k0] at g0
    rw [o1, k1] at g1
    rw [o2, k2] at g2
    obtain ⟨b0, rfl, w0⟩ := trF_f32 e0 (show DataW.trod enc P w base spare held m f0.type [c0] = some y0 from g0)
    obtain ⟨b1, rfl, w1⟩ := trF_f32 e1 (show DataW.trod enc P w base spare held m f1.type [c1] = some y1 from g1)
    obtain ⟨b2, rfl, w2⟩ := trF_f32 e2 (show DataW.trod enc P w base spare held m f2.type [c2] = some y2 from g2)
    exact ⟨⟨b0, b1, b2⟩, rfl, w0, w1, w2⟩

theorem open_face {r : Reach} {b0 : Nat} {t : TypeId} {f0 f1 f2 : Field} {v : Value} {d : DataW H} {p : List MemPlace} (hs : P.underlying t = some (.struct #[f0, f1, f2])) (hone : oneCellFields P #[f0, f1, f2] = true) (hC : P.cellsOf t = 3)
    (e0 : P.underlying f0.type = some (.float .f32)) (e1 : P.underlying f1.type = some (.float .f32)) (e2 : P.underlying f2.type = some (.float .f32))
    (hv : Value.okWide P w r b0 t v) (h : DataW.Trod enc P w base spare held t v d p) : ∃ s : FA, v = .agg #[.float .f32 s.wd, .float .f32 s.sh, .float .f32 s.wm] ∧ s.wf := by
  obtain ⟨cs, rfl, hsz⟩ := okWide_struct hs hv
  obtain ⟨l⟩ := cs
  obtain ⟨fuel, hf⟩ := h
  obtain ⟨s, hcs, hw⟩ := tr_face hs hone hC e0 e1 e2 hf
  have : l = s.vs := by simpa [Value.cells] using hcs
  exact ⟨s, by rw [this], hw⟩
end
end Go.Proofs.YtbgldggaiefhoaaDoor

/- Slices of structs, as lists: their cells one behind the other. -/
namespace Go.Proofs.YtbgldggaiefhoaaDoor
open Go.RowKit Go.ChangeShapes Go.WideShapes Go.Joins Go.Deep
set_option linter.unusedVariables false

section
variable {α : Type} (vs : α → List Value)

/-- all cells of a list -/
def flS (zs : List α) : List Value := zs.flatMap vs
theorem flS_length {m : Nat} (hv : ∀ x, (vs x).length = m) : ∀ zs : List α, (flS vs zs).length = zs.length * m := by
  intro zs
  induction zs with
  | nil => simp [flS]
  | cons x xs ih =>
    unfold flS at ih ⊢
    rw [List.flatMap_cons, List.length_append, hv, ih, List.length_cons, Nat.succ_mul, Nat.add_comm]
theorem flS_at {m : Nat} (hv : ∀ x, (vs x).length = m) : ∀ {zs : List α} {i : Nat} {x : α}, zs[i]? = some x → ∀ {j : Nat} {u : Value}, (vs x)[j]? = some u → (flS vs zs)[i * m + j]? = some u := by
  intro zs
  induction zs with
  | nil => intro i x h; simp at h
  | cons y ys ih =>
    intro i x h j u hu
    unfold flS
    rw [List.flatMap_cons]
    cases i with
    | zero =>
      simp at h
      subst h
      have hj := (List.getElem?_eq_some_iff.1 hu).1
      rw [Nat.zero_mul, Nat.zero_add, List.getElem?_append_left hj]
      exact hu
    | succ i =>
      simp at h
      have hl := hv y
      rw [List.getElem?_append_right (by rw [hl, Nat.succ_mul]; omega), hl, show (i + 1) * m + j - m = i * m + j by rw [Nat.succ_mul]; omega]
      exact ih h hu
theorem flS_inv {m : Nat} (hv : ∀ x, (vs x).length = m) : ∀ {zs : List α} {k : Nat} {u : Value}, (flS vs zs)[k]? = some u → ∃ i j x, k = i * m + j ∧ zs[i]? = some x ∧ (vs x)[j]? = some u := by
  intro zs
  induction zs with
  | nil => intro k u h; simp [flS] at h
  | cons y ys ih =>
    intro k u h
    unfold flS at h
    rw [List.flatMap_cons] at h
    have hl := hv y
    by_cases hk : k < m
    · rw [List.getElem?_append_left (by omega)] at h
      exact ⟨0, k, y, by omega, by simp, h⟩
    · rw [List.getElem?_append_right (by omega), hl] at h
      obtain ⟨i, j, x, e, h1, h2⟩ := ih h
      exact ⟨i + 1, j, x, by rw [Nat.succ_mul]; omega, by simpa using h1, h2⟩

/-- the value v reads as the list zs of structs: empty, or a row of their cells -/
def SRow (w : World) (v : Value) (zs : List α) : Prop :=
  ((∃ a c, v = .slice a 0 c) ∧ zs = []) ∨
  ∃ b off cap, v = .slice (some ⟨b, off, none⟩) zs.length cap ∧ zs.length ≤ maxLen ∧ ∀ j u, (flS vs zs)[j]? = some u → w.cell? ⟨b, off + j, none⟩ = some u
variable {vs}
theorem SRow.below {w w' : World} {v : Value} {zs : List α} (h : SRow vs w v zs) (hb : Below w.heap.size w w') : SRow vs w' v zs := by
  rcases h with h | ⟨b, off, cap, e, hm, hc⟩
  · exact .inl h
  · refine .inr ⟨b, off, cap, e, hm, fun j u hu => ?_⟩
    have := hc j u hu
    rw [hb.cell (p := ⟨b, off + j, none⟩) (cell_lt this)]
    exact this
theorem SRow.drewN {w : World} {v : Value} {zs : List α} {n : Nat} (h : SRow vs w v zs) : SRow vs (w.drewN n) v zs := h
theorem SRow.shape {w : World} {v : Value} {zs : List α} (h : SRow vs w v zs) : ∃ a cap, v = .slice a zs.length cap := by
  rcases h with ⟨h, rfl⟩ | ⟨b, off, cap, rfl, _⟩
  · exact h
  · exact ⟨_, _, rfl⟩
theorem SRow.len {w : World} {v : Value} {zs : List α} (h : SRow vs w v zs) : zs.length ≤ 9223372036854775807 := by
  rcases h with ⟨_, rfl⟩ | ⟨_, _, _, _, hm, _⟩
  · simp
  · exact hm
/-- the cells of each struct -/
theorem SRow.cells {m : Nat} (hv : ∀ x, (vs x).length = m) {w : World} {v : Value} {zs : List α} (h : SRow vs w v zs) (hn : 1 ≤ zs.length) : ∃ b off cap, v = .slice (some ⟨b, off, none⟩) zs.length cap ∧ ∀ i x, zs[i]? = some x → ∀ j u, (vs x)[j]? = some u → w.cell? ⟨b, off + (i * m + j), none⟩ = some u := by
  rcases h with ⟨_, rfl⟩ | ⟨b, off, cap, e, hm, hc⟩
  · simp at hn
  · exact ⟨b, off, cap, e, fun i x hx j u hu => hc _ _ (flS_at vs hv hx hu)⟩
theorem SRow.of_cells {w : World} {p : Nat} {zs : List α} (h : Cells w p (flS vs zs)) (hm : zs.length ≤ maxLen) : SRow vs w (.slice (some ⟨p, 0, none⟩) zs.length zs.length) zs :=
  .inr ⟨p, 0, _, rfl, hm, fun j u hu => by rw [Nat.zero_add]; exact h.1 j _ hu⟩

/-- an argument that is a slice of structs -/
theorem open_srow [Inhabited α] {wf : α → Prop} {m : Nat} (hv : ∀ x, (vs x).length = m) (hm0 : 0 < m) {H : Type} {enc : TypeId × Value → H} {P : Program} {w : World} {base : Nat} {spare : Nat → Bool} {held : Bool} {t e : TypeId} {a : Option Addr} {len cap : Nat} {d : DataW H} {ps : List MemPlace}
    (ht : P.underlying t = some (.slice e)) (hc : P.cellsOf e = m) (tr : ∀ n cs y, DataW.trod enc P w base spare held n e cs = some y → ∃ s : α, cs = vs s ∧ wf s) (h : DataW.Trod enc P w base spare held t (.slice a len cap) d ps) :
    ∃ zs, SRow vs w (.slice a len cap) zs ∧ ∀ x ∈ zs, wf x := by
  obtain ⟨fuel, hf⟩ := h
  rcases open_slice ht hf with ⟨hcs, _⟩ | ⟨x, l, c, k, n, D, Pl, hcs, _, hl, hm, hmm, _, hV⟩
  · simp [Value.cells] at hcs
    obtain ⟨rfl, rfl, rfl⟩ := hcs
    exact ⟨[], .inl ⟨⟨_, _, rfl⟩, rfl⟩, fun i hi => by simp at hi⟩
  · simp [Value.cells] at hcs
    obtain ⟨rfl, rfl, rfl⟩ := hcs
    rw [hc] at hV
    have hlk : len ≤ k := by rw [hmm]; split <;> omega
    have hb : ∀ i, i < len → ∃ s : α, (∀ j u, (vs s)[j]? = some u → w.cell? (x.add (i * m + j)) = some u) ∧ wf s := by
      intro i hi
      obtain ⟨cs, h1, h2⟩ := hV i (by omega)
      obtain ⟨s, rfl, hw⟩ := tr _ _ _ h2
      obtain ⟨_, hn, hat⟩ := World.cells?_some h1
      refine ⟨s, fun j u hu => ?_, hw⟩
      have hj := (List.getElem?_eq_some_iff.1 hu).1
      rw [← Go.Deep.add_add, hat j (by omega), hu]
    obtain ⟨B, hB⟩ := choose_lt hb
    refine ⟨(List.range len).map B, ?_, fun y hy => ?_⟩
    · by_cases h0 : len = 0
      · subst h0; exact .inl ⟨⟨_, _, rfl⟩, rfl⟩
      · obtain ⟨xb, xo, xs⟩ := x
        have hs : xs = none := by
          have hz := (hB 0 (by omega)).1 0
          have hl0 := hv (B 0)
          have := hz _ (List.getElem?_eq_getElem (show 0 < (vs (B 0)).length by omega))
          simpa [Addr.add] using World.cell?_spot this
        subst hs
        refine .inr ⟨xb, xo, cap, by simp, by simp; omega, fun j u hu => ?_⟩
        obtain ⟨i, r, y, rfl, h1, h2⟩ := flS_inv vs hv hu
        have hi : i < len := by
          have := (List.getElem?_eq_some_iff.1 h1).1
          simpa using this
        have ey : y = B i := by
          rw [List.getElem?_map, List.getElem?_range hi] at h1
          simpa using h1.symm
        subst ey
        have := (hB i hi).1 r u h2
        have ea : (⟨xb, xo, none⟩ : Addr).add (i * m + r) = ⟨xb, xo + (i * m + r), none⟩ := by
          by_cases h : i * m + r = 0
          · rw [h]; simp [Addr.add]
          · generalize i * m + r = q at *
            simp [Addr.add, h]
        rw [ea] at this
        exact this
    · obtain ⟨i, hi, rfl⟩ := List.mem_map.1 hy
      exact (hB i (List.mem_range.1 hi)).2

/-- a row of structs that is being filled: the first k stand, the rest is zero -/
def partS (vs : α → List Value) (Z : List Value) (m : Nat) (zs : List α) (k j : Nat) : Value := if j < k * m then (flS vs zs).getD j undef else Z.getD (j % m) undef
theorem partS_lt {Z : List Value} {m k j : Nat} {zs : List α} {u : Value} (h : (flS vs zs)[j]? = some u) (hj : j < k * m) : partS vs Z m zs k j = u := by
  unfold partS; rw [if_pos hj, List.getD_eq_getElem?_getD, h]; rfl
theorem partS_far {Z : List Value} {m k j : Nat} {zs : List α} (h : j < k * m ∨ (k + 1) * m ≤ j) : partS vs Z m zs k j = partS vs Z m zs (k + 1) j := by
  unfold partS
  rcases h with h | h
  · rw [if_pos h, if_pos (by rw [Nat.succ_mul]; omega)]
  · rw [if_neg (by rw [Nat.succ_mul] at h; omega), if_neg (by omega)]
theorem row_of_partS {Z : List Value} {m : Nat} (hv : ∀ x, (vs x).length = m) {wr : World} {b : Nat} {t : TypeId} {zs : List α} (h : wr.rowIs b t (zs.length * m) (partS vs Z m zs zs.length)) : Cells wr b (flS vs zs) := by
  refine ⟨fun i v hv' => ?_, fun i => h.frozen i, h.lt⟩
  have hi := (List.getElem?_eq_some_iff.1 hv').1
  rw [flS_length vs hv] at hi
  rw [h.cell hi, partS_lt hv' hi]
end
theorem rowIs_madeS (w : World) (Z : Array Value) (n : Nat) (t : TypeId) (f : Nat → Value) (hf : ∀ i, i < n → Z[i % Z.size]! = f i) : (w.alloc (.cells (madeCells Z n) t)).rowIs w.heap.size t n f :=
  ⟨_, blk_alloc_new _ _, size_madeCells _ _, fun i hi => by rw [← hf i hi]; simp [madeCells, hi]⟩
/-- make of structs -/
theorem run_make_srow {P : Program} (t e : TypeId) (z : Value) (size bytes : Nat) (ht : P.underlying t = some (.slice e)) (hinfo : (P.info? e).map (fun i => (i.zero, i.size, i.bytes)) = some (some z, size, bytes))
    (kl kc : IntKind) (n : Nat) (hbytes : bytes * n ≤ 281474976710656) (h63 : n ≤ 9223372036854775807) (w : World) :
    (Instr.makeSlice t (.int kl (n : Int)) (.int kc (n : Int))).run P w = .ok (.slice (some ⟨w.heap.size, 0, none⟩) n n) (w.alloc (.cells (madeCells z.cells (n * size)) e)) := by
  obtain ⟨i, hi, hzz⟩ := Option.map_eq_some_iff.1 hinfo
  simp only [Prod.mk.injEq] at hzz
  obtain ⟨hz, hs, hb⟩ := hzz
  have hb' : (i.bytes : Int) * (n : Int) ≤ 281474976710656 := by
    have h : ((i.bytes * n : Nat) : Int) ≤ 281474976710656 := by rw [hb]; omega
    rwa [Int.natCast_mul] at h
  have hr := run_make (P := P) w t e i z ht hi hz kl kc n n (by omega) (Int.le_refl _) hb' (by omega)
  simp only [Int.toNat_natCast, hs] at hr
  exact hr
end Go.Proofs.YtbgldggaiefhoaaDoor

/- A number that is handed back with true. -/
namespace Go.Proofs.YtbgldggaiefhoaaDoor
open Go.RowKit

theorem GivB.ok {x S : Nat} {w w' : World} (h : cn .f32 x = S) (hf : fin .f32 S = true) (hb : Below w.heap.size w w') : GivB S true w (.returned (.tuple #[.float .f32 (ifF x), .bool (fin .f32 x)])) w' := by
  have h1 := GivB.num h hb
  have e : ifF S = S := by unfold ifF; rw [hf]; rfl
  rw [e, hf] at h1
  exact h1
theorem GivB.yes {x S : Nat} {w w' : World} (h : cn .f32 x = S) (hb : Below w.heap.size w w') : GivB S true w (.returned (.tuple #[.float .f32 x, .bool true])) w' := ⟨x, h, rfl, hb⟩
end Go.Proofs.YtbgldggaiefhoaaDoor

/- A number that is handed back where something is valid. -/
namespace Go.Proofs.YtbgldggaiefhoaaDoor
open Go.RowKit
def cS (b : Bool) (V : Nat) : Nat := bif b then ifF V else 0
def cB (b : Bool) (V : Nat) : Bool := b && fin .f32 V
theorem cGiv_no {b : Bool} {V : Nat} {w w' : World} (h : b = false) (hb : Below w.heap.size w w') : GivB (cS b V) (cB b V) w (.returned (.tuple #[.float .f32 0, .bool false])) w' := by
  unfold cS cB; rw [h, cond_false, Bool.false_and]; exact GivB.no hb
theorem cGiv_yes {b : Bool} {V x : Nat} {w w' : World} (h : b = true) (hx : cn .f32 x = V) (hb : Below w.heap.size w w') : GivB (cS b V) (cB b V) w (.returned (.tuple #[.float .f32 (ifF x), .bool (fin .f32 x)])) w' := by
  unfold cS cB; rw [h, cond_true, Bool.true_and]; exact GivB.num hx hb
end Go.Proofs.YtbgldggaiefhoaaDoor

/- A float operation that stands behind a guard, as the walk meets it. -/
namespace Go.Proofs.YtbgldggaiefhoaaDoor
open Go

theorem upon_fa {P : Program} {o : Oper} {a : Act} {K : Act → World → Prop} {Q : Exit → Act → World → Prop} {w : World} (op : BinOp) (hop : isArith op = true) (t : TypeId) (k : FloatKind) (m n : Nat)
    (h : ∀ r j, FR op k m n r → Oper.upon P o a K Q ((Result.ok (Value.float k r) (w.drewN j)).andThen fun v w' => .ok (Next.value v) w')) :
    Oper.upon P o a K Q (((binOp op t (.float k m) (.float k n)).run P w).andThen fun v w' => .ok (Next.value v) w') := by
  obtain ⟨r, j, hr, hw⟩ := run_farith (P := P) op hop t k m n w
  rw [hw]
  exact h r j hr
theorem upon_up {P : Program} {o : Oper} {a : Act} {K : Act → World → Prop} {Q : Exit → Act → World → Prop} {w : World} {S D : TypeId} (hs : P.underlying S = some (.float .f32)) (hd : P.underlying D = some (.float .f64)) (m : Nat)
    (h : ∀ r j, UR m r → Oper.upon P o a K Q ((Result.ok (Value.float .f64 r) (w.drewN j)).andThen fun v w' => .ok (Next.value v) w')) :
    Oper.upon P o a K Q (((convert S D (.float .f32 m)).run P w).andThen fun v w' => .ok (Next.value v) w') := by
  obtain ⟨r, j, hr, hw⟩ := run_up hs hd m w
  rw [hw]
  exact h r j hr
end Go.Proofs.YtbgldggaiefhoaaDoor

/- Numbers at least 0, at most 1, shares: words alone. -/
namespace Go.Proofs.YtbgldggaiefhoaaDoor
open Go.RowKit
set_option linter.unusedVariables false

theorem fopl' (op : BinOp) (k : FloatKind) (x y : Nat) : fop op k (cn k x) y = fop op k x y := by
  unfold fop
  rw [← floatBits_cn op k (cn k x) y, cn_cn, floatBits_cn]
theorem fopr' (op : BinOp) (k : FloatKind) (x y : Nat) : fop op k x (cn k y) = fop op k x y := by
  unfold fop
  rw [← floatBits_cn op k x (cn k y), cn_cn, floatBits_cn]
theorem fop_cc (op : BinOp) (k : FloatKind) (x y : Nat) : cn k (fop op k x y) = fop op k x y := by
  unfold fop
  cases h : floatBits op k x y with
  | none => exact cn_of_nan (nn_qn k)
  | some r => exact cn_of_num (floatBits_num h)
/-- a goal at which the walk stands -/
structure Stop (p : Prop) : Prop where
  out : p
theorem Stop.go {p : Prop} (h : Stop p) : p := h.out
/-- at least 0 -/
def ge0 (x : Nat) : Bool := FloatKind.f32.format.order x 0 == some .gt || FloatKind.f32.format.order x 0 == some .eq
/-- from a to b -/
def geN (x a : Nat) : Bool := FloatKind.f32.format.order x a == some .gt || FloatKind.f32.format.order x a == some .eq
def leN (x b : Nat) : Bool := FloatKind.f32.format.order x b == some .lt || FloatKind.f32.format.order x b == some .eq
def wth (x a b : Nat) : Bool := geN x a && leN x b
/-- a share -/
def shr (x : Nat) : Bool := geN x 0 && leN x 1065353216
/-- a shine -/
def shn (x : Nat) : Bool := gt0 x && leN x 1065353216
/-- finite and at least 0 -/
def lst (x : Nat) : Bool := fin .f32 x && geN x 0
theorem gt0_ge {x : Nat} (h : gt0 x = true) : geN x 0 = true := by unfold geN; unfold gt0 at h; rw [h]; rfl
theorem shn_shr (x : Nat) : (shr x && gt0 x) = shn x := by
  unfold shr shn
  cases h : gt0 x
  · simp
  · rw [gt0_ge h]; simp
/-- a bool; the world is the same -/
def BolS (b : Bool) (w : World) (e : Ending) (w' : World) : Prop := e = .returned (.bool b) ∧ w = w'
end Go.Proofs.YtbgldggaiefhoaaDoor

/- Words on numbers, and numbers that are handed back. -/


/- Whether a number lies within: the program. -/
namespace Go.Proofs.YtbgldggaiefhoaaDoor
open Go.RowKit
set_option linter.unusedVariables false

theorem implWithin_any (x a b : Nat) (w : World) : Calls Tryd.prog 166 #[.float .f32 x, .float .f32 a, .float .f32 b] w (BolS (wth x a b) w) := by
  unfold wth
  cases B0 : geN x a
  · skip
    have o0 : (FloatKind.f32.format.order x a == some .gt || FloatKind.f32.format.order x a == some .eq) = false := B0
    have H0 := Lib.hid B0
    clear B0
    go_enter Tryd.func166, Tryd.ntmps166
    go_wp2
    go_ret
    exact ⟨ret_bb (by simp), rfl⟩
  · skip
    have o0 : (FloatKind.f32.format.order x a == some .gt || FloatKind.f32.format.order x a == some .eq) = true := B0
    have H0 := Lib.hid B0
    clear B0
    go_enter Tryd.func166, Tryd.ntmps166
    go_wp2
    go_ret
    exact ⟨ret_bb (by rw [Bool.true_and]; rfl), rfl⟩
end Go.Proofs.YtbgldggaiefhoaaDoor

/- Whether a number is a share: the program. -/
namespace Go.Proofs.YtbgldggaiefhoaaDoor
open Go.RowKit
set_option linter.unusedVariables false

theorem implShare_any (x : Nat) (w : World) : Calls Tryd.prog 145 #[.float .f32 x] w (BolS (shr x) w) := by
  go_enter Tryd.func145, Tryd.ntmps145
  go_wp2_with fail
  refine (implWithin_any x _ _ _).mono ?_
  rintro e w' ⟨rfl, rfl⟩
  go_wp2
  go_ret
  exact ⟨rfl, rfl⟩
end Go.Proofs.YtbgldggaiefhoaaDoor

/- Numbers that are not negative: the program. -/
namespace Go.Proofs.YtbgldggaiefhoaaDoor
open Go.RowKit
set_option linter.unusedVariables false

theorem implNotNeg_any (x : Nat) (w : World) : Calls Tryd.prog 89 #[.float .f32 x] w (Bol (lst x) w) := by
  unfold lst
  cases B0 : fin .f32 x
  · skip
    have H0 := Lib.hid B0
    clear B0
    go_enter Tryd.func89, Tryd.ntmps89
    go_wp2_with fail
    refine (implFinite_any x _).mono ?_
    rw [H0.out]
    rintro e w' ⟨rfl, n, rfl⟩
    go_wp2
    go_ret
    exact ⟨ret_bb (by simp), _, rfl⟩
  · skip
    have H0 := Lib.hid B0
    clear B0
    go_enter Tryd.func89, Tryd.ntmps89
    go_wp2_with fail
    refine (implFinite_any x _).mono ?_
    rw [H0.out]
    rintro e w' ⟨rfl, n, rfl⟩
    go_wp2
    go_ret
    exact ⟨ret_bb (by rw [Bool.true_and]; rfl), _, rfl⟩
end Go.Proofs.YtbgldggaiefhoaaDoor

/- Numbers that are not negative: the program. -/


/- Numbers that are at least 0: the specification. -/
namespace Go.Proofs.YtbgldggaiefhoaaDoor
open Go.RowKit
set_option linter.unusedVariables false

theorem specLeast_any (x : Nat) (w : World) : Calls Tryd.prog 82 #[.float .f32 x] w (Bol (lst x) w) := by
  unfold lst
  cases B0 : fin .f32 x
  · skip
    have H0 := Lib.hid B0
    clear B0
    go_enter Tryd.func82, Tryd.ntmps82
    go_wp2_with fail
    refine (specFinite_any x _).mono ?_
    rw [H0.out]
    rintro e w' ⟨rfl, n, rfl⟩
    go_wp2
    go_ret
    exact ⟨ret_bb (by simp), _, rfl⟩
  · skip
    have H0 := Lib.hid B0
    clear B0
    go_enter Tryd.func82, Tryd.ntmps82
    go_wp2_with fail
    refine (specFinite_any x _).mono ?_
    rw [H0.out]
    rintro e w' ⟨rfl, n, rfl⟩
    go_wp2
    go_ret
    exact ⟨ret_bb (by rw [Bool.true_and]; rfl), _, rfl⟩
end Go.Proofs.YtbgldggaiefhoaaDoor

/- Numbers that are at least 0: the specification. -/


/- Numbers of chapter 5: at least 0, at most 1, shares; what tells them on both sides. -/
namespace Go.Proofs.YtbgldggaiefhoaaDoor
open Go.RowKit
set_option linter.unusedVariables false

theorem implShine_any (x : Nat) (w : World) : Calls Tryd.prog 117 #[.float .f32 x] w (BolS (shn x) w) := by
  rw [← shn_shr]
  cases B0 : shr x
  · skip
    have H0 := Lib.hid B0
    clear B0
    go_enter Tryd.func117, Tryd.ntmps117
    go_wp2_with fail
    refine (implShare_any x _).mono ?_
    rw [H0.out]
    rintro e w' ⟨rfl, rfl⟩
    go_wp2
    go_ret
    exact ⟨ret_bb (by simp), rfl⟩
  · skip
    have H0 := Lib.hid B0
    clear B0
    go_enter Tryd.func117, Tryd.ntmps117
    go_wp2_with fail
    refine (implShare_any x _).mono ?_
    rw [H0.out]
    rintro e w' ⟨rfl, rfl⟩
    go_wp2
    go_ret
    exact ⟨ret_bb (by rw [Bool.true_and]; rfl), rfl⟩
end Go.Proofs.YtbgldggaiefhoaaDoor

/- Lists of faces: copies, and their comparison. -/
namespace Go.Proofs.YtbgldggaiefhoaaDoor
open Go.RowKit
set_option linter.unusedVariables false

theorem FA.len (s : FA) : s.vs.length = 3 := rfl
abbrev FcRow (w : World) (v : Value) (zs : List FA) : Prop := SRow FA.vs w v zs
instance : Inhabited FA := ⟨⟨0, 0, 0⟩⟩
theorem FA.to_any (s : FA) (w : World) : Calls Tryd.prog 41 #[.agg #[.float .f32 s.wd, .float .f32 s.sh, .float .f32 s.wm]] w fun e w' => e = .returned (.agg #[.float .f32 s.wd, .float .f32 s.sh, .float .f32 s.wm]) ∧ Below w.heap.size w w' := by
  go_enter Tryd.func41, Tryd.ntmps41
  go_wp2
  refine bodyPost_ret (v := .agg #[.float .f32 s.wd, .float .f32 s.sh, .float .f32 s.wm]) ?_ rfl ?_
  · rw [results_cell1 rfl]
    go_simp
  · exact ⟨rfl, (by repeat (first | exact Below.refl _ _ | refine Below.setCell ?_ (by first | exact Nat.le_refl _ | (simp; done) | (simp; omega) | omega) _ | refine below_drewN ?_ _ | refine Below.alloc ?_ (by first | exact Nat.le_refl _ | (simp; done) | (simp; omega) | omega) _))⟩
theorem Tryd.rowOfFc : (Tryd.prog.info? 66).map (fun i => (i.zero, i.size, i.bytes)) = some (some (.agg #[.float .f32 0, .float .f32 0, .float .f32 0]), 3, 12) := by kernel_rfl
def FcNew (zs : List FA) (w : World) (e : Ending) (w' : World) : Prop :=
  e = .returned (.slice (some ⟨w.heap.size, 0, none⟩) zs.length zs.length) ∧ Below w.heap.size w w' ∧ Cells w' w.heap.size (flS FA.vs zs)
theorem FA.at {zs : List FA} {k : Nat} (hk : k < zs.length) : ∃ s, zs[k]? = some s := ⟨_, List.getElem?_eq_getElem hk⟩

set_option maxHeartbeats 1600000 in
theorem FA.toS_new (v : Value) (zs : List FA) (w : World) (h : FcRow w v zs) (hl : zs.length ≤ 1048576) :
    Calls Tryd.prog 12 #[v] w (FcNew zs w) := by
  have hmk := run_make_srow (P := Tryd.prog) 26 66 (.agg #[.float .f32 0, .float .f32 0, .float .f32 0]) 3 12 Tryd.underlying26 Tryd.rowOfFc .i64 .i64 zs.length (by omega) (by omega)
  have R0 := Lib.hid (rowIs_madeS w #[.float .f32 0, .float .f32 0, .float .f32 0] (zs.length * 3) 66 (partS FA.vs [.float .f32 0, .float .f32 0, .float .f32 0] 3 zs 0) (fun i hi => by
    have h3 : i % 3 < 3 := Nat.mod_lt _ (by decide)
    show (#[.float .f32 0, .float .f32 0, .float .f32 0] : Array Value)[i % 3]! = partS FA.vs [.float .f32 0, .float .f32 0, .float .f32 0] 3 zs 0 i
    unfold partS
    rw [Nat.zero_mul, if_neg (Nat.not_lt_zero i)]
    generalize i % 3 = r at *
    match r, h3 with
    | 0, _ => rfl
    | 1, _ => rfl
    | 2, _ => rfl))
  have HC := Lib.hid (fun w1 (hb : Below w.heap.size w w1) (hn : 1 ≤ zs.length) => (h.below hb).cells FA.len hn)
  have FIN := Lib.hid (fun (w1 : World) (h : w1.rowIs w.heap.size 66 (zs.length * 3) (partS FA.vs [.float .f32 0, .float .f32 0, .float .f32 0] 3 zs zs.length)) => row_of_partS FA.len h)
  have AT := Lib.hid (fun k (hk : k < zs.length) => FA.at (zs := zs) hk)
  have FLA := Lib.hid (fun i s (hs : zs[i]? = some s) j u (hu : s.vs[j]? = some u) => flS_at FA.vs FA.len hs hu)
  obtain ⟨a, cap, rfl⟩ := h.shape
  unfold FcNew
  clear h
  have hzc : (Value.agg #[.float .f32 0, .float .f32 0, .float .f32 0]).cells = #[.float .f32 0, .float .f32 0, .float .f32 0] := rfl
  rw [hzc] at hmk
  generalize hn : zs.length = n at *
  have Hn := Lib.hid hn
  clear hn
  go_enter Tryd.func12, Tryd.ntmps12
  go_wp2
  go_loopw [4] (fun i wr => ∃ k : Nat, k ≤ n ∧ i = .int .i64 k ∧ Hid (Below w.heap.size w wr) ∧ Hid (wr.rowIs w.heap.size 66 (n * 3) (partS FA.vs [.float .f32 0, .float .f32 0, .float .f32 0] 3 zs k))) (fun i _ => n - (intOf i).toNat)
  case atStart => exact ⟨0, Nat.zero_le _, rfl, Lib.hid ((Below.refl _ _).alloc (Nat.le_refl _) _), R0⟩
  case round =>
    obtain ⟨k, hk, rfl, hb, hr⟩ := hrel
    by_cases hlt : k < n
    · obtain ⟨b, off, c', e, hc⟩ := HC.out wr hb.out (by omega)
      have ea : a = some ⟨b, off, none⟩ := by cases e; rfl
      obtain ⟨s, hs⟩ := AT.out k hlt
      have z := hc k s hs
      have z0 : wr.cell? ⟨b, off + k * 3, none⟩ = some (.float .f32 s.wd) := z 0 _ rfl
      have z1 : wr.cell? ⟨b, off + k * 3 + 1, none⟩ = some (.float .f32 s.sh) := z 1 _ rfl
      have z2 : wr.cell? ⟨b, off + k * 3 + 2, none⟩ = some (.float .f32 s.wm) := z 2 _ rfl
      have FK := Lib.hid (FLA.out k s hs)
      clear e hc z hs hmk
      subst ea
      have hi : (0 : Int) ≤ (k : Int) := by omega
      have hi' : (k : Int) < (n : Int) := by omega
      go_wp2_with fail
      refine (FA.to_any s _).mono ?_
      rintro e w1 ⟨rfl, hb1⟩
      have hr1 := Lib.hid (hr.out.of_block (hb1.block _ hr.out.lt))
      have Bw := Lib.hid (below_step hb.out hb1)
      have y0 : w1.cell? ⟨w.heap.size, k * 3, none⟩ = some (partS FA.vs [.float .f32 0, .float .f32 0, .float .f32 0] 3 zs k (k * 3 + 0)) := hr1.out.cell (by omega)
      have y1 : w1.cell? ⟨w.heap.size, k * 3 + 1, none⟩ = some (partS FA.vs [.float .f32 0, .float .f32 0, .float .f32 0] 3 zs k (k * 3 + 1)) := hr1.out.cell (by omega)
      have y2 : w1.cell? ⟨w.heap.size, k * 3 + 2, none⟩ = some (partS FA.vs [.float .f32 0, .float .f32 0, .float .f32 0] 3 zs k (k * 3 + 2)) := hr1.out.cell (by omega)
      have yf := hr1.out.frozen
      clear hr hb hb1 z0 z1 z2
      go_wp2
      go_roundw
      case rel =>
        refine ⟨k + 1, by omega, by go_num, Lib.hid (((((((Bw.out).setCell (p := ⟨w.heap.size, k * 3, none⟩) (Nat.le_refl _) (.float .f32 s.wd))).setCell (p := ⟨w.heap.size, k * 3 + 1, none⟩) (Nat.le_refl _) (.float .f32 s.sh))).setCell (p := ⟨w.heap.size, k * 3 + 2, none⟩) (Nat.le_refl _) (.float .f32 s.wm))), Lib.hid (World.rowIs.congr (((((((hr1.out).set (k * 3) (.float .f32 s.wd))).set (k * 3 + 1) (.float .f32 s.sh))).set (k * 3 + 2) (.float .f32 s.wm))) (fun i hi => ?_))⟩
        by_cases e2 : i = k * 3 + 2
        · rw [if_pos e2, e2]
          exact (partS_lt (FK.out 2 _ rfl) (by omega)).symm
        rw [if_neg e2]
        by_cases e1 : i = k * 3 + 1
        · rw [if_pos e1, e1]
          exact (partS_lt (FK.out 1 _ rfl) (by omega)).symm
        rw [if_neg e1]
        by_cases e0 : i = k * 3
        · rw [if_pos e0, e0]
          exact (partS_lt (FK.out 0 _ rfl) (by omega)).symm
        rw [if_neg e0]
        exact partS_far (by omega)
      case measure => simp [intOf]; omega
    · have e := Lib.hid (show k = n by omega)
      clear HC AT hmk
      go_wp2
      go_ret
      have ek := e.out
      subst ek
      exact ⟨rfl, hb.out, FIN.out _ hr.out⟩

theorem FA.eq_any (s : FA) (w : World) : Calls Tryd.prog 44 #[.agg #[.float .f32 s.wd, .float .f32 s.sh, .float .f32 s.wm], .agg #[.float .f32 s.wd, .float .f32 s.sh, .float .f32 s.wm]] w (YesB w) := by
  go_enter Tryd.func44, Tryd.ntmps44
  go_wp2_with (first | (refine wpList_up rfl Tryd.underlying54 Tryd.underlying83 _ rfl _ rfl ?_; intro _ _ _) | (go_at_call 57; refine (same_end _ (by assumption) (by assumption) rfl).mono ?_; rintro e w' ⟨rfl, m, rfl⟩))
  go_ret
  exact ⟨rfl, (by repeat (first | exact Below.refl _ _ | refine Below.setCell ?_ (by first | exact Nat.le_refl _ | (simp; done) | (simp; omega) | omega) _ | refine below_drewN ?_ _ | refine Below.alloc ?_ (by first | exact Nat.le_refl _ | (simp; done) | (simp; omega) | omega) _))⟩

set_option maxHeartbeats 800000 in
theorem FA.eqS_any (v v' : Value) (zs : List FA) (w : World) (h : FcRow w v zs) (h' : FcRow w v' zs) : Calls Tryd.prog 14 #[v, v'] w (YesB w) := by
  have HC := Lib.hid (fun w1 (hb : Below w.heap.size w w1) (hn : 1 ≤ zs.length) => (h.below hb).cells FA.len hn)
  have HC' := Lib.hid (fun w1 (hb : Below w.heap.size w w1) (hn : 1 ≤ zs.length) => (h'.below hb).cells FA.len hn)
  have AT := Lib.hid (fun k (hk : k < zs.length) => FA.at (zs := zs) hk)
  have HL := Lib.hid h.len
  obtain ⟨a, cap, rfl⟩ := h.shape
  obtain ⟨a', cap', rfl⟩ := h'.shape
  clear h h'
  generalize zs.length = n at *
  go_enter Tryd.func14, Tryd.ntmps14
  go_wp2
  go_loopw [5] (fun i wr => ∃ k : Nat, k ≤ n ∧ i = .int .i64 k ∧ Hid (Below w.heap.size w wr)) (fun i _ => n - (intOf i).toNat)
  case atStart => exact ⟨0, Nat.zero_le _, rfl, Lib.hid (Below.refl _ _)⟩
  case round =>
    obtain ⟨k, hk, rfl, hb⟩ := hrel
    have hG := HL.out
    by_cases hlt : k < n
    · obtain ⟨b, off, c1, e, hc⟩ := HC.out wr hb.out (by omega)
      obtain ⟨b', off', c2, e', hc'⟩ := HC'.out wr hb.out (by omega)
      have ea : a = some ⟨b, off, none⟩ := by cases e; rfl
      have ea' : a' = some ⟨b', off', none⟩ := by cases e'; rfl
      obtain ⟨s, hs⟩ := AT.out k hlt
      have z := hc k s hs
      have y := hc' k s hs
      have FACT := Lib.hid (fun w1 (hw : Ext wr w1) => And.intro (hw.cell (show wr.cell? ⟨b, off + k * 3, none⟩ = some (.float .f32 s.wd) from z 0 _ rfl)) (And.intro (hw.cell (show wr.cell? ⟨b, off + k * 3 + 1, none⟩ = some (.float .f32 s.sh) from z 1 _ rfl)) (And.intro (hw.cell (show wr.cell? ⟨b, off + k * 3 + 2, none⟩ = some (.float .f32 s.wm) from z 2 _ rfl)) (And.intro (hw.cell (show wr.cell? ⟨b', off' + k * 3, none⟩ = some (.float .f32 s.wd) from y 0 _ rfl)) (And.intro (hw.cell (show wr.cell? ⟨b', off' + k * 3 + 1, none⟩ = some (.float .f32 s.sh) from y 1 _ rfl)) (hw.cell (show wr.cell? ⟨b', off' + k * 3 + 2, none⟩ = some (.float .f32 s.wm) from y 2 _ rfl)))))))
      clear e hc e' hc' z y hs
      subst ea
      subst ea'
      have Bw0 := Lib.hid hb.out
      clear hb HC HC' AT
      have hi : (0 : Int) ≤ (k : Int) := by omega
      have hi' : (k : Int) < (n : Int) := by omega
      go_wp2
      refine wp_region_looseC (Ext _) (fun _ _ v => v = .bool true) (Ext.start _) (by kernel_rfl) (by kernel_rfl) ?_
      repeat (refine wpLoose_valK rfl ?_ (fun w1 hw1 => ?_) (fun K hK => ?_); rotate_left; (focus (have hF := FACT.out w1 hw1; go_simp; first | done | rfl)); go_simp; refine hK _ ?_; clear hK K)
      refine wpLoose_callS rfl 44 #[.agg #[.float .f32 s.wd, .float .f32 s.sh, .float .f32 s.wm], .agg #[.float .f32 s.wd, .float .f32 s.sh, .float .f32 s.wm]] (fun w1 => ?_) (fun w1 hw1 => ?_) (fun v hv => ?_)
      · go_simp
      · refine (FA.eq_any s w1).mono ?_
        rintro e w2 ⟨rfl, hb⟩
        exact ⟨_, rfl, rfl, hb⟩
      subst hv
      repeat (first | (refine wpLoose_farithB rfl _ _ _ _ _ rfl rfl _ _ _ rfl rfl ?_; intro _ _) | (refine wpLoose_valK rfl ?_ (fun w1 hw1 => ?_) (fun K hK => ?_); rotate_left; (focus (have hF := FACT.out w1 hw1; go_simp; first | done | rfl)); go_simp; refine hK _ ?_; clear hK K))
      refine wpLoose_nil ?_; intro w1 hb
      have Bw := Lib.hid (below_step Bw0.out hb)
      clear hb
      go_wp2
      go_roundw
      case rel => exact ⟨k + 1, by omega, by go_num, Bw⟩
      case measure => simp [intOf]; omega
    · go_wp2
      go_ret
      exact ⟨rfl, hb.out⟩

theorem FA.sz_fit (a : Option Addr) (n c left : Nat) (w : World) (hn : n ≤ left) (hl : left ≤ 1048576) :
    Calls Tryd.prog 10 #[.slice a n c, .int .i64 left] w fun e w' => e = .returned (.int .i64 ((left - n : Nat) : Int)) ∧ w = w' := by
  have e : ((left : Int) - (n : Int)) = ((left - n : Nat) : Int) := by omega
  go_enter Tryd.func10, Tryd.ntmps10
  go_wp2
  go_ret
  exact ⟨by simp, rfl⟩
theorem FA.sz_over (a : Option Addr) (n c left : Nat) (w : World) (hn : left < n) (hm : n ≤ 9223372036854775807) (hl : left ≤ 1048576) :
    Calls Tryd.prog 10 #[.slice a n c, .int .i64 left] w fun e w' => e = .returned (.int .i64 (-1)) ∧ w = w' := by
  go_enter Tryd.func10, Tryd.ntmps10
  go_wp2
  go_ret
  exact ⟨rfl, rfl⟩
end Go.Proofs.YtbgldggaiefhoaaDoor

/- Faces: whether they are valid, as the program tells. -/
namespace Go.Proofs.YtbgldggaiefhoaaDoor
open Go.RowKit
set_option linter.unusedVariables false

def vFace (s : FA) : Bool := pos s.wd && shn s.sh && lst s.wm
theorem vFace_spec (s : FA) : vFace s = (pos s.wd && gt0 s.sh && leN s.sh 1065353216 && lst s.wm) := by unfold vFace shn; cases pos s.wd <;> cases gt0 s.sh <;> simp

theorem implFace_any (s : FA) (w : World) : Calls Tryd.prog 77 #[.agg #[.float .f32 s.wd, .float .f32 s.sh, .float .f32 s.wm]] w (BolB (vFace s) w) := by
  unfold vFace
  cases B0 : pos s.wd
  · skip
    have H0 := Lib.hid B0
    clear B0
    go_enter Tryd.func77, Tryd.ntmps77
    go_wp2_with fail
    refine (implPos_any s.wd _).mono ?_
    rw [H0.out]
    rintro e w' ⟨rfl, n, rfl⟩
    go_wp2
    go_ret
    exact ⟨ret_bb (by simp), (by first | exact below_drewN (below_al1 _ _) _ | exact below_al1 _ _ | exact (by repeat (first | exact Below.refl _ _ | refine Below.setCell ?_ (by first | exact Nat.le_refl _ | (simp; done) | (simp; omega) | omega) _ | refine below_drewN ?_ _ | refine Below.alloc ?_ (by first | exact Nat.le_refl _ | (simp; done) | (simp; omega) | omega) _)))⟩
  · skip
    cases B1 : shn s.sh
    · skip
      have H0 := Lib.hid B0
      have H1 := Lib.hid B1
      clear B0 B1
      go_enter Tryd.func77, Tryd.ntmps77
      go_wp2_with fail
      refine (implPos_any s.wd _).mono ?_
      rw [H0.out]
      rintro e w' ⟨rfl, n, rfl⟩
      go_wp2_with fail
      refine (implShine_any s.sh _).mono ?_
      rw [H1.out]
      rintro e w' ⟨rfl, rfl⟩
      go_wp2
      go_ret
      exact ⟨ret_bb (by simp), (by first | exact below_drewN (below_al1 _ _) _ | exact below_al1 _ _ | exact (by repeat (first | exact Below.refl _ _ | refine Below.setCell ?_ (by first | exact Nat.le_refl _ | (simp; done) | (simp; omega) | omega) _ | refine below_drewN ?_ _ | refine Below.alloc ?_ (by first | exact Nat.le_refl _ | (simp; done) | (simp; omega) | omega) _)))⟩
    · skip
      cases B2 : lst s.wm
      · skip
        have H0 := Lib.hid B0
        have H1 := Lib.hid B1
        have H2 := Lib.hid B2
        clear B0 B1 B2
        go_enter Tryd.func77, Tryd.ntmps77
        go_wp2_with fail
        refine (implPos_any s.wd _).mono ?_
        rw [H0.out]
        rintro e w' ⟨rfl, n, rfl⟩
        go_wp2_with fail
        refine (implShine_any s.sh _).mono ?_
        rw [H1.out]
        rintro e w' ⟨rfl, rfl⟩
        go_wp2_with fail
        refine (implNotNeg_any s.wm _).mono ?_
        rw [H2.out]
        rintro e w' ⟨rfl, n, rfl⟩
        go_wp2
        go_ret
        exact ⟨ret_bb (by simp), (by first | exact below_drewN (below_al1 _ _) _ | exact below_al1 _ _ | exact (by repeat (first | exact Below.refl _ _ | refine Below.setCell ?_ (by first | exact Nat.le_refl _ | (simp; done) | (simp; omega) | omega) _ | refine below_drewN ?_ _ | refine Below.alloc ?_ (by first | exact Nat.le_refl _ | (simp; done) | (simp; omega) | omega) _)))⟩
      · skip
        have H0 := Lib.hid B0
        have H1 := Lib.hid B1
        have H2 := Lib.hid B2
        clear B0 B1 B2
        go_enter Tryd.func77, Tryd.ntmps77
        go_wp2_with fail
        refine (implPos_any s.wd _).mono ?_
        rw [H0.out]
        rintro e w' ⟨rfl, n, rfl⟩
        go_wp2_with fail
        refine (implShine_any s.sh _).mono ?_
        rw [H1.out]
        rintro e w' ⟨rfl, rfl⟩
        go_wp2_with fail
        refine (implNotNeg_any s.wm _).mono ?_
        rw [H2.out]
        rintro e w' ⟨rfl, n, rfl⟩
        go_wp2
        go_ret
        exact ⟨ret_bb (by simp), (by first | exact below_drewN (below_al1 _ _) _ | exact below_al1 _ _ | exact (by repeat (first | exact Below.refl _ _ | refine Below.setCell ?_ (by first | exact Nat.le_refl _ | (simp; done) | (simp; omega) | omega) _ | refine below_drewN ?_ _ | refine Below.alloc ?_ (by first | exact Nat.le_refl _ | (simp; done) | (simp; omega) | omega) _)))⟩

end Go.Proofs.YtbgldggaiefhoaaDoor

/- Whether a list are faces: both sides. -/
namespace Go.Proofs.YtbgldggaiefhoaaDoor
open Go.RowKit
set_option linter.unusedVariables false

theorem specFaceAt_any (s : FA) (b o : Nat) (w : World) (c0 : w.cell? ⟨b, o, none⟩ = some (.float .f32 s.wd)) (c1 : w.cell? ⟨b, o + 1, none⟩ = some (.float .f32 s.sh)) (c2 : w.cell? ⟨b, o + 2, none⟩ = some (.float .f32 s.wm)) : Calls Tryd.prog 74 #[.pointer (some ⟨b, o, none⟩)] w (Bol (vFace s) w) := by
  rw [vFace_spec]
  cases B0 : pos s.wd
  · skip
    have H0 := Lib.hid B0
    clear B0
    go_enter Tryd.func74, Tryd.ntmps74
    go_wp2_with fail
    refine (specAbove_any s.wd _).mono ?_
    rw [H0.out]
    rintro e w' ⟨rfl, n, rfl⟩
    go_wp2
    go_ret
    exact ⟨ret_bb (by simp), _, rfl⟩
  · skip
    cases B1 : gt0 s.sh
    · skip
      have H0 := Lib.hid B0
      have o1 : (FloatKind.f32.format.order s.sh 0 == some .gt) = false := B1
      have H1 := Lib.hid B1
      clear B0 B1
      go_enter Tryd.func74, Tryd.ntmps74
      go_wp2_with fail
      refine (specAbove_any s.wd _).mono ?_
      rw [H0.out]
      rintro e w' ⟨rfl, n, rfl⟩
      go_wp2
      go_ret
      exact ⟨ret_bb (by simp), _, rfl⟩
    · skip
      cases B2 : leN s.sh 1065353216
      · skip
        have H0 := Lib.hid B0
        have o1 : (FloatKind.f32.format.order s.sh 0 == some .gt) = true := B1
        have H1 := Lib.hid B1
        have o2 : (FloatKind.f32.format.order s.sh 1065353216 == some .lt || FloatKind.f32.format.order s.sh 1065353216 == some .eq) = false := B2
        have H2 := Lib.hid B2
        clear B0 B1 B2
        go_enter Tryd.func74, Tryd.ntmps74
        go_wp2_with fail
        refine (specAbove_any s.wd _).mono ?_
        rw [H0.out]
        rintro e w' ⟨rfl, n, rfl⟩
        go_wp2
        go_ret
        exact ⟨ret_bb (by simp), _, rfl⟩
      · skip
        cases B3 : lst s.wm
        · skip
          have H0 := Lib.hid B0
          have o1 : (FloatKind.f32.format.order s.sh 0 == some .gt) = true := B1
          have H1 := Lib.hid B1
          have o2 : (FloatKind.f32.format.order s.sh 1065353216 == some .lt || FloatKind.f32.format.order s.sh 1065353216 == some .eq) = true := B2
          have H2 := Lib.hid B2
          have H3 := Lib.hid B3
          clear B0 B1 B2 B3
          go_enter Tryd.func74, Tryd.ntmps74
          go_wp2_with fail
          refine (specAbove_any s.wd _).mono ?_
          rw [H0.out]
          rintro e w' ⟨rfl, n, rfl⟩
          go_wp2_with fail
          refine (specLeast_any s.wm _).mono ?_
          rw [H3.out]
          rintro e w' ⟨rfl, n, rfl⟩
          go_wp2
          go_ret
          exact ⟨ret_bb (by simp), _, rfl⟩
        · skip
          have H0 := Lib.hid B0
          have o1 : (FloatKind.f32.format.order s.sh 0 == some .gt) = true := B1
          have H1 := Lib.hid B1
          have o2 : (FloatKind.f32.format.order s.sh 1065353216 == some .lt || FloatKind.f32.format.order s.sh 1065353216 == some .eq) = true := B2
          have H2 := Lib.hid B2
          have H3 := Lib.hid B3
          clear B0 B1 B2 B3
          go_enter Tryd.func74, Tryd.ntmps74
          go_wp2_with fail
          refine (specAbove_any s.wd _).mono ?_
          rw [H0.out]
          rintro e w' ⟨rfl, n, rfl⟩
          go_wp2_with fail
          refine (specLeast_any s.wm _).mono ?_
          rw [H3.out]
          rintro e w' ⟨rfl, n, rfl⟩
          go_wp2
          go_ret
          exact ⟨ret_bb (by simp), _, rfl⟩

def arF (zs : List FA) : Bool := decide (1 ≤ zs.length) && decide (zs.length ≤ 8) && zs.all vFace
theorem allT_no {α : Type} {f : α → Bool} {zs : List α} {k : Nat} {s : α} (hs : zs[k]? = some s) (h : f s = false) : zs.all f = false := by
  rw [List.all_eq_false]
  exact ⟨s, List.mem_of_getElem? hs, by rw [h]; decide⟩
theorem allT_yes {α : Type} {f : α → Bool} {zs : List α} (h : ∀ (k : Nat) (s : α), zs[k]? = some s → f s = true) : zs.all f = true := by
  rw [List.all_eq_true]
  intro s hs
  obtain ⟨k, hk, rfl⟩ := List.mem_iff_getElem.1 hs
  exact h k _ (List.getElem?_eq_getElem hk)

set_option maxHeartbeats 800000 in
theorem specAre_any (v : Value) (zs : List FA) (w : World) (h : FcRow w v zs) : Calls Tryd.prog 39 #[v] w (Bol (arF zs) w) := by
  have VS := Lib.hid (fun k s (hs : zs[k]? = some s) (h : vFace s = false) => show arF zs = false by unfold arF; rw [allT_no hs h, Bool.and_false])
  have VN := Lib.hid (fun (h1 : (decide (1 ≤ zs.length) && decide (zs.length ≤ 8)) = true) h => show arF zs = true by unfold arF; rw [h1, allT_yes h]; rfl)
  have VL := Lib.hid (fun (h1 : (decide (1 ≤ zs.length) && decide (zs.length ≤ 8)) = false) => show arF zs = false by unfold arF; rw [h1]; rfl)
  have HC := Lib.hid (fun (hn : 1 ≤ zs.length) => h.cells FA.len hn)
  have AT := Lib.hid (fun k (hk : k < zs.length) => FA.at (zs := zs) hk)
  have HL := Lib.hid h.len
  obtain ⟨a, cap, rfl⟩ := h.shape
  clear h
  generalize arF zs = B at *
  generalize hn : zs.length = n at *
  have KL := Lib.hid hn
  clear hn
  by_cases h8 : n ≤ 8
  · have f2 : decide ((n : Int) ≤ 8) = true := by simp; omega
    go_enter Tryd.func39, Tryd.ntmps39
    go_wp2
    go_loopw [4] (fun i wr => ∃ k q : Nat, k ≤ n ∧ i = .int .i64 k ∧ Hid (∀ (j : Nat) (s : FA), j < k → zs[j]? = some s → vFace s = true) ∧ wr = w.drewN q) (fun i _ => n - (intOf i).toNat)
    case atStart => exact ⟨0, 0, Nat.zero_le _, rfl, Lib.hid (fun j s hj => absurd hj (Nat.not_lt_zero _)), rfl⟩
    case round =>
      obtain ⟨k, q, hk, rfl, hall, rfl⟩ := hrel
      by_cases hlt : k < n
      · obtain ⟨b0, o0, cap', e, hc⟩ := HC.out (by omega)
        have ea : a = some ⟨b0, o0, none⟩ := by cases e; rfl
        obtain ⟨s, hs⟩ := AT.out k hlt
        have z := hc k s hs
        have SF := Lib.hid (fun q => specFaceAt_any s b0 (o0 + k * 3) (w.drewN q) (z 0 _ rfl) (z 1 _ rfl) (z 2 _ rfl))
        have VSk := Lib.hid (VS.out k s hs)
        have HS := Lib.hid hs
        clear e hc z hs AT VS HC
        subst ea
        have hi : (0 : Int) ≤ (k : Int) := by omega
        have hi' : (k : Int) < (n : Int) := by omega
        have f0 : decide ((k : Int) < n) = true := by simp; omega
        cases S : vFace s
        · have V := Lib.hid (VSk.out S)
          rw [S] at SF
          clear S
          go_wp2_with fail
          refine (SF.out _).mono ?_
          rintro e w' ⟨rfl, q2, rfl⟩
          go_wp2
          go_ret
          exact ⟨ret_bb V.out, _, by first | rfl | exact World.drewN_drewN _ _ _⟩
        · have V := Lib.hid S
          rw [S] at SF
          clear S
          go_wp2_with fail
          refine (SF.out _).mono ?_
          rintro e w' ⟨rfl, q2, rfl⟩
          go_wp2
          go_roundw
          case rel => exact ⟨k + 1, _, by omega, by go_num, Lib.hid (fun j s' hj hs => by rcases Nat.lt_succ_iff_lt_or_eq.1 hj with h | h; exact hall.out j s' h hs; subst h; have he := HS.out.symm.trans hs; cases he; exact V.out), by first | rfl | exact World.drewN_drewN _ _ _⟩
          case measure => simp [intOf]; omega
      · have e := Lib.hid (show k = n by omega)
        have f0 : decide ((k : Int) < n) = false := by simp; omega
        by_cases h1 : 1 ≤ n
        · have f1 : decide ((1 : Int) ≤ n) = true := by simp; omega
          have V := Lib.hid (VN.out (by simp [h1, h8]) (fun j s hs => hall.out j s (by have a1 := (List.getElem?_eq_some_iff.1 hs).1; have a2 := e.out; have a3 := KL.out; omega) hs))
          clear AT VS HC VN
          go_wp2
          go_ret
          exact ⟨ret_bb (by rw [V.out]), _, rfl⟩
        · have f1 : decide ((1 : Int) ≤ n) = false := by simp; omega
          have V := Lib.hid (VL.out (by simp [h1]))
          clear AT VS HC VN
          go_wp2
          go_ret
          exact ⟨ret_bb (by rw [V.out]), _, rfl⟩
  · have f2 : decide ((n : Int) ≤ 8) = false := by simp; omega
    have f1 : decide ((1 : Int) ≤ n) = true := by simp; omega
    have V := Lib.hid (VL.out (by simp; omega))
    have hG := HL.out
    have f3 : decide ((0 : Int) < n) = true := by simp; omega
    clear AT VS HC VN
    go_enter Tryd.func39, Tryd.ntmps39
    go_wp2
    go_loopw [4] (fun i wr => i = .int .i64 0 ∧ wr = w) (fun i _ => 0)
    case atStart => exact ⟨rfl, rfl⟩
    case round =>
      obtain ⟨rfl, rfl⟩ := hrel
      go_wp2
      go_ret
      exact ⟨ret_bb (by rw [V.out]), 0, rfl⟩

def IdxW (b : Bool) (w : World) (e : Ending) (w' : World) : Prop := ∃ i : Int, e = .returned (.int .i64 i) ∧ decide (0 ≤ i) = b ∧ Below w.heap.size w w'
theorem litFc_any (s : FA) (q : Nat) (w : World) (hq : w.cell? ⟨q, 0, none⟩ = some (.func (.func 77) #[] #[])) :
    Calls Tryd.prog 116 #[.agg #[.float .f32 s.wd, .float .f32 s.sh, .float .f32 s.wm], .pointer (some ⟨q, 0, none⟩)] w (BolB (!(vFace s)) w) := by
  have TK := Lib.hid (fun w1 => implFace_any s w1)
  generalize vFace s = v at *
  have hlt := cell_lt hq
  have hq2 : (w.alloc (.cells ([.float .f32 s.wd, .float .f32 s.sh, .float .f32 s.wm] : List Value).toArray 66)).cell? ⟨q, 0, none⟩ = some (.func (.func 77) #[] #[]) := ((below_al1 w _).cell (p := ⟨q, 0, none⟩) hlt).trans hq
  have Bw := Lib.hid (below_al1 w (.cells ([.float .f32 s.wd, .float .f32 s.sh, .float .f32 s.wm] : List Value).toArray 66))
  go_enter Tryd.func116, Tryd.ntmps116
  go_wp2_with fail
  refine (TK.out _).mono ?_
  rintro e w1 ⟨rfl, hb⟩
  have Bw := Lib.hid (below_step Bw.out hb)
  clear hb
  go_wp2
  go_ret
  exact ⟨rfl, Bw.out⟩

set_option maxHeartbeats 800000 in
theorem idxFc_any (v : Value) (zs : List FA) (q : Nat) (w : World) (h : FcRow w v zs) (hq : w.cell? ⟨q, 0, none⟩ = some (.func (.func 77) #[] #[])) :
    Calls Tryd.prog 144 #[v, .func (.func 116) #[] #[.pointer (some ⟨q, 0, none⟩)]] w (IdxW (!(zs.all vFace)) w) := by
  have hlt := cell_lt hq
  have TK := Lib.hid (fun s w1 (hb : Below w.heap.size w w1) => litFc_any s q w1 ((hb.cell (p := ⟨q, 0, none⟩) hlt).trans hq))
  have HC := Lib.hid (fun w1 (hb : Below w.heap.size w w1) (hn : 1 ≤ zs.length) => (h.below hb).cells FA.len hn)
  have VN := Lib.hid (fun k s (hs : zs[k]? = some s) (e : vFace s = false) => show zs.all vFace = false from allT_no hs e)
  have VY := Lib.hid (fun h => show zs.all vFace = true from allT_yes h)
  have AT := Lib.hid (fun k (hk : k < zs.length) => FA.at (zs := zs) hk)
  have HL := Lib.hid h.len
  obtain ⟨s0, cap, rfl⟩ := h.shape
  clear h hq
  generalize zs.all vFace = v at *
  generalize hm : zs.length = m at *
  have KL := Lib.hid hm
  clear hm
  go_enter Tryd.func144, Tryd.ntmps144
  go_wp2
  go_loopw [5, 8] (fun _ i wr => ∃ k : Nat, k ≤ m ∧ i = .int .i64 k ∧ Hid (∀ (j : Nat) (s : FA), j < k → zs[j]? = some s → vFace s = true) ∧ Hid (Below w.heap.size w wr)) (fun _ i _ => m - (intOf i).toNat)
  case atStart => exact ⟨0, Nat.zero_le _, rfl, Lib.hid (fun j s hj => absurd hj (Nat.not_lt_zero _)), Lib.hid (Below.refl _ _)⟩
  case round =>
    obtain ⟨k, hk, rfl, hall, Bw⟩ := hrel
    have hG := HL.out
    by_cases hlt : k < m
    · obtain ⟨b0, o0, c0, e, hc⟩ := HC.out wr Bw.out (by omega)
      have ea : s0 = some ⟨b0, o0, none⟩ := by cases e; rfl
      obtain ⟨s, hs⟩ := AT.out k hlt
      have z := hc k s hs
      have z0 : wr.cell? ⟨b0, o0 + k * 3, none⟩ = some (.float .f32 s.wd) := z 0 _ rfl
      have z1 : wr.cell? ⟨b0, o0 + k * 3 + 1, none⟩ = some (.float .f32 s.sh) := z 1 _ rfl
      have z2 : wr.cell? ⟨b0, o0 + k * 3 + 2, none⟩ = some (.float .f32 s.wm) := z 2 _ rfl
      have VNk := Lib.hid (VN.out k s hs)
      have HS := Lib.hid hs
      have TKs := Lib.hid (TK.out s wr Bw.out)
      clear e hc z hs HC VN AT TK
      subst ea
      have hi : (0 : Int) ≤ (k : Int) := by omega
      have hi' : (k : Int) < (m : Int) := by omega
      cases B : vFace s
      · have V := Lib.hid (VNk.out B)
        rw [B] at TKs
        clear B
        go_wp2_with fail
        refine TKs.out.mono ?_
        rintro e w1 ⟨rfl, hb⟩
        have Bw := Lib.hid (below_step Bw.out hb)
        clear hb
        go_wp2
        go_ret
        exact ⟨_, rfl, by rw [V.out]; simp, Bw.out⟩
      · have V := Lib.hid B
        rw [B] at TKs
        clear B
        go_wp2_with fail
        refine TKs.out.mono ?_
        rintro e w1 ⟨rfl, hb⟩
        have Bw := Lib.hid (below_step Bw.out hb)
        clear hb
        go_wp2
        go_roundw
        case rel => exact ⟨k + 1, by omega, by go_num, Lib.hid (fun j s' hj hs => by rcases Nat.lt_succ_iff_lt_or_eq.1 hj with h | h; exact hall.out j s' h hs; subst h; have he := HS.out.symm.trans hs; cases he; exact V.out), Bw⟩
        case measure => simp [intOf]; omega
    · have e := Lib.hid (show k = m by omega)
      have V := Lib.hid (VY.out (fun j s hs => hall.out j s (by have h1 := (List.getElem?_eq_some_iff.1 hs).1; have h2 := e.out; have h3 := KL.out; omega) hs))
      clear HC VN AT TK
      go_wp2
      go_ret
      exact ⟨_, rfl, by rw [V.out]; rfl, Bw.out⟩

theorem allFc_any (v : Value) (zs : List FA) (w : World) (h : FcRow w v zs) :
    Calls Tryd.prog 76 #[v, .func (.func 77) #[] #[]] w (BolB (zs.all vFace) w) := by
  have H := Lib.hid (fun w1 (hb : Below w.heap.size w w1) q hq => idxFc_any v zs q w1 (h.below hb) hq)
  have Bw := Lib.hid (below_al1 w (.cells ([.func (.func 77) #[] #[]] : List Value).toArray 106))
  obtain ⟨s0, cap, rfl⟩ := h.shape
  clear h
  generalize zs.all vFace = V at *
  go_enter Tryd.func76, Tryd.ntmps76
  go_wp2_with (first | (go_at_call 144; refine (H.out _ Bw.out _ (by simp)).mono ?_; rintro e w1 ⟨i, rfl, hi, hb⟩; have Bw := Lib.hid (below_step Bw.out hb); have HI := Lib.hid hi; clear hb hi) | go_in)
  go_ret
  exact ⟨ret_bb (by rw [HI.out]; simp), Bw.out⟩

theorem implAre_any (v : Value) (zs : List FA) (w : World) (h : FcRow w v zs) : Calls Tryd.prog 42 #[v] w (BolB (arF zs) w) := by
  have HA := Lib.hid (allFc_any v zs w h)
  have HL := Lib.hid h.len
  obtain ⟨a, cap, rfl⟩ := h.shape
  clear h
  unfold arF
  generalize zs.all vFace = V at *
  generalize zs.length = n at *
  have hG := HL.out
  by_cases h1 : 1 ≤ n
  · have f1 : decide ((1 : Int) ≤ n) = true := by simp; omega
    by_cases h8 : n ≤ 8
    · have f2 : decide ((n : Int) ≤ 8) = true := by simp; omega
      go_enter Tryd.func42, Tryd.ntmps42
      go_wp2_with fail
      refine HA.out.mono ?_
      rintro e w1 ⟨rfl, hb⟩
      go_wp2
      go_ret
      exact ⟨ret_bb (by simp [h1, h8]), hb⟩
    · have f2 : decide ((n : Int) ≤ 8) = false := by simp; omega
      go_enter Tryd.func42, Tryd.ntmps42
      go_wp2
      go_ret
      exact ⟨ret_bb (by simp [h8]), Below.refl _ _⟩
  · have f1 : decide ((1 : Int) ≤ n) = false := by simp; omega
    go_enter Tryd.func42, Tryd.ntmps42
    go_wp2
    go_ret
    exact ⟨ret_bb (by simp [h1]), Below.refl _ _⟩

end Go.Proofs.YtbgldggaiefhoaaDoor

/- The text of faces: both sides. -/
namespace Go.Proofs.YtbgldggaiefhoaaDoor
open Go.RowKit
set_option linter.unusedVariables false

/-- the numbers of faces, one after another -/
def fcs (zs : List FA) : List Nat := zs.flatMap (fun s => [s.wd, s.sh, s.wm])
theorem fcs_len (zs : List FA) : (fcs zs).length = 3 * zs.length := by
  unfold fcs
  induction zs with
  | nil => rfl
  | cons s r ih => rw [List.flatMap_cons, List.length_append, ih, List.length_cons]; show 3 + _ = _; rw [List.length_cons]; omega
theorem fcs_take {zs : List FA} {k : Nat} {s : FA} (h : zs[k]? = some s) : fcs (zs.take (k + 1)) = fcs (zs.take k) ++ [s.wd, s.sh, s.wm] := by
  unfold fcs
  rw [List.take_add_one, h, List.flatMap_append]
  rfl
theorem fcs_wf {zs : List FA} (h : ∀ s ∈ zs, s.wf) : ∀ x ∈ fcs zs, (Lit.float .f32 x).wf = true := by
  intro x hx
  unfold fcs at hx
  obtain ⟨s, hs, hx⟩ := List.mem_flatMap.1 hx
  obtain ⟨h0, h1, h2⟩ := h s hs
  simp only [List.mem_cons, List.not_mem_nil, or_false] at hx
  rcases hx with rfl | rfl | rfl
  · exact h0
  · exact h1
  · exact h2
theorem wf_getD {l : List Nat} (h : ∀ x ∈ l, (Lit.float .f32 x).wf = true) : ∀ i, i < l.length → (Lit.float .f32 (l.getD i 0)).wf = true := by
  intro i hi
  rw [List.getD_eq_getElem?_getD, List.getElem?_eq_getElem hi]
  exact h _ (List.getElem_mem hi)
theorem fcs_ok {zs : List FA} (h : ∀ s ∈ zs, s.wf) (h8 : zs.length ≤ 8) : LOk (fcs zs) := ⟨by rw [fcs_len]; omega, wf_getD (fcs_wf h)⟩
theorem arF_len {zs : List FA} (h : arF zs = true) : 1 ≤ zs.length ∧ zs.length ≤ 8 := by
  unfold arF at h
  rw [Bool.and_eq_true, Bool.and_eq_true] at h
  exact ⟨of_decide_eq_true h.1.1, of_decide_eq_true h.1.2⟩
theorem cells3 {w : World} {p a b c : Nat} (h : Cells w p [.float .f32 a, .float .f32 b, .float .f32 c]) (i : Nat) (hi : i < [a, b, c].length) : w.cell? ⟨p, 0 + i, none⟩ = some (.float .f32 ([a, b, c].getD i 0)) := by
  rw [Nat.zero_add]
  match i, hi with
  | 0, _ => exact h.at 0 rfl
  | 1, _ => exact h.at 1 rfl
  | 2, _ => exact h.at 2 rfl
  | i + 3, hi => exact absurd hi (by show ¬ (i + 3 < 3); omega)

set_option maxHeartbeats 3200000 in
set_option maxRecDepth 20000 in
theorem specFcT_any (v : Value) (zs : List FA) (w : World) (h : FcRow w v zs) (hw : ∀ s ∈ zs, s.wf) (hl : 1 ≤ zs.length ∧ zs.length ≤ 8) : Calls Tryd.prog 40 #[v] w fun e w' => e = .returned (.string (nTx (fcs zs))) ∧ Below w.heap.size w w' := by
  have HN := Lib.hid (fun w1 v1 (h1 : FRow w1 v1 (fcs zs)) => specNTx_any v1 (fcs zs) w1 h1 (fcs_ok hw hl.2).2 (fcs_ok hw hl.2).1)
  have HS := Lib.hid (fun k s (hs : zs[k]? = some s) => fcs_take hs)
  have HF := Lib.hid (fun k => fcs_len (zs.take k))
  have AT := Lib.hid (fun k (hk : k < zs.length) => FA.at (zs := zs) hk)
  have ET : Hid (zs.take zs.length = zs) := Lib.hid (List.take_length)
  obtain ⟨b, off, cap, rfl, hc⟩ := h.cells FA.len hl.1
  have HC := Lib.hid (fun (w1 : World) (hb : Below w.heap.size w w1) k s (hs : zs[k]? = some s) j u (hu : s.vs[j]? = some u) => (hb.cell (p := ⟨b, off + (k * 3 + j), none⟩) (cell_lt (hc k s hs j u hu))).trans (hc k s hs j u hu))
  have O0 := Lib.hid (Own.empty w w.heap.size (Nat.le_refl _))
  have B0 := Lib.hid (below_al1 w (.cells #[] 54))
  obtain ⟨hl1, hl8⟩ := hl
  clear h hw hc
  generalize hlen : zs.length = n at *
  have KL := Lib.hid hlen
  clear hlen
  go_enter Tryd.func40, Tryd.ntmps40
  go_wp2
  go_loopw [3, 4] (fun v i wr => ∃ k : Nat, k ≤ n ∧ i = .int .i64 k ∧ Hid (Own wr w.heap.size v (fcs (zs.take k))) ∧ Hid (Below w.heap.size w wr)) (fun _ i _ => n - (intOf i).toNat)
  case atStart => exact ⟨0, Nat.zero_le _, rfl, O0, B0⟩
  case round =>
    obtain ⟨k, hk, rfl, ho, hb⟩ := hrel
    by_cases hlt : k < n
    · obtain ⟨s, hs⟩ := AT.out k hlt
      have z := HC.out _ hb.out k s hs
      have x0 := Lib.hid (show wr.cell? ⟨b, off + k * 3, none⟩ = some (.float .f32 s.wd) from z 0 _ rfl)
      have x1 := Lib.hid (show wr.cell? ⟨b, off + k * 3 + 1, none⟩ = some (.float .f32 s.sh) from z 1 _ rfl)
      have x2 := Lib.hid (show wr.cell? ⟨b, off + k * 3 + 2, none⟩ = some (.float .f32 s.wm) from z 2 _ rfl)
      have EE := Lib.hid (HS.out k s hs)
      have LL := Lib.hid (HF.out k)
      have FACT := Lib.hid (fun w1 (hw : Ext wr w1) => And.intro (hw.cell x0.out) (And.intro (hw.cell x1.out) (hw.cell x2.out)))
      clear z hs
      go_wp2
      refine wp_region_facts_tail 17 [] (Ext wr) (TS [(28, fLit 3 [.float .f32 s.wd, .float .f32 s.sh, .float .f32 s.wm])]) (Pers.ext _) (TS.pers _) (Ext.start _) (by kernel_rfl) (by kernel_rfl) (by intro d v c a w h; cases d <;> exact h) ?_
      simp only [List.take_succ_cons, List.take_zero, List.drop_succ_cons, List.drop_zero]
      repeat (refine wpF_val rfl monoQ_end (by rintro _ ⟨⟩; rfl) ?_ (fun w1 hw1 => ?_) (fun K hK => ?_); rotate_left; (focus (have hF := FACT.out w1 hw1; go_simp; first | done | rfl)); go_simp; refine hK _ ?_; clear hK K)
      refine wpF_lit rfl 28 rfl 3 [.float .f32 s.wd, .float .f32 s.sh, .float .f32 s.wm] 54 rfl (fun w1 => ?_) (fun q => ?_)
      · go_simp
      refine wpFacts_nil ?_
      intro w1 hC hF
      have HL := Lib.hid (lit_of (fact_of (d := 28) rfl hF (by repeat (first | exact Or.inr ⟨rfl, rfl⟩ | refine Or.inl ?_))))
      have O1 := Lib.hid (ho.out.kept hC)
      have B1 := Lib.hid (below_step hb.out hC)
      clear hF FACT hC
      refine wpList_cat32 rfl _ _ rfl w.heap.size _ _ [s.wd, s.sh, s.wm] rfl O1.out q 0 3 rfl (cells3 HL.out) (by have := LL.out; rw [List.length_take] at this; have := KL.out; omega) (by show 3 ≤ 1048576; decide) B1.out.size (fun v' w' hO hB => ?_)
      have O2 : Hid (Own w' w.heap.size v' (fcs (zs.take (k + 1)))) := Lib.hid (by rw [EE.out]; exact hO)
      have B2 := Lib.hid (B1.out.trans hB)
      clear hO hB
      go_wp2
      go_roundw
      case rel => exact ⟨k + 1, by omega, by go_num, O2, B2⟩
      case measure => simp [intOf]; omega
    · have e : k = n := by omega
      subst e
      rw [ET.out] at ho
      have HA := Lib.hid (HN.out wr _ (ho.out.row (by rw [fcs_len]; have := KL.out; omega)))
      go_wp2_with fail
      refine HA.out.mono ?_
      rintro e w2 ⟨rfl, hb2⟩
      have B2 := Lib.hid (below_step hb.out hb2)
      clear hb2
      go_wp2
      go_ret
      exact ⟨rfl, B2.out⟩

theorem lrowsV {w : World} {q : Nat} {v : Value} {l : List Nat} (hq : w.cell? ⟨q, 0, none⟩ = some v) (hr : FRow w v l) (ho : LOk l) : LRows w q [v] [l] :=
  ⟨rfl, fun j hj => by
    match j, hj with
    | 0, _ => exact hq
    | j + 1, hj => exact absurd hj (by show ¬ (j + 1 < 1); omega), fun j hj => by
    match j, hj with
    | 0, _ => exact hr
    | j + 1, hj => exact absurd hj (by show ¬ (j + 1 < 1); omega), fun j hj => by
    match j, hj with
    | 0, _ => exact ho
    | j + 1, hj => exact absurd hj (by show ¬ (j + 1 < 1); omega)⟩

set_option maxHeartbeats 3200000 in
set_option maxRecDepth 20000 in
theorem implFT_any (v : Value) (zs : List FA) (w : World) (h : FcRow w v zs) (hw : ∀ s ∈ zs, s.wf) (ht : Tabs w) : Calls Tryd.prog 13 #[v] w (TxB (nTx (fcs zs)) (arF zs) w) := by
  have HV := Lib.hid (implAre_any v zs w h)
  unfold TxB
  cases hv : arF zs
  · have HB := Lib.hid hv
    obtain ⟨a, cap, rfl⟩ := h.shape
    clear hv h hw ht
    go_enter Tryd.func13, Tryd.ntmps13
    go_wp2_with fail
    refine HV.out.mono ?_
    rw [HB.out]
    rintro e w1 ⟨rfl, hb⟩
    have B := Lib.hid hb
    clear hb
    go_wp2
    go_ret2
    exact ⟨rfl, B.out⟩
  · have HB := Lib.hid hv
    obtain ⟨hl1, hl8⟩ := arF_len hv
    have HN := Lib.hid (fun w1 q v1 (hT : Tabs w1) (hq : w1.cell? ⟨q, 0, none⟩ = some v1) (h1 : FRow w1 v1 (fcs zs)) => show Calls Tryd.prog 43 #[.slice (some ⟨q, 0, none⟩) 1 1] w1 (fun e w' => e = .returned (.string (nTx (fcs zs))) ∧ Below w1.heap.size w1 w') from by
      have := textLists_any q _ [fcs zs] w1 (lrowsV hq h1 (fcs_ok hw hl8)) (by simp) (by simp) hT
      rwa [show jn 59 ([fcs zs].map nTx) = nTx (fcs zs) from jn_one 59 _] at this)
    have HT := Lib.hid ht
    have HS := Lib.hid (fun k s (hs : zs[k]? = some s) => fcs_take hs)
    have HF := Lib.hid (fun k => fcs_len (zs.take k))
    have FL := Lib.hid (fcs_len zs)
    have AT := Lib.hid (fun k (hk : k < zs.length) => FA.at (zs := zs) hk)
    have ET : Hid (zs.take zs.length = zs) := Lib.hid (List.take_length)
    obtain ⟨b, off, cap, rfl, hc⟩ := h.cells FA.len hl1
    have HC := Lib.hid (fun (w1 : World) (hb : Below w.heap.size w w1) k s (hs : zs[k]? = some s) j u (hu : s.vs[j]? = some u) => (hb.cell (p := ⟨b, off + (k * 3 + j), none⟩) (cell_lt (hc k s hs j u hu))).trans (hc k s hs j u hu))
    clear hv h hw ht hc
    generalize nTx (fcs zs) = T at *
    generalize hlen : zs.length = n at *
    have KL := Lib.hid hlen
    clear hlen
    go_enter Tryd.func13, Tryd.ntmps13
    go_wp2_with fail
    refine HV.out.mono ?_
    rw [HB.out]
    rintro e w1 ⟨rfl, hb1⟩
    have B1 := Lib.hid hb1
    have O0 : Hid (Own w1 w1.heap.size (.slice none 0 0) []) := Lib.hid ⟨rfl, .inl ⟨rfl, rfl⟩⟩
    clear hb1
    go_wp2
    go_loopw [4, 12] (fun v i wr => ∃ k : Nat, k ≤ n ∧ i = .int .i64 k ∧ Hid (Own wr w1.heap.size v (fcs (zs.take k))) ∧ Hid (Below w1.heap.size w1 wr)) (fun _ i _ => n - (intOf i).toNat)
    case atStart => exact ⟨0, Nat.zero_le _, rfl, O0, Lib.hid (Below.refl _ _)⟩
    case round =>
      obtain ⟨k, hk, rfl, ho, hb⟩ := hrel
      by_cases hlt : k < n
      · obtain ⟨s, hs⟩ := AT.out k hlt
        have z := HC.out _ (below_step B1.out hb.out) k s hs
        have x0 : wr.cell? ⟨b, off + k * 3, none⟩ = some (.float .f32 s.wd) := z 0 _ rfl
        have x1 : wr.cell? ⟨b, off + k * 3 + 1, none⟩ = some (.float .f32 s.sh) := z 1 _ rfl
        have x2 : wr.cell? ⟨b, off + k * 3 + 2, none⟩ = some (.float .f32 s.wm) := z 2 _ rfl
        have EE := Lib.hid (HS.out k s hs)
        have LL := Lib.hid (HF.out k)
        have O1 := Lib.hid ((ho.out.al (.cells #[.float .f32 s.wd, .float .f32 s.sh, .float .f32 s.wm] 66)).al (.cells #[.float .f32 s.wd, .float .f32 s.sh, .float .f32 s.wm] 54))
        have B2 := Lib.hid ((hb.out.alloc hb.out.size (.cells #[.float .f32 s.wd, .float .f32 s.sh, .float .f32 s.wm] 66)).alloc (by have := hb.out.size; simp; omega) (.cells #[.float .f32 s.wd, .float .f32 s.sh, .float .f32 s.wm] 54))
        have C3 := Cells.made (wr.alloc (.cells #[.float .f32 s.wd, .float .f32 s.sh, .float .f32 s.wm] 66)) [.float .f32 s.wd, .float .f32 s.sh, .float .f32 s.wm] 54
        rw [show (wr.alloc (.cells #[.float .f32 s.wd, .float .f32 s.sh, .float .f32 s.wm] 66)).heap.size = wr.heap.size + 1 from by simp] at C3
        have C3 := Lib.hid C3
        clear z hs
        go_wp2_with (at_builtin; refine wpList_cat32 rfl _ _ rfl w1.heap.size _ _ [s.wd, s.sh, s.wm] rfl O1.out (wr.heap.size + 1) 0 3 rfl (cells3 C3.out) (by have := LL.out; rw [List.length_take] at this; have := KL.out; omega) (by show 3 ≤ 1048576; decide) B2.out.size ?_; intro v' w' hO hB)
        have O2 : Hid (Own w' w1.heap.size v' (fcs (zs.take (k + 1)))) := Lib.hid (by rw [EE.out]; exact hO)
        have B3 := Lib.hid (B2.out.trans hB)
        clear hO hB x0 x1 x2
        go_roundw
        case rel => exact ⟨k + 1, by omega, by go_num, O2, B3⟩
        case measure => simp [intOf]; omega
      · have e : k = n := by omega
        subst e
        rw [ET.out] at ho
        have hr := ho.out.row (by have := FL.out; have := KL.out; omega)
        obtain ⟨a5, c5, rfl⟩ := hr.shape
        have B4 := Lib.hid (below_al1 wr (.cells #[.slice a5 (fcs zs).length c5] 30))
        have HA := Lib.hid (HN.out (wr.alloc (.cells #[.slice a5 (fcs zs).length c5] 30)) wr.heap.size (.slice a5 (fcs zs).length c5) (HT.out.below (below_step (below_step B1.out hb.out) B4.out)) ((World.cell?_alloc_at _ _ _ _ (by simp)).trans rfl) (hr.below B4.out))
        have B5 := Lib.hid (below_step (below_step B1.out hb.out) B4.out)
        clear hr
        go_wp2_with fail
        refine HA.out.mono ?_
        rintro e w2 ⟨rfl, hb2⟩
        have B2 := Lib.hid (below_step B5.out hb2)
        clear hb2
        go_wp2
        go_ret2
        exact ⟨rfl, B2.out⟩

set_option maxRecDepth 20000 in
theorem specFT_any (v : Value) (zs : List FA) (w : World) (h : FcRow w v zs) (hw : ∀ s ∈ zs, s.wf) : Calls Tryd.prog 11 #[v] w (TxB (nTx (fcs zs)) (arF zs) w) := by
  have HV := Lib.hid (specAre_any v zs w h)
  have HT := Lib.hid (fun hl n => specFcT_any v zs (w.drewN n) h.drewN hw hl)
  obtain ⟨a, cap, rfl⟩ := h.shape
  clear h hw
  unfold TxB
  cases hv : arF zs
  · have HB := Lib.hid hv
    clear hv HT
    go_enter Tryd.func11, Tryd.ntmps11
    go_wp2_with fail
    refine HV.out.mono ?_
    rw [HB.out]
    rintro e w1 ⟨rfl, n, rfl⟩
    go_wp2
    go_ret2
    exact ⟨rfl, below_drewN (Below.refl _ _) n⟩
  · have HB := Lib.hid hv
    have HT := Lib.hid (HT.out (arF_len hv))
    clear hv
    generalize nTx (fcs zs) = T at *
    go_enter Tryd.func11, Tryd.ntmps11
    go_wp2_with fail
    refine HV.out.mono ?_
    rw [HB.out]
    rintro e w1 ⟨rfl, n, rfl⟩
    go_wp2_with fail
    refine (HT.out n).mono ?_
    rintro e w2 ⟨rfl, hb⟩
    have B := Lib.hid (below_step (below_drewN (Below.refl w.heap.size w) n) hb)
    clear hb
    go_wp2
    go_ret2
    exact ⟨rfl, B.out⟩

theorem fnExactFacesText_walk (v : Value) (zs : List FA) (w : World) (h : FcRow w v zs) (hf : ∀ x ∈ zs, x.wf) (ht : Tabs w) : Calls Tryd.prog 3 #[v] w (Tru w) := by
  have CS := Lib.hid (fun v1 w1 (h1 : FcRow w1 v1 zs) => specFT_any v1 zs w1 h1 hf)
  have CI := Lib.hid (fun v1 w1 (h1 : FcRow w1 v1 zs) (hT : Tabs w1) => implFT_any v1 zs w1 h1 hf hT)
  have HT := Lib.hid ht
  clear hf ht
  unfold TxB at *
  generalize (bif arF zs then nTx (fcs zs) else (⟨#[]⟩ : ByteArray)) = S at *
  generalize arF zs = ok at *
  have A := Lib.hid h
  have HL := Lib.hid h.len
  obtain ⟨a, cap, rfl⟩ := h.shape
  clear h
  by_cases hl : zs.length ≤ 1048576
  · have HN := Lib.hid hl
    have Bw := Lib.hid (Below.refl w.heap.size w)
    clear hl
    go_enter Tryd.func3, Tryd.ntmps3
    go_wp2_with fail
    refine (FA.sz_fit _ _ _ 1048576 _ HN.out (Nat.le_refl _)).mono ?_
    rintro _ _ ⟨rfl, rfl⟩
    go_wp2_with fail
    refine (FA.toS_new _ zs _ A.out HN.out).mono ?_
    rintro _ w1 ⟨rfl, hb, hc⟩
    have X := Lib.hid (SRow.of_cells hc (by have := HN.out; have hm : maxLen = 9223372036854775807 := rfl; omega))
    clear hc
    have A := Lib.hid (A.out.below hb)
    have Bw := Lib.hid (below_step Bw.out hb)
    clear hb
    go_wp2_with fail
    refine (CS.out _ _ X.out).mono ?_
    rintro _ w2 ⟨rfl, hb⟩
    have A := Lib.hid (A.out.below hb)
    have Bw := Lib.hid (below_step Bw.out hb)
    clear hb
    clear X
    go_wp2_with fail
    refine (FA.toS_new _ zs _ A.out HN.out).mono ?_
    rintro _ w1 ⟨rfl, hb, hc⟩
    have X := Lib.hid (SRow.of_cells hc (by have := HN.out; have hm : maxLen = 9223372036854775807 := rfl; omega))
    clear hc
    have A := Lib.hid (A.out.below hb)
    have Bw := Lib.hid (below_step Bw.out hb)
    clear hb
    go_wp2_with fail
    refine (CI.out _ _ X.out (HT.out.below Bw.out)).mono ?_
    rintro _ w2 ⟨rfl, hb⟩
    have A := Lib.hid (A.out.below hb)
    have Bw := Lib.hid (below_step Bw.out hb)
    have X := Lib.hid (X.out.below hb)
    clear hb
    go_wp2_with fail
    refine (FA.toS_new _ zs _ A.out HN.out).mono ?_
    rintro _ w3 ⟨rfl, hb, hc⟩
    have Z := Lib.hid (SRow.of_cells hc (by have := HN.out; have hm : maxLen = 9223372036854775807 := rfl; omega))
    clear hc
    have X := Lib.hid (X.out.below hb)
    have Bw := Lib.hid (below_step Bw.out hb)
    clear hb
    go_wp2_with fail
    refine (FA.eqS_any _ _ zs _ X.out Z.out).mono ?_
    rintro _ w4 ⟨rfl, hb⟩
    have Bw := Lib.hid (below_step Bw.out hb)
    clear hb
    go_wp2
    go_ret
    exact Tru.below Bw.out
  · have hL := HL.out
    go_enter Tryd.func3, Tryd.ntmps3
    go_wp2_with fail
    refine (FA.sz_over _ _ _ 1048576 _ (by omega) hL (Nat.le_refl _)).mono ?_
    rintro _ _ ⟨rfl, rfl⟩
    go_wp2
    go_ret
    exact Tru.same
end Go.Proofs.YtbgldggaiefhoaaDoor
