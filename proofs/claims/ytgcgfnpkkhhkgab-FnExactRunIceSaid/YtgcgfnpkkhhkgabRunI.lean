/- Ice, tick by tick: what it is, and both sides. -/
import Derived.Test.YtgcgfnpkkhhkgabIceQ
import Derived.Test.YtgcgfnpkkhhkgabFinL
import Derived.Test.YtgcgfnpkkhhkgabLst
namespace Go.Proofs.Ytgcgfnpkkhhkgab
open Go.RowKit
set_option linter.unusedVariables false

theorem ge0_cn {x S : Nat} (h : cn .f32 x = S) : ge0 x = ge0 S := by
  unfold ge0; rw [order_zero x S (by rw [← h, cn_cn])]
theorem growX_cn (s : SF) (i k a t : Nat) : growX s (cn .f32 i) k a t = growX s i k a t := by
  unfold growX; simp only [fopl']
theorem growF_cn (s : SF) (i k a t : Nat) : growF s (cn .f32 i) k a t = growF s i k a t := by
  unfold growF; rw [growX_cn]
theorem iceOk_cn (s : SF) (i k t : Nat) : iceOk s (cn .f32 i) k t = iceOk s i k t := by
  unfold iceOk; simp only [fopl']; rw [← ge0_cn (x := i) rfl]
theorem growB_cn (s : SF) (i k a t : Nat) : growB s (cn .f32 i) k a t = growB s i k a t := by
  unfold growB growOk; rw [iceOk_cn, growF_cn]
theorem ge0_grow (s : SF) (i k a t : Nat) : ge0 (growF s i k a t) = true := by
  unfold growF
  cases h : gt0 (growX s i k a t)
  · simp only [Bool.false_eq_true, if_false]; decide +kernel
  · simp only [if_true]
    unfold ge0
    unfold gt0 at h
    rw [h]
    rfl

/-- the ice behind so many ticks -/
def iceN (s : SF) (i k t : Nat) (zs : List Nat) : Nat → Nat
  | 0 => cn .f32 i
  | j + 1 => growF s (iceN s i k t zs j) k (zs.getD j 0) t
/-- does tick j do? -/
def tickB (s : SF) (i k t : Nat) (zs : List Nat) (j : Nat) : Bool := growB s (iceN s i k t zs j) k (zs.getD j 0) t
def runB (s : SF) (i k t : Nat) (zs : List Nat) : Bool := iceOk s i k t && decide (zs.length ≤ 128) && (List.range zs.length).all (tickB s i k t zs)
def icesTo (s : SF) (i k t : Nat) (zs : List Nat) (n : Nat) : List Nat := (List.range n).map fun j => iceN s i k t zs (j + 1)
def runS (s : SF) (i k t : Nat) (zs : List Nat) : List Nat := bif runB s i k t zs then icesTo s i k t zs zs.length else []

theorem runB_ice {s : SF} {i k t : Nat} {zs : List Nat} (h : iceOk s i k t = false) : runB s i k t zs = false := by unfold runB; rw [h]; rfl
theorem runB_len {s : SF} {i k t : Nat} {zs : List Nat} (h : 128 < zs.length) : runB s i k t zs = false := by unfold runB; rw [decide_eq_false (by omega)]; simp
theorem runB_tick {s : SF} {i k t : Nat} {zs : List Nat} {j : Nat} (hj : j < zs.length) (h : tickB s i k t zs j = false) : runB s i k t zs = false := by
  unfold runB
  have : (List.range zs.length).all (tickB s i k t zs) = false := by
    rw [Bool.eq_false_iff]
    intro ha
    rw [List.all_eq_true] at ha
    have := ha j (List.mem_range.2 hj)
    rw [h] at this
    cases this
  rw [this, Bool.and_false]
theorem runB_fin {s : SF} {i k t : Nat} {zs : List Nat} (h : zs.all (fin .f32) = false) : runB s i k t zs = false := by
  cases hb : runB s i k t zs
  · rfl
  · exfalso
    rw [Bool.eq_false_iff] at h
    refine h (List.all_eq_true.2 fun z hz => ?_)
    obtain ⟨j, hj, rfl⟩ := List.mem_iff_getElem.1 hz
    unfold runB at hb
    simp only [Bool.and_eq_true] at hb
    have := List.all_eq_true.1 hb.2 j (List.mem_range.2 hj)
    unfold tickB growB growOk at this
    simp only [Bool.and_eq_true] at this
    have h2 := this.1.2
    simpa [List.getD_eq_getElem?_getD, hj] using h2
theorem runB_yes {s : SF} {i k t : Nat} {zs : List Nat} (h : iceOk s i k t = true) (hl : zs.length ≤ 128) (ha : ∀ j, j < zs.length → tickB s i k t zs j = true) : runB s i k t zs = true := by
  unfold runB
  rw [h, decide_eq_true hl, List.all_eq_true.2 (fun j hj => ha j (List.mem_range.1 hj))]
  rfl
theorem icesTo_succ (s : SF) (i k t : Nat) (zs : List Nat) (n : Nat) : icesTo s i k t zs (n + 1) = icesTo s i k t zs n ++ [iceN s i k t zs (n + 1)] := by
  unfold icesTo; rw [List.range_succ, List.map_append]; rfl
theorem runS_length (s : SF) (i k t : Nat) (zs : List Nat) : (runS s i k t zs).length ≤ 128 := by
  unfold runS
  cases hb : runB s i k t zs
  · simp
  · unfold runB at hb
    simp only [Bool.and_eq_true, decide_eq_true_eq] at hb
    simp [icesTo]
    exact hb.1.2

theorem RunB.no {s : SF} {i k t : Nat} {zs : List Nat} {w w' : World} (h : runB s i k t zs = false) (hb : Below w.heap.size w w') : LstB (runS s i k t zs) (runB s i k t zs) w (.returned (.tuple #[.slice none 0 0, .bool false])) w' := by
  unfold runS; rw [h]; exact LstB.no hb
theorem RunO.no {s : SF} {i k t : Nat} {zs : List Nat} {w w' : World} (h : runB s i k t zs = false) (hb : Below w.heap.size w w') : LstO (runS s i k t zs) (runB s i k t zs) w (.returned (.tuple #[.slice none 0 0, .bool false])) w' := by
  unfold runS; rw [h]; exact LstO.no hb
theorem RunB.yes {s : SF} {i k t : Nat} {zs L : List Nat} {w w' : World} {v : Value} (h : runB s i k t zs = true) (hr : FRow w' v L) (hm : L.map (cn .f32) = icesTo s i k t zs zs.length) (hb : Below w.heap.size w w') : LstB (runS s i k t zs) (runB s i k t zs) w (.returned (.tuple #[v, .bool true])) w' := by
  unfold runS; rw [h]; exact ⟨v, L, rfl, hr, hm, hb⟩
theorem RunO.yes {s : SF} {i k t : Nat} {zs L : List Nat} {w w' : World} {v : Value} (h : runB s i k t zs = true) (hr : ORow w.heap.size w' v L) (hm : L.map (cn .f32) = icesTo s i k t zs zs.length) (hb : Below w.heap.size w w') : LstO (runS s i k t zs) (runB s i k t zs) w (.returned (.tuple #[v, .bool true])) w' := by
  unfold runS; rw [h]; exact ⟨v, L, rfl, hr, hm, hb⟩

/-- the ice at hand, and the list so far -/
structure Ices (s : SF) (i k t : Nat) (zs : List Nat) (j r : Nat) (L : List Nat) : Prop where
  ice : cn .f32 r = iceN s i k t zs j
  ok : ∀ m, m < j → tickB s i k t zs m = true
  len : L.length = j
  map : L.map (cn .f32) = icesTo s i k t zs j
theorem Ices.start (s : SF) (i k t : Nat) (zs : List Nat) : Ices s i k t zs 0 i [] := ⟨rfl, fun m hm => absurd hm (Nat.not_lt_zero _), rfl, rfl⟩
theorem Ices.tick {s : SF} {i k t j r : Nat} {zs L : List Nat} (h : Ices s i k t zs j r L) : tickB s i k t zs j = growB s r k (zs.getD j 0) t := by
  unfold tickB; rw [← h.ice, growB_cn]
theorem Ices.step {s : SF} {i k t j r x : Nat} {zs L : List Nat} (h : Ices s i k t zs j r L) (hb : growB s r k (zs.getD j 0) t = true) (hx : cn .f32 x = growF s r k (zs.getD j 0) t) : Ices s i k t zs (j + 1) x (L ++ [x]) := by
  have hx' : cn .f32 x = iceN s i k t zs (j + 1) := by rw [hx, ← growF_cn, h.ice]; rfl
  refine ⟨hx', fun m hm => ?_, by simp [h.len], ?_⟩
  · rcases Nat.lt_succ_iff_lt_or_eq.1 hm with h1 | h1
    · exact h.ok m h1
    · subst h1; rw [h.tick]; exact hb
  · rw [icesTo_succ, List.map_append, h.map]
    simp [hx']
theorem growS_yes {s : SF} {i k a t : Nat} (h : growB s i k a t = true) : growS s i k a t = growF s i k a t := by
  unfold growB at h
  simp only [Bool.and_eq_true] at h
  unfold growS ifF
  rw [h.1, if_pos h.2]
  rfl
theorem grow_nopos {s : SF} {x k y t : Nat} (h : pos (fop .add .f32 x k) = false) : growB s x k y t = false := by
  unfold growB growOk iceOk; rw [h]; simp
theorem grow_nofin {s : SF} {x k y t : Nat} (h : fin .f32 (growF s x k y t) = false) : growB s x k y t = false := by
  unfold growB; rw [h, Bool.and_false]
theorem grow_all {s : SF} {i x k y t : Nat} (h0 : iceOk s i k t = true) (h1 : ge0 x = true) (h2 : pos (fop .add .f32 x k) = true) (h3 : fin .f32 y = true) (h4 : fin .f32 (growF s x k y t) = true) : growB s x k y t = true := by
  unfold iceOk at h0
  simp only [Bool.and_eq_true] at h0
  unfold growB growOk iceOk
  rw [h1, h2, h3, h4, h0.1.1.1.1, h0.1.1.2, h0.2]
  rfl
theorem ice_ge0 {s : SF} {i k t : Nat} (h0 : iceOk s i k t = true) : ge0 i = true := by
  unfold iceOk at h0
  simp only [Bool.and_eq_true] at h0
  exact h0.1.1.1.2
theorem add_pos {x k r : Nat} (h : FR .add .f32 x k r) : pos r = pos (fop .add .f32 x k) := by
  refine pos_cn ?_
  rw [h.1, fopl', fopr']
theorem fin_at {zs : List Nat} (h : zs.all (fin .f32) = true) {j : Nat} (hj : j < zs.length) : fin .f32 (zs.getD j 0) = true :=
  List.all_eq_true.1 h _ (by simp [List.getD_eq_getElem?_getD, hj])
end Go.Proofs.Ytgcgfnpkkhhkgab
