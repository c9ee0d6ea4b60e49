/- The specification's rod of equal cells. -/
import Derived.Test.YtkbdidpodcclfaaPlain
namespace Go.Proofs.Ytkbdidpodcclfaa
open Go.RowKit
set_option linter.unusedVariables false

def rep (k y : Nat) : List Nat := List.replicate k y
theorem rep_len (k y : Nat) : (rep k y).length = k := by simp [rep]
theorem rep_push (k y : Nat) : rep k y ++ [y] = rep (k + 1) y := by simp [rep, List.replicate_succ']
theorem Own.nil (w : World) (base : Nat) (hb : base ≤ w.heap.size) : Own w base (.slice none 0 0) [] := ⟨rfl, .inl ⟨rfl, rfl⟩⟩

/-- an append of one more of the same number -/
theorem wpList_rep {ops : Array Oper} {rest : List Oper} {o : Oper} {a : Act} {Q : Exit → Act → World → Prop} {w : World} (hgd : o.guard = none) (s x : Operand)
    (ho : o.op = .call { callee := .builtin .append, args := #[s, x], argTypes := #[23, 23] })
    (base : Nat) (v : Value) (k z : Nat) (hs : a.eval s = v) (hown : Own w base v (rep k z)) (q c : Nat) (hx : a.eval x = .slice (some ⟨q, 0, none⟩) 1 c) (hq : w.cell? ⟨q, 0, none⟩ = some (.float .f32 z))
    (hk : k ≤ 1048576) (hbase : base ≤ w.heap.size)
    (h : ∀ g cap w', Own w' base (.slice (some ⟨g, 0, none⟩) (k + 1) cap) (rep (k + 1) z) → Tur (fun b => v.ownBlock = some b) w w' → (v.ownBlock = some g ∨ g = w.heap.size) → g < w'.heap.size → wpList Try.prog ops Q rest (a.put o.dst (.slice (some ⟨g, 0, none⟩) (k + 1) cap)) w') : wpList Try.prog ops Q (o :: rest) a w := by
  refine wpList_app32L hgd s x ho base v (rep k z) hs hown q z c hx hq (by rw [rep_len]; exact hk) hbase (fun g cap w' h1 h2 h3 h4 => ?_)
  rw [rep_len] at h1 ⊢
  rw [rep_push] at h1
  exact h g cap w' h1 h2 h3 h4

/-- one step of the four: what holds behind the append -/
theorem plainStep {w w1 w' : World} {o : Obj} {base g cap k y : Nat} {v0 v1 v2 v3 : Value} {L0 L1 L2 L3 : List Nat} {us vs : List Value}
    (hw : Below w.heap.size w w1) (hbase : base = w.heap.size + 2) (hQ : Quad w1 base v0 L0 v1 L1 v2 L2 v3 L3) (hA : Cells w1 (w.heap.size + 1) us) (hR : Cells w1 w.heap.size vs)
    (h1 : Own w' base (.slice (some ⟨g, 0, none⟩) (k + 1) cap) (rep (k + 1) y)) (ht : Tur (fun b => v0.ownBlock = some b) (w1.alloc o) w') (hg : v0.ownBlock = some g ∨ g = (w1.alloc o).heap.size) :
    Quad w' base v1 L1 v2 L2 v3 L3 (.slice (some ⟨g, 0, none⟩) (k + 1) cap) (rep (k + 1) y) ∧ Cells w' (w.heap.size + 1) us ∧ Cells w' w.heap.size vs ∧ Below w.heap.size w w' := by
  refine ⟨((hQ.al o).step h1 ht hg).rot, ht.cells (hA.al o) (fun e => ?_), ht.cells (hR.al o) (fun e => ?_), ?_⟩
  · have := (hQ.o0.lt e).1; omega
  · have := (hQ.o0.lt e).1; omega
  · have hl := hA.lt
    exact (hw.alloc (by omega) o).trans (ht.below (fun j hj => by have := (hQ.o0.lt hj).1; omega) (by simp; omega))

/-- a rod of equal cells -/
def repRod (n y0 y1 y2 y3 : Nat) : RL := ⟨rep n y0, rep n y1, rep n y2, rep n y3⟩
def OutRod (n y0 y1 y2 y3 : Nat) (w : World) (e : Ending) (w' : World) : Prop := ∃ a b c d base, e = .returned (.agg #[a, b, c, d]) ∧ w.heap.size ≤ base ∧ Quad w' base a (rep n y0) b (rep n y1) c (rep n y2) d (rep n y3) ∧ Below w.heap.size w w'
theorem Quad.rod {w : World} {base n y0 y1 y2 y3 : Nat} {a b c d : Value} (h : Quad w base a (rep n y0) b (rep n y1) c (rep n y2) d (rep n y3)) (hn : n ≤ 48) : RRow w a b c d (repRod n y0 y1 y2 y3) := by
  have hl : ∀ y, (rep n y).length ≤ 1048576 := fun y => by rw [rep_len]; omega
  exact ⟨h.o0.row (hl _), h.o1.row (hl _), h.o2.row (hl _), h.o3.row (hl _)⟩
theorem Quad.kept {w w' : World} {base : Nat} {v0 : Value} {L0 : List Nat} {v1 : Value} {L1 : List Nat} {v2 : Value} {L2 : List Nat} {v3 : Value} {L3 : List Nat} (h : Quad w base v0 L0 v1 L1 v2 L2 v3 L3) (hb : Below w.heap.size w w') : Quad w' base v0 L0 v1 L1 v2 L2 v3 L3 :=
  h.tur (S := fun _ => False) (Tur.of_below hb) (fun _ _ h => h)

set_option maxHeartbeats 3200000 in
set_option maxRecDepth 4000 in
theorem specPlain_any (n y0 y1 y2 y3 : Nat) (w : World) (hp : 1 ≤ n) (hq : n ≤ 48) :
    Calls Try.prog 40 #[.int .i64 n, .float .f32 y0, .float .f32 y1, .float .f32 y2, .float .f32 y3] w (OutRod n y0 y1 y2 y3 w) := by
  have G := Lib.hid hq
  have R0 := Lib.hid ((Cells.made w [.slice none 0 0, .slice none 0 0, .slice none 0 0, .slice none 0 0] 25).al (.cells [.slice none 0 0, .slice none 0 0, .slice none 0 0, .slice none 0 0].toArray 25))
  have A0 := Cells.made (w.alloc (.cells [.slice none 0 0, .slice none 0 0, .slice none 0 0, .slice none 0 0].toArray 25)) [.slice none 0 0, .slice none 0 0, .slice none 0 0, .slice none 0 0] 25
  rw [show (w.alloc (.cells [.slice none 0 0, .slice none 0 0, .slice none 0 0, .slice none 0 0].toArray 25)).heap.size = w.heap.size + 1 from by simp] at A0
  have A0 := Lib.hid A0
  have B0 := Lib.hid (below_al2 w (.cells [.slice none 0 0, .slice none 0 0, .slice none 0 0, .slice none 0 0].toArray 25) (.cells [.slice none 0 0, .slice none 0 0, .slice none 0 0, .slice none 0 0].toArray 25))
  have Z0 : Hid (((w.alloc (.cells [.slice none 0 0, .slice none 0 0, .slice none 0 0, .slice none 0 0].toArray 25)).alloc (.cells [.slice none 0 0, .slice none 0 0, .slice none 0 0, .slice none 0 0].toArray 25)).heap.size = w.heap.size + 2) := Lib.hid (by simp)
  clear hp hq
  go_enter Try.func40, Try.ntmps40
  go_wp2
  generalize hW : ((w.alloc (.cells [.slice none 0 0, .slice none 0 0, .slice none 0 0, .slice none 0 0].toArray 25)).alloc (.cells [.slice none 0 0, .slice none 0 0, .slice none 0 0, .slice none 0 0].toArray 25)) = w2 at *
  clear hW
  go_loopw [12] (fun i wr => ∃ (k : Nat) (v0 v1 v2 v3 : Value), k ≤ n ∧ i = .int .i64 k ∧ Hid (Quad wr (w.heap.size + 2) v0 (rep k y0) v1 (rep k y1) v2 (rep k y2) v3 (rep k y3)) ∧ Hid (Cells wr (w.heap.size + 1) [v0, v1, v2, v3]) ∧ Hid (Cells wr w.heap.size [.slice none 0 0, .slice none 0 0, .slice none 0 0, .slice none 0 0]) ∧ Hid (Below w.heap.size w wr)) (fun i _ => n - (intOf i).toNat)
  case atStart =>
    refine ⟨0, _, _, _, _, Nat.zero_le _, rfl, Lib.hid ⟨Own.nil _ _ (by have := Z0.out; omega), Own.nil _ _ (by have := Z0.out; omega), Own.nil _ _ (by have := Z0.out; omega), Own.nil _ _ (by have := Z0.out; omega), ?_, ?_, ?_, ?_, ?_, ?_⟩, A0, R0, B0⟩ <;> (intro a h; cases h)
  case round =>
    obtain ⟨k, v0, v1, v2, v3, hk, rfl, Q, A, R, B⟩ := hrel
    have hG := G.out
    by_cases hlt : k < n
    · have c0 := A.out.at 0 rfl; have c1 := A.out.at 1 rfl; have c2 := A.out.at 2 rfl; have c3 := A.out.at 3 rfl; have cf := A.out.fz
      go_wp2_with (first
        | (at_builtin; have Q3b := Lib.hid (Q3.out.far (p := w.heap.size + 1) (by omega) 2 (.slice (some ⟨g2, 0, none⟩) (k + 1) cap2)); have A3b := Lib.hid (A3.out.set 2 (by simp) (.slice (some ⟨g2, 0, none⟩) (k + 1) cap2)); have R3b := Lib.hid (R3.out.far (q := w.heap.size + 1) (by omega) 2 (.slice (some ⟨g2, 0, none⟩) (k + 1) cap2)); have B3b := Lib.hid (B3.out.setCell (p := ⟨w.heap.size + 1, 2, none⟩) (by simp) (.slice (some ⟨g2, 0, none⟩) (k + 1) cap2)); refine wpList_rep rfl _ _ rfl (w.heap.size + 2) _ k y3 rfl ((Q3b.out.al _).o0) _ _ rfl ((World.cell?_alloc_at _ _ _ _ (by simp)).trans rfl) (by omega) (by have := A3b.out.lt; simp at this ⊢; omega) ?_; intro g3 cap3 w6 h1 ht hg hl; obtain ⟨hQ, hA, hR, hB⟩ := plainStep B3b.out rfl Q3b.out A3b.out R3b.out h1 ht hg; have Q4 := Lib.hid hQ; have A4 := Lib.hid hA; have R4 := Lib.hid hR; have B4 := Lib.hid hB; clear h1 ht hg hl hQ hA hR hB; have c40 := A4.out.at 0 rfl; have c41 := A4.out.at 1 rfl; have c42 := A4.out.at 2 rfl; have c43 := A4.out.at 3 rfl; have cf4 := A4.out.fz)
        | (at_builtin; have Q2b := Lib.hid (Q2.out.far (p := w.heap.size + 1) (by omega) 1 (.slice (some ⟨g1, 0, none⟩) (k + 1) cap1)); have A2b := Lib.hid (A2.out.set 1 (by simp) (.slice (some ⟨g1, 0, none⟩) (k + 1) cap1)); have R2b := Lib.hid (R2.out.far (q := w.heap.size + 1) (by omega) 1 (.slice (some ⟨g1, 0, none⟩) (k + 1) cap1)); have B2b := Lib.hid (B2.out.setCell (p := ⟨w.heap.size + 1, 1, none⟩) (by simp) (.slice (some ⟨g1, 0, none⟩) (k + 1) cap1)); refine wpList_rep rfl _ _ rfl (w.heap.size + 2) _ k y2 rfl ((Q2b.out.al _).o0) _ _ rfl ((World.cell?_alloc_at _ _ _ _ (by simp)).trans rfl) (by omega) (by have := A2b.out.lt; simp at this ⊢; omega) ?_; intro g2 cap2 w5 h1 ht hg hl; obtain ⟨hQ, hA, hR, hB⟩ := plainStep B2b.out rfl Q2b.out A2b.out R2b.out h1 ht hg; have Q3 := Lib.hid hQ; have A3 := Lib.hid hA; have R3 := Lib.hid hR; have B3 := Lib.hid hB; clear h1 ht hg hl hQ hA hR hB; have c30 := A3.out.at 0 rfl; have c31 := A3.out.at 1 rfl; have c32 := A3.out.at 2 rfl; have c33 := A3.out.at 3 rfl; have cf3 := A3.out.fz)
        | (at_builtin; have Q1b := Lib.hid (Q1.out.far (p := w.heap.size + 1) (by omega) 0 (.slice (some ⟨g0, 0, none⟩) (k + 1) cap0)); have A1b := Lib.hid (A1.out.set 0 (by simp) (.slice (some ⟨g0, 0, none⟩) (k + 1) cap0)); have R1b := Lib.hid (R1.out.far (q := w.heap.size + 1) (by omega) 0 (.slice (some ⟨g0, 0, none⟩) (k + 1) cap0)); have B1b := Lib.hid (B1.out.setCell (p := ⟨w.heap.size + 1, 0, none⟩) (by simp) (.slice (some ⟨g0, 0, none⟩) (k + 1) cap0)); refine wpList_rep rfl _ _ rfl (w.heap.size + 2) _ k y1 rfl ((Q1b.out.al _).o0) _ _ rfl ((World.cell?_alloc_at _ _ _ _ (by simp)).trans rfl) (by omega) (by have := A1b.out.lt; simp at this ⊢; omega) ?_; intro g1 cap1 w4 h1 ht hg hl; obtain ⟨hQ, hA, hR, hB⟩ := plainStep B1b.out rfl Q1b.out A1b.out R1b.out h1 ht hg; have Q2 := Lib.hid hQ; have A2 := Lib.hid hA; have R2 := Lib.hid hR; have B2 := Lib.hid hB; clear h1 ht hg hl hQ hA hR hB; have c20 := A2.out.at 0 rfl; have c21 := A2.out.at 1 rfl; have c22 := A2.out.at 2 rfl; have c23 := A2.out.at 3 rfl; have cf2 := A2.out.fz)
        | (at_builtin; have Q0b := Q; have A0b := A; have R0b := R; have B0b := B; refine wpList_rep rfl _ _ rfl (w.heap.size + 2) _ k y0 rfl ((Q0b.out.al _).o0) _ _ rfl ((World.cell?_alloc_at _ _ _ _ (by simp)).trans rfl) (by omega) (by have := A0b.out.lt; simp at this ⊢; omega) ?_; intro g0 cap0 w3 h1 ht hg hl; obtain ⟨hQ, hA, hR, hB⟩ := plainStep B0b.out rfl Q0b.out A0b.out R0b.out h1 ht hg; have Q1 := Lib.hid hQ; have A1 := Lib.hid hA; have R1 := Lib.hid hR; have B1 := Lib.hid hB; clear h1 ht hg hl hQ hA hR hB; have c10 := A1.out.at 0 rfl; have c11 := A1.out.at 1 rfl; have c12 := A1.out.at 2 rfl; have c13 := A1.out.at 3 rfl; have cf1 := A1.out.fz))
      go_roundw
      case rel => exact ⟨k + 1, _, _, _, _, by omega, by go_num, Lib.hid (Q4.out.far (by omega) 3 _), Lib.hid (A4.out.set 3 (by simp) _), Lib.hid (R4.out.far (by omega) 3 _), Lib.hid (B4.out.setCell (by simp) _)⟩
      case measure => simp [intOf]; omega
    · have e := Lib.hid (show k = n by omega)
      have hl : ∀ y, (rep k y).length ≤ 1048576 := fun y => by rw [rep_len]; omega
      obtain ⟨a0, q0, hs0⟩ := (Q.out.o0.row (hl _)).shape
      obtain ⟨a1, q1, hs1⟩ := (Q.out.o1.row (hl _)).shape
      obtain ⟨a2, q2, hs2⟩ := (Q.out.o2.row (hl _)).shape
      obtain ⟨a3, q3, hs3⟩ := (Q.out.o3.row (hl _)).shape
      clear hl
      rw [rep_len] at hs0 hs1 hs2 hs3
      subst hs0 hs1 hs2 hs3
      have c0 := A.out.at 0 rfl; have c1 := A.out.at 1 rfl; have c2 := A.out.at 2 rfl; have c3 := A.out.at 3 rfl; have cf := A.out.fz
      have r0 := R.out.at 0 rfl; have r1 := R.out.at 1 rfl; have r2 := R.out.at 2 rfl; have r3 := R.out.at 3 rfl
      have rf := R.out.fz
      have hv0 := Lib.hid ((((Q.out.far (p := w.heap.size) (by omega) 0 (.slice a0 k q0)).far (p := w.heap.size) (by omega) 1 (.slice a1 k q1)).far (p := w.heap.size) (by omega) 2 (.slice a2 k q2)).far (p := w.heap.size) (by omega) 3 (.slice a3 k q3))
      have hB := Lib.hid ((((B.out.setCell (p := ⟨w.heap.size, 0, none⟩) (by simp) (.slice a0 k q0)).setCell (p := ⟨w.heap.size, 1, none⟩) (by simp) (.slice a1 k q1)).setCell (p := ⟨w.heap.size, 2, none⟩) (by simp) (.slice a2 k q2)).setCell (p := ⟨w.heap.size, 3, none⟩) (by simp) (.slice a3 k q3))
      go_wp2
      refine bodyPost_ret (v := .agg #[.slice a0 k q0, .slice a1 k q1, .slice a2 k q2, .slice a3 k q3]) ?_ rfl ?_
      · rw [results_cell1 rfl]
        go_simp
      · have e1 := e.out
        subst e1
        exact ⟨_, _, _, _, _, rfl, by omega, hv0.out, hB.out⟩
end Go.Proofs.Ytkbdidpodcclfaa
