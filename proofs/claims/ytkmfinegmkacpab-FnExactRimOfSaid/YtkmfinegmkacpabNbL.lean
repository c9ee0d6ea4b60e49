/- The list of the neighbours of a cell, as the program makes it, and what it contains. -/
import Derived.Test.YtkmfinegmkacpabBeside
import Derived.Test.YtkmfinegmkacpabJRow
namespace Go.Proofs.Ytkmfinegmkacpab
open Go.RowKit
set_option linter.unusedVariables false

/-- the neighbours at the first sides -/
def nbL (x z k : Nat) : Nat → List Int
  | 0 => []
  | j + 1 => bif decide (0 ≤ nbr x z k j) then nbL x z k j ++ [nbr x z k j] else nbL x z k j
theorem nbL_len (x z k : Nat) : ∀ j, (nbL x z k j).length ≤ j
  | 0 => Nat.le_refl _
  | j + 1 => by
    have ih := nbL_len x z k j
    show (bif decide (0 ≤ nbr x z k j) then nbL x z k j ++ [nbr x z k j] else nbL x z k j).length ≤ j + 1
    cases decide (0 ≤ nbr x z k j)
    · simp only [cond_false]; omega
    · simp only [cond_true, List.length_append, List.length_cons, List.length_nil]; omega
theorem nbL_yes {x z k j : Nat} (h : 0 ≤ nbr x z k j) : nbL x z k (j + 1) = nbL x z k j ++ [nbr x z k j] := by
  show (bif decide (0 ≤ nbr x z k j) then nbL x z k j ++ [nbr x z k j] else nbL x z k j) = _
  rw [decide_eq_true h]; rfl
theorem nbL_no {x z k j : Nat} (h : ¬ 0 ≤ nbr x z k j) : nbL x z k (j + 1) = nbL x z k j := by
  show (bif decide (0 ≤ nbr x z k j) then nbL x z k j ++ [nbr x z k j] else nbL x z k j) = _
  rw [decide_eq_false h]; rfl
theorem nbL_mem {x z k : Nat} {v : Int} : ∀ j, v ∈ nbL x z k j ↔ ∃ i, i < j ∧ 0 ≤ nbr x z k i ∧ nbr x z k i = v
  | 0 => ⟨fun h => absurd h (by show ¬ v ∈ ([] : List Int); simp), fun ⟨i, h, _⟩ => absurd h (Nat.not_lt_zero _)⟩
  | j + 1 => by
    by_cases h : 0 ≤ nbr x z k j
    · rw [nbL_yes h, List.mem_append, nbL_mem j, List.mem_singleton]
      constructor
      · rintro (⟨i, a, b, c⟩ | rfl)
        · exact ⟨i, by omega, b, c⟩
        · exact ⟨j, by omega, h, rfl⟩
      · rintro ⟨i, a, b, c⟩
        by_cases e : i = j
        · subst e; exact .inr c.symm
        · exact .inl ⟨i, by omega, b, c⟩
    · rw [nbL_no h, nbL_mem j]
      constructor
      · rintro ⟨i, a, b, c⟩; exact ⟨i, by omega, b, c⟩
      · rintro ⟨i, a, b, c⟩
        by_cases e : i = j
        · subst e; exact absurd b h
        · exact ⟨i, by omega, b, c⟩
/-- a list of its own -/
def NewJ (zs : List Int) (w : World) (e : Ending) (w' : World) : Prop := ∃ v, e = .returned v ∧ OwnJ w' w.heap.size v zs ∧ Below w.heap.size w w'

set_option maxRecDepth 4000 in
set_option maxHeartbeats 1600000 in
theorem implNb_any (x y z n k : Nat) (a b c d : Value) (r : PL) (w : World) (S : Sd r x y n) (hz : x * (y - 1) = z) (hk : k < n) :
    Calls Try.prog 64 #[.agg #[.int .i64 r.X, .int .i64 r.Y, a, b, c, d], .int .i64 (k : Int)] w (NewJ (nbL x z k 4) w) := by
  have BES := Lib.hid (fun j hj w1 => beside_any x y z n k j hj a b c d r w1 S hz hk)
  have NL := Lib.hid (nbL_len x z k)
  have NY := Lib.hid (fun j h => nbL_yes (x := x) (z := z) (k := k) (j := j) h)
  have NO := Lib.hid (fun j h => nbL_no (x := x) (z := z) (k := k) (j := j) h)
  have N0 : Hid (nbL x z k 0 = []) := Lib.hid rfl
  clear S hz hk
  generalize nbL x z k = L at *
  generalize nbr x z k = nb at *
  have A := Lib.hid (Cells.made w (pvs r a b c d) 29)
  have Bw := Lib.hid (below_al1 w (.cells (pvs r a b c d).toArray 29))
  go_enter Try.func64, Try.ntmps64
  go_wp2
  go_loopw [5, 9] (fun v i wr => ∃ j : Nat, j ≤ 4 ∧ i = .int .i64 j ∧ Hid (OwnJ wr (w.heap.size + 1) v (L j)) ∧ Hid (Below (w.heap.size + 1) (w.alloc (.cells (pvs r a b c d).toArray 29)) wr)) (fun _ i _ => 4 - (intOf i).toNat)
  case atStart => exact ⟨0, Nat.zero_le _, rfl, Lib.hid (by rw [N0.out]; exact ⟨by first | rfl | simp, .inl ⟨rfl, rfl⟩⟩), Lib.hid (Below.refl _ _)⟩
  case round =>
    obtain ⟨j, hj, rfl, hO, hB⟩ := hrel
    have hB1 : Hid (Below (w.alloc (.cells (pvs r a b c d).toArray 29)).heap.size (w.alloc (.cells (pvs r a b c d).toArray 29)) wr) := Lib.hid (by simpa using hB.out)
    have A1 := Lib.hid (A.out.kept hB1.out)
    have hbs : Hid (w.heap.size + 1 ≤ wr.heap.size) := Lib.hid (by have := hB1.out.size; simpa using this)
    have c0 := A1.out.at 0 rfl; have c1 := A1.out.at 1 rfl; have c2 := A1.out.at 2 rfl; have c3 := A1.out.at 3 rfl; have c4 := A1.out.at 4 rfl; have c5 := A1.out.at 5 rfl
    by_cases hlt : j < 4
    · have hi : (0 : Int) ≤ (j : Int) := by omega
      have hi' : (j : Int) < 4 := by omega
      have BJ := Lib.hid (BES.out j hlt)
      have NYj := Lib.hid (NY.out j)
      have NOj := Lib.hid (NO.out j)
      have hzb : Hid ((L j).length ≤ 1048576) := Lib.hid (by have := NL.out j; omega)
      generalize hzs : L j = zs at *
      go_wp2_with fail
      refine (BJ.out _).mono ?_
      rintro e w2 ⟨v, rfl, hv, hb⟩
      have HV := Lib.hid hv
      have O2 := Lib.hid (hO.out.kept hb)
      have B2 := Lib.hid (hB.out.trans (hb.mono hbs.out))
      have hs2 : Hid (w.heap.size + 1 ≤ w2.heap.size) := Lib.hid (Nat.le_trans hbs.out hb.size)
      clear hv hb
      by_cases hn0 : 0 ≤ nb j
      · have f1 : decide (0 ≤ nb j) = true := by simp; omega
        have E := Lib.hid (NYj.out hn0)
        obtain rfl := HV.out hn0
        generalize hnb : nb j = m at *
        clear hnb
        go_wp2_with (at_builtin; refine wpList_appJ rfl _ _ rfl (w.heap.size + 1) _ zs rfl (O2.out.al _) _ _ m rfl ((World.cell?_alloc_at _ _ _ _ (by simp)).trans rfl) hzb.out (by have := hs2.out; simp; omega) ?_; intro v' w3 hown' hb; have O3 := Lib.hid hown'; have B3 := Lib.hid ((B2.out.alloc (by have := hs2.out; omega) _).trans hb); clear hown' hb)
        go_roundw
        case rel => exact ⟨j + 1, by omega, by go_num, Lib.hid (by rw [E.out]; exact O3.out), Lib.hid B3.out⟩
        case measure => simp [intOf]; omega
      · have f1 : decide (0 ≤ nb j) = false := by simp; omega
        have E := Lib.hid (NOj.out (by omega))
        go_wp2
        go_roundw
        case rel => exact ⟨j + 1, by omega, by go_num, Lib.hid (by rw [E.out]; exact O2.out), Lib.hid B2.out⟩
        case measure => simp [intOf]; omega
    · have e := Lib.hid (show j = 4 by omega)
      go_wp2
      go_ret
      refine ⟨_, rfl, ?_, below_step Bw.out hB1.out⟩
      have O4 := hO.out.down (Nat.le_succ _)
      rw [e.out] at O4
      simpa using O4
end Go.Proofs.Ytkmfinegmkacpab
