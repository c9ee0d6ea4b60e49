/- Copies of lists, as the library makes them: numbers. -/
import Derived.Test.YtabdinmodopadaaAppB
import Derived.Test.YtabdinmodopadaaCell
import Derived.Lib.SliceRun
namespace Go.Proofs.Ytabdinmodopadaa
open Go.RowKit
set_option linter.unusedVariables false

/-- a whole list appended -/
theorem wpList_catF {ops : Array Oper} {rest : List Oper} {o : Oper} {a : Act} {Q : Exit → Act → World → Prop} {w : World} (hgd : o.guard = none) (s x : Operand)
    (ho : o.op = .call { callee := .builtin .append, args := #[s, x], argTypes := #[22, 22] })
    (base : Nat) (v : Value) (zs ys : List Nat) (hs : a.eval s = v) (hown : Own w base v zs) (q off c : Nat) (hx : a.eval x = .slice (some ⟨q, off, none⟩) ys.length c) (hq : ∀ i, i < ys.length → w.cell? ⟨q, off + i, none⟩ = some (.float .f32 (ys.getD i 0)))
    (hk : zs.length ≤ 1048576) (hk2 : ys.length ≤ 1048576) (hbase : base ≤ w.heap.size)
    (h : ∀ v' w', Own w' base v' (zs ++ ys) → Below base w w' → wpList Try.prog ops Q rest (a.put o.dst v') w') : wpList Try.prog ops Q (o :: rest) a w := by
  obtain ⟨i, hi, hz, hsz, hby⟩ := info32
  have hm : maxLen = 9223372036854775807 := rfl
  refine wpList_append_own w hgd s x _ ho base 29 i (.float .f32 0) 1 4 Try.underlying22 hi hz hsz hby rfl (by decide) v zs.length (fl zs) hs hown ⟨q, off, none⟩ ys.length c (fl ys) hx (by simp [fl]) (fun j u hj => ?_) (fun u hu => ?_) (by omega) (by omega) hbase (fun v' w' h1 h2 _ => ?_)
  · have hjl : j < ys.length := by
      by_cases hl : j < ys.length
      · exact hl
      · rw [List.getElem?_eq_none (by simpa [fl] using hl)] at hj
        cases hj
    have e : u = .float .f32 (ys.getD j 0) := by
      simp [fl, hjl] at hj
      simp [← hj, List.getD_eq_getElem?_getD, hjl]
    rw [e]
    have h2 := hq j hjl
    by_cases hj0 : j = 0
    · subst hj0
      simpa [Addr.add] using h2
    · simpa [Addr.add, hj0] using h2
  · simp [fl] at hu
    obtain ⟨z, _, rfl⟩ := hu
    rfl
  · refine h v' w' ?_ ((Below.refl base w).grown h2 hbase (fun k hk => (World.ownsRow.lt hown k hk).1))
    unfold Own
    simpa [fl] using h1

theorem cloneF_any (q off c : Nat) (zs : List Nat) (w : World) (hc : ∀ i, i < zs.length → w.cell? ⟨q, off + i, none⟩ = some (.float .f32 (zs.getD i 0))) (hl : zs.length ≤ 1048576) :
    Calls Try.prog 49 #[.slice (some ⟨q, off, none⟩) zs.length c] w fun e w' => ∃ v', e = .returned v' ∧ Own w' w.heap.size v' zs ∧ Below w.heap.size w w' := by
  have qT : ∀ (w : World) (a : Option Addr) (n c n' c' : Nat), (binOp .eql 22 (.slice a n c) (.slice none n' c')).run Try.prog w = .ok (.bool a.isNone) w := fun w a n c n' c' => Lib.run_eql_slice_nil w _ _ a n c n' c' Try.underlying22
  have HC := Lib.hid (fun w' (hb : Below w.heap.size w w') i (hi : i < zs.length) => (hb.cell (p := ⟨q, off + i, none⟩) (cell_lt (hc i hi))).trans (hc i hi))
  have O0 := Lib.hid (Own.empty w w.heap.size (Nat.le_refl _))
  have HL := Lib.hid hl
  clear hc hl
  go_enter Try.func49, Try.ntmps49
  go_wp2_with (at_builtin; refine wpList_catF rfl _ _ rfl w.heap.size _ [] zs rfl O0.out q off c rfl (HC.out _ (below_al1 _ _)) (by simp) HL.out (by simp) ?_; intro v' w1 hown hb; have O1 := Lib.hid hown; have B1 := Lib.hid hb; clear hown hb)
  go_ret
  exact ⟨_, rfl, O1.out, (below_al1 _ _).trans B1.out⟩
end Go.Proofs.Ytabdinmodopadaa
