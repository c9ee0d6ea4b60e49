/- What hands back a list of integers; copies of lists of integers that may be marked. -/
import Derived.Test.YtabdinmodopadaaMarkJA
import Derived.Test.YtabdinmodopadaaJz
namespace Go.Proofs.Ytabdinmodopadaa
open Go.RowKit Go.Deep
set_option linter.unusedVariables false

/-- a list, and whether there is one -/
def LstJB (S : List Int) (b : Bool) (w : World) (e : Ending) (w' : World) : Prop := ∃ v, e = .returned (.tuple #[v, .bool b]) ∧ JRow w' v S ∧ Below w.heap.size w w'
/-- .. the list lies in memory of its own -/
def LstJO (S : List Int) (b : Bool) (w : World) (e : Ending) (w' : World) : Prop := ∃ v, e = .returned (.tuple #[v, .bool b]) ∧ OJRow w.heap.size w' v S ∧ Below w.heap.size w w'
theorem LstJB.no {w w' : World} (hb : Below w.heap.size w w') : LstJB [] false w (.returned (.tuple #[.slice none 0 0, .bool false])) w' := ⟨_, rfl, .inl ⟨⟨_, _, rfl⟩, rfl⟩, hb⟩
theorem LstJO.no {w w' : World} (hb : Below w.heap.size w w') : LstJO [] false w (.returned (.tuple #[.slice none 0 0, .bool false])) w' := ⟨_, rfl, .nil, hb⟩
def NewJO (zs : List Int) (w : World) (e : Ending) (w' : World) : Prop :=
  e = .returned (.slice (some ⟨w.heap.size, 0, none⟩) zs.length zs.length) ∧ RowJ w' w.heap.size 0 zs ∧ Below w.heap.size w w'
set_option maxHeartbeats 800000 in
theorem toJ_own (v : Value) (zs : List Int) (w : World) (h : JRow w v zs) (hl : zs.length ≤ 1048576) :
    Calls Try.prog 29 #[v] w (NewJO zs w) := by
  rcases h with ⟨⟨a0, c0, rfl⟩, rfl⟩ | ⟨b, off, cap, rfl, hm, hc⟩
  · have hmk : ∀ w, (Instr.makeSlice 30 (.int .i64 0) (.int .i64 0)).run Try.prog w = .ok (.slice (some ⟨w.heap.size, 0, none⟩) 0 0) (w.alloc (.cells (madeCells #[.int .i64 0] 0) 2)) := run_make_row' (P := Try.prog) 30 2 (.int .i64 0) 8 Try.underlying30 Try.rowOfJ rfl .i64 .i64 0 (by omega) (by omega)
    go_enter Try.func29, Try.ntmps29
    go_wp2
    go_loopw [4] (fun i wr => i = .int .i64 0 ∧ wr = w.alloc (.cells (madeCells #[.int .i64 0] 0) 2)) (fun i _ => 0)
    case atStart => exact ⟨rfl, rfl⟩
    case round =>
      obtain ⟨rfl, rfl⟩ := hrel
      go_wp2
      go_ret
      exact ⟨rfl, ⟨_, blk_alloc_new _ _, fun i hi => by simp at hi⟩, (Below.refl _ _).alloc (Nat.le_refl _) _⟩
  · generalize hn : zs.length = n at *
    have Hn := Lib.hid hn
    clear hn
    have hmk := run_make_row' (P := Try.prog) 30 2 (.int .i64 0) 8 Try.underlying30 Try.rowOfJ rfl .i64 .i64 n (by omega) (by omega)
    go_enter Try.func29, Try.ntmps29
    go_wp2
    go_loopw [4] (fun i wr => ∃ k : Nat, k ≤ n ∧ i = .int .i64 k ∧ Below w.heap.size w wr ∧ wr.rowIs w.heap.size 2 n (partJ zs k)) (fun i _ => n - (intOf i).toNat)
    case atStart => exact ⟨0, Nat.zero_le _, rfl, (Below.refl _ _).alloc (Nat.le_refl _) _, (World.rowIs_made w (.int .i64 0) n 2).congr (fun i _ => by simp [partJ])⟩
    case round =>
      obtain ⟨k, hk, rfl, hb, hr⟩ := hrel
      by_cases hlt : k < n
      · have h1 := hc k hlt
        have h2 : wr.cell? ⟨b, off + k, none⟩ = some (.int .i64 (zs.getD k 0)) := by rw [hb.cell (p := ⟨b, off + k, none⟩) (cell_lt h1)]; exact h1
        have h3 : wr.cell? ⟨w.heap.size, k, none⟩ = some (partJ zs k k) := hr.cell hlt
        have h4 : wr.frozen? ⟨w.heap.size, k, none⟩ = false := hr.frozen k
        have hr' := Lib.hid (hr.set k (.int .i64 (zs.getD k 0)))
        have hb' := Lib.hid (hb.setCell (p := ⟨w.heap.size, k, none⟩) (Nat.le_refl _) (.int .i64 (zs.getD k 0)))
        clear hmk hc h1 hb hr
        go_wp2
        go_roundw
        case rel =>
          refine ⟨k + 1, by omega, by go_num, by simpa using hb'.out, ?_⟩
          have := hr'.out
          refine World.rowIs.congr (by simpa using this) (fun i _ => ?_)
          simp only [partJ]
          by_cases e : i = k
          · subst e; simp
          · rw [if_neg e]
            by_cases h : i < k
            · rw [if_pos h, if_pos (by omega)]
            · rw [if_neg h, if_neg (by omega)]
        case measure => simp [intOf]; omega
      · have e : k = n := by omega
        have hr' := Lib.hid hr
        have hb' := Lib.hid (And.intro hb hr.lt)
        have He := Lib.hid e
        clear hmk hc hb hr e
        go_wp2
        go_ret
        have hr := hr'.out
        have hz := Hn.out
        have := He.out
        subst this
        subst hz
        exact ⟨rfl, RowJ.of_row (f := fun i => if i < zs.length then zs.getD i 0 else 0) hr (by simp) (fun i hi => by simp [hi]), hb'.out.1⟩

theorem RowJ.row {w : World} {g : Nat} {zs : List Int} (h : RowJ w g 0 zs) (hm : zs.length ≤ maxLen) : JRow w (.slice (some ⟨g, 0, none⟩) zs.length zs.length) zs :=
  .inr ⟨g, 0, _, rfl, hm, fun i hi => h.cell hi⟩
theorem RowJ.kept {w w' : World} {g o : Nat} {zs : List Int} (h : RowJ w g o zs) (hb : Below w.heap.size w w') : RowJ w' g o zs := h.of_block (hb.block g h.lt)
theorem eqJB2_any (v v' : Value) (zs : List Int) (w : World) (h : JRow w v zs) (h' : JRow w v' zs) : Calls Try.prog 20 #[v, v'] w fun e w' => e = .returned (.bool true) ∧ Below w.heap.size w w' :=
  (eqJJ_any v v' zs w h h').mono fun _ _ ⟨he, n, hw⟩ => ⟨he, hw ▸ below_drewN (Below.refl _ _) n⟩
end Go.Proofs.Ytabdinmodopadaa
