/- Lists of integers: copies in blocks of their own, and the laws' comparison. -/
import Derived.Test.YthedpbdeahieaaaDoorJRow
import Derived.Test.YthedpbdeahieaaaDoorRowI
import Derived.Test.YthedpbdeahieaaaDoorSame
namespace Go.Proofs.YthedpbdeahieaaaDoor
open Go.RowKit
set_option linter.unusedVariables false

def partJ (zs : List Int) (k i : Nat) : Value := .int .i64 (if i < k then zs.getD i 0 else 0)
theorem row_of_partJ {wr : World} {b : Nat} {zs : List Int} (h : wr.rowIs b 2 zs.length (partJ zs zs.length)) (hm : zs.length ≤ maxLen) : JRow wr (.slice (some ⟨b, 0, none⟩) zs.length zs.length) zs := by
  refine .inr ⟨b, 0, _, rfl, hm, fun i hi => ?_⟩
  have := h.cell hi
  rw [Nat.zero_add, this]
  simp [partJ, hi]
def NewJ (zs : List Int) (w : World) (e : Ending) (w' : World) : Prop :=
  e = .returned (.slice (some ⟨w.heap.size, 0, none⟩) zs.length zs.length) ∧ JRow w' (.slice (some ⟨w.heap.size, 0, none⟩) zs.length zs.length) zs ∧ Below w.heap.size w w' ∧ Cells w' w.heap.size (zs.map (.int .i64))
theorem cells_of_partJ {wr : World} {b : Nat} {zs : List Int} (h : wr.rowIs b 2 zs.length (partJ zs zs.length)) (hb : b < wr.heap.size) : Cells wr b (zs.map (.int .i64)) := by
  refine ⟨fun i v hv => ?_, fun i => h.frozen i, hb⟩
  have hi : i < zs.length := by
    have := (List.getElem?_eq_some_iff.1 hv).1
    simpa using this
  rw [h.cell hi]
  simp [hi] at hv
  simp [partJ, hi, hv, List.getD_eq_getElem?_getD]

set_option maxHeartbeats 800000 in
theorem toJ_new (v : Value) (zs : List Int) (w : World) (h : JRow w v zs) (hl : zs.length ≤ 1048576) :
    Calls Tryd.prog 26 #[v] w (NewJ zs w) := by
  rcases h with ⟨⟨a0, c0, rfl⟩, rfl⟩ | ⟨b, off, cap, rfl, hm, hc⟩
  · have hmk : ∀ w, (Instr.makeSlice 36 (.int .i64 0) (.int .i64 0)).run Tryd.prog w = .ok (.slice (some ⟨w.heap.size, 0, none⟩) 0 0) (w.alloc (.cells (madeCells #[.int .i64 0] 0) 2)) := run_make_row' (P := Tryd.prog) 36 2 (.int .i64 0) 8 Tryd.underlying36 Tryd.rowOfJ rfl .i64 .i64 0 (by omega) (by omega)
    go_enter Tryd.func26, Tryd.ntmps26
    go_wp2
    go_loopw [4] (fun i wr => i = .int .i64 0 ∧ wr = w.alloc (.cells (madeCells #[.int .i64 0] 0) 2)) (fun i _ => 0)
    case atStart => exact ⟨rfl, rfl⟩
    case round =>
      obtain ⟨rfl, rfl⟩ := hrel
      go_wp2
      go_ret
      exact ⟨rfl, .inl ⟨⟨_, _, rfl⟩, rfl⟩, (Below.refl _ _).alloc (Nat.le_refl _) _, fun i v hv => by simp at hv, fun i => by simp, by simp⟩
  · generalize hn : zs.length = n at *
    have Hn := Lib.hid hn
    clear hn
    have hmk := run_make_row' (P := Tryd.prog) 36 2 (.int .i64 0) 8 Tryd.underlying36 Tryd.rowOfJ rfl .i64 .i64 n (by omega) (by omega)
    go_enter Tryd.func26, Tryd.ntmps26
    go_wp2
    go_loopw [4] (fun i wr => ∃ k : Nat, k ≤ n ∧ i = .int .i64 k ∧ Below w.heap.size w wr ∧ wr.rowIs w.heap.size 2 n (partJ zs k)) (fun i _ => n - (intOf i).toNat)
    case atStart => exact ⟨0, Nat.zero_le _, rfl, (Below.refl _ _).alloc (Nat.le_refl _) _, (World.rowIs_made w (.int .i64 0) n 2).congr (fun i _ => by simp [partJ])⟩
    case round =>
      obtain ⟨k, hk, rfl, hb, hr⟩ := hrel
      by_cases hlt : k < n
      · have h1 := hc k hlt
        have h2 : wr.cell? ⟨b, off + k, none⟩ = some (.int .i64 (zs.getD k 0)) := by rw [hb.cell (p := ⟨b, off + k, none⟩) (cell_lt h1)]; exact h1
        have h3 : wr.cell? ⟨w.heap.size, k, none⟩ = some (partJ zs k k) := hr.cell hlt
        have h4 : wr.frozen? ⟨w.heap.size, k, none⟩ = false := hr.frozen k
        have hr' := Lib.hid (hr.set k (.int .i64 (zs.getD k 0)))
        have hb' := Lib.hid (hb.setCell (p := ⟨w.heap.size, k, none⟩) (Nat.le_refl _) (.int .i64 (zs.getD k 0)))
        clear hmk hc h1 hb hr
        go_wp2
        go_roundw
        case rel =>
          refine ⟨k + 1, by omega, by go_num, by simpa using hb'.out, ?_⟩
          have := hr'.out
          refine World.rowIs.congr (by simpa using this) (fun i _ => ?_)
          simp only [partJ]
          by_cases e : i = k
          · subst e; simp
          · rw [if_neg e]
            by_cases h : i < k
            · rw [if_pos h, if_pos (by omega)]
            · rw [if_neg h, if_neg (by omega)]
        case measure => simp [intOf]; omega
      · have e : k = n := by omega
        have hr' := Lib.hid hr
        have hb' := Lib.hid (And.intro hb hr.lt)
        have He := Lib.hid e
        clear hmk hc hb hr e
        go_wp2
        go_ret
        have hr := hr'.out
        have hz := Hn.out
        have := He.out
        subst this
        subst hz
        exact ⟨rfl, row_of_partJ hr hm, hb'.out.1, cells_of_partJ hr hb'.out.2⟩

/-- a new row of integers -/
def NewJR (zs : List Int) (w : World) (e : Ending) (w' : World) : Prop := ∃ v, e = .returned v ∧ JRow w' v zs ∧ Below w.heap.size w w'
theorem toJ_any (v : Value) (zs : List Int) (w : World) (h : JRow w v zs) (hl : zs.length ≤ 1048576) : Calls Tryd.prog 26 #[v] w (NewJR zs w) :=
  (toJ_new v zs w h hl).mono fun _ _ ⟨he, hf, hb, _⟩ => ⟨_, he, hf, hb⟩

/-- two slices of integers that are the same -/
theorem eqJJ_any (v v' : Value) (zs : List Int) (w : World) (h : JRow w v zs) (h' : JRow w v' zs) : Calls Tryd.prog 28 #[v, v'] w (Yes w) := by
  have HC := Lib.hid (fun (hn : 1 ≤ zs.length) => h.cells hn)
  have HC' := Lib.hid (fun (hn : 1 ≤ zs.length) => h'.cells hn)
  have HL := Lib.hid h.len
  obtain ⟨a, cap, rfl⟩ := h.shape
  obtain ⟨a', cap', rfl⟩ := h'.shape
  clear h h'
  generalize zs.length = n at *
  go_enter Tryd.func28, Tryd.ntmps28
  go_wp2
  go_loopw [5] (fun i wr => ∃ k q : Nat, k ≤ n ∧ i = .int .i64 k ∧ wr = w.drewN q) (fun i _ => n - (intOf i).toNat)
  case atStart => exact ⟨0, 0, Nat.zero_le _, rfl, rfl⟩
  case round =>
    obtain ⟨k, q, hk, rfl, rfl⟩ := hrel
    have hG := HL.out
    by_cases hlt : k < n
    · obtain ⟨b0, o0, c0, e, hc⟩ := HC.out (by omega)
      obtain ⟨b1, o1, c1, e', hc'⟩ := HC'.out (by omega)
      have ea : a = some ⟨b0, o0, none⟩ := by cases e; rfl
      have ea' : a' = some ⟨b1, o1, none⟩ := by cases e'; rfl
      have z0 := hc k hlt
      have z1 := hc' k hlt
      clear e hc e' hc' HC HC'
      subst ea
      subst ea'
      generalize zs.getD k 0 = y at *
      have hi : (0 : Int) ≤ (k : Int) := by omega
      have hi' : (k : Int) < (n : Int) := by omega
      go_wp2
      refine wp_region_loose (fun _ _ _ => True) (by kernel_rfl) (by kernel_rfl) ?_
      repeat (first | (refine wpLoose_farith rfl _ _ _ _ _ rfl rfl _ _ _ rfl rfl ?_; intro _ _) | (refine wpLoose_valK rfl ?_ (fun w1 hw1 => ?_) (fun K hK => ?_); rotate_left; (focus (obtain ⟨nq, rfl⟩ := hw1; go_simp; first | done | rfl)); go_simp; refine hK _ ?_; clear hK K))
      (refine wpLoose_nil ?_; rintro _ ⟨nq, rfl⟩)
      go_wp2
      go_roundw
      case rel => exact ⟨k + 1, _, by omega, by go_num, rfl⟩
      case measure => simp [intOf]; omega
    · go_wp2
      go_ret
      exact Yes.drewN
end Go.Proofs.YthedpbdeahieaaaDoor
