/- A slice of bools, as a list: what it is, its copy, its size. -/
import Derived.Test.YtkmfinegmkacpabSl
import Derived.Test.YtkmfinegmkacpabSlC
namespace Go.Proofs.Ytkmfinegmkacpab
open Go.RowKit
set_option linter.unusedVariables false

/-- the value v reads as the list zs of numbers: empty, or a row of cells -/
def BRow (w : World) (v : Value) (zs : List Bool) : Prop :=
  ((∃ a c, v = .slice a 0 c) ∧ zs = []) ∨
  ∃ b off cap, v = .slice (some ⟨b, off, none⟩) zs.length cap ∧ zs.length ≤ maxLen ∧ ∀ i, i < zs.length → w.cell? ⟨b, off + i, none⟩ = some (.bool (zs.getD i false))

theorem BRow.below {w w' : World} {v : Value} {zs : List Bool} (h : BRow w v zs) (hb : Below w.heap.size w w') : BRow w' v zs := by
  rcases h with h | ⟨b, off, cap, e, hm, hc⟩
  · exact .inl h
  · refine .inr ⟨b, off, cap, e, hm, fun i hi => ?_⟩
    have := hc i hi
    rw [hb.cell (p := ⟨b, off + i, none⟩) (cell_lt this)]
    exact this

theorem BRow.drewN {w : World} {v : Value} {zs : List Bool} {n : Nat} (h : BRow w v zs) : BRow (w.drewN n) v zs := h


/-- how long a slice is -/
theorem BRow.shape {w : World} {v : Value} {zs : List Bool} (h : BRow w v zs) : ∃ a cap, v = .slice a zs.length cap := by
  rcases h with ⟨h, rfl⟩ | ⟨b, off, cap, rfl, _⟩
  · exact h
  · exact ⟨_, _, rfl⟩

abbrev slb (p : Nat) (zs : List Bool) : Value := .slice (some ⟨p, 0, none⟩) zs.length zs.length
def flb (zs : List Bool) : List Value := zs.map .bool
theorem BRow.of_cells {w : World} {p : Nat} {zs : List Bool} (h : Cells w p (flb zs)) (hm : zs.length ≤ maxLen) : BRow w (slb p zs) zs :=
  .inr ⟨p, 0, _, rfl, hm, fun i hi => by rw [Nat.zero_add]; exact h.1 i _ (by simp [flb, hi, List.getD_eq_getElem?_getD])⟩

theorem BRow.cells {w : World} {v : Value} {zs : List Bool} (h : BRow w v zs) (hn : 1 ≤ zs.length) : ∃ b off cap, v = .slice (some ⟨b, off, none⟩) zs.length cap ∧ ∀ i, i < zs.length → w.cell? ⟨b, off + i, none⟩ = some (.bool (zs.getD i false)) := by
  rcases h with ⟨_, rfl⟩ | ⟨b, off, cap, e, hm, hc⟩
  · simp at hn
  · exact ⟨b, off, cap, e, hc⟩

theorem BRow.len {w : World} {v : Value} {zs : List Bool} (h : BRow w v zs) : zs.length ≤ 9223372036854775807 := by
  rcases h with ⟨_, rfl⟩ | ⟨_, _, _, _, hm, _⟩
  · simp
  · exact hm

/-- a new row: the call hands back a slice that reads as zs, and nothing that was there has turned -/
def NewBRow (zs : List Bool) (w : World) (e : Ending) (w' : World) : Prop := ∃ v, e = .returned v ∧ BRow w' v zs ∧ Below w.heap.size w w'

theorem Try.rowOfB : (Try.prog.info? 4).map (fun i => (i.zero, i.size, i.bytes)) = some (some (.bool false), 1, 1) := by kernel_rfl

def partB (zs : List Bool) (k i : Nat) : Value := .bool (if i < k then zs.getD i false else false)

theorem row_of_partB {wr : World} {b : Nat} {zs : List Bool} (h : wr.rowIs b 4 zs.length (partB zs zs.length)) (hm : zs.length ≤ maxLen) : BRow wr (.slice (some ⟨b, 0, none⟩) zs.length zs.length) zs := by
  refine .inr ⟨b, 0, _, rfl, hm, fun i hi => ?_⟩
  have := h.cell hi
  rw [Nat.zero_add, this]
  simp [partB, hi]

/-- .. in a block of its own, the first behind those that were there -/
def NewBAt (zs : List Bool) (w : World) (e : Ending) (w' : World) : Prop :=
  e = .returned (.slice (some ⟨w.heap.size, 0, none⟩) zs.length zs.length) ∧ BRow w' (.slice (some ⟨w.heap.size, 0, none⟩) zs.length zs.length) zs ∧ Below w.heap.size w w' ∧ Cells w' w.heap.size (zs.map .bool)

theorem cells_of_partB {wr : World} {b : Nat} {zs : List Bool} (h : wr.rowIs b 4 zs.length (partB zs zs.length)) (hb : b < wr.heap.size) : Cells wr b (zs.map .bool) := by
  refine ⟨fun i v hv => ?_, fun i => h.frozen i, hb⟩
  have hi : i < zs.length := by
    have := (List.getElem?_eq_some_iff.1 hv).1
    simpa using this
  rw [h.cell hi]
  simp [hi] at hv
  simp [partB, hi, hv, List.getD_eq_getElem?_getD]

set_option maxHeartbeats 800000 in
theorem toB_new (v : Value) (zs : List Bool) (w : World) (h : BRow w v zs) (hl : zs.length ≤ 1048576) :
    Calls Try.prog 52 #[v] w (NewBAt zs w) := by
  rcases h with ⟨⟨a0, c0, rfl⟩, rfl⟩ | ⟨b, off, cap, rfl, hm, hc⟩
  · have hmk : ∀ w, (Instr.makeSlice 23 (.int .i64 0) (.int .i64 0)).run Try.prog w = .ok (.slice (some ⟨w.heap.size, 0, none⟩) 0 0) (w.alloc (.cells (madeCells #[.bool false] 0) 4)) := run_make_row' (P := Try.prog) 23 4 (.bool false) 1 Try.underlying23 Try.rowOfB rfl .i64 .i64 0 (by omega) (by omega)
    go_enter Try.func52, Try.ntmps52
    go_wp2
    go_loopw [4] (fun i wr => i = .int .i64 0 ∧ wr = w.alloc (.cells (madeCells #[.bool false] 0) 4)) (fun i _ => 0)
    case atStart => exact ⟨rfl, rfl⟩
    case round =>
      obtain ⟨rfl, rfl⟩ := hrel
      go_wp2
      go_ret
      exact ⟨rfl, .inl ⟨⟨_, _, rfl⟩, rfl⟩, (Below.refl _ _).alloc (Nat.le_refl _) _, fun i v hv => by simp at hv, fun i => by simp, by simp⟩
  · generalize hn : zs.length = n at *
    have Hn := Lib.hid hn
    clear hn
    have hmk := run_make_row' (P := Try.prog) 23 4 (.bool false) 1 Try.underlying23 Try.rowOfB rfl .i64 .i64 n (by omega) (by omega)
    go_enter Try.func52, Try.ntmps52
    go_wp2
    go_loopw [4] (fun i wr => ∃ k : Nat, k ≤ n ∧ i = .int .i64 k ∧ Below w.heap.size w wr ∧ wr.rowIs w.heap.size 4 n (partB zs k)) (fun i _ => n - (intOf i).toNat)
    case atStart => exact ⟨0, Nat.zero_le _, rfl, (Below.refl _ _).alloc (Nat.le_refl _) _, (World.rowIs_made w (.bool false) n 4).congr (fun i _ => by simp [partB])⟩
    case round =>
      obtain ⟨k, hk, rfl, hb, hr⟩ := hrel
      by_cases hlt : k < n
      · have h1 := hc k hlt
        have h2 : wr.cell? ⟨b, off + k, none⟩ = some (.bool (zs.getD k false)) := by rw [hb.cell (p := ⟨b, off + k, none⟩) (cell_lt h1)]; exact h1
        have h3 : wr.cell? ⟨w.heap.size, k, none⟩ = some (partB zs k k) := hr.cell hlt
        have h4 : wr.frozen? ⟨w.heap.size, k, none⟩ = false := hr.frozen k
        have hr' := Lib.hid (hr.set k (.bool (zs.getD k false)))
        have hb' := Lib.hid (hb.setCell (p := ⟨w.heap.size, k, none⟩) (Nat.le_refl _) (.bool (zs.getD k false)))
        clear hmk hc h1 hb hr
        go_wp2
        go_roundw
        case rel =>
          refine ⟨k + 1, by omega, by go_num, by simpa using hb'.out, ?_⟩
          have := hr'.out
          refine World.rowIs.congr (by simpa using this) (fun i _ => ?_)
          simp only [partB]
          by_cases e : i = k
          · subst e; simp
          · rw [if_neg e]
            by_cases h : i < k
            · rw [if_pos h, if_pos (by omega)]
            · rw [if_neg h, if_neg (by omega)]
        case measure => simp [intOf]; omega
      · have e : k = n := by omega
        have hr' := Lib.hid hr
        have hb' := Lib.hid (And.intro hb hr.lt)
        have He := Lib.hid e
        clear hmk hc hb hr e
        go_wp2
        go_ret
        have hr := hr'.out
        have hz := Hn.out
        have := He.out
        subst this
        subst hz
        exact ⟨rfl, row_of_partB hr hm, hb'.out.1, cells_of_partB hr hb'.out.2⟩

def NewBSl (zs : List Bool) (w : World) (e : Ending) (w' : World) : Prop := ∃ p, e = .returned (slb p zs) ∧ w.heap.size ≤ p ∧ Cells w' p (flb zs) ∧ Below w.heap.size w w'
theorem toB_sl (v : Value) (zs : List Bool) (w : World) (h : BRow w v zs) (hl : zs.length ≤ 1048576) : Calls Try.prog 52 #[v] w (NewBSl zs w) :=
  (toB_new v zs w h hl).mono fun _ _ ⟨he, _, hb, hc⟩ => ⟨_, he, Nat.le_refl _, hc, hb⟩

/-- how a slice's length is taken from what is left -/
theorem szB_fit (a : Option Addr) (n c left : Nat) (w : World) (hn : n ≤ left) (hl : left ≤ 1048576) :
    Calls Try.prog 47 #[.slice a n c, .int .i64 left] w fun e w' => e = .returned (.int .i64 ((left - n : Nat) : Int)) ∧ w = w' := by
  have e : ((left : Int) - (n : Int)) = ((left - n : Nat) : Int) := by omega
  go_enter Try.func47, Try.ntmps47
  go_wp2
  go_ret
  exact ⟨by simp, rfl⟩

theorem szB_over (a : Option Addr) (n c left : Nat) (w : World) (hn : left < n) (hm : n ≤ 9223372036854775807) (hl : left ≤ 1048576) :
    Calls Try.prog 47 #[.slice a n c, .int .i64 left] w fun e w' => e = .returned (.int .i64 (-1)) ∧ w = w' := by
  go_enter Try.func47, Try.ntmps47
  go_wp2
  go_ret
  exact ⟨rfl, rfl⟩
end Go.Proofs.Ytkmfinegmkacpab
