/- The texts of several lists of numbers: the program's side. -/
import Derived.Test.YthedpbdeahieaaaDoorNTxI
namespace Go.Proofs.YthedpbdeahieaaaDoor
open Go.RowKit
set_option linter.unusedVariables false

/-- the numbers of a list are numbers, and there are at most 256 -/
def LOk (zs : List Nat) : Prop := zs.length ≤ 256 ∧ ∀ i, i < zs.length → (Lit.float .f32 (zs.getD i 0)).wf = true
theorem nTx_size {zs : List Nat} (h : zs.length ≤ 256) : (nTx zs).size ≤ 2304 := by
  unfold nTx
  cases zs with
  | nil => decide
  | cons x r =>
    have := jn_size 44 8 ((x :: r).map hexZ) (hexs_le _)
    rw [List.length_map] at this
    show (jn 44 ((x :: r).map hexZ)).size ≤ 2304
    omega
/-- a row of lists -/
structure LRows (w : World) (bk : Nat) (vs : List Value) (ls : List (List Nat)) : Prop where
  len : vs.length = ls.length
  cell : ∀ j, j < ls.length → w.cell? ⟨bk, j, none⟩ = some (vs.getD j default)
  row : ∀ j, j < ls.length → FRow w (vs.getD j default) (ls.getD j [])
  ok : ∀ j, j < ls.length → LOk (ls.getD j [])
theorem LRows.below {w w' : World} {bk : Nat} {vs : List Value} {ls : List (List Nat)} (h : LRows w bk vs ls) (hb : Below w.heap.size w w') : LRows w' bk vs ls :=
  ⟨h.len, fun j hj => (hb.cell (p := ⟨bk, j, none⟩) (cell_lt (h.cell j hj))).trans (h.cell j hj), fun j hj => (h.row j hj).below hb, h.ok⟩
theorem ntxs_le (ls : List (List Nat)) (h : ∀ j, j < ls.length → LOk (ls.getD j [])) : ∀ x ∈ ls.map nTx, x.size ≤ 2304 := by
  intro x hx
  obtain ⟨l, hl, rfl⟩ := List.mem_map.1 hx
  obtain ⟨j, hj, rfl⟩ := List.getElem_of_mem hl
  have := (h j hj).1
  rw [List.getD_eq_getElem?_getD, List.getElem?_eq_getElem hj] at this
  exact nTx_size this

set_option maxHeartbeats 1600000 in
set_option maxRecDepth 20000 in
theorem textLists_any (bk : Nat) (vs : List Value) (ls : List (List Nat)) (w : World) (h : LRows w bk vs ls) (h1 : 1 ≤ ls.length) (h8 : ls.length ≤ 8) (ht : Tabs w) : Calls Tryd.prog 73 #[.slice (some ⟨bk, 0, none⟩) ls.length ls.length] w fun e w' => e = .returned (.string (jn 59 (ls.map nTx))) ∧ Below w.heap.size w w' := by
  have HT := Lib.hid ht
  have HR := Lib.hid h
  have HH := Lib.hid (fun k (hk : k < ls.length) (w1 : World) (hT : Tabs w1) (hr : FRow w1 (vs.getD k default) (ls.getD k [])) => show Calls Tryd.prog 31 #[vs.getD k default] w1 (fun e w' => e = .returned (.tuple #[.string (nTx (ls.getD k [])), .bool true]) ∧ Below w1.heap.size w1 w') from by
    have := implNT_any (vs.getD k default) (ls.getD k []) w1 hr (h.ok k hk).2 hT
    unfold TxB fewB at this
    rw [decide_eq_true (h.ok k hk).1] at this
    exact this)
  have hmk := run_make_row' (P := Tryd.prog) 25 9 (.string ⟨#[]⟩) 16 Tryd.underlying25 Tryd.rowOfZ rfl .i64 .i64 ls.length (by omega) (by omega)
  have HJ := Lib.hid (fun (w1 : World) (b : Nat) (hcells : ∀ (j : Nat) x, (ls.map nTx)[j]? = some x → w1.cell? ⟨b, 0 + j, none⟩ = some (.string x)) (hbk : b < w1.heap.size) =>
    show Calls Tryd.prog 93 #[.slice (some ⟨b, 0, none⟩) (ls.map nTx).length ls.length, .string ⟨#[59]⟩] w1 (fun e w' => e = .returned (.string (jn 59 (ls.map nTx))) ∧ Below w1.heap.size w1 w') from Tryd.strings_Join b 0 ls.length (ls.map nTx) ⟨#[59]⟩ w1 hcells hbk (by rw [List.length_map]; omega) (by rw [List.length_map]; exact Nat.le_refl _) (by
      have := jn_len 59 2304 (ls.map nTx) (ntxs_le ls h.ok)
      rw [List.length_map] at this
      show (Lib.join _ [59]).length ≤ _
      omega))
  have HG := Lib.hid (fun j (hj : j < ls.length) => show (ls.map nTx)[j]? = some (nTx (ls.getD j [])) by rw [List.getElem?_map, List.getElem?_eq_getElem hj, List.getD_eq_getElem?_getD, List.getElem?_eq_getElem hj]; rfl)
  have HC := Lib.hid (fun (w1 : World) (hb : Below w.heap.size w w1) k (hk : k < ls.length) => (hb.cell (p := ⟨bk, k, none⟩) (cell_lt (h.cell k hk))).trans (h.cell k hk))
  have HLm : Hid ((ls.map nTx).length = ls.length) := Lib.hid (List.length_map _)
  have HRow := Lib.hid (fun (w1 : World) (hb : Below w.heap.size w w1) k (hk : k < ls.length) => (h.below hb).row k hk)
  have HV := Lib.hid (fun k (hk : k < ls.length) => (h.row k hk).shape)
  clear h ht
  generalize jn 59 (ls.map nTx) = T at *
  generalize hlen : ls.length = n at *
  have HL := Lib.hid hlen
  clear hlen HR
  have R0 := Lib.hid ((World.rowIs_made w (.string ⟨#[]⟩) n 9).congr (g := fun j => .string (if j < 0 then nTx (ls.getD j []) else ⟨#[]⟩)) (fun j _ => by simp))
  go_enter Tryd.func73, Tryd.ntmps73
  go_wp2
  go_loopw [11] (fun i wr => ∃ k : Nat, k ≤ n ∧ i = .int .i64 k ∧ Hid (Below w.heap.size w wr) ∧ Hid (wr.rowIs w.heap.size 9 n (fun j => .string (if j < k then nTx (ls.getD j []) else ⟨#[]⟩)))) (fun i _ => n - (intOf i).toNat)
  case atStart => exact ⟨0, by omega, rfl, Lib.hid (below_al1 w _), R0⟩
  case round =>
    obtain ⟨k, hk, rfl, hb, hr⟩ := hrel
    by_cases hlt : k < n
    · have c0 := HC.out _ hb.out k hlt
      have HA := Lib.hid (HH.out k hlt wr (HT.out.below hb.out) (HRow.out _ hb.out k hlt))
      obtain ⟨a, cap, hv⟩ := HV.out k hlt
      rw [hv] at c0 HA
      clear hv
      go_wp2_with fail
      refine HA.out.mono ?_
      rintro e w2 ⟨rfl, hb2⟩
      have B2 := Lib.hid (below_step hb.out hb2)
      have R2 := Lib.hid (hr.out.of_block (hb2.block _ hr.out.lt))
      clear hb2 c0
      have C1 := R2.out.cell hlt
      have F1 := R2.out.frozen k
      have R3 := Lib.hid (R2.out.set k (.string (nTx (ls.getD k []))))
      have B3 := Lib.hid (B2.out.setCell (p := ⟨w.heap.size, k, none⟩) (Nat.le_refl _) (.string (nTx (ls.getD k []))))
      have HX := Lib.hid (fun j => show (if j = k then (.string (nTx (ls.getD k [])) : Value) else .string (if j < k then nTx (ls.getD j []) else ⟨#[]⟩)) = .string (if j < k + 1 then nTx (ls.getD j []) else ⟨#[]⟩) by
        by_cases e : j = k
        · subst e; rw [if_pos rfl, if_pos (by omega)]
        · rw [if_neg e]
          by_cases e2 : j < k
          · rw [if_pos e2, if_pos (by omega)]
          · rw [if_neg e2, if_neg (by omega)])
      rw [if_neg (Nat.lt_irrefl k)] at C1
      generalize nTx (ls.getD k []) = y at *
      go_wp2
      go_roundw
      case rel => exact ⟨k + 1, by omega, by go_num, B3, Lib.hid (R3.out.congr (fun j _ => HX.out j))⟩
      case measure => simp [intOf]; omega
    · have e : k = n := by omega
      subst e
      have HA := HJ.out wr w.heap.size (fun j x hx => by
        have hj : j < k := by
          by_cases hj : j < k
          · exact hj
          · rw [List.getElem?_eq_none (by rw [HLm.out]; omega)] at hx; cases hx
        rw [HG.out j hj] at hx
        cases hx
        rw [Nat.zero_add, hr.out.cell hj, if_pos hj]) hr.out.lt
      rw [HLm.out] at HA
      have HA := Lib.hid HA
      clear HJ
      go_wp2_with fail
      refine HA.out.mono ?_
      rintro e w2 ⟨rfl, hb2⟩
      have B2 := Lib.hid (below_step hb.out hb2)
      clear hb2
      go_wp2
      go_ret
      exact ⟨rfl, B2.out⟩
end Go.Proofs.YthedpbdeahieaaaDoor
