/- Numbers read from a text: the program. -/
import Derived.Test.YtbgldggaiefhoaaDoorRnS
import Derived.Test.YtbgldggaiefhoaaDoorMarkO
import Derived.Test.YtbgldggaiefhoaaDoorMaxP
import Derived.Test.YtbgldggaiefhoaaDoorShelf
import Derived.Test.YtbgldggaiefhoaaDoorFr
import Derived.Test.YtbgldggaiefhoaaDoorSameL
namespace Go.Proofs.YtbgldggaiefhoaaDoor
open Go.RowKit
set_option linter.unusedVariables false

theorem part_le (c : UInt8) : ∀ (n : Nat) (s : ByteArray), s.size ≤ n → ∀ x ∈ cutZ c s, x.size ≤ s.size := by
  intro n
  induction n with
  | zero =>
    intro s hs x hx
    rw [cutZ_none (fun j hj => by omega)] at hx
    obtain rfl := List.mem_singleton.1 hx
    exact Nat.le_refl _
  | succ n ih =>
    intro s hs x hx
    have hsz := Lib.size_eq s
    rcases first_mark c s.data.toList with h | ⟨i, h, hi⟩
    · rw [cutZ_none (fun j hj => h j (by omega))] at hx
      obtain rfl := List.mem_singleton.1 hx
      exact Nat.le_refl _
    · have hlt := lt_of_at hi
      rw [cutZ_at h hi] at hx
      rcases List.mem_cons.1 hx with rfl | hx
      · simp only [ByteArray.size_extract]; omega
      · have := ih (s.extract (i + 1) s.size) (by rw [size_ex]; omega) x hx
        rw [size_ex] at this; omega
def RnO (s : ByteArray) (w : World) (e : Ending) (w' : World) : Prop := ∃ v, e = .returned (.tuple #[v, .bool (nlOk s)]) ∧ ORow w.heap.size w' v (nlL s) ∧ Below w.heap.size w w'
theorem cells_of (ps : List ByteArray) (N k : Nat) (hk : k < ps.length) : (Lib.cellsOf ps N)[k]? = some (.string (ps.getD k ⟨#[]⟩)) := by
  unfold Lib.cellsOf
  rw [List.getElem?_toArray, List.getElem?_append_left (by simpa using hk), List.getElem?_map, List.getElem?_eq_getElem hk, List.getD_eq_getElem?_getD, List.getElem?_eq_getElem hk]
  rfl

set_option maxHeartbeats 3200000 in
set_option maxRecDepth 8000 in
theorem implNl_any (s : ByteArray) (w : World) (hs : s.size ≤ 1048576) (hM : MaxP w) : Calls Tryd.prog 55 #[.string s, .int .i64 256, .func (.func 56) #[] #[]] w (RnO s w) := by
  cases hn : isNone s with
  | true =>
    have HP : Hid (RnO s w (.returned (.tuple #[.slice none 0 0, .bool true])) w) := Lib.hid ⟨_, by rw [(nl_none hn).1], by rw [(nl_none hn).2]; exact .nil, Below.refl _ _⟩
    have q : (s.toList == [110, 111, 110, 101]) = true := hn
    clear hn
    go_enter Tryd.func55, Tryd.ntmps55
    go_wp2
    go_ret2
    exact HP.out
  | false =>
    have q : (s.toList == [110, 111, 110, 101]) = false := hn
    obtain ⟨m, hm⟩ := hM
    obtain ⟨ps, hps⟩ : ∃ ps, cutZ 44 s = ps := ⟨_, rfl⟩
    have HP : Hid (Calls Tryd.prog 97 #[.string s, .string ⟨#[44]⟩, .int .i64 257] w fun e w' => e = .returned (.slice (some ⟨w.heap.size, 0, none⟩) (Lib.splitB (mkZ 44) 0 (min (256 + 1) (s.size + 1) - 1) s).length (min (256 + 1) (s.size + 1))) ∧ w' = w.alloc (.cells (Lib.cellsOf (Lib.splitB (mkZ 44) 0 (min (256 + 1) (s.size + 1) - 1) s) (min (256 + 1) (s.size + 1))) 9)) :=
      Lib.hid (Tryd.strings_SplitN s (mkZ 44) 257 m w (by omega) hm (Nat.le_refl 1) (by omega) (by omega))
    obtain ⟨C, hC⟩ : ∃ C, min (256 + 1) (s.size + 1) = C := ⟨_, rfl⟩
    by_cases hfew : ps.length ≤ 256
    · have hL : Lib.splitB (mkZ 44) 0 (min (256 + 1) (s.size + 1) - 1) s = ps := by rw [← hps]; exact splitN_few 44 s 256 (by rw [hps]; exact hfew)
      rw [hL, hC] at HP
      have HG : Hid ((∀ k, k < ps.length → rnOk (ps.getD k ⟨#[]⟩) = true) → ∀ v w', ORow w.heap.size w' v (ps.map rnV) → Below w.heap.size w w' → RnO s w (.returned (.tuple #[v, .bool true])) w') := Lib.hid (fun ha v w' hr hb => by
        have e := nl_good hn (by rw [hps]; exact hfew) (by rw [hps]; exact ha)
        exact ⟨v, by rw [e.1], by rw [e.2, hps]; exact hr, hb⟩)
      have HB : Hid (∀ k, k < ps.length → rnOk (ps.getD k ⟨#[]⟩) = false → ∀ w', Below w.heap.size w w' → RnO s w (.returned (.tuple #[.slice none 0 0, .bool false])) w') := Lib.hid (fun k hk ha w' hb => by
        have e := nl_bad hn (k := k) (by rw [hps]; exact hk) (by rw [hps]; exact ha)
        exact ⟨_, by rw [e.1], by rw [e.2]; exact .nil, hb⟩)
      have HS := Lib.hid (fun k (hk : k < ps.length) => show (ps.getD k ⟨#[]⟩).size ≤ 1048576 from by
        have h1 := part_le 44 s.size s (Nat.le_refl _) (ps.getD k ⟨#[]⟩) (by
          rw [hps, List.getD_eq_getElem?_getD, List.getElem?_eq_getElem hk]
          exact List.getElem_mem hk)
        omega)
      have HV := Lib.hid (fun x w1 (hx : x.size ≤ 1048576) => implRn_any x w1)
      have hmk := run_make_row' (P := Tryd.prog) 30 54 (.float .f32 0) 4 Tryd.underlying30 Tryd.rowOf32 rfl .i64 .i64 ps.length (by omega) (by omega)
      have CL := Lib.hid (cells_of ps C)
      have B0 := Lib.hid (below_al1 w (.cells (Lib.cellsOf ps C) 9))
      clear hn hps hL hC hm
      obtain ⟨n, hnn⟩ : ∃ n, ps.length = n := ⟨_, rfl⟩
      have HN := Lib.hid hnn
      rw [hnn] at hfew hmk HP
      clear hnn
      go_enter Tryd.func55, Tryd.ntmps55
      go_wp2_with fail
      refine HP.out.mono ?_
      rintro e w1 ⟨rfl, hw⟩
      have B1 : Hid (Below w.heap.size w w1) := Lib.hid (by rw [hw]; exact B0.out)
      have PC : Hid (∀ k, k < n → w1.cell? ⟨w.heap.size, k, none⟩ = some (.string (ps.getD k ⟨#[]⟩))) := Lib.hid (fun k hk => by
        rw [hw]
        have := CL.out k (by have := HN.out; omega)
        rw [World.cell?_of_block (w := w.alloc (.cells (Lib.cellsOf ps C) 9)) (w' := w.alloc (.cells (Lib.cellsOf ps C) 9)) rfl]
        simp only [World.cell?]
        rw [show (w.alloc (.cells (Lib.cellsOf ps C) 9)).heap[w.heap.size]? = some (.cells (Lib.cellsOf ps C) 9 (0, 0)) from heap_alloc_new w _]
        exact this)
      clear hw B0 CL
      have R0 := Lib.hid ((World.rowIs_made w1 (.float .f32 0) n 54).congr (g := fun j => .float .f32 (if j < 0 then rnV (ps.getD j ⟨#[]⟩) else 0)) (fun j _ => by simp))
      go_wp2
      go_loopw [10, 11, 12, 13, 29] (fun _ _ _ _ i wr => ∃ k : Nat, k ≤ n ∧ i = .int .i64 k ∧ Hid (∀ j, j < k → rnOk (ps.getD j ⟨#[]⟩) = true) ∧ Hid (Below w1.heap.size w1 wr) ∧ Hid (wr.rowIs w1.heap.size 54 n (fun j => .float .f32 (if j < k then rnV (ps.getD j ⟨#[]⟩) else 0)))) (fun _ _ _ _ i _ => n - (intOf i).toNat)
      case atStart => exact ⟨0, by omega, rfl, Lib.hid (fun j h => by omega), Lib.hid (below_al1 w1 _), R0⟩
      case round =>
        obtain ⟨k, hk, rfl, ha, hb, hr⟩ := hrel
        by_cases hlt : k < n
        · have hcell : wr.cell? ⟨w.heap.size, k, none⟩ = some (.string (ps.getD k ⟨#[]⟩)) := (hb.out.cell (p := ⟨w.heap.size, k, none⟩) (cell_lt (PC.out k hlt))).trans (PC.out k hlt)
          have HSx := Lib.hid (HS.out k (by have := HN.out; omega))
          obtain ⟨x, hx⟩ : ∃ x, ps.getD k ⟨#[]⟩ = x := ⟨_, rfl⟩
          rw [hx] at hcell HSx
          have HX := Lib.hid hx
          clear hx
          go_wp2_with fail
          refine (HV.out x _ HSx.out).mono ?_
          rintro e w2 ⟨rfl, hb2⟩
          have R2 := Lib.hid (hr.out.of_block (hb2.block _ hr.out.lt))
          have B2 := Lib.hid (below_step hb.out hb2)
          clear hb2 hcell
          cases hrd : rnOk x with
          | false =>
            have HR := Lib.hid (HB.out k (by have := HN.out; omega) (by rw [HX.out]; exact hrd) w2 (below_step B1.out B2.out))
            clear hrd
            go_wp2
            go_ret2
            exact HR.out
          | true =>
            obtain ⟨y, hy⟩ : ∃ y, rnV x = y := ⟨_, rfl⟩
            have C1 := R2.out.cell hlt
            have F1 := R2.out.frozen k
            have R3 := Lib.hid (R2.out.set k (.float .f32 y))
            have B3 := Lib.hid (B2.out.setCell (p := ⟨w1.heap.size, k, none⟩) (Nat.le_refl _) (.float .f32 y))
            have HA : Hid (∀ j, j < k + 1 → rnOk (ps.getD j ⟨#[]⟩) = true) := Lib.hid (fun j hj => by
              by_cases e : j = k
              · rw [e, HX.out]; exact hrd
              · exact ha.out j (by omega))
            have HY := Lib.hid (fun j => show (if j = k then (.float .f32 y : Value) else .float .f32 (if j < k then rnV (ps.getD j ⟨#[]⟩) else 0)) = .float .f32 (if j < k + 1 then rnV (ps.getD j ⟨#[]⟩) else 0) by
              by_cases e : j = k
              · subst e; rw [if_pos rfl, if_pos (by omega), HX.out, hy]
              · rw [if_neg e]
                by_cases e2 : j < k
                · rw [if_pos e2, if_pos (by omega)]
                · rw [if_neg e2, if_neg (by omega)])
            rw [if_neg (Nat.lt_irrefl k)] at C1
            rw [hy]
            clear hrd hy
            go_wp2
            go_roundw
            case rel => exact ⟨k + 1, by omega, by go_num, HA, B3, Lib.hid (R3.out.congr (fun j _ => HY.out j))⟩
            case measure => simp [intOf]; omega
        · have e : k = n := by omega
          have HE := Lib.hid (HG.out (fun j hj => ha.out j (by have := HN.out; omega)))
          have hlen : (ps.map rnV).length = n := by rw [List.length_map]; exact HN.out
          have HO : Hid (ORow w.heap.size wr (.slice (some ⟨w1.heap.size, 0, none⟩) n n) (ps.map rnV)) := Lib.hid (.inr ⟨w1.heap.size, 0, n, by rw [hlen], B1.out.size, RowF.of_row hr.out (by omega) (fun i hi => by
            rw [Nat.zero_add, if_pos (by omega)]
            simp only [List.getD_eq_getElem?_getD, List.getElem?_map]
            rw [List.getElem?_eq_getElem (by simpa using hi)]
            rfl)⟩)
          have BE := Lib.hid (below_step B1.out hb.out)
          clear ha hlen
          go_wp2
          go_ret2
          exact HE.out _ _ HO.out BE.out
    · have hL : (Lib.splitB (mkZ 44) 0 (min (256 + 1) (s.size + 1) - 1) s).length = 257 := splitN_many 44 s 256 (by rw [hps]; exact hfew)
      rw [hL, hC] at HP
      have HB : Hid (∀ w', Below w.heap.size w w' → RnO s w (.returned (.tuple #[.slice none 0 0, .bool false])) w') := Lib.hid (fun w' hb => by
        have e := nl_many hn (by rw [hps]; exact hfew)
        exact ⟨_, by rw [e.1], by rw [e.2]; exact .nil, hb⟩)
      have B0 := Lib.hid (fun o => below_al1 w o)
      clear hn hps hL hC hm
      go_enter Tryd.func55, Tryd.ntmps55
      go_wp2_with fail
      refine HP.out.mono ?_
      rintro e w1 ⟨rfl, hw⟩
      have B1 : Hid (Below w.heap.size w w1) := Lib.hid (by rw [hw]; exact B0.out _)
      clear hw
      go_wp2
      go_ret2
      exact HB.out _ B1.out
theorem implReadNumbers_any (s : ByteArray) (w : World) (hs : s.size ≤ 1048576) (hM : MaxP w) : Calls Tryd.prog 21 #[.string s] w (RnO s w) := by
  have HC := Lib.hid (implNl_any s w hs hM)
  clear hM
  go_enter Tryd.func21, Tryd.ntmps21
  go_wp2_with fail
  refine HC.out.mono ?_
  rintro e w1 ⟨v, rfl, hr, hb⟩
  have H := Lib.hid (show ORow w.heap.size w1 v (nlL s) ∧ Below w.heap.size w w1 from ⟨hr, hb⟩)
  clear hr hb
  go_wp2
  go_ret2
  exact ⟨_, rfl, H.out.1, H.out.2⟩
end Go.Proofs.YtbgldggaiefhoaaDoor
