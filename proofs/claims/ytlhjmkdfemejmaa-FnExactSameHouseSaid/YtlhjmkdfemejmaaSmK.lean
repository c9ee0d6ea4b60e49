/- Whether two lists of links are the same: the program. -/
import Derived.Test.YtlhjmkdfemejmaaLk
import Derived.Test.YtlhjmkdfemejmaaSameN
import Derived.Test.YtlhjmkdfemejmaaLooseG
import Derived.Test.YtlhjmkdfemejmaaFacts2
import Derived.StillTailTactics
import Derived.Laws.StructEq
import Derived.ChangeKeysEq
import Derived.Deep.RegionHeld3
import Derived.Deep.QuietTactic
import Derived.BigQuiet
namespace Go.Proofs.Ytlhjmkdfemejmaa
open Go.RowKit
set_option linter.unusedVariables false

def sameL (s t : LK) : Bool := (s.a == t.a) && (s.b == t.b) && sm s.ps t.ps
def sameLL (zs ys : List LK) : Bool := (zs.length == ys.length) && (zs.zip ys).all (fun p => sameL p.1 p.2)
theorem sameLL_len {zs ys : List LK} (h : ¬ zs.length = ys.length) : sameLL zs ys = false := by unfold sameLL; simp [h]
theorem sameLL_no {zs ys : List LK} {k : Nat} {s t : LK} (hs : zs[k]? = some s) (ht : ys[k]? = some t) (h : sameL s t = false) : sameLL zs ys = false := by
  unfold sameLL
  rw [Bool.and_eq_false_iff]
  right
  rw [List.all_eq_false]
  refine ⟨(s, t), List.mem_of_getElem? (i := k) ?_, by simp [h]⟩
  rw [List.getElem?_zip_eq_some]
  exact ⟨hs, ht⟩
theorem sameLL_yes {zs ys : List LK} (hl : zs.length = ys.length) (h : ∀ (k : Nat) (s t : LK), zs[k]? = some s → ys[k]? = some t → sameL s t = true) : sameLL zs ys = true := by
  unfold sameLL
  rw [Bool.and_eq_true]
  refine ⟨by simp [hl], ?_⟩
  rw [List.all_eq_true]
  rintro ⟨s, t⟩ hp
  obtain ⟨k, hk⟩ := List.mem_iff_getElem?.1 hp
  rw [List.getElem?_zip_eq_some] at hk
  exact h k s t hk.1 hk.2

set_option maxRecDepth 20000 in
set_option maxHeartbeats 800000 in
theorem bitsL_any (s : LK) (w : World) (ws : s.wf) : Calls Try.prog 152 #[.agg #[.int .i64 s.a, .int .i64 s.b, .float .f32 s.ps]] w fun e w1 => e = .returned (.agg #[.int .i64 s.a, .int .i64 s.b, .int .i64 (bits32 s.ps)]) ∧ Below w.heap.size w w1 := by
  have Wps := Lib.hid ws.2.2
  clear ws
  have A : Cells (((w.alloc (.cells #[.int .i64 s.a, .int .i64 s.b, .float .f32 s.ps] 121)).alloc (.cells #[.int .i64 0, .int .i64 0, .int .i64 0] 150)).drew) w.heap.size [.int .i64 s.a, .int .i64 s.b, .float .f32 s.ps] := ((Cells.made w [.int .i64 s.a, .int .i64 s.b, .float .f32 s.ps] 121).al (.cells #[.int .i64 0, .int .i64 0, .int .i64 0] 150)).drewN (n := 1)
  have R : Cells (((w.alloc (.cells #[.int .i64 s.a, .int .i64 s.b, .float .f32 s.ps] 121)).alloc (.cells #[.int .i64 0, .int .i64 0, .int .i64 0] 150)).drew) (w.alloc (.cells #[.int .i64 s.a, .int .i64 s.b, .float .f32 s.ps] 121)).heap.size [.int .i64 0, .int .i64 0, .int .i64 0] := (Cells.made (w.alloc (.cells #[.int .i64 s.a, .int .i64 s.b, .float .f32 s.ps] 121)) [.int .i64 0, .int .i64 0, .int .i64 0] 150).drewN (n := 1)
  rw [show (w.alloc (.cells #[.int .i64 s.a, .int .i64 s.b, .float .f32 s.ps] 121)).heap.size = w.heap.size + 1 from by simp] at R
  have Bw : Below w.heap.size w (((w.alloc (.cells #[.int .i64 s.a, .int .i64 s.b, .float .f32 s.ps] 121)).alloc (.cells #[.int .i64 0, .int .i64 0, .int .i64 0] 150)).drew) := below_drewN (below_al2 w (.cells #[.int .i64 s.a, .int .i64 s.b, .float .f32 s.ps] 121) (.cells #[.int .i64 0, .int .i64 0, .int .i64 0] 150)) 1
  go_enter Try.func152, Try.ntmps152
  go_wp2
  refine wp_region_still_tail 8 (by kernel_rfl) (by kernel_rfl) ?_
  simp only [List.take_succ_cons, List.take_zero, List.drop_succ_cons, List.drop_zero]
  change wpStill _ _ (((w.alloc (.cells #[.int .i64 s.a, .int .i64 s.b, .float .f32 s.ps] 121)).alloc (.cells #[.int .i64 0, .int .i64 0, .int .i64 0] 150)).drew) (fun x => wpList _ _ _ _ x (((w.alloc (.cells #[.int .i64 s.a, .int .i64 s.b, .float .f32 s.ps] 121)).alloc (.cells #[.int .i64 0, .int .i64 0, .int .i64 0] 150)).drew)) _ _
  generalize (((w.alloc (.cells #[.int .i64 s.a, .int .i64 s.b, .float .f32 s.ps] 121)).alloc (.cells #[.int .i64 0, .int .i64 0, .int .i64 0] 150)).drew) = w2 at *
  have c0 := A.at 0 rfl
  have c1 := A.at 1 rfl
  have c2 := A.at 2 rfl
  have A := Lib.hid A
  have R := Lib.hid R
  have Bw := Lib.hid Bw
  repeat still_step
  still_call (bitsC s.ps Wps.out _)
  repeat still_step
  try refine wpStill_nil ?_
  have r0 := R.out.at 0 rfl
  have r1 := R.out.at 1 rfl
  have r2 := R.out.at 2 rfl
  have rf := R.out.fz
  go_wp2
  refine bodyPost_ret (v := .agg #[.int .i64 s.a, .int .i64 s.b, .int .i64 (bits32 s.ps)]) ?_ rfl ?_
  · rw [results_cell1 rfl]
    go_simp
  · exact ⟨rfl, by repeat (first | (with_reducible exact Bw.out) | (with_reducible refine Below.setCell ?_ (by show w.heap.size ≤ w.heap.size + 1; omega) _))⟩

set_option maxRecDepth 100000 in
set_option maxHeartbeats 1600000 in
theorem run_sbL (a0 b0 : Int) (a1 b1 : Int) (a2 b2 : Int) (w : World) : (binOp .eql 150 (.agg #[.int .i64 a0, .int .i64 a1, .int .i64 a2]) (.agg #[.int .i64 b0, .int .i64 b1, .int .i64 b2])).run Try.prog w = .ok (.bool ((a0 == b0) && (a1 == b1) && (a2 == b2))) w := by
  have hs : (Try.prog.info? 2).isSome = true := by kernel_rfl
  obtain ⟨i, hi⟩ := Option.isSome_iff_exists.1 hs
  have hc : Try.prog.cellsOf 2 = 1 := by kernel_rfl
  have he : Try.prog.plainKey 2 = true := by kernel_rfl
  rw [run_eql_struct, show (10000 : Nat) = 9999 + 1 from rfl, run_equalIn_array w 9999 _ _ Try.underlying150 hi, hc, show List.range 3 = [0, 1, 2] from rfl, show (9999 : Nat) = 9998 + 1 from rfl]
  generalize (9998 : Nat) = d
  have E := fun (x y : Int) => run_equalIn_int (P := Try.prog) w d 2 .i64 .i64 x y Try.underlying2
  have pa0 := run_part_plain w he (xs := #[.int .i64 a0, .int .i64 a1, .int .i64 a2]) (off := 0) (v := .int .i64 a0) rfl
  have pb0 := run_part_plain w he (xs := #[.int .i64 b0, .int .i64 b1, .int .i64 b2]) (off := 0) (v := .int .i64 b0) rfl
  have pa1 := run_part_plain w he (xs := #[.int .i64 a0, .int .i64 a1, .int .i64 a2]) (off := 1) (v := .int .i64 a1) rfl
  have pb1 := run_part_plain w he (xs := #[.int .i64 b0, .int .i64 b1, .int .i64 b2]) (off := 1) (v := .int .i64 b1) rfl
  have pa2 := run_part_plain w he (xs := #[.int .i64 a0, .int .i64 a1, .int .i64 a2]) (off := 2) (v := .int .i64 a2) rfl
  have pb2 := run_part_plain w he (xs := #[.int .i64 b0, .int .i64 b1, .int .i64 b2]) (off := 2) (v := .int .i64 b2) rfl
  simp only [Op.eqItems, Nat.zero_mul, Nat.one_mul, Nat.reduceMul, Sem.run_bind, Sem.run_ite, Sem.run_pure, pa0, pb0, pa1, pb1, pa2, pb2, Result.andThen_ok, E]
  cases h0 : (a0 == b0)
  · simp
  · cases h1 : (a1 == b1)
    · simp
    · cases h2 : (a2 == b2) <;> simp

set_option maxHeartbeats 1600000 in
theorem cloL_any (s t : LK) (w : World) (ws : s.wf) (wt : t.wf) : Calls Try.prog 112 #[.agg #[.int .i64 s.a, .int .i64 s.b, .float .f32 s.ps], .agg #[.int .i64 t.a, .int .i64 t.b, .float .f32 t.ps]] w (BolB (sameL s t) w) := by
  have A := Lib.hid ((Cells.made w [.int .i64 s.a, .int .i64 s.b, .float .f32 s.ps] 121).al (.cells #[.int .i64 t.a, .int .i64 t.b, .float .f32 t.ps] 121))
  have X := Cells.made (w.alloc (.cells #[.int .i64 s.a, .int .i64 s.b, .float .f32 s.ps] 121)) [.int .i64 t.a, .int .i64 t.b, .float .f32 t.ps] 121
  rw [show (w.alloc (.cells #[.int .i64 s.a, .int .i64 s.b, .float .f32 s.ps] 121)).heap.size = w.heap.size + 1 from by simp] at X
  have X := Lib.hid X
  have Bw := Lib.hid (below_al2 w (.cells #[.int .i64 s.a, .int .i64 s.b, .float .f32 s.ps] 121) (.cells #[.int .i64 t.a, .int .i64 t.b, .float .f32 t.ps] 121))
  have E := fun w => run_sbL s.a t.a s.b t.b (bits32 s.ps) (bits32 t.ps) w
  have hg : Try.prog.eqGuardType Try.prog.depth 150 = false := by kernel_rfl
  have FACT := Lib.hid (fun w1 (hw : Ext ((w.alloc (.cells #[.int .i64 s.a, .int .i64 s.b, .float .f32 s.ps] 121)).alloc (.cells #[.int .i64 t.a, .int .i64 t.b, .float .f32 t.ps] 121)) w1) => (And.intro (hw.cell (A.out.at 0 rfl)) (And.intro (hw.cell (A.out.at 1 rfl)) (And.intro (hw.cell (A.out.at 2 rfl)) (And.intro (hw.cell (X.out.at 0 rfl)) (And.intro (hw.cell (X.out.at 1 rfl)) (hw.cell (X.out.at 2 rfl))))))))
  go_enter Try.func112, Try.ntmps112
  go_wp2
  refine wp_region_facts (Ext ((w.alloc (.cells #[.int .i64 s.a, .int .i64 s.b, .float .f32 s.ps] 121)).alloc (.cells #[.int .i64 t.a, .int .i64 t.b, .float .f32 t.ps] 121))) (TS [(6, fIs (.agg #[.int .i64 s.a, .int .i64 s.b, .int .i64 (bits32 s.ps)])), (8, fIs (.agg #[.int .i64 t.a, .int .i64 t.b, .int .i64 (bits32 t.ps)]))]) (Pers.ext _) (TS.pers _) (Ext.start _) (by kernel_rfl) (by kernel_rfl) (by intro d v c a w h; cases d <;> exact h) ?_
  repeat (refine wpF_val rfl monoQ_end (by rintro _ ⟨⟩; rfl) ?_ (fun w1 hw1 => ?_) (fun K hK => ?_); rotate_left; (focus (have hF := FACT.out w1 hw1; go_simp; first | done | rfl)); go_simp; refine hK _ ?_; clear hK K)
  refine wpF_callV rfl 6 rfl 152 #[.agg #[.int .i64 s.a, .int .i64 s.b, .float .f32 s.ps]] (.agg #[.int .i64 s.a, .int .i64 s.b, .int .i64 (bits32 s.ps)]) rfl (fun w1 => ?_) (fun w1 _ => ?_) ?_
  · go_simp
  · exact bitsL_any s w1 ws
  repeat (refine wpF_val rfl monoQ_end (by rintro _ ⟨⟩; rfl) ?_ (fun w1 hw1 => ?_) (fun K hK => ?_); rotate_left; (focus (have hF := FACT.out w1 hw1; go_simp; first | done | rfl)); go_simp; refine hK _ ?_; clear hK K)
  refine wpF_callV rfl 8 rfl 152 #[.agg #[.int .i64 t.a, .int .i64 t.b, .float .f32 t.ps]] (.agg #[.int .i64 t.a, .int .i64 t.b, .int .i64 (bits32 t.ps)]) rfl (fun w1 => ?_) (fun w1 _ => ?_) ?_
  · go_simp
  · exact bitsL_any t w1 wt
  repeat (refine wpF_val rfl monoQ_end (by rintro _ ⟨⟩; rfl) ?_ (fun w1 hw1 => ?_) (fun K hK => ?_); rotate_left; (focus (have hF := FACT.out w1 hw1; go_simp; first | done | rfl)); go_simp; refine hK _ ?_; clear hK K)
  refine wpFacts_nil ?_
  intro w2 hC _
  go_wp2
  go_ret
  exact ⟨rfl, below_step Bw.out hC⟩

theorem eqfL_len (v v' : Value) (zs ys : List LK) (w : World) (h : LRow w v zs) (h' : LRow w v' ys) (hl : ¬ zs.length = ys.length) :
    Calls Try.prog 111 #[v, v', .func (.func 112) #[] #[]] w (BolB (sameLL zs ys) w) := by
  have V := Lib.hid (sameLL_len hl)
  obtain ⟨a, cap, rfl⟩ := h.shape
  obtain ⟨a', cap', rfl⟩ := h'.shape
  clear h h'
  generalize sameLL zs ys = v at *
  generalize zs.length = n at *
  generalize ys.length = m at *
  have f0 : ((n : Int) != (m : Int)) = true := by simp; omega
  have f1 : ((n : Int) == (m : Int)) = false := by simp; omega
  clear hl
  go_enter Try.func111, Try.ntmps111
  go_wp2
  go_ret
  exact ⟨ret_bb V.out, Below.refl _ _⟩

set_option maxHeartbeats 1600000 in
theorem eqfL_eq (v v' : Value) (zs ys : List LK) (w : World) (h : LRow w v zs) (h' : LRow w v' ys) (hw : ∀ x ∈ zs, x.wf) (hw' : ∀ x ∈ ys, x.wf) (hl : zs.length = ys.length) :
    Calls Try.prog 111 #[v, v', .func (.func 112) #[] #[]] w (BolB (sameLL zs ys) w) := by
  have VS := Lib.hid (fun k s t (hs : zs[k]? = some s) (ht : ys[k]? = some t) (e : sameL s t = false) => sameLL_no hs ht e)
  have VN := Lib.hid (fun h => sameLL_yes hl h)
  have HC := Lib.hid (fun w1 (hb : Below w.heap.size w w1) (hn : 1 ≤ zs.length) => (h.below hb).cells LK.len hn)
  have HC' := Lib.hid (fun w1 (hb : Below w.heap.size w w1) (hn : 1 ≤ ys.length) => (h'.below hb).cells LK.len hn)
  have AT := Lib.hid (fun k (hk : k < zs.length) => LK.at (zs := zs) hk)
  have AT' := Lib.hid (fun k (hk : k < ys.length) => LK.at (zs := ys) hk)
  have CL := Lib.hid (fun k s t (hs : zs[k]? = some s) (ht : ys[k]? = some t) w1 => cloL_any s t w1 (hw s (List.mem_of_getElem? hs)) (hw' t (List.mem_of_getElem? ht)))
  have HL := Lib.hid h.len
  obtain ⟨a, cap, rfl⟩ := h.shape
  obtain ⟨a', cap', rfl⟩ := h'.shape
  rw [← hl] at HC' AT' ⊢
  clear h h' hw hw' hl
  generalize sameLL zs ys = B at *
  generalize hn : zs.length = n at *
  have KL := Lib.hid hn
  clear hn
  go_enter Try.func111, Try.ntmps111
  go_wp2
  go_loopw [7, 8, 9, 17] (fun _ _ _ i wr => ∃ k : Nat, k ≤ n ∧ i = .int .i64 k ∧ Hid (∀ (j : Nat) (s t : LK), j < k → zs[j]? = some s → ys[j]? = some t → sameL s t = true) ∧ Hid (Below w.heap.size w wr)) (fun _ _ _ i _ => n - (intOf i).toNat)
  case atStart => exact ⟨0, Nat.zero_le _, rfl, Lib.hid (fun j s t hj => absurd hj (Nat.not_lt_zero _)), Lib.hid (Below.refl _ _)⟩
  case round =>
    obtain ⟨k, hk, rfl, hall, Bw⟩ := hrel
    by_cases hlt : k < n
    · obtain ⟨b0, o0, c0, e, hc⟩ := HC.out wr Bw.out (by omega)
      obtain ⟨b1, o1, c1, e', hc'⟩ := HC'.out wr Bw.out (by omega)
      have ea : a = some ⟨b0, o0, none⟩ := by cases e; rfl
      have ea' : a' = some ⟨b1, o1, none⟩ := by cases e'; rfl
      obtain ⟨s, hs⟩ := AT.out k hlt
      obtain ⟨t, ht⟩ := AT'.out k hlt
      have z := hc k s hs
      have y := hc' k t ht
      have z0 : wr.cell? ⟨b0, o0 + k * 3, none⟩ = some (.int .i64 s.a) := z 0 _ rfl
      have z1 : wr.cell? ⟨b0, o0 + k * 3 + 1, none⟩ = some (.int .i64 s.b) := z 1 _ rfl
      have z2 : wr.cell? ⟨b0, o0 + k * 3 + 2, none⟩ = some (.float .f32 s.ps) := z 2 _ rfl
      have y0 : (wr.alloc (.cells #[.int .i64 s.a, .int .i64 s.b, .float .f32 s.ps] 121)).cell? ⟨b1, o1 + k * 3, none⟩ = some (.int .i64 t.a) := ((below_al1 wr _).cell (p := ⟨b1, o1 + k * 3, none⟩) (cell_lt (y 0 _ rfl))).trans (y 0 _ rfl)
      have y1 : (wr.alloc (.cells #[.int .i64 s.a, .int .i64 s.b, .float .f32 s.ps] 121)).cell? ⟨b1, o1 + k * 3 + 1, none⟩ = some (.int .i64 t.b) := ((below_al1 wr _).cell (p := ⟨b1, o1 + k * 3 + 1, none⟩) (cell_lt (y 1 _ rfl))).trans (y 1 _ rfl)
      have y2 : (wr.alloc (.cells #[.int .i64 s.a, .int .i64 s.b, .float .f32 s.ps] 121)).cell? ⟨b1, o1 + k * 3 + 2, none⟩ = some (.float .f32 t.ps) := ((below_al1 wr _).cell (p := ⟨b1, o1 + k * 3 + 2, none⟩) (cell_lt (y 2 _ rfl))).trans (y 2 _ rfl)
      have VSk := Lib.hid (VS.out k s t hs ht)
      have CLk := Lib.hid (CL.out k s t hs ht)
      have HS := Lib.hid (And.intro hs ht)
      have Bw := Lib.hid (below_step Bw.out (below_al2 wr (.cells #[.int .i64 s.a, .int .i64 s.b, .float .f32 s.ps] 121) (.cells #[.int .i64 t.a, .int .i64 t.b, .float .f32 t.ps] 121)))
      clear e hc e' hc' z y hs ht VS VN HC HC' AT AT' CL
      subst ea
      subst ea'
      have hG := HL.out
      have hi : (0 : Int) ≤ (k : Int) := by omega
      have hi' : (k : Int) < (n : Int) := by omega
      cases S : sameL s t
      · have V := Lib.hid (VSk.out S)
        rw [S] at CLk
        clear S
        go_wp2_with fail
        refine (CLk.out _).mono ?_
        rintro e w1 ⟨rfl, hb⟩
        have Bw := Lib.hid (below_step Bw.out hb)
        clear hb
        go_wp2
        go_ret
        exact ⟨ret_bb V.out, Bw.out⟩
      · have V := Lib.hid S
        rw [S] at CLk
        clear S
        go_wp2_with fail
        refine (CLk.out _).mono ?_
        rintro e w1 ⟨rfl, hb⟩
        have Bw := Lib.hid (below_step Bw.out hb)
        clear hb
        go_wp2
        go_roundw
        case rel => exact ⟨k + 1, by omega, by go_num, Lib.hid (fun j s' t' hj hs ht => by rcases Nat.lt_succ_iff_lt_or_eq.1 hj with h | h; exact hall.out j s' t' h hs ht; subst h; have he := HS.out.1.symm.trans hs; have hf := HS.out.2.symm.trans ht; cases he; cases hf; exact V.out), Bw⟩
        case measure => simp [intOf]; omega
    · have e := Lib.hid (show k = n by omega)
      have V := Lib.hid (VN.out (fun j s t hs ht => hall.out j s t (by have h1 := (List.getElem?_eq_some_iff.1 hs).1; have h2 := e.out; have h3 := KL.out; omega) hs ht))
      clear VS VN HC HC' AT AT' CL
      go_wp2
      go_ret
      exact ⟨ret_bb V.out, Bw.out⟩

theorem eqfL_any (v v' : Value) (zs ys : List LK) (w : World) (h : LRow w v zs) (h' : LRow w v' ys) (hw : ∀ x ∈ zs, x.wf) (hw' : ∀ x ∈ ys, x.wf) : Calls Try.prog 111 #[v, v', .func (.func 112) #[] #[]] w (BolB (sameLL zs ys) w) := by
  by_cases hl : zs.length = ys.length
  · exact eqfL_eq v v' zs ys w h h' hw hw' hl
  · exact eqfL_len v v' zs ys w h h' hl
end Go.Proofs.Ytlhjmkdfemejmaa
