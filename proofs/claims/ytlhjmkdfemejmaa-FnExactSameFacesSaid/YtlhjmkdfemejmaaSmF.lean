/- Whether two lists of faces are the same: both sides, and the law. -/
import Derived.Test.YtlhjmkdfemejmaaFcS
import Derived.Test.YtlhjmkdfemejmaaSameN
import Derived.Test.YtlhjmkdfemejmaaLooseG
import Derived.Test.YtlhjmkdfemejmaaFacts2
import Derived.StillTailTactics
import Derived.Laws.StructEq
import Derived.Deep.RegionHeld3
import Derived.Deep.QuietTactic
import Derived.BigQuiet
namespace Go.Proofs.Ytlhjmkdfemejmaa
open Go.RowKit
set_option linter.unusedVariables false

def sameFc (s t : FA) : Bool := sm s.wd t.wd && sm s.sh t.sh && sm s.wm t.wm
def sameFcL (zs ys : List FA) : Bool := (zs.length == ys.length) && (zs.zip ys).all (fun p => sameFc p.1 p.2)
theorem sameFcL_len {zs ys : List FA} (h : ¬ zs.length = ys.length) : sameFcL zs ys = false := by unfold sameFcL; simp [h]
theorem sameFcL_no {zs ys : List FA} {k : Nat} {s t : FA} (hs : zs[k]? = some s) (ht : ys[k]? = some t) (h : sameFc s t = false) : sameFcL zs ys = false := by
  unfold sameFcL
  rw [Bool.and_eq_false_iff]
  right
  rw [List.all_eq_false]
  refine ⟨(s, t), List.mem_of_getElem? (i := k) ?_, by simp [h]⟩
  rw [List.getElem?_zip_eq_some]
  exact ⟨hs, ht⟩
theorem sameFcL_yes {zs ys : List FA} (hl : zs.length = ys.length) (h : ∀ (k : Nat) (s t : FA), zs[k]? = some s → ys[k]? = some t → sameFc s t = true) : sameFcL zs ys = true := by
  unfold sameFcL
  rw [Bool.and_eq_true]
  refine ⟨by simp [hl], ?_⟩
  rw [List.all_eq_true]
  rintro ⟨s, t⟩ hp
  obtain ⟨k, hk⟩ := List.mem_iff_getElem?.1 hp
  rw [List.getElem?_zip_eq_some] at hk
  exact h k s t hk.1 hk.2

set_option maxRecDepth 20000 in
set_option maxHeartbeats 800000 in
theorem bitsFc_any (s : FA) (w : World) (ws : s.wf) : Calls Try.prog 86 #[.agg #[.float .f32 s.wd, .float .f32 s.sh, .float .f32 s.wm]] w fun e w1 => e = .returned (.agg #[.int .i64 (bits32 s.wd), .int .i64 (bits32 s.sh), .int .i64 (bits32 s.wm)]) ∧ Below w.heap.size w w1 := by
  have Wwd := Lib.hid ws.1
  have Wsh := Lib.hid ws.2.1
  have Wwm := Lib.hid ws.2.2
  clear ws
  have A : Cells (((w.alloc (.cells #[.float .f32 s.wd, .float .f32 s.sh, .float .f32 s.wm] 84)).alloc (.cells #[.int .i64 0, .int .i64 0, .int .i64 0] 92)).drew) w.heap.size [.float .f32 s.wd, .float .f32 s.sh, .float .f32 s.wm] := ((Cells.made w [.float .f32 s.wd, .float .f32 s.sh, .float .f32 s.wm] 84).al (.cells #[.int .i64 0, .int .i64 0, .int .i64 0] 92)).drewN (n := 1)
  have R : Cells (((w.alloc (.cells #[.float .f32 s.wd, .float .f32 s.sh, .float .f32 s.wm] 84)).alloc (.cells #[.int .i64 0, .int .i64 0, .int .i64 0] 92)).drew) (w.alloc (.cells #[.float .f32 s.wd, .float .f32 s.sh, .float .f32 s.wm] 84)).heap.size [.int .i64 0, .int .i64 0, .int .i64 0] := (Cells.made (w.alloc (.cells #[.float .f32 s.wd, .float .f32 s.sh, .float .f32 s.wm] 84)) [.int .i64 0, .int .i64 0, .int .i64 0] 92).drewN (n := 1)
  rw [show (w.alloc (.cells #[.float .f32 s.wd, .float .f32 s.sh, .float .f32 s.wm] 84)).heap.size = w.heap.size + 1 from by simp] at R
  have Bw : Below w.heap.size w (((w.alloc (.cells #[.float .f32 s.wd, .float .f32 s.sh, .float .f32 s.wm] 84)).alloc (.cells #[.int .i64 0, .int .i64 0, .int .i64 0] 92)).drew) := below_drewN (below_al2 w (.cells #[.float .f32 s.wd, .float .f32 s.sh, .float .f32 s.wm] 84) (.cells #[.int .i64 0, .int .i64 0, .int .i64 0] 92)) 1
  go_enter Try.func86, Try.ntmps86
  go_wp2
  refine wp_region_still_tail 10 (by kernel_rfl) (by kernel_rfl) ?_
  simp only [List.take_succ_cons, List.take_zero, List.drop_succ_cons, List.drop_zero]
  change wpStill _ _ (((w.alloc (.cells #[.float .f32 s.wd, .float .f32 s.sh, .float .f32 s.wm] 84)).alloc (.cells #[.int .i64 0, .int .i64 0, .int .i64 0] 92)).drew) (fun x => wpList _ _ _ _ x (((w.alloc (.cells #[.float .f32 s.wd, .float .f32 s.sh, .float .f32 s.wm] 84)).alloc (.cells #[.int .i64 0, .int .i64 0, .int .i64 0] 92)).drew)) _ _
  generalize (((w.alloc (.cells #[.float .f32 s.wd, .float .f32 s.sh, .float .f32 s.wm] 84)).alloc (.cells #[.int .i64 0, .int .i64 0, .int .i64 0] 92)).drew) = w2 at *
  have c0 := A.at 0 rfl
  have c1 := A.at 1 rfl
  have c2 := A.at 2 rfl
  have A := Lib.hid A
  have R := Lib.hid R
  have Bw := Lib.hid Bw
  repeat still_step
  still_call (bitsC s.wd Wwd.out _)
  repeat still_step
  still_call (bitsC s.sh Wsh.out _)
  repeat still_step
  still_call (bitsC s.wm Wwm.out _)
  repeat still_step
  try refine wpStill_nil ?_
  have r0 := R.out.at 0 rfl
  have r1 := R.out.at 1 rfl
  have r2 := R.out.at 2 rfl
  have rf := R.out.fz
  go_wp2
  refine bodyPost_ret (v := .agg #[.int .i64 (bits32 s.wd), .int .i64 (bits32 s.sh), .int .i64 (bits32 s.wm)]) ?_ rfl ?_
  · rw [results_cell1 rfl]
    go_simp
  · exact ⟨rfl, by repeat (first | (with_reducible exact Bw.out) | (with_reducible refine Below.setCell ?_ (by show w.heap.size ≤ w.heap.size + 1; omega) _))⟩

set_option maxRecDepth 100000 in
set_option maxHeartbeats 1600000 in
theorem run_sbFc (a0 b0 : Int) (a1 b1 : Int) (a2 b2 : Int) (w : World) : (binOp .eql 92 (.agg #[.int .i64 a0, .int .i64 a1, .int .i64 a2]) (.agg #[.int .i64 b0, .int .i64 b1, .int .i64 b2])).run Try.prog w = .ok (.bool ((a0 == b0) && (a1 == b1) && (a2 == b2))) w := by
  have hs : Try.prog.stoodInHeld 92 = false := by kernel_rfl
  rw [run_eql_struct, show (10000 : Nat) = 9999 + 1 from rfl, run_equalIn_agg _ _ _ _ _ (by kernel_rfl) hs]
  rw [show Try.prog.fieldsOf 92 = _ from by unfold Program.fieldsOf; rw [Try.underlying92]]
  rw [show (9999 : Nat) = 9998 + 1 from rfl]
  generalize (9998 : Nat) = d
  go_simp
  by_cases h0 : a0 = b0
  case neg => first | (go_simp; done) | (simp [h0]; done) | simp_all
  by_cases h1 : a1 = b1
  case neg => first | (go_simp; done) | (simp [h0, h1]; done) | simp_all
  by_cases h2 : a2 = b2
  case neg => first | (go_simp; done) | (simp [h0, h1, h2]; done) | simp_all
  first | (go_simp; done) | simp_all

set_option maxHeartbeats 1600000 in
theorem cloFc_any (s t : FA) (w : World) (ws : s.wf) (wt : t.wf) : Calls Try.prog 85 #[.agg #[.float .f32 s.wd, .float .f32 s.sh, .float .f32 s.wm], .agg #[.float .f32 t.wd, .float .f32 t.sh, .float .f32 t.wm]] w (BolB (sameFc s t) w) := by
  have A := Lib.hid ((Cells.made w [.float .f32 s.wd, .float .f32 s.sh, .float .f32 s.wm] 84).al (.cells #[.float .f32 t.wd, .float .f32 t.sh, .float .f32 t.wm] 84))
  have X := Cells.made (w.alloc (.cells #[.float .f32 s.wd, .float .f32 s.sh, .float .f32 s.wm] 84)) [.float .f32 t.wd, .float .f32 t.sh, .float .f32 t.wm] 84
  rw [show (w.alloc (.cells #[.float .f32 s.wd, .float .f32 s.sh, .float .f32 s.wm] 84)).heap.size = w.heap.size + 1 from by simp] at X
  have X := Lib.hid X
  have Bw := Lib.hid (below_al2 w (.cells #[.float .f32 s.wd, .float .f32 s.sh, .float .f32 s.wm] 84) (.cells #[.float .f32 t.wd, .float .f32 t.sh, .float .f32 t.wm] 84))
  have E := fun w => run_sbFc (bits32 s.wd) (bits32 t.wd) (bits32 s.sh) (bits32 t.sh) (bits32 s.wm) (bits32 t.wm) w
  have hg : Try.prog.eqGuardType Try.prog.depth 92 = false := by kernel_rfl
  have FACT := Lib.hid (fun w1 (hw : Ext ((w.alloc (.cells #[.float .f32 s.wd, .float .f32 s.sh, .float .f32 s.wm] 84)).alloc (.cells #[.float .f32 t.wd, .float .f32 t.sh, .float .f32 t.wm] 84)) w1) => (And.intro (hw.cell (A.out.at 0 rfl)) (And.intro (hw.cell (A.out.at 1 rfl)) (And.intro (hw.cell (A.out.at 2 rfl)) (And.intro (hw.cell (X.out.at 0 rfl)) (And.intro (hw.cell (X.out.at 1 rfl)) (hw.cell (X.out.at 2 rfl))))))))
  go_enter Try.func85, Try.ntmps85
  go_wp2
  refine wp_region_facts (Ext ((w.alloc (.cells #[.float .f32 s.wd, .float .f32 s.sh, .float .f32 s.wm] 84)).alloc (.cells #[.float .f32 t.wd, .float .f32 t.sh, .float .f32 t.wm] 84))) (TS [(6, fIs (.agg #[.int .i64 (bits32 s.wd), .int .i64 (bits32 s.sh), .int .i64 (bits32 s.wm)])), (8, fIs (.agg #[.int .i64 (bits32 t.wd), .int .i64 (bits32 t.sh), .int .i64 (bits32 t.wm)]))]) (Pers.ext _) (TS.pers _) (Ext.start _) (by kernel_rfl) (by kernel_rfl) (by intro d v c a w h; cases d <;> exact h) ?_
  repeat (refine wpF_val rfl monoQ_end (by rintro _ ⟨⟩; rfl) ?_ (fun w1 hw1 => ?_) (fun K hK => ?_); rotate_left; (focus (have hF := FACT.out w1 hw1; go_simp; first | done | rfl)); go_simp; refine hK _ ?_; clear hK K)
  refine wpF_callV rfl 6 rfl 86 #[.agg #[.float .f32 s.wd, .float .f32 s.sh, .float .f32 s.wm]] (.agg #[.int .i64 (bits32 s.wd), .int .i64 (bits32 s.sh), .int .i64 (bits32 s.wm)]) rfl (fun w1 => ?_) (fun w1 _ => ?_) ?_
  · go_simp
  · exact bitsFc_any s w1 ws
  repeat (refine wpF_val rfl monoQ_end (by rintro _ ⟨⟩; rfl) ?_ (fun w1 hw1 => ?_) (fun K hK => ?_); rotate_left; (focus (have hF := FACT.out w1 hw1; go_simp; first | done | rfl)); go_simp; refine hK _ ?_; clear hK K)
  refine wpF_callV rfl 8 rfl 86 #[.agg #[.float .f32 t.wd, .float .f32 t.sh, .float .f32 t.wm]] (.agg #[.int .i64 (bits32 t.wd), .int .i64 (bits32 t.sh), .int .i64 (bits32 t.wm)]) rfl (fun w1 => ?_) (fun w1 _ => ?_) ?_
  · go_simp
  · exact bitsFc_any t w1 wt
  repeat (refine wpF_val rfl monoQ_end (by rintro _ ⟨⟩; rfl) ?_ (fun w1 hw1 => ?_) (fun K hK => ?_); rotate_left; (focus (have hF := FACT.out w1 hw1; go_simp; first | done | rfl)); go_simp; refine hK _ ?_; clear hK K)
  refine wpFacts_nil ?_
  intro w2 hC _
  go_wp2
  go_ret
  exact ⟨rfl, below_step Bw.out hC⟩

theorem eqfFc_len (v v' : Value) (zs ys : List FA) (w : World) (h : FcRow w v zs) (h' : FcRow w v' ys) (hl : ¬ zs.length = ys.length) :
    Calls Try.prog 84 #[v, v', .func (.func 85) #[] #[]] w (BolB (sameFcL zs ys) w) := by
  have V := Lib.hid (sameFcL_len hl)
  obtain ⟨a, cap, rfl⟩ := h.shape
  obtain ⟨a', cap', rfl⟩ := h'.shape
  clear h h'
  generalize sameFcL zs ys = v at *
  generalize zs.length = n at *
  generalize ys.length = m at *
  have f0 : ((n : Int) != (m : Int)) = true := by simp; omega
  have f1 : ((n : Int) == (m : Int)) = false := by simp; omega
  clear hl
  go_enter Try.func84, Try.ntmps84
  go_wp2
  go_ret
  exact ⟨ret_bb V.out, Below.refl _ _⟩

set_option maxHeartbeats 1600000 in
theorem eqfFc_eq (v v' : Value) (zs ys : List FA) (w : World) (h : FcRow w v zs) (h' : FcRow w v' ys) (hw : ∀ x ∈ zs, x.wf) (hw' : ∀ x ∈ ys, x.wf) (hl : zs.length = ys.length) :
    Calls Try.prog 84 #[v, v', .func (.func 85) #[] #[]] w (BolB (sameFcL zs ys) w) := by
  have VS := Lib.hid (fun k s t (hs : zs[k]? = some s) (ht : ys[k]? = some t) (e : sameFc s t = false) => sameFcL_no hs ht e)
  have VN := Lib.hid (fun h => sameFcL_yes hl h)
  have HC := Lib.hid (fun w1 (hb : Below w.heap.size w w1) (hn : 1 ≤ zs.length) => (h.below hb).cells FA.len hn)
  have HC' := Lib.hid (fun w1 (hb : Below w.heap.size w w1) (hn : 1 ≤ ys.length) => (h'.below hb).cells FA.len hn)
  have AT := Lib.hid (fun k (hk : k < zs.length) => FA.at (zs := zs) hk)
  have AT' := Lib.hid (fun k (hk : k < ys.length) => FA.at (zs := ys) hk)
  have CL := Lib.hid (fun k s t (hs : zs[k]? = some s) (ht : ys[k]? = some t) w1 => cloFc_any s t w1 (hw s (List.mem_of_getElem? hs)) (hw' t (List.mem_of_getElem? ht)))
  have HL := Lib.hid h.len
  obtain ⟨a, cap, rfl⟩ := h.shape
  obtain ⟨a', cap', rfl⟩ := h'.shape
  rw [← hl] at HC' AT' ⊢
  clear h h' hw hw' hl
  generalize sameFcL zs ys = B at *
  generalize hn : zs.length = n at *
  have KL := Lib.hid hn
  clear hn
  go_enter Try.func84, Try.ntmps84
  go_wp2
  go_loopw [7, 8, 9, 17] (fun _ _ _ i wr => ∃ k : Nat, k ≤ n ∧ i = .int .i64 k ∧ Hid (∀ (j : Nat) (s t : FA), j < k → zs[j]? = some s → ys[j]? = some t → sameFc s t = true) ∧ Hid (Below w.heap.size w wr)) (fun _ _ _ i _ => n - (intOf i).toNat)
  case atStart => exact ⟨0, Nat.zero_le _, rfl, Lib.hid (fun j s t hj => absurd hj (Nat.not_lt_zero _)), Lib.hid (Below.refl _ _)⟩
  case round =>
    obtain ⟨k, hk, rfl, hall, Bw⟩ := hrel
    by_cases hlt : k < n
    · obtain ⟨b0, o0, c0, e, hc⟩ := HC.out wr Bw.out (by omega)
      obtain ⟨b1, o1, c1, e', hc'⟩ := HC'.out wr Bw.out (by omega)
      have ea : a = some ⟨b0, o0, none⟩ := by cases e; rfl
      have ea' : a' = some ⟨b1, o1, none⟩ := by cases e'; rfl
      obtain ⟨s, hs⟩ := AT.out k hlt
      obtain ⟨t, ht⟩ := AT'.out k hlt
      have z := hc k s hs
      have y := hc' k t ht
      have z0 : wr.cell? ⟨b0, o0 + k * 3, none⟩ = some (.float .f32 s.wd) := z 0 _ rfl
      have z1 : wr.cell? ⟨b0, o0 + k * 3 + 1, none⟩ = some (.float .f32 s.sh) := z 1 _ rfl
      have z2 : wr.cell? ⟨b0, o0 + k * 3 + 2, none⟩ = some (.float .f32 s.wm) := z 2 _ rfl
      have y0 : (wr.alloc (.cells #[.float .f32 s.wd, .float .f32 s.sh, .float .f32 s.wm] 84)).cell? ⟨b1, o1 + k * 3, none⟩ = some (.float .f32 t.wd) := ((below_al1 wr _).cell (p := ⟨b1, o1 + k * 3, none⟩) (cell_lt (y 0 _ rfl))).trans (y 0 _ rfl)
      have y1 : (wr.alloc (.cells #[.float .f32 s.wd, .float .f32 s.sh, .float .f32 s.wm] 84)).cell? ⟨b1, o1 + k * 3 + 1, none⟩ = some (.float .f32 t.sh) := ((below_al1 wr _).cell (p := ⟨b1, o1 + k * 3 + 1, none⟩) (cell_lt (y 1 _ rfl))).trans (y 1 _ rfl)
      have y2 : (wr.alloc (.cells #[.float .f32 s.wd, .float .f32 s.sh, .float .f32 s.wm] 84)).cell? ⟨b1, o1 + k * 3 + 2, none⟩ = some (.float .f32 t.wm) := ((below_al1 wr _).cell (p := ⟨b1, o1 + k * 3 + 2, none⟩) (cell_lt (y 2 _ rfl))).trans (y 2 _ rfl)
      have VSk := Lib.hid (VS.out k s t hs ht)
      have CLk := Lib.hid (CL.out k s t hs ht)
      have HS := Lib.hid (And.intro hs ht)
      have Bw := Lib.hid (below_step Bw.out (below_al2 wr (.cells #[.float .f32 s.wd, .float .f32 s.sh, .float .f32 s.wm] 84) (.cells #[.float .f32 t.wd, .float .f32 t.sh, .float .f32 t.wm] 84)))
      clear e hc e' hc' z y hs ht VS VN HC HC' AT AT' CL
      subst ea
      subst ea'
      have hG := HL.out
      have hi : (0 : Int) ≤ (k : Int) := by omega
      have hi' : (k : Int) < (n : Int) := by omega
      cases S : sameFc s t
      · have V := Lib.hid (VSk.out S)
        rw [S] at CLk
        clear S
        go_wp2_with fail
        refine (CLk.out _).mono ?_
        rintro e w1 ⟨rfl, hb⟩
        have Bw := Lib.hid (below_step Bw.out hb)
        clear hb
        go_wp2
        go_ret
        exact ⟨ret_bb V.out, Bw.out⟩
      · have V := Lib.hid S
        rw [S] at CLk
        clear S
        go_wp2_with fail
        refine (CLk.out _).mono ?_
        rintro e w1 ⟨rfl, hb⟩
        have Bw := Lib.hid (below_step Bw.out hb)
        clear hb
        go_wp2
        go_roundw
        case rel => exact ⟨k + 1, by omega, by go_num, Lib.hid (fun j s' t' hj hs ht => by rcases Nat.lt_succ_iff_lt_or_eq.1 hj with h | h; exact hall.out j s' t' h hs ht; subst h; have he := HS.out.1.symm.trans hs; have hf := HS.out.2.symm.trans ht; cases he; cases hf; exact V.out), Bw⟩
        case measure => simp [intOf]; omega
    · have e := Lib.hid (show k = n by omega)
      have V := Lib.hid (VN.out (fun j s t hs ht => hall.out j s t (by have h1 := (List.getElem?_eq_some_iff.1 hs).1; have h2 := e.out; have h3 := KL.out; omega) hs ht))
      clear VS VN HC HC' AT AT' CL
      go_wp2
      go_ret
      exact ⟨ret_bb V.out, Bw.out⟩

theorem implSmFc_any (v v' : Value) (zs ys : List FA) (w : World) (h : FcRow w v zs) (h' : FcRow w v' ys) (hw : ∀ x ∈ zs, x.wf) (hw' : ∀ x ∈ ys, x.wf) : Calls Try.prog 32 #[v, v'] w (BolB (sameFcL zs ys) w) := by
  have HE : Hid (Calls Try.prog 84 #[v, v', .func (.func 85) #[] #[]] w (BolB (sameFcL zs ys) w)) := by
    by_cases hl : zs.length = ys.length
    · exact Lib.hid (eqfFc_eq v v' zs ys w h h' hw hw' hl)
    · exact Lib.hid (eqfFc_len v v' zs ys w h h' hl)
  obtain ⟨a, cap, rfl⟩ := h.shape
  obtain ⟨a', cap', rfl⟩ := h'.shape
  clear h h' hw hw'
  go_enter Try.func32, Try.ntmps32
  go_wp2_with fail
  refine HE.out.mono ?_
  rintro e w1 ⟨rfl, hb⟩
  go_wp2
  go_ret
  exact ⟨rfl, hb⟩

theorem specSmFc_len (v v' : Value) (zs ys : List FA) (w : World) (h : FcRow w v zs) (h' : FcRow w v' ys) (hl : ¬ zs.length = ys.length) :
    Calls Try.prog 83 #[v, v'] w (Bol (sameFcL zs ys) w) := by
  have V := Lib.hid (sameFcL_len hl)
  obtain ⟨a, cap, rfl⟩ := h.shape
  obtain ⟨a', cap', rfl⟩ := h'.shape
  clear h h'
  generalize sameFcL zs ys = v at *
  generalize zs.length = n at *
  generalize ys.length = m at *
  have f0 : ((n : Int) != (m : Int)) = true := by simp; omega
  have f1 : ((n : Int) == (m : Int)) = false := by simp; omega
  clear hl
  go_enter Try.func83, Try.ntmps83
  go_wp2
  go_ret
  exact ⟨ret_bb V.out, 0, rfl⟩

set_option maxRecDepth 20000 in
set_option maxHeartbeats 3200000 in
theorem specSmFc_eq (v v' : Value) (zs ys : List FA) (w : World) (h : FcRow w v zs) (h' : FcRow w v' ys) (hw : ∀ x ∈ zs, x.wf) (hw' : ∀ x ∈ ys, x.wf) (hl : zs.length = ys.length) :
    Calls Try.prog 83 #[v, v'] w (Bol (sameFcL zs ys) w) := by
  have VS := Lib.hid (fun k s t (hs : zs[k]? = some s) (ht : ys[k]? = some t) (e : sameFc s t = false) => sameFcL_no hs ht e)
  have VN := Lib.hid (fun h => sameFcL_yes hl h)
  have HC := Lib.hid (fun (hn : 1 ≤ zs.length) => h.cells FA.len hn)
  have HC' := Lib.hid (fun (hn : 1 ≤ ys.length) => h'.cells FA.len hn)
  have AT := Lib.hid (fun k (hk : k < zs.length) => FA.at (zs := zs) hk)
  have AT' := Lib.hid (fun k (hk : k < ys.length) => FA.at (zs := ys) hk)
  have WW := Lib.hid (fun k s t (hs : zs[k]? = some s) (ht : ys[k]? = some t) => And.intro (hw s (List.mem_of_getElem? hs)) (hw' t (List.mem_of_getElem? ht)))
  have HL := Lib.hid h.len
  obtain ⟨a, cap, rfl⟩ := h.shape
  obtain ⟨a', cap', rfl⟩ := h'.shape
  rw [← hl] at HC' AT' ⊢
  clear h h' hw hw' hl
  generalize sameFcL zs ys = B at *
  generalize hn : zs.length = n at *
  have KL := Lib.hid hn
  clear hn
  go_enter Try.func83, Try.ntmps83
  go_wp2
  go_loopw [5, 13] (fun _ i wr => ∃ k q : Nat, k ≤ n ∧ i = .int .i64 k ∧ Hid (∀ (j : Nat) (s t : FA), j < k → zs[j]? = some s → ys[j]? = some t → sameFc s t = true) ∧ wr = w.drewN q) (fun _ i _ => n - (intOf i).toNat)
  case atStart => exact ⟨0, 0, Nat.zero_le _, rfl, Lib.hid (fun j s t hj => absurd hj (Nat.not_lt_zero _)), rfl⟩
  case round =>
    obtain ⟨k, q, hk, rfl, hall, rfl⟩ := hrel
    by_cases hlt : k < n
    · obtain ⟨b0, o0, c0, e, hc⟩ := HC.out (by omega)
      obtain ⟨b1, o1, c1, e', hc'⟩ := HC'.out (by omega)
      have ea : a = some ⟨b0, o0, none⟩ := by cases e; rfl
      have ea' : a' = some ⟨b1, o1, none⟩ := by cases e'; rfl
      obtain ⟨s, hs⟩ := AT.out k hlt
      obtain ⟨t, ht⟩ := AT'.out k hlt
      have z := hc k s hs
      have y := hc' k t ht
      have WWk := WW.out k s t hs ht
      have VSk := Lib.hid (VS.out k s t hs ht)
      have HS := Lib.hid (And.intro hs ht)
      obtain ⟨swd, ssh, swm⟩ := s
      obtain ⟨twd, tsh, twm⟩ := t
      obtain ⟨W9, hw9⟩ : ∃ W9, w.drewN q = W9 := ⟨_, rfl⟩
      have z0 : W9.cell? ⟨b0, o0 + k * 3, none⟩ = some (.float .f32 swd) := hw9 ▸ (z 0 _ rfl : w.cell? ⟨b0, o0 + k * 3, none⟩ = some (.float .f32 swd))
      have z1 : W9.cell? ⟨b0, o0 + k * 3 + 1, none⟩ = some (.float .f32 ssh) := hw9 ▸ (z 1 _ rfl : w.cell? ⟨b0, o0 + k * 3 + 1, none⟩ = some (.float .f32 ssh))
      have z2 : W9.cell? ⟨b0, o0 + k * 3 + 2, none⟩ = some (.float .f32 swm) := hw9 ▸ (z 2 _ rfl : w.cell? ⟨b0, o0 + k * 3 + 2, none⟩ = some (.float .f32 swm))
      have y0 : W9.cell? ⟨b1, o1 + k * 3, none⟩ = some (.float .f32 twd) := hw9 ▸ (y 0 _ rfl : w.cell? ⟨b1, o1 + k * 3, none⟩ = some (.float .f32 twd))
      have y1 : W9.cell? ⟨b1, o1 + k * 3 + 1, none⟩ = some (.float .f32 tsh) := hw9 ▸ (y 1 _ rfl : w.cell? ⟨b1, o1 + k * 3 + 1, none⟩ = some (.float .f32 tsh))
      have y2 : W9.cell? ⟨b1, o1 + k * 3 + 2, none⟩ = some (.float .f32 twm) := hw9 ▸ (y 2 _ rfl : w.cell? ⟨b1, o1 + k * 3 + 2, none⟩ = some (.float .f32 twm))
      have Qwd := Lib.hid (fun w => show Calls Try.prog 140 #[.float .f32 swd, .float .f32 twd] w (Bol (sm swd twd) w) from (specSame_any _ _ w WWk.1.1 WWk.2.1).mono (fun _ _ ⟨he, hw⟩ => ⟨he, 0, hw.symm⟩))
      have Qsh := Lib.hid (fun w => show Calls Try.prog 140 #[.float .f32 ssh, .float .f32 tsh] w (Bol (sm ssh tsh) w) from (specSame_any _ _ w WWk.1.2.1 WWk.2.2.1).mono (fun _ _ ⟨he, hw⟩ => ⟨he, 0, hw.symm⟩))
      have Qwm := Lib.hid (fun w => show Calls Try.prog 140 #[.float .f32 swm, .float .f32 twm] w (Bol (sm swm twm) w) from (specSame_any _ _ w WWk.1.2.2 WWk.2.2.2).mono (fun _ _ ⟨he, hw⟩ => ⟨he, 0, hw.symm⟩))
      rw [hw9]
      have HW9 := Lib.hid hw9
      clear e hc e' hc' z y hs ht VS VN HC HC' AT AT' WW WWk hw9
      subst ea
      subst ea'
      have hG := HL.out
      have hi : (0 : Int) ≤ (k : Int) := by omega
      have hi' : (k : Int) < (n : Int) := by omega
      have hd : decide ((k : Int) < (n : Int)) = true := by simp; omega
      cases B0 : sm swd twd
      · skip
        have V := Lib.hid (VSk.out (by unfold sameFc; simp only [B0]; simp))
        have H0 := Lib.hid B0
        clear B0
        go_wp2
        go_quiet (first | (go_at_call_of 140 swd; refine Calls.quiet_of (v := .bool false) ?_; have hq := Qwd.out; rw [H0.out] at hq; exact hq _))
        go_wp2
        go_ret
        exact ⟨ret_bb V.out, _, by rw [← HW9.out]; exact World.drewN_drewN _ _ _⟩
      · skip
        cases B1 : sm ssh tsh
        · skip
          have V := Lib.hid (VSk.out (by unfold sameFc; simp only [B0, B1]; simp))
          have H0 := Lib.hid B0
          have H1 := Lib.hid B1
          clear B0 B1
          go_wp2
          go_quiet (first | (go_at_call_of 140 swd; refine Calls.quiet_of (v := .bool true) ?_; have hq := Qwd.out; rw [H0.out] at hq; exact hq _) | (go_at_call_of 140 ssh; refine Calls.quiet_of (v := .bool false) ?_; have hq := Qsh.out; rw [H1.out] at hq; exact hq _))
          go_wp2
          go_ret
          exact ⟨ret_bb V.out, _, by rw [← HW9.out]; exact World.drewN_drewN _ _ _⟩
        · skip
          cases B2 : sm swm twm
          · skip
            have V := Lib.hid (VSk.out (by unfold sameFc; simp only [B0, B1, B2]; simp))
            have H0 := Lib.hid B0
            have H1 := Lib.hid B1
            have H2 := Lib.hid B2
            clear B0 B1 B2
            go_wp2
            go_quiet (first | (go_at_call_of 140 swd; refine Calls.quiet_of (v := .bool true) ?_; have hq := Qwd.out; rw [H0.out] at hq; exact hq _) | (go_at_call_of 140 ssh; refine Calls.quiet_of (v := .bool true) ?_; have hq := Qsh.out; rw [H1.out] at hq; exact hq _) | (go_at_call_of 140 swm; refine Calls.quiet_of (v := .bool false) ?_; have hq := Qwm.out; rw [H2.out] at hq; exact hq _))
            go_wp2
            go_ret
            exact ⟨ret_bb V.out, _, by rw [← HW9.out]; exact World.drewN_drewN _ _ _⟩
          · skip
            have V := Lib.hid (show sameFc ⟨swd, ssh, swm⟩ ⟨twd, tsh, twm⟩ = true by unfold sameFc; simp only [B0, B1, B2]; rfl)
            have H0 := Lib.hid B0
            have H1 := Lib.hid B1
            have H2 := Lib.hid B2
            clear B0 B1 B2
            go_wp2
            go_quiet (first | (go_at_call_of 140 swd; refine Calls.quiet_of (v := .bool true) ?_; have hq := Qwd.out; rw [H0.out] at hq; exact hq _) | (go_at_call_of 140 ssh; refine Calls.quiet_of (v := .bool true) ?_; have hq := Qsh.out; rw [H1.out] at hq; exact hq _) | (go_at_call_of 140 swm; refine Calls.quiet_of (v := .bool true) ?_; have hq := Qwm.out; rw [H2.out] at hq; exact hq _))
            go_wp2
            go_roundw
            case rel => exact ⟨k + 1, _, by omega, by go_num, Lib.hid (fun j s' t' hj hs ht => by rcases Nat.lt_succ_iff_lt_or_eq.1 hj with h | h; exact hall.out j s' t' h hs ht; subst h; have he := HS.out.1.symm.trans hs; have hf := HS.out.2.symm.trans ht; cases he; cases hf; exact V.out), by rw [← HW9.out]; exact World.drewN_drewN _ _ _⟩
            case measure => simp [intOf]; omega
    · have e := Lib.hid (show k = n by omega)
      have hd : decide ((k : Int) < (n : Int)) = false := by simp; omega
      have V := Lib.hid (VN.out (fun j s t hs ht => hall.out j s t (by have h1 := (List.getElem?_eq_some_iff.1 hs).1; have h2 := e.out; have h3 := KL.out; omega) hs ht))
      clear VS VN HC HC' AT AT' WW
      go_wp2
      go_ret
      exact ⟨ret_bb V.out, _, rfl⟩

theorem specSmFc_any (v v' : Value) (zs ys : List FA) (w : World) (h : FcRow w v zs) (h' : FcRow w v' ys) (hw : ∀ x ∈ zs, x.wf) (hw' : ∀ x ∈ ys, x.wf) : Calls Try.prog 31 #[v, v'] w (BolB (sameFcL zs ys) w) := by
  have HE : Hid (Calls Try.prog 83 #[v, v'] w (Bol (sameFcL zs ys) w)) := by
    by_cases hl : zs.length = ys.length
    · exact Lib.hid (specSmFc_eq v v' zs ys w h h' hw hw' hl)
    · exact Lib.hid (specSmFc_len v v' zs ys w h h' hl)
  obtain ⟨a, cap, rfl⟩ := h.shape
  obtain ⟨a', cap', rfl⟩ := h'.shape
  clear h h' hw hw'
  go_enter Try.func31, Try.ntmps31
  go_wp2_with fail
  refine HE.out.mono ?_
  rintro e w1 ⟨rfl, n, rfl⟩
  go_wp2
  go_ret
  exact ⟨rfl, below_drewN (Below.refl _ _) _⟩

set_option maxHeartbeats 800000 in
theorem fnExactSameFaces_walk (v : Value) (zs : List FA) (v' : Value) (ys : List FA) (w : World) (h : FcRow w v zs) (hf : ∀ x ∈ zs, x.wf) (h' : FcRow w v' ys) (hf' : ∀ x ∈ ys, x.wf) : Calls Try.prog 8 #[v, v'] w (Tru w) := by
  have A := Lib.hid h
  have C := Lib.hid h'
  have WZ := Lib.hid hf
  have WY := Lib.hid hf'
  have HL := Lib.hid h.len
  have HL' := Lib.hid h'.len
  obtain ⟨a, cap, rfl⟩ := h.shape
  obtain ⟨a', cap', rfl⟩ := h'.shape
  clear h h' hf hf'
  have Bw := Lib.hid (Below.refl w.heap.size w)
  by_cases hl : zs.length ≤ 1048576
  · have HN := Lib.hid hl
    by_cases hk : ys.length ≤ 1048576 - zs.length
    · have HK := Lib.hid hk
      have HK2 := Lib.hid (show ys.length ≤ 1048576 by omega)
      clear hl hk
      go_enter Try.func8, Try.ntmps8
      go_wp2_with fail
      refine (FA.sz_fit _ _ _ 1048576 _ HN.out (Nat.le_refl _)).mono ?_
      rintro _ _ ⟨rfl, rfl⟩
      go_wp2_with fail
      refine (FA.sz_fit _ _ _ (1048576 - zs.length) _ HK.out (by omega)).mono ?_
      rintro _ _ ⟨rfl, rfl⟩
      go_wp2_with fail
      refine (FA.toS_new _ zs _ A.out HN.out).mono ?_
      rintro _ w1 ⟨rfl, hb, hc⟩
      have X := Lib.hid (SRow.of_cells hc (by have := HN.out; have hm : maxLen = 9223372036854775807 := rfl; omega))
      clear hc
      have A := Lib.hid (A.out.below hb)
      have C := Lib.hid (C.out.below hb)
      have Bw := Lib.hid (below_step Bw.out hb)
      clear hb
      go_wp2_with fail
      refine (FA.toS_new _ ys _ C.out HK2.out).mono ?_
      rintro _ w1 ⟨rfl, hb, hc⟩
      have Y := Lib.hid (SRow.of_cells hc (by have := HK2.out; have hm : maxLen = 9223372036854775807 := rfl; omega))
      clear hc
      have A := Lib.hid (A.out.below hb)
      have C := Lib.hid (C.out.below hb)
      have X := Lib.hid (X.out.below hb)
      have Bw := Lib.hid (below_step Bw.out hb)
      clear hb
      go_wp2_with fail
      refine (specSmFc_any _ _ zs ys _ X.out Y.out WZ.out WY.out).mono ?_
      rintro _ w2 ⟨rfl, hb⟩
      have A := Lib.hid (A.out.below hb)
      have C := Lib.hid (C.out.below hb)
      have Bw := Lib.hid (below_step Bw.out hb)
      clear hb
      clear X Y
      go_wp2_with fail
      refine (FA.toS_new _ zs _ A.out HN.out).mono ?_
      rintro _ w1 ⟨rfl, hb, hc⟩
      have X := Lib.hid (SRow.of_cells hc (by have := HN.out; have hm : maxLen = 9223372036854775807 := rfl; omega))
      clear hc
      have A := Lib.hid (A.out.below hb)
      have C := Lib.hid (C.out.below hb)
      have Bw := Lib.hid (below_step Bw.out hb)
      clear hb
      go_wp2_with fail
      refine (FA.toS_new _ ys _ C.out HK2.out).mono ?_
      rintro _ w1 ⟨rfl, hb, hc⟩
      have Y := Lib.hid (SRow.of_cells hc (by have := HK2.out; have hm : maxLen = 9223372036854775807 := rfl; omega))
      clear hc
      have A := Lib.hid (A.out.below hb)
      have C := Lib.hid (C.out.below hb)
      have X := Lib.hid (X.out.below hb)
      have Bw := Lib.hid (below_step Bw.out hb)
      clear hb
      go_wp2_with fail
      refine (implSmFc_any _ _ zs ys _ X.out Y.out WZ.out WY.out).mono ?_
      rintro _ w2 ⟨rfl, hb⟩
      have A := Lib.hid (A.out.below hb)
      have C := Lib.hid (C.out.below hb)
      have X := Lib.hid (X.out.below hb)
      have Y := Lib.hid (Y.out.below hb)
      have Bw := Lib.hid (below_step Bw.out hb)
      clear hb
      go_wp2_with fail
      refine (FA.toS_new _ zs _ A.out HN.out).mono ?_
      rintro _ w1 ⟨rfl, hb, hc⟩
      have Z := Lib.hid (SRow.of_cells hc (by have := HN.out; have hm : maxLen = 9223372036854775807 := rfl; omega))
      clear hc
      have A := Lib.hid (A.out.below hb)
      have C := Lib.hid (C.out.below hb)
      have X := Lib.hid (X.out.below hb)
      have Y := Lib.hid (Y.out.below hb)
      have Bw := Lib.hid (below_step Bw.out hb)
      clear hb
      go_wp2_with fail
      refine (FA.eqS_any _ _ zs _ X.out Z.out).mono ?_
      rintro _ w2 ⟨rfl, hb⟩
      have A := Lib.hid (A.out.below hb)
      have C := Lib.hid (C.out.below hb)
      have Y := Lib.hid (Y.out.below hb)
      have Bw := Lib.hid (below_step Bw.out hb)
      clear hb
      go_wp2_with fail
      refine (FA.toS_new _ ys _ C.out HK2.out).mono ?_
      rintro _ w1 ⟨rfl, hb, hc⟩
      have Z2 := Lib.hid (SRow.of_cells hc (by have := HK2.out; have hm : maxLen = 9223372036854775807 := rfl; omega))
      clear hc
      have A := Lib.hid (A.out.below hb)
      have C := Lib.hid (C.out.below hb)
      have Y := Lib.hid (Y.out.below hb)
      have Bw := Lib.hid (below_step Bw.out hb)
      clear hb
      go_wp2_with fail
      refine (FA.eqS_any _ _ ys _ Y.out Z2.out).mono ?_
      rintro _ w2 ⟨rfl, hb⟩
      have Bw := Lib.hid (below_step Bw.out hb)
      clear hb
      go_wp2
      go_ret
      exact Tru.below Bw.out
    · have HK := Lib.hid (Nat.lt_of_not_le hk)
      clear hl hk
      go_enter Try.func8, Try.ntmps8
      go_wp2_with fail
      refine (FA.sz_fit _ _ _ 1048576 _ HN.out (Nat.le_refl _)).mono ?_
      rintro _ _ ⟨rfl, rfl⟩
      go_wp2_with fail
      refine (FA.sz_over _ _ _ (1048576 - zs.length) _ HK.out HL'.out (by omega)).mono ?_
      rintro _ _ ⟨rfl, rfl⟩
      go_wp2
      go_ret
      exact Tru.same
  · have HN := Lib.hid (Nat.lt_of_not_le hl)
    clear hl
    go_enter Try.func8, Try.ntmps8
    go_wp2_with fail
    refine (FA.sz_over _ _ _ 1048576 _ HN.out HL.out (Nat.le_refl _)).mono ?_
    rintro _ _ ⟨rfl, rfl⟩
    go_wp2
    go_ret
    exact Tru.same
end Go.Proofs.Ytlhjmkdfemejmaa
