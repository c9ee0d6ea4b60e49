/- Lists of faces: copies, and their comparison. -/
import Derived.Test.YtlhjmkdfemejmaaSt
import Derived.Test.YtlhjmkdfemejmaaSnA
import Derived.Test.YtlhjmkdfemejmaaSlC
import Derived.Test.YtlhjmkdfemejmaaLooseB
import Derived.Laws.ResultCell
import Derived.Deep.QuietTactic
import Derived.BigQuiet
namespace Go.Proofs.Ytlhjmkdfemejmaa
open Go.RowKit
set_option linter.unusedVariables false

theorem FA.len (s : FA) : s.vs.length = 3 := rfl
abbrev FcRow (w : World) (v : Value) (zs : List FA) : Prop := SRow FA.vs w v zs
instance : Inhabited FA := ⟨⟨0, 0, 0⟩⟩
theorem FA.to_any (s : FA) (w : World) : Calls Try.prog 79 #[.agg #[.float .f32 s.wd, .float .f32 s.sh, .float .f32 s.wm]] w fun e w' => e = .returned (.agg #[.float .f32 s.wd, .float .f32 s.sh, .float .f32 s.wm]) ∧ Below w.heap.size w w' := by
  go_enter Try.func79, Try.ntmps79
  go_wp2
  refine bodyPost_ret (v := .agg #[.float .f32 s.wd, .float .f32 s.sh, .float .f32 s.wm]) ?_ rfl ?_
  · rw [results_cell1 rfl]
    go_simp
  · exact ⟨rfl, (by repeat (first | exact Below.refl _ _ | refine Below.setCell ?_ (by first | exact Nat.le_refl _ | (simp; done) | (simp; omega) | omega) _ | refine below_drewN ?_ _ | refine Below.alloc ?_ (by first | exact Nat.le_refl _ | (simp; done) | (simp; omega) | omega) _))⟩
theorem Try.rowOfFc : (Try.prog.info? 84).map (fun i => (i.zero, i.size, i.bytes)) = some (some (.agg #[.float .f32 0, .float .f32 0, .float .f32 0]), 3, 12) := by kernel_rfl
def FcNew (zs : List FA) (w : World) (e : Ending) (w' : World) : Prop :=
  e = .returned (.slice (some ⟨w.heap.size, 0, none⟩) zs.length zs.length) ∧ Below w.heap.size w w' ∧ Cells w' w.heap.size (flS FA.vs zs)
theorem FA.at {zs : List FA} {k : Nat} (hk : k < zs.length) : ∃ s, zs[k]? = some s := ⟨_, List.getElem?_eq_getElem hk⟩

set_option maxHeartbeats 1600000 in
theorem FA.toS_new (v : Value) (zs : List FA) (w : World) (h : FcRow w v zs) (hl : zs.length ≤ 1048576) :
    Calls Try.prog 28 #[v] w (FcNew zs w) := by
  have hmk := run_make_srow (P := Try.prog) 40 84 (.agg #[.float .f32 0, .float .f32 0, .float .f32 0]) 3 12 Try.underlying40 Try.rowOfFc .i64 .i64 zs.length (by omega) (by omega)
  have R0 := Lib.hid (rowIs_madeS w #[.float .f32 0, .float .f32 0, .float .f32 0] (zs.length * 3) 84 (partS FA.vs [.float .f32 0, .float .f32 0, .float .f32 0] 3 zs 0) (fun i hi => by
    have h3 : i % 3 < 3 := Nat.mod_lt _ (by decide)
    show (#[.float .f32 0, .float .f32 0, .float .f32 0] : Array Value)[i % 3]! = partS FA.vs [.float .f32 0, .float .f32 0, .float .f32 0] 3 zs 0 i
    unfold partS
    rw [Nat.zero_mul, if_neg (Nat.not_lt_zero i)]
    generalize i % 3 = r at *
    match r, h3 with
    | 0, _ => rfl
    | 1, _ => rfl
    | 2, _ => rfl))
  have HC := Lib.hid (fun w1 (hb : Below w.heap.size w w1) (hn : 1 ≤ zs.length) => (h.below hb).cells FA.len hn)
  have FIN := Lib.hid (fun (w1 : World) (h : w1.rowIs w.heap.size 84 (zs.length * 3) (partS FA.vs [.float .f32 0, .float .f32 0, .float .f32 0] 3 zs zs.length)) => row_of_partS FA.len h)
  have AT := Lib.hid (fun k (hk : k < zs.length) => FA.at (zs := zs) hk)
  have FLA := Lib.hid (fun i s (hs : zs[i]? = some s) j u (hu : s.vs[j]? = some u) => flS_at FA.vs FA.len hs hu)
  obtain ⟨a, cap, rfl⟩ := h.shape
  unfold FcNew
  clear h
  have hzc : (Value.agg #[.float .f32 0, .float .f32 0, .float .f32 0]).cells = #[.float .f32 0, .float .f32 0, .float .f32 0] := rfl
  rw [hzc] at hmk
  generalize hn : zs.length = n at *
  have Hn := Lib.hid hn
  clear hn
  go_enter Try.func28, Try.ntmps28
  go_wp2
  go_loopw [4] (fun i wr => ∃ k : Nat, k ≤ n ∧ i = .int .i64 k ∧ Hid (Below w.heap.size w wr) ∧ Hid (wr.rowIs w.heap.size 84 (n * 3) (partS FA.vs [.float .f32 0, .float .f32 0, .float .f32 0] 3 zs k))) (fun i _ => n - (intOf i).toNat)
  case atStart => exact ⟨0, Nat.zero_le _, rfl, Lib.hid ((Below.refl _ _).alloc (Nat.le_refl _) _), R0⟩
  case round =>
    obtain ⟨k, hk, rfl, hb, hr⟩ := hrel
    by_cases hlt : k < n
    · obtain ⟨b, off, c', e, hc⟩ := HC.out wr hb.out (by omega)
      have ea : a = some ⟨b, off, none⟩ := by cases e; rfl
      obtain ⟨s, hs⟩ := AT.out k hlt
      have z := hc k s hs
      have z0 : wr.cell? ⟨b, off + k * 3, none⟩ = some (.float .f32 s.wd) := z 0 _ rfl
      have z1 : wr.cell? ⟨b, off + k * 3 + 1, none⟩ = some (.float .f32 s.sh) := z 1 _ rfl
      have z2 : wr.cell? ⟨b, off + k * 3 + 2, none⟩ = some (.float .f32 s.wm) := z 2 _ rfl
      have FK := Lib.hid (FLA.out k s hs)
      clear e hc z hs hmk
      subst ea
      have hi : (0 : Int) ≤ (k : Int) := by omega
      have hi' : (k : Int) < (n : Int) := by omega
      go_wp2_with fail
      refine (FA.to_any s _).mono ?_
      rintro e w1 ⟨rfl, hb1⟩
      have hr1 := Lib.hid (hr.out.of_block (hb1.block _ hr.out.lt))
      have Bw := Lib.hid (below_step hb.out hb1)
      have y0 : w1.cell? ⟨w.heap.size, k * 3, none⟩ = some (partS FA.vs [.float .f32 0, .float .f32 0, .float .f32 0] 3 zs k (k * 3 + 0)) := hr1.out.cell (by omega)
      have y1 : w1.cell? ⟨w.heap.size, k * 3 + 1, none⟩ = some (partS FA.vs [.float .f32 0, .float .f32 0, .float .f32 0] 3 zs k (k * 3 + 1)) := hr1.out.cell (by omega)
      have y2 : w1.cell? ⟨w.heap.size, k * 3 + 2, none⟩ = some (partS FA.vs [.float .f32 0, .float .f32 0, .float .f32 0] 3 zs k (k * 3 + 2)) := hr1.out.cell (by omega)
      have yf := hr1.out.frozen
      clear hr hb hb1 z0 z1 z2
      go_wp2
      go_roundw
      case rel =>
        refine ⟨k + 1, by omega, by go_num, Lib.hid (((((((Bw.out).setCell (p := ⟨w.heap.size, k * 3, none⟩) (Nat.le_refl _) (.float .f32 s.wd))).setCell (p := ⟨w.heap.size, k * 3 + 1, none⟩) (Nat.le_refl _) (.float .f32 s.sh))).setCell (p := ⟨w.heap.size, k * 3 + 2, none⟩) (Nat.le_refl _) (.float .f32 s.wm))), Lib.hid (World.rowIs.congr (((((((hr1.out).set (k * 3) (.float .f32 s.wd))).set (k * 3 + 1) (.float .f32 s.sh))).set (k * 3 + 2) (.float .f32 s.wm))) (fun i hi => ?_))⟩
        by_cases e2 : i = k * 3 + 2
        · rw [if_pos e2, e2]
          exact (partS_lt (FK.out 2 _ rfl) (by omega)).symm
        rw [if_neg e2]
        by_cases e1 : i = k * 3 + 1
        · rw [if_pos e1, e1]
          exact (partS_lt (FK.out 1 _ rfl) (by omega)).symm
        rw [if_neg e1]
        by_cases e0 : i = k * 3
        · rw [if_pos e0, e0]
          exact (partS_lt (FK.out 0 _ rfl) (by omega)).symm
        rw [if_neg e0]
        exact partS_far (by omega)
      case measure => simp [intOf]; omega
    · have e := Lib.hid (show k = n by omega)
      clear HC AT hmk
      go_wp2
      go_ret
      have ek := e.out
      subst ek
      exact ⟨rfl, hb.out, FIN.out _ hr.out⟩

theorem FA.eq_any (s : FA) (w : World) : Calls Try.prog 82 #[.agg #[.float .f32 s.wd, .float .f32 s.sh, .float .f32 s.wm], .agg #[.float .f32 s.wd, .float .f32 s.sh, .float .f32 s.wm]] w (YesB w) := by
  go_enter Try.func82, Try.ntmps82
  go_wp2_with (first | (refine wpList_up rfl Try.underlying22 Try.underlying26 _ rfl _ rfl ?_; intro _ _ _) | (go_at_call 17; refine (same_end _ (by assumption) (by assumption) rfl).mono ?_; rintro e w' ⟨rfl, m, rfl⟩))
  go_ret
  exact ⟨rfl, (by repeat (first | exact Below.refl _ _ | refine Below.setCell ?_ (by first | exact Nat.le_refl _ | (simp; done) | (simp; omega) | omega) _ | refine below_drewN ?_ _ | refine Below.alloc ?_ (by first | exact Nat.le_refl _ | (simp; done) | (simp; omega) | omega) _))⟩

set_option maxHeartbeats 800000 in
theorem FA.eqS_any (v v' : Value) (zs : List FA) (w : World) (h : FcRow w v zs) (h' : FcRow w v' zs) : Calls Try.prog 30 #[v, v'] w (YesB w) := by
  have HC := Lib.hid (fun w1 (hb : Below w.heap.size w w1) (hn : 1 ≤ zs.length) => (h.below hb).cells FA.len hn)
  have HC' := Lib.hid (fun w1 (hb : Below w.heap.size w w1) (hn : 1 ≤ zs.length) => (h'.below hb).cells FA.len hn)
  have AT := Lib.hid (fun k (hk : k < zs.length) => FA.at (zs := zs) hk)
  have HL := Lib.hid h.len
  obtain ⟨a, cap, rfl⟩ := h.shape
  obtain ⟨a', cap', rfl⟩ := h'.shape
  clear h h'
  generalize zs.length = n at *
  go_enter Try.func30, Try.ntmps30
  go_wp2
  go_loopw [5] (fun i wr => ∃ k : Nat, k ≤ n ∧ i = .int .i64 k ∧ Hid (Below w.heap.size w wr)) (fun i _ => n - (intOf i).toNat)
  case atStart => exact ⟨0, Nat.zero_le _, rfl, Lib.hid (Below.refl _ _)⟩
  case round =>
    obtain ⟨k, hk, rfl, hb⟩ := hrel
    have hG := HL.out
    by_cases hlt : k < n
    · obtain ⟨b, off, c1, e, hc⟩ := HC.out wr hb.out (by omega)
      obtain ⟨b', off', c2, e', hc'⟩ := HC'.out wr hb.out (by omega)
      have ea : a = some ⟨b, off, none⟩ := by cases e; rfl
      have ea' : a' = some ⟨b', off', none⟩ := by cases e'; rfl
      obtain ⟨s, hs⟩ := AT.out k hlt
      have z := hc k s hs
      have y := hc' k s hs
      have FACT := Lib.hid (fun w1 (hw : Ext wr w1) => And.intro (hw.cell (show wr.cell? ⟨b, off + k * 3, none⟩ = some (.float .f32 s.wd) from z 0 _ rfl)) (And.intro (hw.cell (show wr.cell? ⟨b, off + k * 3 + 1, none⟩ = some (.float .f32 s.sh) from z 1 _ rfl)) (And.intro (hw.cell (show wr.cell? ⟨b, off + k * 3 + 2, none⟩ = some (.float .f32 s.wm) from z 2 _ rfl)) (And.intro (hw.cell (show wr.cell? ⟨b', off' + k * 3, none⟩ = some (.float .f32 s.wd) from y 0 _ rfl)) (And.intro (hw.cell (show wr.cell? ⟨b', off' + k * 3 + 1, none⟩ = some (.float .f32 s.sh) from y 1 _ rfl)) (hw.cell (show wr.cell? ⟨b', off' + k * 3 + 2, none⟩ = some (.float .f32 s.wm) from y 2 _ rfl)))))))
      clear e hc e' hc' z y hs
      subst ea
      subst ea'
      have Bw0 := Lib.hid hb.out
      clear hb HC HC' AT
      have hi : (0 : Int) ≤ (k : Int) := by omega
      have hi' : (k : Int) < (n : Int) := by omega
      go_wp2
      refine wp_region_looseC (Ext _) (fun _ _ v => v = .bool true) (Ext.start _) (by kernel_rfl) (by kernel_rfl) ?_
      repeat (refine wpLoose_valK rfl ?_ (fun w1 hw1 => ?_) (fun K hK => ?_); rotate_left; (focus (have hF := FACT.out w1 hw1; go_simp; first | done | rfl)); go_simp; refine hK _ ?_; clear hK K)
      refine wpLoose_callS rfl 82 #[.agg #[.float .f32 s.wd, .float .f32 s.sh, .float .f32 s.wm], .agg #[.float .f32 s.wd, .float .f32 s.sh, .float .f32 s.wm]] (fun w1 => ?_) (fun w1 hw1 => ?_) (fun v hv => ?_)
      · go_simp
      · refine (FA.eq_any s w1).mono ?_
        rintro e w2 ⟨rfl, hb⟩
        exact ⟨_, rfl, rfl, hb⟩
      subst hv
      repeat (first | (refine wpLoose_farithB rfl _ _ _ _ _ rfl rfl _ _ _ rfl rfl ?_; intro _ _) | (refine wpLoose_valK rfl ?_ (fun w1 hw1 => ?_) (fun K hK => ?_); rotate_left; (focus (have hF := FACT.out w1 hw1; go_simp; first | done | rfl)); go_simp; refine hK _ ?_; clear hK K))
      refine wpLoose_nil ?_; intro w1 hb
      have Bw := Lib.hid (below_step Bw0.out hb)
      clear hb
      go_wp2
      go_roundw
      case rel => exact ⟨k + 1, by omega, by go_num, Bw⟩
      case measure => simp [intOf]; omega
    · go_wp2
      go_ret
      exact ⟨rfl, hb.out⟩

theorem FA.sz_fit (a : Option Addr) (n c left : Nat) (w : World) (hn : n ≤ left) (hl : left ≤ 1048576) :
    Calls Try.prog 26 #[.slice a n c, .int .i64 left] w fun e w' => e = .returned (.int .i64 ((left - n : Nat) : Int)) ∧ w = w' := by
  have e : ((left : Int) - (n : Int)) = ((left - n : Nat) : Int) := by omega
  go_enter Try.func26, Try.ntmps26
  go_wp2
  go_ret
  exact ⟨by simp, rfl⟩
theorem FA.sz_over (a : Option Addr) (n c left : Nat) (w : World) (hn : left < n) (hm : n ≤ 9223372036854775807) (hl : left ≤ 1048576) :
    Calls Try.prog 26 #[.slice a n c, .int .i64 left] w fun e w' => e = .returned (.int .i64 (-1)) ∧ w = w' := by
  go_enter Try.func26, Try.ntmps26
  go_wp2
  go_ret
  exact ⟨rfl, rfl⟩
end Go.Proofs.Ytlhjmkdfemejmaa
