/- Lists of heaters: copies, and their comparison. -/
import Derived.Test.YtlhjmkdfemejmaaSt
import Derived.Test.YtlhjmkdfemejmaaOpenHt
import Derived.Test.YtlhjmkdfemejmaaSnA
import Derived.Test.YtlhjmkdfemejmaaSlC
import Derived.Test.YtlhjmkdfemejmaaLooseB
import Derived.Laws.ResultCell
import Derived.Deep.QuietTactic
import Derived.BigQuiet
namespace Go.Proofs.Ytlhjmkdfemejmaa
open Go.RowKit
set_option linter.unusedVariables false

theorem HT.len (s : HT) : s.vs.length = 5 := rfl
abbrev HtRow (w : World) (v : Value) (zs : List HT) : Prop := SRow HT.vs w v zs
instance : Inhabited HT := ⟨⟨0, 0, 0, 0, false⟩⟩
theorem HT.to_any (s : HT) (w : World) : Calls Try.prog 88 #[.agg #[.int .i64 s.rm, .float .f32 s.pw, .float .f32 s.lo, .float .f32 s.hi, .bool s.on]] w fun e w' => e = .returned (.agg #[.int .i64 s.rm, .float .f32 s.pw, .float .f32 s.lo, .float .f32 s.hi, .bool s.on]) ∧ Below w.heap.size w w' := by
  go_enter Try.func88, Try.ntmps88
  go_wp2
  refine bodyPost_ret (v := .agg #[.int .i64 s.rm, .float .f32 s.pw, .float .f32 s.lo, .float .f32 s.hi, .bool s.on]) ?_ rfl ?_
  · rw [results_cell1 rfl]
    go_simp
  · exact ⟨rfl, (by repeat (first | exact Below.refl _ _ | refine Below.setCell ?_ (by first | exact Nat.le_refl _ | (simp; done) | (simp; omega) | omega) _ | refine below_drewN ?_ _ | refine Below.alloc ?_ (by first | exact Nat.le_refl _ | (simp; done) | (simp; omega) | omega) _))⟩
theorem Try.rowOfHt : (Try.prog.info? 95).map (fun i => (i.zero, i.size, i.bytes)) = some (some (.agg #[.int .i64 0, .float .f32 0, .float .f32 0, .float .f32 0, .bool false]), 5, 24) := by kernel_rfl
def HtNew (zs : List HT) (w : World) (e : Ending) (w' : World) : Prop :=
  e = .returned (.slice (some ⟨w.heap.size, 0, none⟩) zs.length zs.length) ∧ Below w.heap.size w w' ∧ Cells w' w.heap.size (flS HT.vs zs)
theorem HT.at {zs : List HT} {k : Nat} (hk : k < zs.length) : ∃ s, zs[k]? = some s := ⟨_, List.getElem?_eq_getElem hk⟩

set_option maxHeartbeats 1600000 in
theorem HT.toS_new (v : Value) (zs : List HT) (w : World) (h : HtRow w v zs) (hl : zs.length ≤ 1048576) :
    Calls Try.prog 35 #[v] w (HtNew zs w) := by
  have hmk := run_make_srow (P := Try.prog) 48 95 (.agg #[.int .i64 0, .float .f32 0, .float .f32 0, .float .f32 0, .bool false]) 5 24 Try.underlying48 Try.rowOfHt .i64 .i64 zs.length (by omega) (by omega)
  have R0 := Lib.hid (rowIs_madeS w #[.int .i64 0, .float .f32 0, .float .f32 0, .float .f32 0, .bool false] (zs.length * 5) 95 (partS HT.vs [.int .i64 0, .float .f32 0, .float .f32 0, .float .f32 0, .bool false] 5 zs 0) (fun i hi => by
    have h3 : i % 5 < 5 := Nat.mod_lt _ (by decide)
    show (#[.int .i64 0, .float .f32 0, .float .f32 0, .float .f32 0, .bool false] : Array Value)[i % 5]! = partS HT.vs [.int .i64 0, .float .f32 0, .float .f32 0, .float .f32 0, .bool false] 5 zs 0 i
    unfold partS
    rw [Nat.zero_mul, if_neg (Nat.not_lt_zero i)]
    generalize i % 5 = r at *
    match r, h3 with
    | 0, _ => rfl
    | 1, _ => rfl
    | 2, _ => rfl
    | 3, _ => rfl
    | 4, _ => rfl))
  have HC := Lib.hid (fun w1 (hb : Below w.heap.size w w1) (hn : 1 ≤ zs.length) => (h.below hb).cells HT.len hn)
  have FIN := Lib.hid (fun (w1 : World) (h : w1.rowIs w.heap.size 95 (zs.length * 5) (partS HT.vs [.int .i64 0, .float .f32 0, .float .f32 0, .float .f32 0, .bool false] 5 zs zs.length)) => row_of_partS HT.len h)
  have AT := Lib.hid (fun k (hk : k < zs.length) => HT.at (zs := zs) hk)
  have FLA := Lib.hid (fun i s (hs : zs[i]? = some s) j u (hu : s.vs[j]? = some u) => flS_at HT.vs HT.len hs hu)
  obtain ⟨a, cap, rfl⟩ := h.shape
  unfold HtNew
  clear h
  have hzc : (Value.agg #[.int .i64 0, .float .f32 0, .float .f32 0, .float .f32 0, .bool false]).cells = #[.int .i64 0, .float .f32 0, .float .f32 0, .float .f32 0, .bool false] := rfl
  rw [hzc] at hmk
  generalize hn : zs.length = n at *
  have Hn := Lib.hid hn
  clear hn
  go_enter Try.func35, Try.ntmps35
  go_wp2
  go_loopw [4] (fun i wr => ∃ k : Nat, k ≤ n ∧ i = .int .i64 k ∧ Hid (Below w.heap.size w wr) ∧ Hid (wr.rowIs w.heap.size 95 (n * 5) (partS HT.vs [.int .i64 0, .float .f32 0, .float .f32 0, .float .f32 0, .bool false] 5 zs k))) (fun i _ => n - (intOf i).toNat)
  case atStart => exact ⟨0, Nat.zero_le _, rfl, Lib.hid ((Below.refl _ _).alloc (Nat.le_refl _) _), R0⟩
  case round =>
    obtain ⟨k, hk, rfl, hb, hr⟩ := hrel
    by_cases hlt : k < n
    · obtain ⟨b, off, c', e, hc⟩ := HC.out wr hb.out (by omega)
      have ea : a = some ⟨b, off, none⟩ := by cases e; rfl
      obtain ⟨s, hs⟩ := AT.out k hlt
      have z := hc k s hs
      have z0 : wr.cell? ⟨b, off + k * 5, none⟩ = some (.int .i64 s.rm) := z 0 _ rfl
      have z1 : wr.cell? ⟨b, off + k * 5 + 1, none⟩ = some (.float .f32 s.pw) := z 1 _ rfl
      have z2 : wr.cell? ⟨b, off + k * 5 + 2, none⟩ = some (.float .f32 s.lo) := z 2 _ rfl
      have z3 : wr.cell? ⟨b, off + k * 5 + 3, none⟩ = some (.float .f32 s.hi) := z 3 _ rfl
      have z4 : wr.cell? ⟨b, off + k * 5 + 4, none⟩ = some (.bool s.on) := z 4 _ rfl
      have FK := Lib.hid (FLA.out k s hs)
      clear e hc z hs hmk
      subst ea
      have hi : (0 : Int) ≤ (k : Int) := by omega
      have hi' : (k : Int) < (n : Int) := by omega
      go_wp2_with fail
      refine (HT.to_any s _).mono ?_
      rintro e w1 ⟨rfl, hb1⟩
      have hr1 := Lib.hid (hr.out.of_block (hb1.block _ hr.out.lt))
      have Bw := Lib.hid (below_step hb.out hb1)
      have y0 : w1.cell? ⟨w.heap.size, k * 5, none⟩ = some (partS HT.vs [.int .i64 0, .float .f32 0, .float .f32 0, .float .f32 0, .bool false] 5 zs k (k * 5 + 0)) := hr1.out.cell (by omega)
      have y1 : w1.cell? ⟨w.heap.size, k * 5 + 1, none⟩ = some (partS HT.vs [.int .i64 0, .float .f32 0, .float .f32 0, .float .f32 0, .bool false] 5 zs k (k * 5 + 1)) := hr1.out.cell (by omega)
      have y2 : w1.cell? ⟨w.heap.size, k * 5 + 2, none⟩ = some (partS HT.vs [.int .i64 0, .float .f32 0, .float .f32 0, .float .f32 0, .bool false] 5 zs k (k * 5 + 2)) := hr1.out.cell (by omega)
      have y3 : w1.cell? ⟨w.heap.size, k * 5 + 3, none⟩ = some (partS HT.vs [.int .i64 0, .float .f32 0, .float .f32 0, .float .f32 0, .bool false] 5 zs k (k * 5 + 3)) := hr1.out.cell (by omega)
      have y4 : w1.cell? ⟨w.heap.size, k * 5 + 4, none⟩ = some (partS HT.vs [.int .i64 0, .float .f32 0, .float .f32 0, .float .f32 0, .bool false] 5 zs k (k * 5 + 4)) := hr1.out.cell (by omega)
      have yf := hr1.out.frozen
      clear hr hb hb1 z0 z1 z2 z3 z4
      go_wp2
      go_roundw
      case rel =>
        refine ⟨k + 1, by omega, by go_num, Lib.hid (((((((((((Bw.out).setCell (p := ⟨w.heap.size, k * 5, none⟩) (Nat.le_refl _) (.int .i64 s.rm))).setCell (p := ⟨w.heap.size, k * 5 + 1, none⟩) (Nat.le_refl _) (.float .f32 s.pw))).setCell (p := ⟨w.heap.size, k * 5 + 2, none⟩) (Nat.le_refl _) (.float .f32 s.lo))).setCell (p := ⟨w.heap.size, k * 5 + 3, none⟩) (Nat.le_refl _) (.float .f32 s.hi))).setCell (p := ⟨w.heap.size, k * 5 + 4, none⟩) (Nat.le_refl _) (.bool s.on))), Lib.hid (World.rowIs.congr (((((((((((hr1.out).set (k * 5) (.int .i64 s.rm))).set (k * 5 + 1) (.float .f32 s.pw))).set (k * 5 + 2) (.float .f32 s.lo))).set (k * 5 + 3) (.float .f32 s.hi))).set (k * 5 + 4) (.bool s.on))) (fun i hi => ?_))⟩
        by_cases e4 : i = k * 5 + 4
        · rw [if_pos e4, e4]
          exact (partS_lt (FK.out 4 _ rfl) (by omega)).symm
        rw [if_neg e4]
        by_cases e3 : i = k * 5 + 3
        · rw [if_pos e3, e3]
          exact (partS_lt (FK.out 3 _ rfl) (by omega)).symm
        rw [if_neg e3]
        by_cases e2 : i = k * 5 + 2
        · rw [if_pos e2, e2]
          exact (partS_lt (FK.out 2 _ rfl) (by omega)).symm
        rw [if_neg e2]
        by_cases e1 : i = k * 5 + 1
        · rw [if_pos e1, e1]
          exact (partS_lt (FK.out 1 _ rfl) (by omega)).symm
        rw [if_neg e1]
        by_cases e0 : i = k * 5
        · rw [if_pos e0, e0]
          exact (partS_lt (FK.out 0 _ rfl) (by omega)).symm
        rw [if_neg e0]
        exact partS_far (by omega)
      case measure => simp [intOf]; omega
    · have e := Lib.hid (show k = n by omega)
      clear HC AT hmk
      go_wp2
      go_ret
      have ek := e.out
      subst ek
      exact ⟨rfl, hb.out, FIN.out _ hr.out⟩

theorem HT.eq_any (s : HT) (w : World) : Calls Try.prog 92 #[.agg #[.int .i64 s.rm, .float .f32 s.pw, .float .f32 s.lo, .float .f32 s.hi, .bool s.on], .agg #[.int .i64 s.rm, .float .f32 s.pw, .float .f32 s.lo, .float .f32 s.hi, .bool s.on]] w (YesB w) := by
  go_enter Try.func92, Try.ntmps92
  go_wp2_with (first | (refine wpList_up rfl Try.underlying22 Try.underlying26 _ rfl _ rfl ?_; intro _ _ _) | (go_at_call 17; refine (same_end _ (by assumption) (by assumption) rfl).mono ?_; rintro e w' ⟨rfl, m, rfl⟩))
  go_ret
  exact ⟨rfl, (by repeat (first | exact Below.refl _ _ | refine Below.setCell ?_ (by first | exact Nat.le_refl _ | (simp; done) | (simp; omega) | omega) _ | refine below_drewN ?_ _ | refine Below.alloc ?_ (by first | exact Nat.le_refl _ | (simp; done) | (simp; omega) | omega) _))⟩

set_option maxHeartbeats 800000 in
theorem HT.eqS_any (v v' : Value) (zs : List HT) (w : World) (h : HtRow w v zs) (h' : HtRow w v' zs) : Calls Try.prog 37 #[v, v'] w (YesB w) := by
  have HC := Lib.hid (fun w1 (hb : Below w.heap.size w w1) (hn : 1 ≤ zs.length) => (h.below hb).cells HT.len hn)
  have HC' := Lib.hid (fun w1 (hb : Below w.heap.size w w1) (hn : 1 ≤ zs.length) => (h'.below hb).cells HT.len hn)
  have AT := Lib.hid (fun k (hk : k < zs.length) => HT.at (zs := zs) hk)
  have HL := Lib.hid h.len
  obtain ⟨a, cap, rfl⟩ := h.shape
  obtain ⟨a', cap', rfl⟩ := h'.shape
  clear h h'
  generalize zs.length = n at *
  go_enter Try.func37, Try.ntmps37
  go_wp2
  go_loopw [5] (fun i wr => ∃ k : Nat, k ≤ n ∧ i = .int .i64 k ∧ Hid (Below w.heap.size w wr)) (fun i _ => n - (intOf i).toNat)
  case atStart => exact ⟨0, Nat.zero_le _, rfl, Lib.hid (Below.refl _ _)⟩
  case round =>
    obtain ⟨k, hk, rfl, hb⟩ := hrel
    have hG := HL.out
    by_cases hlt : k < n
    · obtain ⟨b, off, c1, e, hc⟩ := HC.out wr hb.out (by omega)
      obtain ⟨b', off', c2, e', hc'⟩ := HC'.out wr hb.out (by omega)
      have ea : a = some ⟨b, off, none⟩ := by cases e; rfl
      have ea' : a' = some ⟨b', off', none⟩ := by cases e'; rfl
      obtain ⟨s, hs⟩ := AT.out k hlt
      have z := hc k s hs
      have y := hc' k s hs
      have FACT := Lib.hid (fun w1 (hw : Ext wr w1) => And.intro (hw.cell (show wr.cell? ⟨b, off + k * 5, none⟩ = some (.int .i64 s.rm) from z 0 _ rfl)) (And.intro (hw.cell (show wr.cell? ⟨b, off + k * 5 + 1, none⟩ = some (.float .f32 s.pw) from z 1 _ rfl)) (And.intro (hw.cell (show wr.cell? ⟨b, off + k * 5 + 2, none⟩ = some (.float .f32 s.lo) from z 2 _ rfl)) (And.intro (hw.cell (show wr.cell? ⟨b, off + k * 5 + 3, none⟩ = some (.float .f32 s.hi) from z 3 _ rfl)) (And.intro (hw.cell (show wr.cell? ⟨b, off + k * 5 + 4, none⟩ = some (.bool s.on) from z 4 _ rfl)) (And.intro (hw.cell (show wr.cell? ⟨b', off' + k * 5, none⟩ = some (.int .i64 s.rm) from y 0 _ rfl)) (And.intro (hw.cell (show wr.cell? ⟨b', off' + k * 5 + 1, none⟩ = some (.float .f32 s.pw) from y 1 _ rfl)) (And.intro (hw.cell (show wr.cell? ⟨b', off' + k * 5 + 2, none⟩ = some (.float .f32 s.lo) from y 2 _ rfl)) (And.intro (hw.cell (show wr.cell? ⟨b', off' + k * 5 + 3, none⟩ = some (.float .f32 s.hi) from y 3 _ rfl)) (hw.cell (show wr.cell? ⟨b', off' + k * 5 + 4, none⟩ = some (.bool s.on) from y 4 _ rfl)))))))))))
      clear e hc e' hc' z y hs
      subst ea
      subst ea'
      have Bw0 := Lib.hid hb.out
      clear hb HC HC' AT
      have hi : (0 : Int) ≤ (k : Int) := by omega
      have hi' : (k : Int) < (n : Int) := by omega
      go_wp2
      refine wp_region_looseC (Ext _) (fun _ _ v => v = .bool true) (Ext.start _) (by kernel_rfl) (by kernel_rfl) ?_
      repeat (refine wpLoose_valK rfl ?_ (fun w1 hw1 => ?_) (fun K hK => ?_); rotate_left; (focus (have hF := FACT.out w1 hw1; go_simp; first | done | rfl)); go_simp; refine hK _ ?_; clear hK K)
      refine wpLoose_callS rfl 92 #[.agg #[.int .i64 s.rm, .float .f32 s.pw, .float .f32 s.lo, .float .f32 s.hi, .bool s.on], .agg #[.int .i64 s.rm, .float .f32 s.pw, .float .f32 s.lo, .float .f32 s.hi, .bool s.on]] (fun w1 => ?_) (fun w1 hw1 => ?_) (fun v hv => ?_)
      · go_simp
      · refine (HT.eq_any s w1).mono ?_
        rintro e w2 ⟨rfl, hb⟩
        exact ⟨_, rfl, rfl, hb⟩
      subst hv
      repeat (first | (refine wpLoose_farithB rfl _ _ _ _ _ rfl rfl _ _ _ rfl rfl ?_; intro _ _) | (refine wpLoose_valK rfl ?_ (fun w1 hw1 => ?_) (fun K hK => ?_); rotate_left; (focus (have hF := FACT.out w1 hw1; go_simp; first | done | rfl)); go_simp; refine hK _ ?_; clear hK K))
      refine wpLoose_nil ?_; intro w1 hb
      have Bw := Lib.hid (below_step Bw0.out hb)
      clear hb
      go_wp2
      go_roundw
      case rel => exact ⟨k + 1, by omega, by go_num, Bw⟩
      case measure => simp [intOf]; omega
    · go_wp2
      go_ret
      exact ⟨rfl, hb.out⟩

theorem HT.sz_fit (a : Option Addr) (n c left : Nat) (w : World) (hn : n ≤ left) (hl : left ≤ 1048576) :
    Calls Try.prog 33 #[.slice a n c, .int .i64 left] w fun e w' => e = .returned (.int .i64 ((left - n : Nat) : Int)) ∧ w = w' := by
  have e : ((left : Int) - (n : Int)) = ((left - n : Nat) : Int) := by omega
  go_enter Try.func33, Try.ntmps33
  go_wp2
  go_ret
  exact ⟨by simp, rfl⟩
theorem HT.sz_over (a : Option Addr) (n c left : Nat) (w : World) (hn : left < n) (hm : n ≤ 9223372036854775807) (hl : left ≤ 1048576) :
    Calls Try.prog 33 #[.slice a n c, .int .i64 left] w fun e w' => e = .returned (.int .i64 (-1)) ∧ w = w' := by
  go_enter Try.func33, Try.ntmps33
  go_wp2
  go_ret
  exact ⟨rfl, rfl⟩
end Go.Proofs.Ytlhjmkdfemejmaa
