/- Links: copies of lists of them, and their comparison. -/
import Derived.Test.YtlhjmkdfemejmaaSt
import Derived.Test.YtlhjmkdfemejmaaSnA
import Derived.Test.YtlhjmkdfemejmaaSlC
import Derived.Test.YtlhjmkdfemejmaaLooseB
import Derived.Laws.ResultCell
import Derived.Deep.QuietTactic
import Derived.BigQuiet
namespace Go.Proofs.Ytlhjmkdfemejmaa
open Go.RowKit
set_option linter.unusedVariables false

/-- a link -/
structure LK where
  a : Int
  b : Int
  ps : Nat
def LK.wf (s : LK) : Prop := (Lit.int .i64 s.a).wf = true ∧ (Lit.int .i64 s.b).wf = true ∧ (Lit.float .f32 s.ps).wf = true
abbrev LK.vs (s : LK) : List Value := [.int .i64 s.a, .int .i64 s.b, .float .f32 s.ps]

theorem LK.len (s : LK) : s.vs.length = 3 := rfl
abbrev LRow (w : World) (v : Value) (zs : List LK) : Prop := SRow LK.vs w v zs
instance : Inhabited LK := ⟨⟨0, 0, 0⟩⟩
theorem LK.to_any (s : LK) (w : World) : Calls Try.prog 151 #[.agg #[.int .i64 s.a, .int .i64 s.b, .float .f32 s.ps]] w fun e w' => e = .returned (.agg #[.int .i64 s.a, .int .i64 s.b, .float .f32 s.ps]) ∧ Below w.heap.size w w' := by
  go_enter Try.func151, Try.ntmps151
  go_wp2
  refine bodyPost_ret (v := .agg #[.int .i64 s.a, .int .i64 s.b, .float .f32 s.ps]) ?_ rfl ?_
  · rw [results_cell1 rfl]
    go_simp
  · exact ⟨rfl, (by repeat (first | exact Below.refl _ _ | refine Below.setCell ?_ (by first | exact Nat.le_refl _ | (simp; done) | (simp; omega) | omega) _ | refine below_drewN ?_ _ | refine Below.alloc ?_ (by first | exact Nat.le_refl _ | (simp; done) | (simp; omega) | omega) _))⟩
theorem Try.rowOfL : (Try.prog.info? 121).map (fun i => (i.zero, i.size, i.bytes)) = some (some (.agg #[.int .i64 0, .int .i64 0, .float .f32 0]), 3, 24) := by kernel_rfl
def LNew (zs : List LK) (w : World) (e : Ending) (w' : World) : Prop :=
  e = .returned (.slice (some ⟨w.heap.size, 0, none⟩) zs.length zs.length) ∧ Below w.heap.size w w' ∧ Cells w' w.heap.size (flS LK.vs zs)
theorem LK.at {zs : List LK} {k : Nat} (hk : k < zs.length) : ∃ s, zs[k]? = some s := ⟨_, List.getElem?_eq_getElem hk⟩

set_option maxHeartbeats 1600000 in
theorem LK.toS_new (v : Value) (zs : List LK) (w : World) (h : LRow w v zs) (hl : zs.length ≤ 1048576) :
    Calls Try.prog 108 #[v] w (LNew zs w) := by
  have hmk := run_make_srow (P := Try.prog) 68 121 (.agg #[.int .i64 0, .int .i64 0, .float .f32 0]) 3 24 Try.underlying68 Try.rowOfL .i64 .i64 zs.length (by omega) (by omega)
  have R0 := Lib.hid (rowIs_madeS w #[.int .i64 0, .int .i64 0, .float .f32 0] (zs.length * 3) 121 (partS LK.vs [.int .i64 0, .int .i64 0, .float .f32 0] 3 zs 0) (fun i hi => by
    have h3 : i % 3 < 3 := Nat.mod_lt _ (by decide)
    show (#[.int .i64 0, .int .i64 0, .float .f32 0] : Array Value)[i % 3]! = partS LK.vs [.int .i64 0, .int .i64 0, .float .f32 0] 3 zs 0 i
    unfold partS
    rw [Nat.zero_mul, if_neg (Nat.not_lt_zero i)]
    generalize i % 3 = r at *
    match r, h3 with
    | 0, _ => rfl
    | 1, _ => rfl
    | 2, _ => rfl))
  have HC := Lib.hid (fun w1 (hb : Below w.heap.size w w1) (hn : 1 ≤ zs.length) => (h.below hb).cells LK.len hn)
  have FIN := Lib.hid (fun (w1 : World) (h : w1.rowIs w.heap.size 121 (zs.length * 3) (partS LK.vs [.int .i64 0, .int .i64 0, .float .f32 0] 3 zs zs.length)) => row_of_partS LK.len h)
  have AT := Lib.hid (fun k (hk : k < zs.length) => LK.at (zs := zs) hk)
  have FLA := Lib.hid (fun i s (hs : zs[i]? = some s) j u (hu : s.vs[j]? = some u) => flS_at LK.vs LK.len hs hu)
  obtain ⟨a, cap, rfl⟩ := h.shape
  unfold LNew
  clear h
  have hzc : (Value.agg #[.int .i64 0, .int .i64 0, .float .f32 0]).cells = #[.int .i64 0, .int .i64 0, .float .f32 0] := rfl
  rw [hzc] at hmk
  generalize hn : zs.length = n at *
  have Hn := Lib.hid hn
  clear hn
  go_enter Try.func108, Try.ntmps108
  go_wp2
  go_loopw [4] (fun i wr => ∃ k : Nat, k ≤ n ∧ i = .int .i64 k ∧ Hid (Below w.heap.size w wr) ∧ Hid (wr.rowIs w.heap.size 121 (n * 3) (partS LK.vs [.int .i64 0, .int .i64 0, .float .f32 0] 3 zs k))) (fun i _ => n - (intOf i).toNat)
  case atStart => exact ⟨0, Nat.zero_le _, rfl, Lib.hid ((Below.refl _ _).alloc (Nat.le_refl _) _), R0⟩
  case round =>
    obtain ⟨k, hk, rfl, hb, hr⟩ := hrel
    by_cases hlt : k < n
    · obtain ⟨b, off, c', e, hc⟩ := HC.out wr hb.out (by omega)
      have ea : a = some ⟨b, off, none⟩ := by cases e; rfl
      obtain ⟨s, hs⟩ := AT.out k hlt
      have z := hc k s hs
      have z0 : wr.cell? ⟨b, off + k * 3, none⟩ = some (.int .i64 s.a) := z 0 _ rfl
      have z1 : wr.cell? ⟨b, off + k * 3 + 1, none⟩ = some (.int .i64 s.b) := z 1 _ rfl
      have z2 : wr.cell? ⟨b, off + k * 3 + 2, none⟩ = some (.float .f32 s.ps) := z 2 _ rfl
      have FK := Lib.hid (FLA.out k s hs)
      clear e hc z hs hmk
      subst ea
      have hi : (0 : Int) ≤ (k : Int) := by omega
      have hi' : (k : Int) < (n : Int) := by omega
      go_wp2_with fail
      refine (LK.to_any s _).mono ?_
      rintro e w1 ⟨rfl, hb1⟩
      have hr1 := Lib.hid (hr.out.of_block (hb1.block _ hr.out.lt))
      have Bw := Lib.hid (below_step hb.out hb1)
      have y0 : w1.cell? ⟨w.heap.size, k * 3, none⟩ = some (partS LK.vs [.int .i64 0, .int .i64 0, .float .f32 0] 3 zs k (k * 3 + 0)) := hr1.out.cell (by omega)
      have y1 : w1.cell? ⟨w.heap.size, k * 3 + 1, none⟩ = some (partS LK.vs [.int .i64 0, .int .i64 0, .float .f32 0] 3 zs k (k * 3 + 1)) := hr1.out.cell (by omega)
      have y2 : w1.cell? ⟨w.heap.size, k * 3 + 2, none⟩ = some (partS LK.vs [.int .i64 0, .int .i64 0, .float .f32 0] 3 zs k (k * 3 + 2)) := hr1.out.cell (by omega)
      have yf := hr1.out.frozen
      clear hr hb hb1 z0 z1 z2
      go_wp2
      go_roundw
      case rel =>
        refine ⟨k + 1, by omega, by go_num, Lib.hid (((((((Bw.out).setCell (p := ⟨w.heap.size, k * 3, none⟩) (Nat.le_refl _) (.int .i64 s.a))).setCell (p := ⟨w.heap.size, k * 3 + 1, none⟩) (Nat.le_refl _) (.int .i64 s.b))).setCell (p := ⟨w.heap.size, k * 3 + 2, none⟩) (Nat.le_refl _) (.float .f32 s.ps))), Lib.hid (World.rowIs.congr (((((((hr1.out).set (k * 3) (.int .i64 s.a))).set (k * 3 + 1) (.int .i64 s.b))).set (k * 3 + 2) (.float .f32 s.ps))) (fun i hi => ?_))⟩
        by_cases e2 : i = k * 3 + 2
        · rw [if_pos e2, e2]
          exact (partS_lt (FK.out 2 _ rfl) (by omega)).symm
        rw [if_neg e2]
        by_cases e1 : i = k * 3 + 1
        · rw [if_pos e1, e1]
          exact (partS_lt (FK.out 1 _ rfl) (by omega)).symm
        rw [if_neg e1]
        by_cases e0 : i = k * 3
        · rw [if_pos e0, e0]
          exact (partS_lt (FK.out 0 _ rfl) (by omega)).symm
        rw [if_neg e0]
        exact partS_far (by omega)
      case measure => simp [intOf]; omega
    · have e := Lib.hid (show k = n by omega)
      clear HC AT hmk
      go_wp2
      go_ret
      have ek := e.out
      subst ek
      exact ⟨rfl, hb.out, FIN.out _ hr.out⟩

theorem LK.eq_any (s : LK) (w : World) : Calls Try.prog 153 #[.agg #[.int .i64 s.a, .int .i64 s.b, .float .f32 s.ps], .agg #[.int .i64 s.a, .int .i64 s.b, .float .f32 s.ps]] w (YesB w) := by
  go_enter Try.func153, Try.ntmps153
  go_wp2_with (first | (refine wpList_up rfl Try.underlying22 Try.underlying26 _ rfl _ rfl ?_; intro _ _ _) | (go_at_call 17; refine (same_end _ (by assumption) (by assumption) rfl).mono ?_; rintro e w' ⟨rfl, m, rfl⟩))
  go_ret
  exact ⟨rfl, (by repeat (first | exact Below.refl _ _ | refine Below.setCell ?_ (by first | exact Nat.le_refl _ | (simp; done) | (simp; omega) | omega) _ | refine below_drewN ?_ _ | refine Below.alloc ?_ (by first | exact Nat.le_refl _ | (simp; done) | (simp; omega) | omega) _))⟩

set_option maxHeartbeats 800000 in
theorem LK.eqS_any (v v' : Value) (zs : List LK) (w : World) (h : LRow w v zs) (h' : LRow w v' zs) : Calls Try.prog 113 #[v, v'] w (YesB w) := by
  have HC := Lib.hid (fun w1 (hb : Below w.heap.size w w1) (hn : 1 ≤ zs.length) => (h.below hb).cells LK.len hn)
  have HC' := Lib.hid (fun w1 (hb : Below w.heap.size w w1) (hn : 1 ≤ zs.length) => (h'.below hb).cells LK.len hn)
  have AT := Lib.hid (fun k (hk : k < zs.length) => LK.at (zs := zs) hk)
  have HL := Lib.hid h.len
  obtain ⟨a, cap, rfl⟩ := h.shape
  obtain ⟨a', cap', rfl⟩ := h'.shape
  clear h h'
  generalize zs.length = n at *
  go_enter Try.func113, Try.ntmps113
  go_wp2
  go_loopw [5] (fun i wr => ∃ k : Nat, k ≤ n ∧ i = .int .i64 k ∧ Hid (Below w.heap.size w wr)) (fun i _ => n - (intOf i).toNat)
  case atStart => exact ⟨0, Nat.zero_le _, rfl, Lib.hid (Below.refl _ _)⟩
  case round =>
    obtain ⟨k, hk, rfl, hb⟩ := hrel
    have hG := HL.out
    by_cases hlt : k < n
    · obtain ⟨b, off, c1, e, hc⟩ := HC.out wr hb.out (by omega)
      obtain ⟨b', off', c2, e', hc'⟩ := HC'.out wr hb.out (by omega)
      have ea : a = some ⟨b, off, none⟩ := by cases e; rfl
      have ea' : a' = some ⟨b', off', none⟩ := by cases e'; rfl
      obtain ⟨s, hs⟩ := AT.out k hlt
      have z := hc k s hs
      have y := hc' k s hs
      have FACT := Lib.hid (fun w1 (hw : Ext wr w1) => And.intro (hw.cell (show wr.cell? ⟨b, off + k * 3, none⟩ = some (.int .i64 s.a) from z 0 _ rfl)) (And.intro (hw.cell (show wr.cell? ⟨b, off + k * 3 + 1, none⟩ = some (.int .i64 s.b) from z 1 _ rfl)) (And.intro (hw.cell (show wr.cell? ⟨b, off + k * 3 + 2, none⟩ = some (.float .f32 s.ps) from z 2 _ rfl)) (And.intro (hw.cell (show wr.cell? ⟨b', off' + k * 3, none⟩ = some (.int .i64 s.a) from y 0 _ rfl)) (And.intro (hw.cell (show wr.cell? ⟨b', off' + k * 3 + 1, none⟩ = some (.int .i64 s.b) from y 1 _ rfl)) (hw.cell (show wr.cell? ⟨b', off' + k * 3 + 2, none⟩ = some (.float .f32 s.ps) from y 2 _ rfl)))))))
      clear e hc e' hc' z y hs
      subst ea
      subst ea'
      have Bw0 := Lib.hid hb.out
      clear hb HC HC' AT
      have hi : (0 : Int) ≤ (k : Int) := by omega
      have hi' : (k : Int) < (n : Int) := by omega
      go_wp2
      refine wp_region_looseC (Ext _) (fun _ _ v => v = .bool true) (Ext.start _) (by kernel_rfl) (by kernel_rfl) ?_
      repeat (refine wpLoose_valK rfl ?_ (fun w1 hw1 => ?_) (fun K hK => ?_); rotate_left; (focus (have hF := FACT.out w1 hw1; go_simp; first | done | rfl)); go_simp; refine hK _ ?_; clear hK K)
      refine wpLoose_callS rfl 153 #[.agg #[.int .i64 s.a, .int .i64 s.b, .float .f32 s.ps], .agg #[.int .i64 s.a, .int .i64 s.b, .float .f32 s.ps]] (fun w1 => ?_) (fun w1 hw1 => ?_) (fun v hv => ?_)
      · go_simp
      · refine (LK.eq_any s w1).mono ?_
        rintro e w2 ⟨rfl, hb⟩
        exact ⟨_, rfl, rfl, hb⟩
      subst hv
      repeat (first | (refine wpLoose_farithB rfl _ _ _ _ _ rfl rfl _ _ _ rfl rfl ?_; intro _ _) | (refine wpLoose_valK rfl ?_ (fun w1 hw1 => ?_) (fun K hK => ?_); rotate_left; (focus (have hF := FACT.out w1 hw1; go_simp; first | done | rfl)); go_simp; refine hK _ ?_; clear hK K))
      refine wpLoose_nil ?_; intro w1 hb
      have Bw := Lib.hid (below_step Bw0.out hb)
      clear hb
      go_wp2
      go_roundw
      case rel => exact ⟨k + 1, by omega, by go_num, Bw⟩
      case measure => simp [intOf]; omega
    · go_wp2
      go_ret
      exact ⟨rfl, hb.out⟩

theorem LK.sz_fit (a : Option Addr) (n c left : Nat) (w : World) (hn : n ≤ left) (hl : left ≤ 1048576) :
    Calls Try.prog 106 #[.slice a n c, .int .i64 left] w fun e w' => e = .returned (.int .i64 ((left - n : Nat) : Int)) ∧ w = w' := by
  have e : ((left : Int) - (n : Int)) = ((left - n : Nat) : Int) := by omega
  go_enter Try.func106, Try.ntmps106
  go_wp2
  go_ret
  exact ⟨by simp, rfl⟩
theorem LK.sz_over (a : Option Addr) (n c left : Nat) (w : World) (hn : left < n) (hm : n ≤ 9223372036854775807) (hl : left ≤ 1048576) :
    Calls Try.prog 106 #[.slice a n c, .int .i64 left] w fun e w' => e = .returned (.int .i64 (-1)) ∧ w = w' := by
  go_enter Try.func106, Try.ntmps106
  go_wp2
  go_ret
  exact ⟨rfl, rfl⟩
end Go.Proofs.Ytlhjmkdfemejmaa
