/- Numbers in decimal: the specification. -/
import Derived.Test.YtncjkhdnpioinaaDoorCatU
import Derived.Test.YtncjkhdnpioinaaDoorDecM
namespace Go.Proofs.YtncjkhdnpioinaaDoor
open Go.RowKit
set_option linter.unusedVariables false

def decZ (n : Int) : ByteArray := strOfNums (decN n)
theorem OwnU.lit1 (w : World) (base : Nat) (hb : base ≤ w.heap.size) (a : Int) : OwnU (w.alloc (.cells #[.int .u8 a] 5)) base (.slice (some ⟨w.heap.size, 0, none⟩) 1 1) [a] :=
  World.ownsRow_lit (w := w) (base := base) (e := 5) (size := 1) #[.int .u8 a] 1 hb (by decide) rfl

/-- what a loop over the digits has made: either nothing yet, or the digits behind what is left -/
def DRel (N u : Nat) (zs : List Int) : Prop := (zs = [] ∧ u = N) ∨ (1 ≤ zs.length ∧ ddig N = dpre u ++ zs)
theorem DRel.step {N u : Nat} {zs : List Int} (h : DRel N u zs) (hu : zs = [] ∨ u ≠ 0) : DRel N (u / 10) ((48 + (u : Int) % 10) :: zs) := by
  refine .inr ⟨by simp, ?_⟩
  rcases h with ⟨rfl, rfl⟩ | ⟨h1, h2⟩
  · exact ddig_step u
  · rcases hu with rfl | hu
    · simp at h1
    · rw [h2, dpre_step u hu]; simp
theorem DRel.len {N u : Nat} {zs : List Int} (h : DRel N u zs) (hN : N < 10 ^ 20) : zs.length ≤ 20 := by
  rcases h with ⟨rfl, _⟩ | ⟨_, h2⟩
  · simp
  · have := ddig_len 19 N (by omega)
    rw [h2] at this
    simp at this; omega
theorem DRel.done {N : Nat} {zs : List Int} (h : DRel N 0 zs) (h1 : zs ≠ []) : zs = ddig N := by
  rcases h with ⟨rfl, _⟩ | ⟨_, h2⟩
  · exact absurd rfl h1
  · rw [h2]; rfl
def DSl (base : Nat) (v : Value) (zs : List Int) (w : World) : Prop := (∃ g cap, v = .slice (some ⟨g, 0, none⟩) zs.length cap) ∧ OwnU w base v zs
theorem DSl.cell {base g n cap : Nat} {zs : List Int} {w : World} (h : OwnU w base (.slice (some ⟨g, 0, none⟩) n cap) zs) (o : Obj) (i : Nat) (hi : i < zs.length) : (w.alloc o).cell? ⟨g, 0 + i, none⟩ = some (.int .u8 (zs.getD i 0)) := by
  rw [Nat.zero_add]; exact (h.al o).cellAt i hi

set_option maxHeartbeats 1600000 in
set_option maxRecDepth 4000 in
theorem specDecP_any (N : Nat) (w : World) (hN : N ≤ 9223372036854775807) : Calls Tryd.prog 142 #[.int .i64 N] w fun e w' => e = .returned (.string (strOfNums (ddig N))) ∧ Below w.heap.size w w' := by
  have HN := Lib.hid (show N < 10 ^ 20 by omega)
  have HN2 := Lib.hid hN
  have Bw := Lib.hid (below_al1 w (.cells #[] 5))
  have O0 := Lib.hid (OwnU.empty w w.heap.size (Nat.le_refl _))
  have hz : decide ((N : Int) < 0) = false := by simp
  clear hN
  go_enter Tryd.func142, Tryd.ntmps142
  go_wp2
  go_loopw [3, 4] (fun v r wr => ∃ (u : Nat) (zs : List Int), u ≤ N ∧ r = .int .i64 u ∧ Hid (DRel N u zs) ∧ Hid (DSl w.heap.size v zs wr) ∧ Hid (Below w.heap.size w wr)) (fun v r _ => (intOf r).toNat + (match v with | .slice _ 0 _ => 1 | _ => 0))
  case atStart => exact ⟨N, [], Nat.le_refl _, rfl, Lib.hid (.inl ⟨rfl, rfl⟩), Lib.hid ⟨⟨_, _, rfl⟩, O0.out⟩, Bw⟩
  case round =>
    obtain ⟨u, zs, hu, rfl, hd, hs, hb⟩ := hrel
    obtain ⟨g, cap, rfl⟩ := hs.out.1
    have HO := Lib.hid hs.out.2
    clear hs
    have e1 : IntKind.i64.wrap (48 + (u : Int) % 10) = 48 + (u : Int) % 10 := by
      unfold IntKind.wrap; simp [IntKind.bits, IntKind.signed]; omega
    have e2 : IntKind.u8.wrap (48 + (u : Int) % 10) = 48 + (u : Int) % 10 := by
      unfold IntKind.wrap; simp [IntKind.bits, IntKind.signed]; omega
    have e3 : decide ((u : Int) % 10 < 0) = false := by
      have : 0 ≤ (u : Int) % 10 := Int.emod_nonneg _ (by decide)
      simpa using this
    have e4 : wrap64 ((u : Int) / 10) = ((u / 10 : Nat) : Int) := by
      have := HN2.out; unfold wrap64; omega
    by_cases hz0 : zs = []
    · subst hz0
      have HS := Lib.hid (hd.out.step (.inl rfl))
      have OL := Lib.hid (OwnU.lit1 wr w.heap.size (hb.out.size) (48 + (u : Int) % 10))
      have B2 := Lib.hid (hb.out.alloc (hb.out.size) (.cells #[.int .u8 (48 + (u : Int) % 10)] 5))
      have hq : Hid (u / 10 ≤ N) := Lib.hid (by omega)
      have hm : Hid (u / 10 ≤ u) := Lib.hid (by omega)
      clear hd
      go_wp2
      refine ⟨⟨u / 10, _, hq.out, by rw [e4], HS, Lib.hid ⟨⟨_, _, rfl⟩, OL.out⟩, B2⟩, ?_⟩
      have := hm.out
      rw [e4]
      simp [intOf]
      omega
    by_cases hu0 : u = 0
    · subst hu0
      have HE := Lib.hid (hd.out.done hz0)
      have hl := hd.out.len HN.out
      have hcv := run_convert_bytes_arg (P := Tryd.prog) wr 141 5 Tryd.underlying141 Tryd.underlying5 g 0 zs.length cap zs rfl (fun i hi => by rw [Nat.zero_add]; exact HO.out.cellAt i hi) 9 Tryd.underlying9
      clear e1 e2 e3 e4
      have zl : ¬ ((zs.length : Int) = 0) := by
        intro e
        exact hz0 (List.length_eq_zero_iff.1 (by omega))
      have zb : ((zs.length : Int) == 0) = false := by simpa using zl
      go_wp2
      go_ret
      exact ⟨congrArg (fun x => Ending.returned (Value.string (strOfNums x))) HE.out, hb.out⟩
    · have hl := hd.out.len HN.out
      have ub : ((u : Int) == 0) = false := by simp; omega
      have ub2 : ((u : Int) != 0) = true := by simp; omega
      have HS := Lib.hid (hd.out.step (.inr hu0))
      have OL := Lib.hid (OwnU.lit1 wr w.heap.size (hb.out.size) (48 + (u : Int) % 10))
      have B2 := Lib.hid (hb.out.alloc (hb.out.size) (.cells #[.int .u8 (48 + (u : Int) % 10)] 5))
      have CS := Lib.hid (fun i hi => DSl.cell HO.out (.cells #[.int .u8 (48 + (u : Int) % 10)] 5) i hi)
      have hq : Hid (u / 10 ≤ N) := Lib.hid (by omega)
      have hm : Hid (u / 10 < u) := Lib.hid (by omega)
      clear hd
      go_wp2_with (at_builtin; refine wpList_catU rfl _ _ rfl w.heap.size _ [48 + (u : Int) % 10] zs rfl OL.out g 0 cap rfl CS.out (by simp) (by omega) (B2.out.size) ?_; intro v' w' hO' hB'; obtain ⟨g2, cap2, rfl⟩ := hO'.openS (by simp))
      have B3 := Lib.hid (B2.out.trans hB')
      have O3 := Lib.hid hO'
      clear hO' hB'
      go_wp2
      refine ⟨⟨u / 10, _, hq.out, by rw [e4], HS, Lib.hid ⟨⟨_, _, rfl⟩, O3.out⟩, B3⟩, ?_⟩
      have := hm.out
      rw [e4]
      simp [intOf]
      omega


set_option maxHeartbeats 3200000 in
set_option maxRecDepth 4000 in
theorem specDecM_any (N : Nat) (w : World) (h1 : 1 ≤ N) (hN : N ≤ 9223372036854775808) : Calls Tryd.prog 142 #[.int .i64 (-(N : Int))] w fun e w' => e = .returned (.string (strOfNums (45 :: ddig N))) ∧ Below w.heap.size w w' := by
  have HN := Lib.hid (show N < 10 ^ 20 by omega)
  have HN2 := Lib.hid hN
  have Bw := Lib.hid (below_al1 w (.cells #[] 5))
  have O0 := Lib.hid (OwnU.empty w w.heap.size (Nat.le_refl _))
  have hz : decide (-(N : Int) < 0) = true := by simp; omega
  clear hN
  go_enter Tryd.func142, Tryd.ntmps142
  go_wp2
  go_loopw [3, 4] (fun v r wr => ∃ (u : Nat) (zs : List Int), u ≤ N ∧ r = .int .i64 (-(u : Int)) ∧ Hid (DRel N u zs) ∧ Hid (DSl w.heap.size v zs wr) ∧ Hid (Below w.heap.size w wr)) (fun v r _ => (-intOf r).toNat + (match v with | .slice _ 0 _ => 1 | _ => 0))
  case atStart => exact ⟨N, [], Nat.le_refl _, rfl, Lib.hid (.inl ⟨rfl, rfl⟩), Lib.hid ⟨⟨_, _, rfl⟩, O0.out⟩, Bw⟩
  case round =>
    obtain ⟨u, zs, hu, rfl, hd, hs, hb⟩ := hrel
    obtain ⟨g, cap, rfl⟩ := hs.out.1
    have HO := Lib.hid hs.out.2
    clear hs
    have e6 : (-(u : Int)).tdiv 10 = -((u : Int) / 10) := by rw [Int.neg_tdiv, Int.tdiv_eq_ediv_of_nonneg (by omega)]
    have e4 : wrap64 (-((u : Int) / 10)) = -((u / 10 : Nat) : Int) := by
      have := HN2.out; unfold wrap64; omega
    have e5 : (-(u : Int)).tmod 10 = -((u : Int) % 10) := by rw [Int.neg_tmod, Int.tmod_eq_emod_of_nonneg (by omega)]
    have hl := hd.out.len HN.out
    have hq : Hid (u / 10 ≤ N) := Lib.hid (by omega)
    have hm : Hid (u / 10 ≤ u ∧ (u ≠ 0 → u / 10 < u)) := Lib.hid (by omega)
    obtain ⟨q, hqe⟩ : ∃ q : Int, (u : Int) % 10 = q := ⟨_, rfl⟩
    have q0 : 0 ≤ q := by omega
    have q9 : q ≤ 9 := by omega
    have ST := Lib.hid (fun h => hd.out.step h)
    rw [hqe] at e5 ST
    clear hqe
    by_cases hz0 : zs = []
    · subst hz0
      by_cases hq1 : q = 0
      · subst hq1
        have e7 : (-(u : Int)).tmod 10 = 0 := e5
        clear e5
        have HS : Hid (DRel N (u / 10) [48]) := Lib.hid (by simpa using ST.out (.inl rfl))
        have OL := Lib.hid (OwnU.lit1 wr w.heap.size (hb.out.size) 48)
        have B2 := Lib.hid (hb.out.alloc (hb.out.size) (.cells #[.int .u8 48] 5))
        clear hd ST
        go_wp2
        refine ⟨⟨u / 10, _, hq.out, by rw [e4], HS, Lib.hid ⟨⟨_, _, rfl⟩, OL.out⟩, B2⟩, ?_⟩
        have := hm.out
        rw [e4]
        simp [intOf]
        omega
      · skip
        have e3 : decide (-q < 0) = true := by simp; omega
        have e1 : IntKind.i64.wrap (48 + q) = 48 + q := by unfold IntKind.wrap; simp [IntKind.bits, IntKind.signed]; omega
        have e2 : IntKind.u8.wrap (48 + q) = 48 + q := by unfold IntKind.wrap; simp [IntKind.bits, IntKind.signed]; omega
        have e8 : IntKind.i64.wrap q = q := by unfold IntKind.wrap; simp [IntKind.bits, IntKind.signed]; omega
        have HS : Hid (DRel N (u / 10) ((48 + q) :: [])) := Lib.hid (ST.out (.inl rfl))
        have OL := Lib.hid (OwnU.lit1 wr w.heap.size (hb.out.size) (48 + q))
        have B2 := Lib.hid (hb.out.alloc (hb.out.size) (.cells #[.int .u8 (48 + q)] 5))
        clear hd ST
        go_wp2
        refine ⟨⟨u / 10, _, hq.out, by rw [e4], HS, Lib.hid ⟨⟨_, _, rfl⟩, OL.out⟩, B2⟩, ?_⟩
        have := hm.out
        rw [e4]
        simp [intOf]
        omega
    by_cases hu0 : u = 0
    · subst hu0
      have HE := Lib.hid (hd.out.done hz0)
      have zl : ¬ ((zs.length : Int) = 0) := by
        intro e
        exact hz0 (List.length_eq_zero_iff.1 (by omega))
      have zb : ((zs.length : Int) == 0) = false := by simpa using zl
      have OL := Lib.hid (OwnU.lit1 wr w.heap.size (hb.out.size) 45)
      have B2 := Lib.hid (hb.out.alloc (hb.out.size) (.cells #[.int .u8 45] 5))
      have CS := Lib.hid (fun i hi => DSl.cell HO.out (.cells #[.int .u8 45] 5) i hi)
      have zq : (-((0 : Nat) : Int)) = 0 := rfl
      obtain ⟨T, hT⟩ : ∃ T, [45] ++ zs = T := ⟨_, rfl⟩
      have HL := Lib.hid (show 1 ≤ T.length by rw [← hT]; simp)
      have HE2 : Hid (T = 45 :: ddig N) := Lib.hid (by rw [← hT, HE.out]; rfl)
      have HT := Lib.hid hT
      clear e4 e5 e6 hT
      rw [zq]
      go_wp2_with (at_builtin; refine wpList_catU rfl _ _ rfl w.heap.size _ [45] zs rfl OL.out g 0 cap rfl CS.out (by simp) (by omega) (B2.out.size) ?_; intro v' w' hO' hB'; rw [HT.out] at hO'; obtain ⟨g2, cap2, rfl⟩ := hO'.openS HL.out; refine Hid.out ?_)
      refine Lib.hid ?_
      have B3 := Lib.hid (B2.out.trans hB')
      have hcv := run_convert_bytes_arg (P := Tryd.prog) w' 141 5 Tryd.underlying141 Tryd.underlying5 g2 0 T.length cap2 T rfl (fun i hi => by rw [Nat.zero_add]; exact hO'.cellAt i hi) 9 Tryd.underlying9
      clear hB' hO'
      go_wp2
      go_ret
      exact ⟨congrArg (fun x => Ending.returned (Value.string (strOfNums x))) HE2.out, B3.out⟩
    · skip
      have zl : ¬ ((zs.length : Int) = 0) := by
        intro e
        exact hz0 (List.length_eq_zero_iff.1 (by omega))
      have zb : ((zs.length : Int) == 0) = false := by simpa using zl
      have ub : ((-(u : Int)) == 0) = false := by simp; omega
      have ub2 : ((-(u : Int)) != 0) = true := by simp; omega
      clear zl
      by_cases hq1 : q = 0
      · subst hq1
        have e7 : (-(u : Int)).tmod 10 = 0 := e5
        clear e5
        have HS : Hid (DRel N (u / 10) (48 :: zs)) := Lib.hid (by simpa using ST.out (.inr hu0))
        have OL := Lib.hid (OwnU.lit1 wr w.heap.size (hb.out.size) 48)
        have B2 := Lib.hid (hb.out.alloc (hb.out.size) (.cells #[.int .u8 48] 5))
        have CS := Lib.hid (fun i hi => DSl.cell HO.out (.cells #[.int .u8 48] 5) i hi)
        clear hd ST
        go_wp2_with (at_builtin; refine wpList_catU rfl _ _ rfl w.heap.size _ [48] zs rfl OL.out g 0 cap rfl CS.out (by simp) (by omega) (B2.out.size) ?_; intro v' w' hO' hB'; obtain ⟨g2, cap2, rfl⟩ := hO'.openS (by simp))
        have B3 := Lib.hid (B2.out.trans hB')
        have O3 := Lib.hid hO'
        clear hO' hB'
        go_wp2
        refine ⟨⟨u / 10, _, hq.out, by rw [e4], HS, Lib.hid ⟨⟨_, _, rfl⟩, O3.out⟩, B3⟩, ?_⟩
        have := hm.out
        rw [e4]
        simp [intOf]
        omega
      · skip
        have e3 : decide (-q < 0) = true := by simp; omega
        have e1 : IntKind.i64.wrap (48 + q) = 48 + q := by unfold IntKind.wrap; simp [IntKind.bits, IntKind.signed]; omega
        have e2 : IntKind.u8.wrap (48 + q) = 48 + q := by unfold IntKind.wrap; simp [IntKind.bits, IntKind.signed]; omega
        have e8 : IntKind.i64.wrap q = q := by unfold IntKind.wrap; simp [IntKind.bits, IntKind.signed]; omega
        have HS : Hid (DRel N (u / 10) ((48 + q) :: zs)) := Lib.hid (ST.out (.inr hu0))
        have OL := Lib.hid (OwnU.lit1 wr w.heap.size (hb.out.size) (48 + q))
        have B2 := Lib.hid (hb.out.alloc (hb.out.size) (.cells #[.int .u8 (48 + q)] 5))
        have CS := Lib.hid (fun i hi => DSl.cell HO.out (.cells #[.int .u8 (48 + q)] 5) i hi)
        clear hd ST
        go_wp2_with (at_builtin; refine wpList_catU rfl _ _ rfl w.heap.size _ [(48 + q)] zs rfl OL.out g 0 cap rfl CS.out (by simp) (by omega) (B2.out.size) ?_; intro v' w' hO' hB'; obtain ⟨g2, cap2, rfl⟩ := hO'.openS (by simp))
        have B3 := Lib.hid (B2.out.trans hB')
        have O3 := Lib.hid hO'
        clear hO' hB'
        go_wp2
        refine ⟨⟨u / 10, _, hq.out, by rw [e4], HS, Lib.hid ⟨⟨_, _, rfl⟩, O3.out⟩, B3⟩, ?_⟩
        have := hm.out
        rw [e4]
        simp [intOf]
        omega
end Go.Proofs.YtncjkhdnpioinaaDoor
