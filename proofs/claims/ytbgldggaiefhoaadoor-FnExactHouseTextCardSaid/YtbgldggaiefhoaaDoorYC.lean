/- Several texts in one, for a claim holds 60 files at most: DecM Dec DecI JRow In LTx RowI Jz LTxW OpenF St Giv2 Giv3 Fu SnQ SnP SnW SnS SnNQ SnN SnLQ SnL SnA Lk Hs HsV AllL HsI OpenHs HsTx. -/
import Derived.Test.YtbgldggaiefhoaaDoorYA
import Derived.Lib.ItoaNum
import Derived.Test.YtbgldggaiefhoaaDoorShelf
import Derived.Laws.OwnMore
import Derived.Deep.OwnRows
import Derived.Lib.SmallJoins
import Derived.Deep.Slices
import Derived.Laws.ResultCell
import Derived.Deep.QuietTactic
import Derived.BigQuiet
import Derived.Deep.RegionHeld3

/- Numbers in decimal, digit by digit from the right. No program stands in this text. -/
namespace Go.Proofs.YtbgldggaiefhoaaDoor
open Go

/-- a byte as an integer -/
def nu (l : List UInt8) : List Int := l.map fun b => (b.toNat : Int)
/-- the digits that are still to come -/
def dpre (u : Nat) : List Int := if u = 0 then [] else nu (Lib.decDigits u)
def ddig (u : Nat) : List Int := nu (Lib.decDigits u)
theorem nu_app (a b : List UInt8) : nu (a ++ b) = nu a ++ nu b := by unfold nu; simp
theorem dig_one (d : Nat) (h : d < 10) : nu [UInt8.ofNat (48 + d)] = [48 + (d : Int)] := by
  unfold nu
  simp only [List.map_cons, List.map_nil, List.cons.injEq, and_true]
  rw [UInt8.toNat_ofNat']
  omega
theorem ddig_step (u : Nat) : ddig u = dpre (u / 10) ++ [48 + (u : Int) % 10] := by
  unfold ddig dpre
  rw [Lib.decDigits]
  by_cases h : u < 10
  · rw [dif_pos h, dig_one u h, if_pos (by omega)]
    simp only [List.nil_append, List.cons.injEq, and_true]
    omega
  · rw [dif_neg h, nu_app, dig_one (u % 10) (by omega), if_neg (by omega)]
    simp
theorem dpre_step (u : Nat) (h : u ≠ 0) : dpre u = dpre (u / 10) ++ [48 + (u : Int) % 10] := by
  rw [← ddig_step]; unfold dpre ddig; rw [if_neg h]
theorem ddig_len : ∀ (k u : Nat), u < 10 ^ (k + 1) → (ddig u).length ≤ k + 1
  | 0, u, h => by
    rw [ddig_step]; unfold dpre; rw [if_pos (by omega)]; simp
  | k + 1, u, h => by
    rw [ddig_step]
    have : (dpre (u / 10)).length ≤ k + 1 := by
      unfold dpre
      split
      · simp
      · exact ddig_len k (u / 10) (by rw [Nat.pow_succ] at h; omega)
    simp; omega
/-- a number in decimal, as bytes -/
def decN (n : Int) : List Int := if n < 0 then 45 :: ddig n.natAbs else ddig n.natAbs
theorem decN_itoa (n : Int) : decN n = nu (Lib.itoa n) := by
  unfold decN Lib.itoa ddig
  split
  · rfl
  · rw [show n.natAbs = n.toNat by omega]
theorem ddig_ne (u : Nat) : ddig u ≠ [] := by rw [ddig_step]; simp
end Go.Proofs.YtbgldggaiefhoaaDoor

/- Numbers in decimal: the specification. -/
namespace Go.Proofs.YtbgldggaiefhoaaDoor
open Go.RowKit
set_option linter.unusedVariables false

def decZ (n : Int) : ByteArray := strOfNums (decN n)
theorem OwnU.lit1 (w : World) (base : Nat) (hb : base ≤ w.heap.size) (a : Int) : OwnU (w.alloc (.cells #[.int .u8 a] 5)) base (.slice (some ⟨w.heap.size, 0, none⟩) 1 1) [a] :=
  World.ownsRow_lit (w := w) (base := base) (e := 5) (size := 1) #[.int .u8 a] 1 hb (by decide) rfl

/-- what a loop over the digits has made: either nothing yet, or the digits behind what is left -/
def DRel (N u : Nat) (zs : List Int) : Prop := (zs = [] ∧ u = N) ∨ (1 ≤ zs.length ∧ ddig N = dpre u ++ zs)
theorem DRel.step {N u : Nat} {zs : List Int} (h : DRel N u zs) (hu : zs = [] ∨ u ≠ 0) : DRel N (u / 10) ((48 + (u : Int) % 10) :: zs) := by
  refine .inr ⟨by simp, ?_⟩
  rcases h with ⟨rfl, rfl⟩ | ⟨h1, h2⟩
  · exact ddig_step u
  · rcases hu with rfl | hu
    · simp at h1
    · rw [h2, dpre_step u hu]; simp
theorem DRel.len {N u : Nat} {zs : List Int} (h : DRel N u zs) (hN : N < 10 ^ 20) : zs.length ≤ 20 := by
  rcases h with ⟨rfl, _⟩ | ⟨_, h2⟩
  · simp
  · have := ddig_len 19 N (by omega)
    rw [h2] at this
    simp at this; omega
theorem DRel.done {N : Nat} {zs : List Int} (h : DRel N 0 zs) (h1 : zs ≠ []) : zs = ddig N := by
  rcases h with ⟨rfl, _⟩ | ⟨_, h2⟩
  · exact absurd rfl h1
  · rw [h2]; rfl
def DSl (base : Nat) (v : Value) (zs : List Int) (w : World) : Prop := (∃ g cap, v = .slice (some ⟨g, 0, none⟩) zs.length cap) ∧ OwnU w base v zs
theorem DSl.cell {base g n cap : Nat} {zs : List Int} {w : World} (h : OwnU w base (.slice (some ⟨g, 0, none⟩) n cap) zs) (o : Obj) (i : Nat) (hi : i < zs.length) : (w.alloc o).cell? ⟨g, 0 + i, none⟩ = some (.int .u8 (zs.getD i 0)) := by
  rw [Nat.zero_add]; exact (h.al o).cellAt i hi

set_option maxHeartbeats 1600000 in
set_option maxRecDepth 4000 in
theorem specDecP_any (N : Nat) (w : World) (hN : N ≤ 9223372036854775807) : Calls Tryd.prog 101 #[.int .i64 N] w fun e w' => e = .returned (.string (strOfNums (ddig N))) ∧ Below w.heap.size w w' := by
  have HN := Lib.hid (show N < 10 ^ 20 by omega)
  have HN2 := Lib.hid hN
  have Bw := Lib.hid (below_al1 w (.cells #[] 5))
  have O0 := Lib.hid (OwnU.empty w w.heap.size (Nat.le_refl _))
  have hz : decide ((N : Int) < 0) = false := by simp
  clear hN
  go_enter Tryd.func101, Tryd.ntmps101
  go_wp2
  go_loopw [3, 4] (fun v r wr => ∃ (u : Nat) (zs : List Int), u ≤ N ∧ r = .int .i64 u ∧ Hid (DRel N u zs) ∧ Hid (DSl w.heap.size v zs wr) ∧ Hid (Below w.heap.size w wr)) (fun v r _ => (intOf r).toNat + (match v with | .slice _ 0 _ => 1 | _ => 0))
  case atStart => exact ⟨N, [], Nat.le_refl _, rfl, Lib.hid (.inl ⟨rfl, rfl⟩), Lib.hid ⟨⟨_, _, rfl⟩, O0.out⟩, Bw⟩
  case round =>
    obtain ⟨u, zs, hu, rfl, hd, hs, hb⟩ := hrel
    obtain ⟨g, cap, rfl⟩ := hs.out.1
    have HO := Lib.hid hs.out.2
    clear hs
    have e1 : IntKind.i64.wrap (48 + (u : Int) % 10) = 48 + (u : Int) % 10 := by
      unfold IntKind.wrap; simp [IntKind.bits, IntKind.signed]; omega
    have e2 : IntKind.u8.wrap (48 + (u : Int) % 10) = 48 + (u : Int) % 10 := by
      unfold IntKind.wrap; simp [IntKind.bits, IntKind.signed]; omega
    have e3 : decide ((u : Int) % 10 < 0) = false := by
      have : 0 ≤ (u : Int) % 10 := Int.emod_nonneg _ (by decide)
      simpa using this
    have e4 : wrap64 ((u : Int) / 10) = ((u / 10 : Nat) : Int) := by
      have := HN2.out; unfold wrap64; omega
    by_cases hz0 : zs = []
    · subst hz0
      have HS := Lib.hid (hd.out.step (.inl rfl))
      have OL := Lib.hid (OwnU.lit1 wr w.heap.size (hb.out.size) (48 + (u : Int) % 10))
      have B2 := Lib.hid (hb.out.alloc (hb.out.size) (.cells #[.int .u8 (48 + (u : Int) % 10)] 5))
      have hq : Hid (u / 10 ≤ N) := Lib.hid (by omega)
      have hm : Hid (u / 10 ≤ u) := Lib.hid (by omega)
      clear hd
      go_wp2
      refine ⟨⟨u / 10, _, hq.out, by rw [e4], HS, Lib.hid ⟨⟨_, _, rfl⟩, OL.out⟩, B2⟩, ?_⟩
      have := hm.out
      rw [e4]
      simp [intOf]
      omega
    by_cases hu0 : u = 0
    · subst hu0
      have HE := Lib.hid (hd.out.done hz0)
      have hl := hd.out.len HN.out
      have hcv := run_convert_bytes_arg (P := Tryd.prog) wr 150 5 Tryd.underlying150 Tryd.underlying5 g 0 zs.length cap zs rfl (fun i hi => by rw [Nat.zero_add]; exact HO.out.cellAt i hi) 9 Tryd.underlying9
      clear e1 e2 e3 e4
      have zl : ¬ ((zs.length : Int) = 0) := by
        intro e
        exact hz0 (List.length_eq_zero_iff.1 (by omega))
      have zb : ((zs.length : Int) == 0) = false := by simpa using zl
      go_wp2
      go_ret
      exact ⟨congrArg (fun x => Ending.returned (Value.string (strOfNums x))) HE.out, hb.out⟩
    · have hl := hd.out.len HN.out
      have ub : ((u : Int) == 0) = false := by simp; omega
      have ub2 : ((u : Int) != 0) = true := by simp; omega
      have HS := Lib.hid (hd.out.step (.inr hu0))
      have OL := Lib.hid (OwnU.lit1 wr w.heap.size (hb.out.size) (48 + (u : Int) % 10))
      have B2 := Lib.hid (hb.out.alloc (hb.out.size) (.cells #[.int .u8 (48 + (u : Int) % 10)] 5))
      have CS := Lib.hid (fun i hi => DSl.cell HO.out (.cells #[.int .u8 (48 + (u : Int) % 10)] 5) i hi)
      have hq : Hid (u / 10 ≤ N) := Lib.hid (by omega)
      have hm : Hid (u / 10 < u) := Lib.hid (by omega)
      clear hd
      go_wp2_with (at_builtin; refine wpList_catU rfl _ _ rfl w.heap.size _ [48 + (u : Int) % 10] zs rfl OL.out g 0 cap rfl CS.out (by simp) (by omega) (B2.out.size) ?_; intro v' w' hO' hB'; obtain ⟨g2, cap2, rfl⟩ := hO'.openS (by simp))
      have B3 := Lib.hid (B2.out.trans hB')
      have O3 := Lib.hid hO'
      clear hO' hB'
      go_wp2
      refine ⟨⟨u / 10, _, hq.out, by rw [e4], HS, Lib.hid ⟨⟨_, _, rfl⟩, O3.out⟩, B3⟩, ?_⟩
      have := hm.out
      rw [e4]
      simp [intOf]
      omega


set_option maxHeartbeats 3200000 in
set_option maxRecDepth 4000 in
theorem specDecM_any (N : Nat) (w : World) (h1 : 1 ≤ N) (hN : N ≤ 9223372036854775808) : Calls Tryd.prog 101 #[.int .i64 (-(N : Int))] w fun e w' => e = .returned (.string (strOfNums (45 :: ddig N))) ∧ Below w.heap.size w w' := by
  have HN := Lib.hid (show N < 10 ^ 20 by omega)
  have HN2 := Lib.hid hN
  have Bw := Lib.hid (below_al1 w (.cells #[] 5))
  have O0 := Lib.hid (OwnU.empty w w.heap.size (Nat.le_refl _))
  have hz : decide (-(N : Int) < 0) = true := by simp; omega
  clear hN
  go_enter Tryd.func101, Tryd.ntmps101
  go_wp2
  go_loopw [3, 4] (fun v r wr => ∃ (u : Nat) (zs : List Int), u ≤ N ∧ r = .int .i64 (-(u : Int)) ∧ Hid (DRel N u zs) ∧ Hid (DSl w.heap.size v zs wr) ∧ Hid (Below w.heap.size w wr)) (fun v r _ => (-intOf r).toNat + (match v with | .slice _ 0 _ => 1 | _ => 0))
  case atStart => exact ⟨N, [], Nat.le_refl _, rfl, Lib.hid (.inl ⟨rfl, rfl⟩), Lib.hid ⟨⟨_, _, rfl⟩, O0.out⟩, Bw⟩
  case round =>
    obtain ⟨u, zs, hu, rfl, hd, hs, hb⟩ := hrel
    obtain ⟨g, cap, rfl⟩ := hs.out.1
    have HO := Lib.hid hs.out.2
    clear hs
    have e6 : (-(u : Int)).tdiv 10 = -((u : Int) / 10) := by rw [Int.neg_tdiv, Int.tdiv_eq_ediv_of_nonneg (by omega)]
    have e4 : wrap64 (-((u : Int) / 10)) = -((u / 10 : Nat) : Int) := by
      have := HN2.out; unfold wrap64; omega
    have e5 : (-(u : Int)).tmod 10 = -((u : Int) % 10) := by rw [Int.neg_tmod, Int.tmod_eq_emod_of_nonneg (by omega)]
    have hl := hd.out.len HN.out
    have hq : Hid (u / 10 ≤ N) := Lib.hid (by omega)
    have hm : Hid (u / 10 ≤ u ∧ (u ≠ 0 → u / 10 < u)) := Lib.hid (by omega)
    obtain ⟨q, hqe⟩ : ∃ q : Int, (u : Int) % 10 = q := ⟨_, rfl⟩
    have q0 : 0 ≤ q := by omega
    have q9 : q ≤ 9 := by omega
    have ST := Lib.hid (fun h => hd.out.step h)
    rw [hqe] at e5 ST
    clear hqe
    by_cases hz0 : zs = []
    · subst hz0
      by_cases hq1 : q = 0
      · subst hq1
        have e7 : (-(u : Int)).tmod 10 = 0 := e5
        clear e5
        have HS : Hid (DRel N (u / 10) [48]) := Lib.hid (by simpa using ST.out (.inl rfl))
        have OL := Lib.hid (OwnU.lit1 wr w.heap.size (hb.out.size) 48)
        have B2 := Lib.hid (hb.out.alloc (hb.out.size) (.cells #[.int .u8 48] 5))
        clear hd ST
        go_wp2
        refine ⟨⟨u / 10, _, hq.out, by rw [e4], HS, Lib.hid ⟨⟨_, _, rfl⟩, OL.out⟩, B2⟩, ?_⟩
        have := hm.out
        rw [e4]
        simp [intOf]
        omega
      · skip
        have e3 : decide (-q < 0) = true := by simp; omega
        have e1 : IntKind.i64.wrap (48 + q) = 48 + q := by unfold IntKind.wrap; simp [IntKind.bits, IntKind.signed]; omega
        have e2 : IntKind.u8.wrap (48 + q) = 48 + q := by unfold IntKind.wrap; simp [IntKind.bits, IntKind.signed]; omega
        have e8 : IntKind.i64.wrap q = q := by unfold IntKind.wrap; simp [IntKind.bits, IntKind.signed]; omega
        have HS : Hid (DRel N (u / 10) ((48 + q) :: [])) := Lib.hid (ST.out (.inl rfl))
        have OL := Lib.hid (OwnU.lit1 wr w.heap.size (hb.out.size) (48 + q))
        have B2 := Lib.hid (hb.out.alloc (hb.out.size) (.cells #[.int .u8 (48 + q)] 5))
        clear hd ST
        go_wp2
        refine ⟨⟨u / 10, _, hq.out, by rw [e4], HS, Lib.hid ⟨⟨_, _, rfl⟩, OL.out⟩, B2⟩, ?_⟩
        have := hm.out
        rw [e4]
        simp [intOf]
        omega
    by_cases hu0 : u = 0
    · subst hu0
      have HE := Lib.hid (hd.out.done hz0)
      have zl : ¬ ((zs.length : Int) = 0) := by
        intro e
        exact hz0 (List.length_eq_zero_iff.1 (by omega))
      have zb : ((zs.length : Int) == 0) = false := by simpa using zl
      have OL := Lib.hid (OwnU.lit1 wr w.heap.size (hb.out.size) 45)
      have B2 := Lib.hid (hb.out.alloc (hb.out.size) (.cells #[.int .u8 45] 5))
      have CS := Lib.hid (fun i hi => DSl.cell HO.out (.cells #[.int .u8 45] 5) i hi)
      have zq : (-((0 : Nat) : Int)) = 0 := rfl
      obtain ⟨T, hT⟩ : ∃ T, [45] ++ zs = T := ⟨_, rfl⟩
      have HL := Lib.hid (show 1 ≤ T.length by rw [← hT]; simp)
      have HE2 : Hid (T = 45 :: ddig N) := Lib.hid (by rw [← hT, HE.out]; rfl)
      have HT := Lib.hid hT
      clear e4 e5 e6 hT
      rw [zq]
      go_wp2_with (at_builtin; refine wpList_catU rfl _ _ rfl w.heap.size _ [45] zs rfl OL.out g 0 cap rfl CS.out (by simp) (by omega) (B2.out.size) ?_; intro v' w' hO' hB'; rw [HT.out] at hO'; obtain ⟨g2, cap2, rfl⟩ := hO'.openS HL.out; refine Hid.out ?_)
      refine Lib.hid ?_
      have B3 := Lib.hid (B2.out.trans hB')
      have hcv := run_convert_bytes_arg (P := Tryd.prog) w' 150 5 Tryd.underlying150 Tryd.underlying5 g2 0 T.length cap2 T rfl (fun i hi => by rw [Nat.zero_add]; exact hO'.cellAt i hi) 9 Tryd.underlying9
      clear hB' hO'
      go_wp2
      go_ret
      exact ⟨congrArg (fun x => Ending.returned (Value.string (strOfNums x))) HE2.out, B3.out⟩
    · skip
      have zl : ¬ ((zs.length : Int) = 0) := by
        intro e
        exact hz0 (List.length_eq_zero_iff.1 (by omega))
      have zb : ((zs.length : Int) == 0) = false := by simpa using zl
      have ub : ((-(u : Int)) == 0) = false := by simp; omega
      have ub2 : ((-(u : Int)) != 0) = true := by simp; omega
      clear zl
      by_cases hq1 : q = 0
      · subst hq1
        have e7 : (-(u : Int)).tmod 10 = 0 := e5
        clear e5
        have HS : Hid (DRel N (u / 10) (48 :: zs)) := Lib.hid (by simpa using ST.out (.inr hu0))
        have OL := Lib.hid (OwnU.lit1 wr w.heap.size (hb.out.size) 48)
        have B2 := Lib.hid (hb.out.alloc (hb.out.size) (.cells #[.int .u8 48] 5))
        have CS := Lib.hid (fun i hi => DSl.cell HO.out (.cells #[.int .u8 48] 5) i hi)
        clear hd ST
        go_wp2_with (at_builtin; refine wpList_catU rfl _ _ rfl w.heap.size _ [48] zs rfl OL.out g 0 cap rfl CS.out (by simp) (by omega) (B2.out.size) ?_; intro v' w' hO' hB'; obtain ⟨g2, cap2, rfl⟩ := hO'.openS (by simp))
        have B3 := Lib.hid (B2.out.trans hB')
        have O3 := Lib.hid hO'
        clear hO' hB'
        go_wp2
        refine ⟨⟨u / 10, _, hq.out, by rw [e4], HS, Lib.hid ⟨⟨_, _, rfl⟩, O3.out⟩, B3⟩, ?_⟩
        have := hm.out
        rw [e4]
        simp [intOf]
        omega
      · skip
        have e3 : decide (-q < 0) = true := by simp; omega
        have e1 : IntKind.i64.wrap (48 + q) = 48 + q := by unfold IntKind.wrap; simp [IntKind.bits, IntKind.signed]; omega
        have e2 : IntKind.u8.wrap (48 + q) = 48 + q := by unfold IntKind.wrap; simp [IntKind.bits, IntKind.signed]; omega
        have e8 : IntKind.i64.wrap q = q := by unfold IntKind.wrap; simp [IntKind.bits, IntKind.signed]; omega
        have HS : Hid (DRel N (u / 10) ((48 + q) :: zs)) := Lib.hid (ST.out (.inr hu0))
        have OL := Lib.hid (OwnU.lit1 wr w.heap.size (hb.out.size) (48 + q))
        have B2 := Lib.hid (hb.out.alloc (hb.out.size) (.cells #[.int .u8 (48 + q)] 5))
        have CS := Lib.hid (fun i hi => DSl.cell HO.out (.cells #[.int .u8 (48 + q)] 5) i hi)
        clear hd ST
        go_wp2_with (at_builtin; refine wpList_catU rfl _ _ rfl w.heap.size _ [(48 + q)] zs rfl OL.out g 0 cap rfl CS.out (by simp) (by omega) (B2.out.size) ?_; intro v' w' hO' hB'; obtain ⟨g2, cap2, rfl⟩ := hO'.openS (by simp))
        have B3 := Lib.hid (B2.out.trans hB')
        have O3 := Lib.hid hO'
        clear hO' hB'
        go_wp2
        refine ⟨⟨u / 10, _, hq.out, by rw [e4], HS, Lib.hid ⟨⟨_, _, rfl⟩, O3.out⟩, B3⟩, ?_⟩
        have := hm.out
        rw [e4]
        simp [intOf]
        omega
end Go.Proofs.YtbgldggaiefhoaaDoor

/- Numbers in decimal: both sides make the same text. -/
namespace Go.Proofs.YtbgldggaiefhoaaDoor
open Go.RowKit
set_option linter.unusedVariables false

theorem decZ_itoa (n : Int) : decZ n = ⟨(Lib.itoa n).toArray⟩ := by
  unfold decZ
  rw [decN_itoa]
  unfold strOfNums nu
  rw [List.map_map]
  have : ((fun n : Int => UInt8.ofNat n.toNat) ∘ fun b : UInt8 => (b.toNat : Int)) = id := by funext b; simp
  rw [this]; simp
theorem specDec_any (n : Int) (w : World) (h0 : -9223372036854775808 ≤ n) (h1 : n ≤ 9223372036854775807) : Calls Tryd.prog 101 #[.int .i64 n] w fun e w' => e = .returned (.string (decZ n)) ∧ Below w.heap.size w w' := by
  unfold decZ decN
  by_cases h : n < 0
  · rw [if_pos h]
    have := specDecM_any n.natAbs w (by omega) (by omega)
    rwa [show -((n.natAbs : Nat) : Int) = n by omega] at this
  · rw [if_neg h]
    have := specDecP_any n.natAbs w (by omega)
    rwa [show ((n.natAbs : Nat) : Int) = n by omega] at this
theorem below_grow {w : World} (k : Nat) (os : Array Obj) : Below w.heap.size w (Sort.grow (w.drewN k) os) := by
  refine ⟨rfl, rfl, rfl, ?_, fun b hb => ?_⟩
  · show w.heap.size ≤ (w.heap ++ os).size
    simp
  · show (w.heap ++ os)[b]? = w.heap[b]?
    rw [Array.getElem?_append_left hb]
theorem implDec_any (n : Int) (w : World) (h0 : -9223372036854775808 ≤ n) (h1 : n ≤ 9223372036854775807) (ht : Tabs w) : Calls Tryd.prog 61 #[.int .i64 n] w fun e w' => e = .returned (.string (decZ n)) ∧ Below w.heap.size w w' := by
  have HC := Lib.hid (Tryd.strconv_FormatInt_10 n h0 h1 w ht.p10)
  have HZ := Lib.hid (decZ_itoa n)
  clear h0 h1 ht
  go_enter Tryd.func61, Tryd.ntmps61
  go_wp2_with fail
  refine HC.out.mono ?_
  rw [← HZ.out]
  rintro e w1 ⟨rfl, k, os, hw⟩
  have B := Lib.hid (show Below w.heap.size w w1 by rw [hw]; exact below_grow k os)
  clear hw
  go_wp2
  go_ret
  exact ⟨rfl, B.out⟩
end Go.Proofs.YtbgldggaiefhoaaDoor

/- A slice of integers, as a list; and one that a call makes itself, and appends to. -/
namespace Go.Proofs.YtbgldggaiefhoaaDoor
open Go.RowKit
set_option linter.unusedVariables false

/-- the value v reads as the list zs of numbers: empty, or a row of cells -/
def JRow (w : World) (v : Value) (zs : List Int) : Prop :=
  ((∃ a c, v = .slice a 0 c) ∧ zs = []) ∨
  ∃ b off cap, v = .slice (some ⟨b, off, none⟩) zs.length cap ∧ zs.length ≤ maxLen ∧ ∀ i, i < zs.length → w.cell? ⟨b, off + i, none⟩ = some (.int .i64 (zs.getD i 0))

theorem JRow.below {w w' : World} {v : Value} {zs : List Int} (h : JRow w v zs) (hb : Below w.heap.size w w') : JRow w' v zs := by
  rcases h with h | ⟨b, off, cap, e, hm, hc⟩
  · exact .inl h
  · refine .inr ⟨b, off, cap, e, hm, fun i hi => ?_⟩
    have := hc i hi
    rw [hb.cell (p := ⟨b, off + i, none⟩) (cell_lt this)]
    exact this

theorem JRow.drewN {w : World} {v : Value} {zs : List Int} {n : Nat} (h : JRow w v zs) : JRow (w.drewN n) v zs := h


/-- how long a slice is -/
theorem JRow.shape {w : World} {v : Value} {zs : List Int} (h : JRow w v zs) : ∃ a cap, v = .slice a zs.length cap := by
  rcases h with ⟨h, rfl⟩ | ⟨b, off, cap, rfl, _⟩
  · exact h
  · exact ⟨_, _, rfl⟩

abbrev slj (p : Nat) (zs : List Int) : Value := .slice (some ⟨p, 0, none⟩) zs.length zs.length
def flj (zs : List Int) : List Value := zs.map (.int .i64)
theorem JRow.of_cells {w : World} {p : Nat} {zs : List Int} (h : Cells w p (flj zs)) (hm : zs.length ≤ maxLen) : JRow w (slj p zs) zs :=
  .inr ⟨p, 0, _, rfl, hm, fun i hi => by rw [Nat.zero_add]; exact h.1 i _ (by simp [flj, hi, List.getD_eq_getElem?_getD])⟩

theorem JRow.cells {w : World} {v : Value} {zs : List Int} (h : JRow w v zs) (hn : 1 ≤ zs.length) : ∃ b off cap, v = .slice (some ⟨b, off, none⟩) zs.length cap ∧ ∀ i, i < zs.length → w.cell? ⟨b, off + i, none⟩ = some (.int .i64 (zs.getD i 0)) := by
  rcases h with ⟨_, rfl⟩ | ⟨b, off, cap, e, hm, hc⟩
  · simp at hn
  · exact ⟨b, off, cap, e, hc⟩

theorem JRow.len {w : World} {v : Value} {zs : List Int} (h : JRow w v zs) : zs.length ≤ 9223372036854775807 := by
  rcases h with ⟨_, rfl⟩ | ⟨_, _, _, _, hm, _⟩
  · simp
  · exact hm

theorem Tryd.rowOfJ : (Tryd.prog.info? 2).map (fun i => (i.zero, i.size, i.bytes)) = some (some (.int .i64 0), 1, 8) := by kernel_rfl
theorem infoJ : ∃ i, Tryd.prog.info? 2 = some i ∧ i.zero = some (.int .i64 0) ∧ i.size = 1 ∧ i.bytes = 8 := by
  have h := Tryd.rowOfJ
  cases e : Tryd.prog.info? 2 with
  | none => rw [e] at h; simp at h
  | some i =>
    rw [e] at h
    simp only [Option.map_some, Option.some.injEq, Prod.mk.injEq] at h
    exact ⟨i, rfl, h.1, h.2.1, h.2.2⟩

/-- a slice of the call's own reads as zs -/
def OwnJ (w : World) (base : Nat) (v : Value) (zs : List Int) : Prop := w.ownsRow base 2 1 v zs.length (flj zs)
theorem OwnJ.drewN {w : World} {base : Nat} {v : Value} {zs : List Int} (h : OwnJ w base v zs) (n : Nat) : OwnJ (w.drewN n) base v zs := h
theorem OwnJ.al {w : World} {base : Nat} {v : Value} {zs : List Int} (h : OwnJ w base v zs) (o : Obj) : OwnJ (w.alloc o) base v zs := World.ownsRow.alloc h o
theorem OwnJ.kept {w w' : World} {base : Nat} {v : Value} {zs : List Int} (h : OwnJ w base v zs) (hb : Below w.heap.size w w') : OwnJ w' base v zs := by
  obtain ⟨h1, h2⟩ := h
  refine ⟨h1, ?_⟩
  rcases h2 with h2 | ⟨g, cap, cur, e, hg, hc, h3⟩
  · exact .inl h2
  · refine .inr ⟨g, cap, cur, e, hg, ?_, h3⟩
    have hlt : g < w.heap.size := by
      by_cases hx : g < w.heap.size
      · exact hx
      · rw [Array.getElem?_eq_none (by simpa using hx)] at hc
        cases hc
    rw [hb.block g hlt]
    exact hc
theorem OwnJ.down {w : World} {base b' : Nat} {v : Value} {zs : List Int} (h : OwnJ w base v zs) (hb : b' ≤ base) : OwnJ w b' v zs := by
  obtain ⟨h1, h2⟩ := h
  refine ⟨h1, ?_⟩
  rcases h2 with h2 | ⟨g, cap, cur, e, hg, hc, h3⟩
  · exact .inl h2
  · exact .inr ⟨g, cap, cur, e, Nat.le_trans hb hg, hc, h3⟩
theorem OwnJ.row {w : World} {base : Nat} {v : Value} {zs : List Int} (h : OwnJ w base v zs) (hm : zs.length ≤ 1048576) : JRow w v zs := by
  have h0 := h
  obtain ⟨h1, h2⟩ := h
  have hx : maxLen = 9223372036854775807 := rfl
  rcases h2 with ⟨rfl, hn⟩ | ⟨g, cap, cur, e, hg, hc, h3⟩
  · have : zs = [] := List.length_eq_zero_iff.1 hn
    subst this
    exact .inl ⟨⟨_, _, rfl⟩, rfl⟩
  · refine .inr ⟨g, 0, cap, e, by omega, fun i hi => ?_⟩
    subst e
    rw [Nat.zero_add, World.ownsRow.cellAt h0 i (by omega)]
    simp [flj, hi, List.getD_eq_getElem?_getD]
theorem OwnJ.empty (w : World) (base : Nat) (hb : base ≤ w.heap.size) : OwnJ (w.alloc (.cells #[] 2)) base (.slice (some ⟨w.heap.size, 0, none⟩) 0 0) [] :=
  World.ownsRow_lit (w := w) (base := base) (e := 2) (size := 1) #[] 0 hb (by decide) rfl

theorem wpList_appJ {ops : Array Oper} {rest : List Oper} {o : Oper} {a : Act} {Q : Exit → Act → World → Prop} {w : World} (hgd : o.guard = none) (s x : Operand)
    (ho : o.op = .call { callee := .builtin .append, args := #[s, x], argTypes := #[49, 49] })
    (base : Nat) (v : Value) (zs : List Int) (hs : a.eval s = v) (hown : OwnJ w base v zs) (q c : Nat) (z : Int) (hx : a.eval x = .slice (some ⟨q, 0, none⟩) 1 c) (hq : w.cell? ⟨q, 0, none⟩ = some (.int .i64 z))
    (hk : zs.length ≤ 1048576) (hbase : base ≤ w.heap.size)
    (h : ∀ v' w', OwnJ w' base v' (zs ++ [z]) → Below base w w' → wpList Tryd.prog ops Q rest (a.put o.dst v') w') : wpList Tryd.prog ops Q (o :: rest) a w := by
  obtain ⟨i, hi, hz, hsz, hby⟩ := infoJ
  have hm : maxLen = 9223372036854775807 := rfl
  refine wpList_append_own w hgd s x _ ho base 2 i (.int .i64 0) 1 8 Tryd.underlying49 hi hz hsz hby rfl (by decide) v zs.length (flj zs) hs hown ⟨q, 0, none⟩ 1 c [.int .i64 z] hx rfl (fun j u hj => ?_) (fun u hu => ?_) (by omega) (by omega) hbase (fun v' w' h1 h2 _ => ?_)
  · cases j with
    | zero => simp at hj; subst hj; simpa [Addr.add] using hq
    | succ j => simp at hj
  · simp at hu; subst hu; rfl
  · refine h v' w' ?_ ((Below.refl base w).grown h2 hbase (fun k hk => (World.ownsRow.lt hown k hk).1))
    unfold OwnJ
    simpa [flj] using h1
end Go.Proofs.YtbgldggaiefhoaaDoor

/- Whether an integer lies between two others. -/
namespace Go.Proofs.YtbgldggaiefhoaaDoor
open Go.RowKit

/-- is a number from one to another -/
theorem in_any (x lo hi : Int) (w : World) : Calls Tryd.prog 83 #[.int .i64 x, .int .i64 lo, .int .i64 hi] w fun e w' => e = .returned (.bool (decide (lo ≤ x) && decide (x ≤ hi))) ∧ w = w' := by
  by_cases h : lo ≤ x
  · go_enter Tryd.func83, Tryd.ntmps83
    go_wp2
    go_ret
    exact ⟨by simp [h], rfl⟩
  · go_enter Tryd.func83, Tryd.ntmps83
    go_wp2
    go_ret
    exact ⟨by simp; intro; omega, rfl⟩
end Go.Proofs.YtbgldggaiefhoaaDoor

/- The text of a list of integers: both sides. -/
namespace Go.Proofs.YtbgldggaiefhoaaDoor
open Go.RowKit
set_option linter.unusedVariables false

/-- the text of integers -/
def lTx (zs : List Int) : ByteArray := bif zs.isEmpty then ⟨#[110, 111, 110, 101]⟩ else jn 44 (zs.map decZ)
def inV (n : Int) : Bool := decide (-1000000000000000 ≤ n) && decide (n ≤ 1000000000000000)
theorem inV_iff {n : Int} : inV n = true ↔ -1000000000000000 ≤ n ∧ n ≤ 1000000000000000 := by unfold inV; simp
theorem decZ_size (k : Int) (h0 : -9223372036854775808 ≤ k) (h1 : k ≤ 9223372036854775807) : (decZ k).size ≤ 21 := by
  unfold decZ
  rw [strOfNums_size]
  unfold decN
  have := ddig_len 19 k.natAbs (by omega)
  split
  · simp only [List.length_cons]; omega
  · omega
theorem decs_le (zs : List Int) (h : ∀ z ∈ zs, -9223372036854775808 ≤ z ∧ z ≤ 9223372036854775807) : ∀ x ∈ zs.map decZ, x.size ≤ 21 := by
  intro x hx
  obtain ⟨z, hz, rfl⟩ := List.mem_map.1 hx
  exact decZ_size z (h z hz).1 (h z hz).2
theorem getD_someI {zs : List Int} {k : Nat} (h : k < zs.length) : zs[k]? = some (zs.getD k 0) := by
  simp [List.getD_eq_getElem?_getD, h]
theorem implVT_yes (n : Int) (w : World) (h : inV n = true) (ht : Tabs w) : Calls Tryd.prog 131 #[.int .i64 n] w fun e w' => e = .returned (.tuple #[.string (decZ n), .bool true]) ∧ Below w.heap.size w w' := by
  obtain ⟨h1, h2⟩ := inV_iff.1 h
  have HD := Lib.hid (implDec_any n w (by omega) (by omega) ht)
  have d1 : decide (-1000000000000000 ≤ n) = true := by simpa using h1
  have d2 : decide (n ≤ 1000000000000000) = true := by simpa using h2
  clear h ht
  go_enter Tryd.func131, Tryd.ntmps131
  go_wp2_with (first | (go_at_call 61; refine HD.out.mono ?_; rintro e w1 ⟨rfl, hb⟩; have B := Lib.hid hb; clear hb) | go_in)
  go_ret2
  exact ⟨rfl, B.out⟩
theorem implVT_no (n : Int) (w : World) (h : inV n = false) : Calls Tryd.prog 131 #[.int .i64 n] w fun e w' => e = .returned (.tuple #[.string ⟨#[]⟩, .bool false]) ∧ Below w.heap.size w w' := by
  by_cases h1 : -1000000000000000 ≤ n
  · have h2 : ¬ n ≤ 1000000000000000 := fun h2 => by rw [inV_iff.2 ⟨h1, h2⟩] at h; cases h
    have d2 : decide (n ≤ 1000000000000000) = false := by simpa using h2
    clear h
    go_enter Tryd.func131, Tryd.ntmps131
    go_wp2
    go_ret2
    exact ⟨rfl, Below.refl _ _⟩
  · have d1 : decide (-1000000000000000 ≤ n) = false := by simpa using h1
    clear h
    go_enter Tryd.func131, Tryd.ntmps131
    go_wp2
    go_ret2
    exact ⟨rfl, Below.refl _ _⟩

set_option maxHeartbeats 1600000 in
set_option maxRecDepth 20000 in
theorem specLTx_any (v : Value) (zs : List Int) (w : World) (h : JRow w v zs) (hw : ∀ i, i < zs.length → -9223372036854775808 ≤ zs.getD i 0 ∧ zs.getD i 0 ≤ 9223372036854775807) (hl : zs.length ≤ 64) : Calls Tryd.prog 123 #[v] w fun e w' => e = .returned (.string (lTx zs)) ∧ Below w.heap.size w w' := by
  by_cases h0 : zs = []
  · subst h0
    obtain ⟨a, cap, rfl⟩ := h.shape
    go_enter Tryd.func123, Tryd.ntmps123
    go_wp2
    go_ret
    exact ⟨rfl, Below.refl _ _⟩
  · have hn : 1 ≤ zs.length := by
      cases zs with
      | nil => exact absurd rfl h0
      | cons x r => simp
    have EN : lTx zs = jn 44 (zs.map decZ) := by
      unfold lTx
      cases zs with
      | nil => exact absurd rfl h0
      | cons x r => rfl
    rw [EN]
    have HH := Lib.hid (fun k (hk : k < zs.length) (w1 : World) => specDec_any (zs.getD k 0) w1 (hw k hk).1 (hw k hk).2)
    have HST := Lib.hid (fun k (hk : k < zs.length) => take_map_snoc decZ zs k _ (getD_someI hk))
    have HSZ := Lib.hid (fun k => jn_size 44 21 ((zs.take k).map decZ) (decs_le _ (fun z hz => by obtain ⟨j, hj, rfl⟩ := List.getElem_of_mem (List.mem_of_mem_take hz); have := hw j hj; rwa [List.getD_eq_getElem?_getD, List.getElem?_eq_getElem hj] at this)))
    have HZ := Lib.hid (fun k (hk : k < zs.length) => decZ_size (zs.getD k 0) (hw k hk).1 (hw k hk).2)
    obtain ⟨b, off, cap, rfl, hc⟩ := h.cells hn
    have HC := Lib.hid (fun (w1 : World) (hb : Below w.heap.size w w1) k (hk : k < zs.length) => (hb.cell (p := ⟨b, off + k, none⟩) (cell_lt (hc k hk))).trans (hc k hk))
    have HE : Hid ((zs.take zs.length).map decZ = zs.map decZ) := Lib.hid (by rw [List.take_length])
    have HN0 : Hid (∀ k, 1 ≤ k → k ≤ zs.length → (zs.take k).map decZ ≠ []) := Lib.hid (by
      intro k h1 h2 e
      have := congrArg List.length e
      rw [List.length_map, List.length_take, List.length_nil] at this; omega)
    clear hw h EN h0 hc
    generalize hlen : zs.length = n at *
    have HL := Lib.hid hlen
    clear hlen
    have c0 := (HC.out w (Below.refl _ _) 0 (by omega))
    rw [Nat.add_zero] at c0
    go_enter Tryd.func123, Tryd.ntmps123
    go_wp2_with fail
    refine (HH.out 0 (by omega) w).mono ?_
    rintro e w1 ⟨rfl, hb⟩
    have B1 := Lib.hid hb
    clear hb c0
    go_wp2
    go_loopw [3, 4] (fun v i wr => ∃ k : Nat, 1 ≤ k ∧ k ≤ n ∧ i = .int .i64 k ∧ v = .string (jn 44 ((zs.take k).map decZ)) ∧ Hid (Below w.heap.size w wr)) (fun _ i _ => n - (intOf i).toNat)
    case atStart =>
      refine ⟨1, by omega, hn, rfl, ?_, B1⟩
      have := HST.out 0 (by omega)
      rw [this]
      simp [jn_one]
    case round =>
      obtain ⟨k, h1, hk, rfl, rfl, hb⟩ := hrel
      by_cases hlt : k < n
      · have c0 := HC.out _ hb.out k hlt
        have HS : Hid (jn 44 ((zs.take (k + 1)).map decZ) = jn 44 ((zs.take k).map decZ) ++ ((⟨#[44]⟩ : ByteArray) ++ decZ (zs.getD k 0))) := Lib.hid (by rw [HST.out k hlt, jn_snoc _ _ _ (HN0.out k h1 hk)])
        have hz := HSZ.out k
        have hz2 := HZ.out k hlt
        rw [List.length_map, List.length_take] at hz
        have HA := Lib.hid (HH.out k hlt wr)
        generalize jn 44 ((zs.take k).map decZ) = t at *
        generalize decZ (zs.getD k 0) = y at *
        have n1 : ¬ (9223372036854775807 < t.size + (1 + y.size)) := by omega
        have n2 : ¬ (9223372036854775807 < 1 + y.size) := by omega
        clear hz hz2
        go_wp2_with fail
        refine HA.out.mono ?_
        rintro e w2 ⟨rfl, hb2⟩
        have B2 := Lib.hid (below_step hb.out hb2)
        clear hb2 c0
        go_wp2
        refine ⟨⟨k + 1, by omega, by omega, by go_num, by rw [HS.out], B2⟩, by simp [intOf]; omega⟩
      · have e : k = n := by omega
        subst e
        rw [HE.out]
        go_wp2
        go_ret
        exact ⟨rfl, hb.out⟩

set_option maxHeartbeats 1600000 in
set_option maxRecDepth 20000 in
theorem joinDec_any (v : Value) (zs : List Int) (w : World) (h : JRow w v zs) (hw : ∀ i, i < zs.length → -9223372036854775808 ≤ zs.getD i 0 ∧ zs.getD i 0 ≤ 9223372036854775807) (hl : zs.length ≤ 64) (hv : ∀ i, i < zs.length → inV (zs.getD i 0) = true) (ht : Tabs w) : Calls Tryd.prog 130 #[v, .int .i64 64, .func (.func 131) #[] #[]] w fun e w' => e = .returned (.tuple #[.string (lTx zs), .bool true]) ∧ Below w.heap.size w w' := by
  by_cases h0 : zs = []
  · subst h0
    obtain ⟨a, cap, rfl⟩ := h.shape
    go_enter Tryd.func130, Tryd.ntmps130
    go_wp2
    go_ret2
    exact ⟨rfl, Below.refl _ _⟩
  · have hn : 1 ≤ zs.length := by
      cases zs with
      | nil => exact absurd rfl h0
      | cons x r => simp
    have EN : lTx zs = jn 44 (zs.map decZ) := by
      unfold lTx
      cases zs with
      | nil => exact absurd rfl h0
      | cons x r => rfl
    rw [EN]
    have HT := Lib.hid ht
    have HH := Lib.hid (fun k (hk : k < zs.length) (w1 : World) (hT : Tabs w1) => implVT_yes (zs.getD k 0) w1 (hv k hk) hT)
    have hmk := run_make_row' (P := Tryd.prog) 108 9 (.string ⟨#[]⟩) 16 Tryd.underlying108 Tryd.rowOfZ rfl .i64 .i64 zs.length (by omega) (by omega)
    have HJ := Lib.hid (fun (w1 : World) (bk : Nat) (hcells : ∀ (j : Nat) x, (zs.map decZ)[j]? = some x → w1.cell? ⟨bk, 0 + j, none⟩ = some (.string x)) (hbk : bk < w1.heap.size) =>
      show Calls Tryd.prog 79 #[.slice (some ⟨bk, 0, none⟩) (zs.map decZ).length zs.length, .string ⟨#[44]⟩] w1 (fun e w' => e = .returned (.string (jn 44 (zs.map decZ))) ∧ Below w1.heap.size w1 w') from Tryd.strings_Join bk 0 zs.length (zs.map decZ) ⟨#[44]⟩ w1 hcells hbk (by rw [List.length_map]; omega) (by rw [List.length_map]; exact Nat.le_refl _) (by
        have := jn_len 44 21 (zs.map decZ) (decs_le _ (fun z hz => by obtain ⟨j, hj, rfl⟩ := List.getElem_of_mem hz; have := hw j hj; rwa [List.getD_eq_getElem?_getD, List.getElem?_eq_getElem hj] at this))
        rw [List.length_map] at this
        show (Lib.join _ [44]).length ≤ _
        omega))
    have HG := Lib.hid (fun j (hj : j < zs.length) => show (zs.map decZ)[j]? = some (decZ (zs.getD j 0)) by rw [List.getElem?_map, getD_someI hj]; rfl)
    obtain ⟨b, off, cap, rfl, hc⟩ := h.cells hn
    have HC := Lib.hid (fun (w1 : World) (hb : Below w.heap.size w w1) k (hk : k < zs.length) => (hb.cell (p := ⟨b, off + k, none⟩) (cell_lt (hc k hk))).trans (hc k hk))
    have HLm : Hid ((zs.map decZ).length = zs.length) := Lib.hid (List.length_map _)
    clear hw hv h EN h0 hc ht
    generalize jn 44 (zs.map decZ) = T at *
    generalize hlen : zs.length = n at *
    have HL := Lib.hid hlen
    clear hlen
    have hd : decide ((64 : Int) < (n : Int)) = false := by simp; omega
    have hz0 : ((n : Int) == 0) = false := by simp; omega
    go_enter Tryd.func130, Tryd.ntmps130
    have R0 := Lib.hid ((World.rowIs_made w (.string ⟨#[]⟩) n 9).congr (g := fun j => .string (if j < 0 then decZ (zs.getD j 0) else ⟨#[]⟩)) (fun j _ => by simp))
    go_wp2
    go_loopw [25] (fun i wr => ∃ k : Nat, k ≤ n ∧ i = .int .i64 k ∧ Hid (Below w.heap.size w wr) ∧ Hid (wr.rowIs w.heap.size 9 n (fun j => .string (if j < k then decZ (zs.getD j 0) else ⟨#[]⟩)))) (fun i _ => n - (intOf i).toNat)
    case atStart => exact ⟨0, by omega, rfl, Lib.hid (below_al1 w _), R0⟩
    case round =>
      obtain ⟨k, hk, rfl, hb, hr⟩ := hrel
      by_cases hlt : k < n
      · have c0 := HC.out _ hb.out k hlt
        have HA := Lib.hid (HH.out k hlt wr (HT.out.below hb.out))
        go_wp2_with fail
        refine HA.out.mono ?_
        rintro e w2 ⟨rfl, hb2⟩
        have B2 := Lib.hid (below_step hb.out hb2)
        have R2 := Lib.hid (hr.out.of_block (hb2.block _ hr.out.lt))
        clear hb2 c0
        have C1 := R2.out.cell hlt
        have F1 := R2.out.frozen k
        have R3 := Lib.hid (R2.out.set k (.string (decZ (zs.getD k 0))))
        have B3 := Lib.hid (B2.out.setCell (p := ⟨w.heap.size, k, none⟩) (Nat.le_refl _) (.string (decZ (zs.getD k 0))))
        have HX := Lib.hid (fun j => show (if j = k then (.string (decZ (zs.getD k 0)) : Value) else .string (if j < k then decZ (zs.getD j 0) else ⟨#[]⟩)) = .string (if j < k + 1 then decZ (zs.getD j 0) else ⟨#[]⟩) by
          by_cases e : j = k
          · subst e; rw [if_pos rfl, if_pos (by omega)]
          · rw [if_neg e]
            by_cases e2 : j < k
            · rw [if_pos e2, if_pos (by omega)]
            · rw [if_neg e2, if_neg (by omega)])
        rw [if_neg (Nat.lt_irrefl k)] at C1
        generalize decZ (zs.getD k 0) = y at *
        go_wp2
        go_roundw
        case rel => exact ⟨k + 1, by omega, by go_num, B3, Lib.hid (R3.out.congr (fun j _ => HX.out j))⟩
        case measure => simp [intOf]; omega
      · have e : k = n := by omega
        subst e
        have HA := HJ.out wr w.heap.size (fun j x hx => by
          have hj : j < k := by
            by_cases hj : j < k
            · exact hj
            · rw [List.getElem?_eq_none (by rw [HLm.out]; omega)] at hx; cases hx
          rw [HG.out j hj] at hx
          cases hx
          rw [Nat.zero_add, hr.out.cell hj, if_pos hj]) hr.out.lt
        rw [HLm.out] at HA
        have HA := Lib.hid HA
        clear HJ
        go_wp2_with fail
        refine HA.out.mono ?_
        rintro e w2 ⟨rfl, hb2⟩
        have B2 := Lib.hid (below_step hb.out hb2)
        clear hb2
        go_wp2
        go_ret2
        exact ⟨rfl, B2.out⟩
end Go.Proofs.YtbgldggaiefhoaaDoor

/- A slice of integers, as a list: what it is, and such an argument opened. -/
namespace Go.Proofs.YtbgldggaiefhoaaDoor
open Go.RowKit

/-- the value v reads as the list zs of integers: empty, or a row of cells -/
def IRow (ik : IntKind) (w : World) (v : Value) (zs : List Int) : Prop :=
  ((∃ a c, v = .slice a 0 c) ∧ zs = []) ∨
  ∃ b off cap, v = .slice (some ⟨b, off, none⟩) zs.length cap ∧ zs.length ≤ maxLen ∧ ∀ i, i < zs.length → w.cell? ⟨b, off + i, none⟩ = some (.int ik (zs.getD i 0))

theorem IRow.below {ik : IntKind} {w w' : World} {v : Value} {zs : List Int} (h : IRow ik w v zs) (hb : Below w.heap.size w w') : IRow ik w' v zs := by
  rcases h with h | ⟨b, off, cap, e, hm, hc⟩
  · exact .inl h
  · refine .inr ⟨b, off, cap, e, hm, fun i hi => ?_⟩
    have := hc i hi
    rw [hb.cell (p := ⟨b, off + i, none⟩) (cell_lt this)]
    exact this
theorem IRow.drewN {ik : IntKind} {w : World} {v : Value} {zs : List Int} {n : Nat} (h : IRow ik w v zs) : IRow ik (w.drewN n) v zs := h
theorem IRow.shape {ik : IntKind} {w : World} {v : Value} {zs : List Int} (h : IRow ik w v zs) : ∃ a cap, v = .slice a zs.length cap := by
  rcases h with ⟨h, rfl⟩ | ⟨b, off, cap, rfl, _⟩
  · exact h
  · exact ⟨_, _, rfl⟩
theorem IRow.len {ik : IntKind} {w : World} {v : Value} {zs : List Int} (h : IRow ik w v zs) : zs.length ≤ 9223372036854775807 := by
  rcases h with ⟨_, rfl⟩ | ⟨_, _, _, _, hm, _⟩
  · simp
  · exact hm
theorem IRow.cells {ik : IntKind} {w : World} {v : Value} {zs : List Int} (h : IRow ik w v zs) (hn : 1 ≤ zs.length) : ∃ b off cap, v = .slice (some ⟨b, off, none⟩) zs.length cap ∧ ∀ i, i < zs.length → w.cell? ⟨b, off + i, none⟩ = some (.int ik (zs.getD i 0)) := by
  rcases h with ⟨_, rfl⟩ | ⟨b, off, cap, e, hm, hc⟩
  · simp at hn
  · exact ⟨b, off, cap, e, hc⟩

/-- an argument that is a slice of integers -/
theorem open_irow {H : Type} {enc : TypeId × Value → H} {P : Program} {w : World} {base : Nat} {spare : Nat → Bool} {held : Bool} {t e : TypeId} {k : IntKind} {a : Option Addr} {len cap : Nat} {d : DataW H} {ps : List MemPlace}
    (ht : P.underlying t = some (.slice e)) (he : P.underlying e = some (.int k)) (hc : P.cellsOf e = 1) (h : DataW.Trod enc P w base spare held t (.slice a len cap) d ps) :
    ∃ zs, IRow k w (.slice a len cap) zs ∧ ∀ i, i < zs.length → (Lit.int k (zs.getD i 0)).wf = true := by
  obtain ⟨fuel, hf⟩ := h
  rcases Deep.open_slice1 ht hc hf with ⟨hcs, _⟩ | ⟨x, l, c, m, n, V, D, Pl, hcs, _, hl, hm, hmm, _, hV⟩
  · simp [Value.cells] at hcs
    obtain ⟨rfl, rfl, rfl⟩ := hcs
    exact ⟨[], .inl ⟨⟨_, _, rfl⟩, rfl⟩, fun i hi => by simp at hi⟩
  · simp [Value.cells] at hcs
    obtain ⟨rfl, rfl, rfl⟩ := hcs
    have hlm : len ≤ m := by rw [hmm]; split <;> omega
    have hb : ∀ i, i < len → ∃ b, V i = .int k b ∧ (Lit.int k b).wf = true := by
      intro i hi
      have h2 := (hV i (by omega)).2
      cases n with
      | zero => simp [DataW.trod] at h2
      | succ n =>
        cases hv : V i <;> simp [DataW.trod, he, hv] at h2
        rename_i k' b
        obtain ⟨⟨rfl, hw⟩, _⟩ := h2
        exact ⟨b, rfl, hw⟩
    obtain ⟨B, hB⟩ := Deep.choose_lt hb
    refine ⟨(List.range len).map B, ?_, fun i hi => ?_⟩
    · by_cases h0 : len = 0
      · subst h0; exact .inl ⟨⟨_, _, rfl⟩, rfl⟩
      · obtain ⟨xb, xo, xs⟩ := x
        have hs : xs = none := by simpa [Addr.add] using World.cell?_spot (hV 0 (by omega)).1
        subst hs
        refine .inr ⟨xb, xo, cap, by simp, by simp; omega, fun i hi => ?_⟩
        have hi' : i < len := by simpa using hi
        have := (hV i (by omega)).1
        rw [(hB i hi').1] at this
        have ea : (⟨xb, xo, none⟩ : Addr).add i = ⟨xb, xo + i, none⟩ := by
          by_cases h : i = 0
          · subst h; simp [Addr.add]
          · simp [Addr.add, h]
        rw [ea] at this
        simpa [hi', List.getD_eq_getElem?_getD] using this
    · have hi' : i < len := by simpa using hi
      simpa [hi', List.getD_eq_getElem?_getD] using (hB i hi').2

/-- a byte that a list holds -/
def Bytes (zs : List Int) : Prop := ∀ i, i < zs.length → 0 ≤ zs.getD i 0 ∧ zs.getD i 0 ≤ 255
theorem bytes_of {zs : List Int} (h : ∀ i, i < zs.length → (Lit.int .u8 (zs.getD i 0)).wf = true) : Bytes zs := by
  intro i hi
  have := h i hi
  simp only [Lit.wf, Bool.and_eq_true, decide_eq_true_eq] at this
  have e1 : IntKind.min .u8 = 0 := by decide
  have e2 : IntKind.max .u8 = 255 := by decide
  rw [e1, e2] at this
  exact this
end Go.Proofs.YtbgldggaiefhoaaDoor

/- Lists of integers: copies in blocks of their own, and the laws' comparison. -/
namespace Go.Proofs.YtbgldggaiefhoaaDoor
open Go.RowKit
set_option linter.unusedVariables false

def partJ (zs : List Int) (k i : Nat) : Value := .int .i64 (if i < k then zs.getD i 0 else 0)
theorem row_of_partJ {wr : World} {b : Nat} {zs : List Int} (h : wr.rowIs b 2 zs.length (partJ zs zs.length)) (hm : zs.length ≤ maxLen) : JRow wr (.slice (some ⟨b, 0, none⟩) zs.length zs.length) zs := by
  refine .inr ⟨b, 0, _, rfl, hm, fun i hi => ?_⟩
  have := h.cell hi
  rw [Nat.zero_add, this]
  simp [partJ, hi]
def NewJ (zs : List Int) (w : World) (e : Ending) (w' : World) : Prop :=
  e = .returned (.slice (some ⟨w.heap.size, 0, none⟩) zs.length zs.length) ∧ JRow w' (.slice (some ⟨w.heap.size, 0, none⟩) zs.length zs.length) zs ∧ Below w.heap.size w w' ∧ Cells w' w.heap.size (zs.map (.int .i64))
theorem cells_of_partJ {wr : World} {b : Nat} {zs : List Int} (h : wr.rowIs b 2 zs.length (partJ zs zs.length)) (hb : b < wr.heap.size) : Cells wr b (zs.map (.int .i64)) := by
  refine ⟨fun i v hv => ?_, fun i => h.frozen i, hb⟩
  have hi : i < zs.length := by
    have := (List.getElem?_eq_some_iff.1 hv).1
    simpa using this
  rw [h.cell hi]
  simp [hi] at hv
  simp [partJ, hi, hv, List.getD_eq_getElem?_getD]

/-- a new row of integers -/
def NewJR (zs : List Int) (w : World) (e : Ending) (w' : World) : Prop := ∃ v, e = .returned v ∧ JRow w' v zs ∧ Below w.heap.size w w'
/-- two slices of integers that are the same -/
theorem eqJJ_any (v v' : Value) (zs : List Int) (w : World) (h : JRow w v zs) (h' : JRow w v' zs) : Calls Tryd.prog 29 #[v, v'] w (Yes w) := by
  have HC := Lib.hid (fun (hn : 1 ≤ zs.length) => h.cells hn)
  have HC' := Lib.hid (fun (hn : 1 ≤ zs.length) => h'.cells hn)
  have HL := Lib.hid h.len
  obtain ⟨a, cap, rfl⟩ := h.shape
  obtain ⟨a', cap', rfl⟩ := h'.shape
  clear h h'
  generalize zs.length = n at *
  go_enter Tryd.func29, Tryd.ntmps29
  go_wp2
  go_loopw [5] (fun i wr => ∃ k q : Nat, k ≤ n ∧ i = .int .i64 k ∧ wr = w.drewN q) (fun i _ => n - (intOf i).toNat)
  case atStart => exact ⟨0, 0, Nat.zero_le _, rfl, rfl⟩
  case round =>
    obtain ⟨k, q, hk, rfl, rfl⟩ := hrel
    have hG := HL.out
    by_cases hlt : k < n
    · obtain ⟨b0, o0, c0, e, hc⟩ := HC.out (by omega)
      obtain ⟨b1, o1, c1, e', hc'⟩ := HC'.out (by omega)
      have ea : a = some ⟨b0, o0, none⟩ := by cases e; rfl
      have ea' : a' = some ⟨b1, o1, none⟩ := by cases e'; rfl
      have z0 := hc k hlt
      have z1 := hc' k hlt
      clear e hc e' hc' HC HC'
      subst ea
      subst ea'
      generalize zs.getD k 0 = y at *
      have hi : (0 : Int) ≤ (k : Int) := by omega
      have hi' : (k : Int) < (n : Int) := by omega
      go_wp2
      refine wp_region_loose (fun _ _ _ => True) (by kernel_rfl) (by kernel_rfl) ?_
      repeat (first | (refine wpLoose_farith rfl _ _ _ _ _ rfl rfl _ _ _ rfl rfl ?_; intro _ _) | (refine wpLoose_valK rfl ?_ (fun w1 hw1 => ?_) (fun K hK => ?_); rotate_left; (focus (obtain ⟨nq, rfl⟩ := hw1; go_simp; first | done | rfl)); go_simp; refine hK _ ?_; clear hK K))
      (refine wpLoose_nil ?_; rintro _ ⟨nq, rfl⟩)
      go_wp2
      go_roundw
      case rel => exact ⟨k + 1, _, by omega, by go_num, rfl⟩
      case measure => simp [intOf]; omega
    · go_wp2
      go_ret
      exact Yes.drewN
end Go.Proofs.YtbgldggaiefhoaaDoor

/- ListText: whether all numbers are values; both sides, and the law's walk. -/
namespace Go.Proofs.YtbgldggaiefhoaaDoor
open Go.RowKit
set_option linter.unusedVariables false

/-- a text, or none -/
def TyB (t : ByteArray) (ok : Bool) (w : World) (e : Ending) (w' : World) : Prop := e = .returned (.tuple #[.string (bif ok then t else ⟨#[]⟩), .bool ok]) ∧ Below w.heap.size w w'
def okL (zs : List Int) : Bool := zs.all inV && decide (zs.length ≤ 64)
theorem okL_bad {zs : List Int} {k : Nat} (hk : k < zs.length) (h : inV (zs.getD k 0) = false) : okL zs = false := by
  unfold okL
  have : zs.all inV = false := by
    rw [List.all_eq_false]
    refine ⟨zs.getD k 0, ?_, by rw [h]; decide⟩
    simp [List.getD_eq_getElem?_getD, hk]
  rw [this]; rfl
theorem okL_all {zs : List Int} (h : ∀ j, j < zs.length → inV (zs.getD j 0) = true) : okL zs = decide (zs.length ≤ 64) := by
  unfold okL
  have : zs.all inV = true := by
    rw [List.all_eq_true]
    intro x hx
    obtain ⟨j, hj, rfl⟩ := List.getElem_of_mem hx
    have := h j hj
    rwa [List.getD_eq_getElem?_getD, List.getElem?_eq_getElem hj] at this
  rw [this, Bool.true_and]
theorem okL_yes {zs : List Int} (h : okL zs = true) : (∀ j, j < zs.length → inV (zs.getD j 0) = true) ∧ zs.length ≤ 64 := by
  unfold okL at h
  rw [Bool.and_eq_true, List.all_eq_true] at h
  refine ⟨fun j hj => h.1 _ ?_, of_decide_eq_true h.2⟩
  simp [List.getD_eq_getElem?_getD, hj]

set_option maxRecDepth 20000 in
theorem joinOverI_any (v : Value) (zs : List Int) (w : World) (h : JRow w v zs) (hl : 64 < zs.length) : Calls Tryd.prog 130 #[v, .int .i64 64, .func (.func 131) #[] #[]] w fun e w' => e = .returned (.tuple #[.string ⟨#[]⟩, .bool false]) ∧ Below w.heap.size w w' := by
  obtain ⟨a, cap, rfl⟩ := h.shape
  have HL := h.len
  have hd : decide ((64 : Int) < (zs.length : Int)) = true := by simp; omega
  clear h
  go_enter Tryd.func130, Tryd.ntmps130
  go_wp2
  go_ret2
  exact ⟨rfl, Below.refl _ _⟩

/-- the first number that is no value -/
theorem first_bad (f : Int → Bool) : ∀ (zs : List Int), (∀ j, j < zs.length → f (zs.getD j 0) = true) ∨ ∃ b : Nat, b < zs.length ∧ f (zs.getD b 0) = false ∧ ∀ j : Nat, j < b → f (zs.getD j 0) = true
  | [] => .inl (fun j h => absurd h (Nat.not_lt_zero _))
  | a :: t => by
    cases e : f a
    · exact .inr ⟨0, by simp, by simpa using e, fun j h => absurd h (Nat.not_lt_zero _)⟩
    · rcases first_bad f t with h | ⟨b, hb, h1, h2⟩
      · refine .inl (fun j hj => ?_)
        cases j with
        | zero => simpa using e
        | succ j => simpa using h j (by simpa using hj)
      · refine .inr ⟨b + 1, by simpa using hb, by simpa using h1, fun j hj => ?_⟩
        cases j with
        | zero => simpa using e
        | succ j => simpa using h2 j (by omega)

set_option maxHeartbeats 1600000 in
set_option maxRecDepth 20000 in
theorem joinBad_any (v : Value) (zs : List Int) (w : World) (h : JRow w v zs) (hl : zs.length ≤ 64) (bd : Nat) (hbd : bd < zs.length) (hbad : inV (zs.getD bd 0) = false) (hgood : ∀ j, j < bd → inV (zs.getD j 0) = true) (ht : Tabs w) : Calls Tryd.prog 130 #[v, .int .i64 64, .func (.func 131) #[] #[]] w fun e w' => e = .returned (.tuple #[.string ⟨#[]⟩, .bool false]) ∧ Below w.heap.size w w' := by
  have hn : 1 ≤ zs.length := by omega
  have HT := Lib.hid ht
  have HY := Lib.hid (fun k (hk : k < bd) (w1 : World) (hT : Tabs w1) => implVT_yes (zs.getD k 0) w1 (hgood k hk) hT)
  have HN := Lib.hid (fun (w1 : World) => implVT_no (zs.getD bd 0) w1 hbad)
  have hmk := run_make_row' (P := Tryd.prog) 108 9 (.string ⟨#[]⟩) 16 Tryd.underlying108 Tryd.rowOfZ rfl .i64 .i64 zs.length (by omega) (by omega)
  obtain ⟨b, off, cap, rfl, hc⟩ := h.cells hn
  have HC := Lib.hid (fun (w1 : World) (hb : Below w.heap.size w w1) k (hk : k < zs.length) => (hb.cell (p := ⟨b, off + k, none⟩) (cell_lt (hc k hk))).trans (hc k hk))
  clear h hc ht hbad hgood
  generalize hlen : zs.length = n at *
  clear hlen
  have hd : decide ((64 : Int) < (n : Int)) = false := by simp; omega
  have hz0 : ((n : Int) == 0) = false := by simp; omega
  have R0 := Lib.hid ((World.rowIs_made w (.string ⟨#[]⟩) n 9).congr (g := fun j => .string (if j < 0 then decZ (zs.getD j 0) else ⟨#[]⟩)) (fun j _ => by simp))
  go_enter Tryd.func130, Tryd.ntmps130
  go_wp2
  go_loopw [25] (fun i wr => ∃ k : Nat, k ≤ bd ∧ i = .int .i64 k ∧ Hid (Below w.heap.size w wr) ∧ Hid (wr.rowIs w.heap.size 9 n (fun j => .string (if j < k then decZ (zs.getD j 0) else ⟨#[]⟩)))) (fun i _ => n - (intOf i).toNat)
  case atStart => exact ⟨0, by omega, rfl, Lib.hid (below_al1 w _), R0⟩
  case round =>
    obtain ⟨k, hk, rfl, hb, hr⟩ := hrel
    have c0 := HC.out _ hb.out k (by omega)
    have hkn : (k : Int) < n := by omega
    by_cases hlt : k < bd
    · have HA := Lib.hid (HY.out k hlt wr (HT.out.below hb.out))
      go_wp2_with fail
      refine HA.out.mono ?_
      rintro e w2 ⟨rfl, hb2⟩
      have B2 := Lib.hid (below_step hb.out hb2)
      have R2 := Lib.hid (hr.out.of_block (hb2.block _ hr.out.lt))
      clear hb2 c0
      have C1 := R2.out.cell (i := k) (by omega)
      have F1 := R2.out.frozen k
      have R3 := Lib.hid (R2.out.set k (.string (decZ (zs.getD k 0))))
      have B3 := Lib.hid (B2.out.setCell (p := ⟨w.heap.size, k, none⟩) (Nat.le_refl _) (.string (decZ (zs.getD k 0))))
      have HX := Lib.hid (fun j => show (if j = k then (.string (decZ (zs.getD k 0)) : Value) else .string (if j < k then decZ (zs.getD j 0) else ⟨#[]⟩)) = .string (if j < k + 1 then decZ (zs.getD j 0) else ⟨#[]⟩) by
        by_cases e : j = k
        · subst e; rw [if_pos rfl, if_pos (by omega)]
        · rw [if_neg e]
          by_cases e2 : j < k
          · rw [if_pos e2, if_pos (by omega)]
          · rw [if_neg e2, if_neg (by omega)])
      rw [if_neg (Nat.lt_irrefl k)] at C1
      generalize decZ (zs.getD k 0) = y at *
      go_wp2
      go_roundw
      case rel => exact ⟨k + 1, by omega, by go_num, B3, Lib.hid (R3.out.congr (fun j _ => HX.out j))⟩
      case measure => simp [intOf]; omega
    · have e : k = bd := by omega
      subst e
      have HA := Lib.hid (HN.out wr)
      go_wp2_with fail
      refine HA.out.mono ?_
      rintro e w2 ⟨rfl, hb2⟩
      have B2 := Lib.hid (below_step hb.out hb2)
      clear hb2 c0
      go_wp2
      go_ret2
      exact ⟨rfl, B2.out⟩

set_option maxRecDepth 20000 in
theorem implLT_any (v : Value) (zs : List Int) (w : World) (h : JRow w v zs) (hw : ∀ i, i < zs.length → -9223372036854775808 ≤ zs.getD i 0 ∧ zs.getD i 0 ≤ 9223372036854775807) (ht : Tabs w) : Calls Tryd.prog 92 #[v] w (TyB (lTx zs) (okL zs) w) := by
  have HJ : Hid (Calls Tryd.prog 130 #[v, .int .i64 64, .func (.func 131) #[] #[]] w (TyB (lTx zs) (okL zs) w)) := Lib.hid (by
    unfold TyB
    by_cases hl : zs.length ≤ 64
    · rcases first_bad inV zs with ha | ⟨bd, h1, h2, h3⟩
      · rw [okL_all ha, decide_eq_true hl]; exact joinDec_any v zs w h hw hl ha ht
      · rw [okL_bad h1 h2]; exact joinBad_any v zs w h hl bd h1 h2 h3 ht
    · have : okL zs = false := by
        unfold okL; rw [decide_eq_false hl, Bool.and_false]
      rw [this]; exact joinOverI_any v zs w h (by omega))
  clear h hw ht
  unfold TyB at *
  generalize (bif okL zs then lTx zs else (⟨#[]⟩ : ByteArray)) = T at *
  generalize okL zs = ok at *
  go_enter Tryd.func92, Tryd.ntmps92
  go_wp2_with fail
  refine HJ.out.mono ?_
  rintro e w1 ⟨rfl, hb⟩
  have B := Lib.hid hb
  clear hb
  go_wp2
  go_ret2
  exact ⟨rfl, B.out⟩

end Go.Proofs.YtbgldggaiefhoaaDoor

/- Arguments that are faces, opened: three 32-bit numbers. -/
namespace Go.Proofs.YtbgldggaiefhoaaDoor
open Go.RowKit Go.ChangeShapes Go.WideShapes Go.Joins Go.Deep

/-- a face's three numbers -/
structure FA where
  wd : Nat
  sh : Nat
  wm : Nat
def FA.wf (s : FA) : Prop := (Lit.float .f32 s.wd).wf = true ∧ (Lit.float .f32 s.sh).wf = true ∧ (Lit.float .f32 s.wm).wf = true
abbrev FA.vs (s : FA) : List Value := [.float .f32 s.wd, .float .f32 s.sh, .float .f32 s.wm]

section
variable {H : Type} {enc : TypeId × Value → H} {P : Program} {w : World} {base : Nat} {spare : Nat → Bool} {held : Bool}

theorem trF_f32 {t : TypeId} {n : Nat} {v : Value} {y : DataW H × List MemPlace} (he : P.underlying t = some (.float .f32)) (h : DataW.trod enc P w base spare held n t [v] = some y) :
    ∃ b, v = .float .f32 b ∧ (Lit.float .f32 b).wf = true := by
  cases n with
  | zero => simp [DataW.trod] at h
  | succ n =>
    cases v <;> simp [DataW.trod, he] at h
    rename_i k b
    obtain ⟨⟨rfl, hw⟩, _⟩ := h
    exact ⟨b, rfl, hw⟩

theorem tr_face {t : TypeId} {f0 f1 f2 : Field} {n : Nat} {cs : List Value} {y : DataW H × List MemPlace} (hs : P.underlying t = some (.struct #[f0, f1, f2])) (hone : oneCellFields P #[f0, f1, f2] = true) (hC : P.cellsOf t = 3)
    (e0 : P.underlying f0.type = some (.float .f32)) (e1 : P.underlying f1.type = some (.float .f32)) (e2 : P.underlying f2.type = some (.float .f32))
    (h : DataW.trod enc P w base spare held n t cs = some y) : ∃ s : FA, cs = s.vs ∧ s.wf := by
  obtain ⟨xs, m, _, _, hl, hx, hg⟩ := DataW.trod_struct hs h
  have hx' : xs.length = 3 := hx
  match cs, hl.trans hC, xs, hx' with
  | [c0, c1, c2], _, [y0, y1, y2], _ =>
    obtain ⟨o0, k0⟩ := hone_of hone 0 f0 rfl
    obtain ⟨o1, k1⟩ := hone_of hone 1 f1 rfl
    obtain ⟨o2, k2⟩ := hone_of hone 2 f2 rfl
    have g0 := hg 0 f0 rfl
    have g1 := hg 1 f1 rfl
    have g2 := hg 2 f2 rfl
    rw [o0, k0] at g0
    rw [o1, k1] at g1
    rw [o2, k2] at g2
    obtain ⟨b0, rfl, w0⟩ := trF_f32 e0 (show DataW.trod enc P w base spare held m f0.type [c0] = some y0 from g0)
    obtain ⟨b1, rfl, w1⟩ := trF_f32 e1 (show DataW.trod enc P w base spare held m f1.type [c1] = some y1 from g1)
    obtain ⟨b2, rfl, w2⟩ := trF_f32 e2 (show DataW.trod enc P w base spare held m f2.type [c2] = some y2 from g2)
    exact ⟨⟨b0, b1, b2⟩, rfl, w0, w1, w2⟩

theorem open_face {r : Reach} {b0 : Nat} {t : TypeId} {f0 f1 f2 : Field} {v : Value} {d : DataW H} {p : List MemPlace} (hs : P.underlying t = some (.struct #[f0, f1, f2])) (hone : oneCellFields P #[f0, f1, f2] = true) (hC : P.cellsOf t = 3)
    (e0 : P.underlying f0.type = some (.float .f32)) (e1 : P.underlying f1.type = some (.float .f32)) (e2 : P.underlying f2.type = some (.float .f32))
    (hv : Value.okWide P w r b0 t v) (h : DataW.Trod enc P w base spare held t v d p) : ∃ s : FA, v = .agg #[.float .f32 s.wd, .float .f32 s.sh, .float .f32 s.wm] ∧ s.wf := by
  obtain ⟨cs, rfl, hsz⟩ := okWide_struct hs hv
  obtain ⟨l⟩ := cs
  obtain ⟨fuel, hf⟩ := h
  obtain ⟨s, hcs, hw⟩ := tr_face hs hone hC e0 e1 e2 hf
  have : l = s.vs := by simpa [Value.cells] using hcs
  exact ⟨s, by rw [this], hw⟩
end
end Go.Proofs.YtbgldggaiefhoaaDoor

/- Slices of structs, as lists: their cells one behind the other. -/
namespace Go.Proofs.YtbgldggaiefhoaaDoor
open Go.RowKit Go.ChangeShapes Go.WideShapes Go.Joins Go.Deep
set_option linter.unusedVariables false

section
variable {α : Type} (vs : α → List Value)

/-- all cells of a list -/
def flS (zs : List α) : List Value := zs.flatMap vs
theorem flS_length {m : Nat} (hv : ∀ x, (vs x).length = m) : ∀ zs : List α, (flS vs zs).length = zs.length * m := by
  intro zs
  induction zs with
  | nil => simp [flS]
  | cons x xs ih =>
    unfold flS at ih ⊢
    rw [List.flatMap_cons, List.length_append, hv, ih, List.length_cons, Nat.succ_mul, Nat.add_comm]
theorem flS_at {m : Nat} (hv : ∀ x, (vs x).length = m) : ∀ {zs : List α} {i : Nat} {x : α}, zs[i]? = some x → ∀ {j : Nat} {u : Value}, (vs x)[j]? = some u → (flS vs zs)[i * m + j]? = some u := by
  intro zs
  induction zs with
  | nil => intro i x h; simp at h
  | cons y ys ih =>
    intro i x h j u hu
    unfold flS
    rw [List.flatMap_cons]
    cases i with
    | zero =>
      simp at h
      subst h
      have hj := (List.getElem?_eq_some_iff.1 hu).1
      rw [Nat.zero_mul, Nat.zero_add, List.getElem?_append_left hj]
      exact hu
    | succ i =>
      simp at h
      have hl := hv y
      rw [List.getElem?_append_right (by rw [hl, Nat.succ_mul]; omega), hl, show (i + 1) * m + j - m = i * m + j by rw [Nat.succ_mul]; omega]
      exact ih h hu
theorem flS_inv {m : Nat} (hv : ∀ x, (vs x).length = m) : ∀ {zs : List α} {k : Nat} {u : Value}, (flS vs zs)[k]? = some u → ∃ i j x, k = i * m + j ∧ zs[i]? = some x ∧ (vs x)[j]? = some u := by
  intro zs
  induction zs with
  | nil => intro k u h; simp [flS] at h
  | cons y ys ih =>
    intro k u h
    unfold flS at h
    rw [List.flatMap_cons] at h
    have hl := hv y
    by_cases hk : k < m
    · rw [List.getElem?_append_left (by omega)] at h
      exact ⟨0, k, y, by omega, by simp, h⟩
    · rw [List.getElem?_append_right (by omega), hl] at h
      obtain ⟨i, j, x, e, h1, h2⟩ := ih h
      exact ⟨i + 1, j, x, by rw [Nat.succ_mul]; omega, by simpa using h1, h2⟩

/-- the value v reads as the list zs of structs: empty, or a row of their cells -/
def SRow (w : World) (v : Value) (zs : List α) : Prop :=
  ((∃ a c, v = .slice a 0 c) ∧ zs = []) ∨
  ∃ b off cap, v = .slice (some ⟨b, off, none⟩) zs.length cap ∧ zs.length ≤ maxLen ∧ ∀ j u, (flS vs zs)[j]? = some u → w.cell? ⟨b, off + j, none⟩ = some u
variable {vs}
theorem SRow.below {w w' : World} {v : Value} {zs : List α} (h : SRow vs w v zs) (hb : Below w.heap.size w w') : SRow vs w' v zs := by
  rcases h with h | ⟨b, off, cap, e, hm, hc⟩
  · exact .inl h
  · refine .inr ⟨b, off, cap, e, hm, fun j u hu => ?_⟩
    have := hc j u hu
    rw [hb.cell (p := ⟨b, off + j, none⟩) (cell_lt this)]
    exact this
theorem SRow.drewN {w : World} {v : Value} {zs : List α} {n : Nat} (h : SRow vs w v zs) : SRow vs (w.drewN n) v zs := h
theorem SRow.shape {w : World} {v : Value} {zs : List α} (h : SRow vs w v zs) : ∃ a cap, v = .slice a zs.length cap := by
  rcases h with ⟨h, rfl⟩ | ⟨b, off, cap, rfl, _⟩
  · exact h
  · exact ⟨_, _, rfl⟩
theorem SRow.len {w : World} {v : Value} {zs : List α} (h : SRow vs w v zs) : zs.length ≤ 9223372036854775807 := by
  rcases h with ⟨_, rfl⟩ | ⟨_, _, _, _, hm, _⟩
  · simp
  · exact hm
/-- the cells of each struct -/
theorem SRow.cells {m : Nat} (hv : ∀ x, (vs x).length = m) {w : World} {v : Value} {zs : List α} (h : SRow vs w v zs) (hn : 1 ≤ zs.length) : ∃ b off cap, v = .slice (some ⟨b, off, none⟩) zs.length cap ∧ ∀ i x, zs[i]? = some x → ∀ j u, (vs x)[j]? = some u → w.cell? ⟨b, off + (i * m + j), none⟩ = some u := by
  rcases h with ⟨_, rfl⟩ | ⟨b, off, cap, e, hm, hc⟩
  · simp at hn
  · exact ⟨b, off, cap, e, fun i x hx j u hu => hc _ _ (flS_at vs hv hx hu)⟩
theorem SRow.of_cells {w : World} {p : Nat} {zs : List α} (h : Cells w p (flS vs zs)) (hm : zs.length ≤ maxLen) : SRow vs w (.slice (some ⟨p, 0, none⟩) zs.length zs.length) zs :=
  .inr ⟨p, 0, _, rfl, hm, fun j u hu => by rw [Nat.zero_add]; exact h.1 j _ hu⟩

/-- an argument that is a slice of structs -/
theorem open_srow [Inhabited α] {wf : α → Prop} {m : Nat} (hv : ∀ x, (vs x).length = m) (hm0 : 0 < m) {H : Type} {enc : TypeId × Value → H} {P : Program} {w : World} {base : Nat} {spare : Nat → Bool} {held : Bool} {t e : TypeId} {a : Option Addr} {len cap : Nat} {d : DataW H} {ps : List MemPlace}
    (ht : P.underlying t = some (.slice e)) (hc : P.cellsOf e = m) (tr : ∀ n cs y, DataW.trod enc P w base spare held n e cs = some y → ∃ s : α, cs = vs s ∧ wf s) (h : DataW.Trod enc P w base spare held t (.slice a len cap) d ps) :
    ∃ zs, SRow vs w (.slice a len cap) zs ∧ ∀ x ∈ zs, wf x := by
  obtain ⟨fuel, hf⟩ := h
  rcases open_slice ht hf with ⟨hcs, _⟩ | ⟨x, l, c, k, n, D, Pl, hcs, _, hl, hm, hmm, _, hV⟩
  · simp [Value.cells] at hcs
    obtain ⟨rfl, rfl, rfl⟩ := hcs
    exact ⟨[], .inl ⟨⟨_, _, rfl⟩, rfl⟩, fun i hi => by simp at hi⟩
  · simp [Value.cells] at hcs
    obtain ⟨rfl, rfl, rfl⟩ := hcs
    rw [hc] at hV
    have hlk : len ≤ k := by rw [hmm]; split <;> omega
    have hb : ∀ i, i < len → ∃ s : α, (∀ j u, (vs s)[j]? = some u → w.cell? (x.add (i * m + j)) = some u) ∧ wf s := by
      intro i hi
      obtain ⟨cs, h1, h2⟩ := hV i (by omega)
      obtain ⟨s, rfl, hw⟩ := tr _ _ _ h2
      obtain ⟨_, hn, hat⟩ := World.cells?_some h1
      refine ⟨s, fun j u hu => ?_, hw⟩
      have hj := (List.getElem?_eq_some_iff.1 hu).1
      rw [← Go.Deep.add_add, hat j (by omega), hu]
    obtain ⟨B, hB⟩ := choose_lt hb
    refine ⟨(List.range len).map B, ?_, fun y hy => ?_⟩
    · by_cases h0 : len = 0
      · subst h0; exact .inl ⟨⟨_, _, rfl⟩, rfl⟩
      · obtain ⟨xb, xo, xs⟩ := x
        have hs : xs = none := by
          have hz := (hB 0 (by omega)).1 0
          have hl0 := hv (B 0)
          have := hz _ (List.getElem?_eq_getElem (show 0 < (vs (B 0)).length by omega))
          simpa [Addr.add] using World.cell?_spot this
        subst hs
        refine .inr ⟨xb, xo, cap, by simp, by simp; omega, fun j u hu => ?_⟩
        obtain ⟨i, r, y, rfl, h1, h2⟩ := flS_inv vs hv hu
        have hi : i < len := by
          have := (List.getElem?_eq_some_iff.1 h1).1
          simpa using this
        have ey : y = B i := by
          rw [List.getElem?_map, List.getElem?_range hi] at h1
          simpa using h1.symm
        subst ey
        have := (hB i hi).1 r u h2
        have ea : (⟨xb, xo, none⟩ : Addr).add (i * m + r) = ⟨xb, xo + (i * m + r), none⟩ := by
          by_cases h : i * m + r = 0
          · rw [h]; simp [Addr.add]
          · generalize i * m + r = q at *
            simp [Addr.add, h]
        rw [ea] at this
        exact this
    · obtain ⟨i, hi, rfl⟩ := List.mem_map.1 hy
      exact (hB i (List.mem_range.1 hi)).2

/-- a row of structs that is being filled: the first k stand, the rest is zero -/
def partS (vs : α → List Value) (Z : List Value) (m : Nat) (zs : List α) (k j : Nat) : Value := if j < k * m then (flS vs zs).getD j undef else Z.getD (j % m) undef
theorem partS_lt {Z : List Value} {m k j : Nat} {zs : List α} {u : Value} (h : (flS vs zs)[j]? = some u) (hj : j < k * m) : partS vs Z m zs k j = u := by
  unfold partS; rw [if_pos hj, List.getD_eq_getElem?_getD, h]; rfl
theorem partS_far {Z : List Value} {m k j : Nat} {zs : List α} (h : j < k * m ∨ (k + 1) * m ≤ j) : partS vs Z m zs k j = partS vs Z m zs (k + 1) j := by
  unfold partS
  rcases h with h | h
  · rw [if_pos h, if_pos (by rw [Nat.succ_mul]; omega)]
  · rw [if_neg (by rw [Nat.succ_mul] at h; omega), if_neg (by omega)]
theorem row_of_partS {Z : List Value} {m : Nat} (hv : ∀ x, (vs x).length = m) {wr : World} {b : Nat} {t : TypeId} {zs : List α} (h : wr.rowIs b t (zs.length * m) (partS vs Z m zs zs.length)) : Cells wr b (flS vs zs) := by
  refine ⟨fun i v hv' => ?_, fun i => h.frozen i, h.lt⟩
  have hi := (List.getElem?_eq_some_iff.1 hv').1
  rw [flS_length vs hv] at hi
  rw [h.cell hi, partS_lt hv' hi]
end
theorem rowIs_madeS (w : World) (Z : Array Value) (n : Nat) (t : TypeId) (f : Nat → Value) (hf : ∀ i, i < n → Z[i % Z.size]! = f i) : (w.alloc (.cells (madeCells Z n) t)).rowIs w.heap.size t n f :=
  ⟨_, blk_alloc_new _ _, size_madeCells _ _, fun i hi => by rw [← hf i hi]; simp [madeCells, hi]⟩
/-- make of structs -/
theorem run_make_srow {P : Program} (t e : TypeId) (z : Value) (size bytes : Nat) (ht : P.underlying t = some (.slice e)) (hinfo : (P.info? e).map (fun i => (i.zero, i.size, i.bytes)) = some (some z, size, bytes))
    (kl kc : IntKind) (n : Nat) (hbytes : bytes * n ≤ 281474976710656) (h63 : n ≤ 9223372036854775807) (w : World) :
    (Instr.makeSlice t (.int kl (n : Int)) (.int kc (n : Int))).run P w = .ok (.slice (some ⟨w.heap.size, 0, none⟩) n n) (w.alloc (.cells (madeCells z.cells (n * size)) e)) := by
  obtain ⟨i, hi, hzz⟩ := Option.map_eq_some_iff.1 hinfo
  simp only [Prod.mk.injEq] at hzz
  obtain ⟨hz, hs, hb⟩ := hzz
  have hb' : (i.bytes : Int) * (n : Int) ≤ 281474976710656 := by
    have h : ((i.bytes * n : Nat) : Int) ≤ 281474976710656 := by rw [hb]; omega
    rwa [Int.natCast_mul] at h
  have hr := run_make (P := P) w t e i z ht hi hz kl kc n n (by omega) (Int.le_refl _) hb' (by omega)
  simp only [Int.toNat_natCast, hs] at hr
  exact hr
end Go.Proofs.YtbgldggaiefhoaaDoor

/- A number that is handed back with true. -/
namespace Go.Proofs.YtbgldggaiefhoaaDoor
open Go.RowKit

theorem GivB.ok {x S : Nat} {w w' : World} (h : cn .f32 x = S) (hf : fin .f32 S = true) (hb : Below w.heap.size w w') : GivB S true w (.returned (.tuple #[.float .f32 (ifF x), .bool (fin .f32 x)])) w' := by
  have h1 := GivB.num h hb
  have e : ifF S = S := by unfold ifF; rw [hf]; rfl
  rw [e, hf] at h1
  exact h1
theorem GivB.yes {x S : Nat} {w w' : World} (h : cn .f32 x = S) (hb : Below w.heap.size w w') : GivB S true w (.returned (.tuple #[.float .f32 x, .bool true])) w' := ⟨x, h, rfl, hb⟩
end Go.Proofs.YtbgldggaiefhoaaDoor

/- A number that is handed back where something is valid. -/
namespace Go.Proofs.YtbgldggaiefhoaaDoor
open Go.RowKit
def cS (b : Bool) (V : Nat) : Nat := bif b then ifF V else 0
def cB (b : Bool) (V : Nat) : Bool := b && fin .f32 V
theorem cGiv_no {b : Bool} {V : Nat} {w w' : World} (h : b = false) (hb : Below w.heap.size w w') : GivB (cS b V) (cB b V) w (.returned (.tuple #[.float .f32 0, .bool false])) w' := by
  unfold cS cB; rw [h, cond_false, Bool.false_and]; exact GivB.no hb
theorem cGiv_yes {b : Bool} {V x : Nat} {w w' : World} (h : b = true) (hx : cn .f32 x = V) (hb : Below w.heap.size w w') : GivB (cS b V) (cB b V) w (.returned (.tuple #[.float .f32 (ifF x), .bool (fin .f32 x)])) w' := by
  unfold cS cB; rw [h, cond_true, Bool.true_and]; exact GivB.num hx hb
end Go.Proofs.YtbgldggaiefhoaaDoor

/- A float operation that stands behind a guard, as the walk meets it. -/
namespace Go.Proofs.YtbgldggaiefhoaaDoor
open Go

theorem upon_fa {P : Program} {o : Oper} {a : Act} {K : Act → World → Prop} {Q : Exit → Act → World → Prop} {w : World} (op : BinOp) (hop : isArith op = true) (t : TypeId) (k : FloatKind) (m n : Nat)
    (h : ∀ r j, FR op k m n r → Oper.upon P o a K Q ((Result.ok (Value.float k r) (w.drewN j)).andThen fun v w' => .ok (Next.value v) w')) :
    Oper.upon P o a K Q (((binOp op t (.float k m) (.float k n)).run P w).andThen fun v w' => .ok (Next.value v) w') := by
  obtain ⟨r, j, hr, hw⟩ := run_farith (P := P) op hop t k m n w
  rw [hw]
  exact h r j hr
theorem upon_up {P : Program} {o : Oper} {a : Act} {K : Act → World → Prop} {Q : Exit → Act → World → Prop} {w : World} {S D : TypeId} (hs : P.underlying S = some (.float .f32)) (hd : P.underlying D = some (.float .f64)) (m : Nat)
    (h : ∀ r j, UR m r → Oper.upon P o a K Q ((Result.ok (Value.float .f64 r) (w.drewN j)).andThen fun v w' => .ok (Next.value v) w')) :
    Oper.upon P o a K Q (((convert S D (.float .f32 m)).run P w).andThen fun v w' => .ok (Next.value v) w') := by
  obtain ⟨r, j, hr, hw⟩ := run_up hs hd m w
  rw [hw]
  exact h r j hr
end Go.Proofs.YtbgldggaiefhoaaDoor

/- Numbers at least 0, at most 1, shares: words alone. -/
namespace Go.Proofs.YtbgldggaiefhoaaDoor
open Go.RowKit
set_option linter.unusedVariables false

theorem fopl' (op : BinOp) (k : FloatKind) (x y : Nat) : fop op k (cn k x) y = fop op k x y := by
  unfold fop
  rw [← floatBits_cn op k (cn k x) y, cn_cn, floatBits_cn]
theorem fopr' (op : BinOp) (k : FloatKind) (x y : Nat) : fop op k x (cn k y) = fop op k x y := by
  unfold fop
  rw [← floatBits_cn op k x (cn k y), cn_cn, floatBits_cn]
theorem fop_cc (op : BinOp) (k : FloatKind) (x y : Nat) : cn k (fop op k x y) = fop op k x y := by
  unfold fop
  cases h : floatBits op k x y with
  | none => exact cn_of_nan (nn_qn k)
  | some r => exact cn_of_num (floatBits_num h)
/-- a goal at which the walk stands -/
structure Stop (p : Prop) : Prop where
  out : p
theorem Stop.go {p : Prop} (h : Stop p) : p := h.out
/-- at least 0 -/
def ge0 (x : Nat) : Bool := FloatKind.f32.format.order x 0 == some .gt || FloatKind.f32.format.order x 0 == some .eq
/-- from a to b -/
def geN (x a : Nat) : Bool := FloatKind.f32.format.order x a == some .gt || FloatKind.f32.format.order x a == some .eq
def leN (x b : Nat) : Bool := FloatKind.f32.format.order x b == some .lt || FloatKind.f32.format.order x b == some .eq
def wth (x a b : Nat) : Bool := geN x a && leN x b
/-- a share -/
def shr (x : Nat) : Bool := geN x 0 && leN x 1065353216
/-- a shine -/
def shn (x : Nat) : Bool := gt0 x && leN x 1065353216
/-- finite and at least 0 -/
def lst (x : Nat) : Bool := fin .f32 x && geN x 0
theorem gt0_ge {x : Nat} (h : gt0 x = true) : geN x 0 = true := by unfold geN; unfold gt0 at h; rw [h]; rfl
theorem shn_shr (x : Nat) : (shr x && gt0 x) = shn x := by
  unfold shr shn
  cases h : gt0 x
  · simp
  · rw [gt0_ge h]; simp
/-- a bool; the world is the same -/
def BolS (b : Bool) (w : World) (e : Ending) (w' : World) : Prop := e = .returned (.bool b) ∧ w = w'
end Go.Proofs.YtbgldggaiefhoaaDoor

/- Words on numbers, and numbers that are handed back. -/


/- Whether a number lies within: the program. -/
namespace Go.Proofs.YtbgldggaiefhoaaDoor
open Go.RowKit
set_option linter.unusedVariables false

theorem implWithin_any (x a b : Nat) (w : World) : Calls Tryd.prog 166 #[.float .f32 x, .float .f32 a, .float .f32 b] w (BolS (wth x a b) w) := by
  unfold wth
  cases B0 : geN x a
  · skip
    have o0 : (FloatKind.f32.format.order x a == some .gt || FloatKind.f32.format.order x a == some .eq) = false := B0
    have H0 := Lib.hid B0
    clear B0
    go_enter Tryd.func166, Tryd.ntmps166
    go_wp2
    go_ret
    exact ⟨ret_bb (by simp), rfl⟩
  · skip
    have o0 : (FloatKind.f32.format.order x a == some .gt || FloatKind.f32.format.order x a == some .eq) = true := B0
    have H0 := Lib.hid B0
    clear B0
    go_enter Tryd.func166, Tryd.ntmps166
    go_wp2
    go_ret
    exact ⟨ret_bb (by rw [Bool.true_and]; rfl), rfl⟩
end Go.Proofs.YtbgldggaiefhoaaDoor

/- Whether a number is a share: the program. -/
namespace Go.Proofs.YtbgldggaiefhoaaDoor
open Go.RowKit
set_option linter.unusedVariables false

theorem implShare_any (x : Nat) (w : World) : Calls Tryd.prog 145 #[.float .f32 x] w (BolS (shr x) w) := by
  go_enter Tryd.func145, Tryd.ntmps145
  go_wp2_with fail
  refine (implWithin_any x _ _ _).mono ?_
  rintro e w' ⟨rfl, rfl⟩
  go_wp2
  go_ret
  exact ⟨rfl, rfl⟩
end Go.Proofs.YtbgldggaiefhoaaDoor

/- Numbers that are not negative: the program. -/
namespace Go.Proofs.YtbgldggaiefhoaaDoor
open Go.RowKit
set_option linter.unusedVariables false

theorem implNotNeg_any (x : Nat) (w : World) : Calls Tryd.prog 89 #[.float .f32 x] w (Bol (lst x) w) := by
  unfold lst
  cases B0 : fin .f32 x
  · skip
    have H0 := Lib.hid B0
    clear B0
    go_enter Tryd.func89, Tryd.ntmps89
    go_wp2_with fail
    refine (implFinite_any x _).mono ?_
    rw [H0.out]
    rintro e w' ⟨rfl, n, rfl⟩
    go_wp2
    go_ret
    exact ⟨ret_bb (by simp), _, rfl⟩
  · skip
    have H0 := Lib.hid B0
    clear B0
    go_enter Tryd.func89, Tryd.ntmps89
    go_wp2_with fail
    refine (implFinite_any x _).mono ?_
    rw [H0.out]
    rintro e w' ⟨rfl, n, rfl⟩
    go_wp2
    go_ret
    exact ⟨ret_bb (by rw [Bool.true_and]; rfl), _, rfl⟩
end Go.Proofs.YtbgldggaiefhoaaDoor

/- Numbers that are not negative: the program. -/


/- Numbers that are at least 0: the specification. -/
namespace Go.Proofs.YtbgldggaiefhoaaDoor
open Go.RowKit
set_option linter.unusedVariables false

theorem specLeast_any (x : Nat) (w : World) : Calls Tryd.prog 82 #[.float .f32 x] w (Bol (lst x) w) := by
  unfold lst
  cases B0 : fin .f32 x
  · skip
    have H0 := Lib.hid B0
    clear B0
    go_enter Tryd.func82, Tryd.ntmps82
    go_wp2_with fail
    refine (specFinite_any x _).mono ?_
    rw [H0.out]
    rintro e w' ⟨rfl, n, rfl⟩
    go_wp2
    go_ret
    exact ⟨ret_bb (by simp), _, rfl⟩
  · skip
    have H0 := Lib.hid B0
    clear B0
    go_enter Tryd.func82, Tryd.ntmps82
    go_wp2_with fail
    refine (specFinite_any x _).mono ?_
    rw [H0.out]
    rintro e w' ⟨rfl, n, rfl⟩
    go_wp2
    go_ret
    exact ⟨ret_bb (by rw [Bool.true_and]; rfl), _, rfl⟩
end Go.Proofs.YtbgldggaiefhoaaDoor

/- Numbers that are at least 0: the specification. -/


/- Numbers of chapter 5: at least 0, at most 1, shares; what tells them on both sides. -/
namespace Go.Proofs.YtbgldggaiefhoaaDoor
open Go.RowKit
set_option linter.unusedVariables false

theorem implShine_any (x : Nat) (w : World) : Calls Tryd.prog 117 #[.float .f32 x] w (BolS (shn x) w) := by
  rw [← shn_shr]
  cases B0 : shr x
  · skip
    have H0 := Lib.hid B0
    clear B0
    go_enter Tryd.func117, Tryd.ntmps117
    go_wp2_with fail
    refine (implShare_any x _).mono ?_
    rw [H0.out]
    rintro e w' ⟨rfl, rfl⟩
    go_wp2
    go_ret
    exact ⟨ret_bb (by simp), rfl⟩
  · skip
    have H0 := Lib.hid B0
    clear B0
    go_enter Tryd.func117, Tryd.ntmps117
    go_wp2_with fail
    refine (implShare_any x _).mono ?_
    rw [H0.out]
    rintro e w' ⟨rfl, rfl⟩
    go_wp2
    go_ret
    exact ⟨ret_bb (by rw [Bool.true_and]; rfl), rfl⟩
end Go.Proofs.YtbgldggaiefhoaaDoor

/- Links: copies of lists of them, and their comparison. -/
namespace Go.Proofs.YtbgldggaiefhoaaDoor
open Go.RowKit
set_option linter.unusedVariables false

/-- a link -/
structure LK where
  a : Int
  b : Int
  ps : Nat
def LK.wf (s : LK) : Prop := (Lit.int .i64 s.a).wf = true ∧ (Lit.int .i64 s.b).wf = true ∧ (Lit.float .f32 s.ps).wf = true
abbrev LK.vs (s : LK) : List Value := [.int .i64 s.a, .int .i64 s.b, .float .f32 s.ps]

theorem LK.len (s : LK) : s.vs.length = 3 := rfl
abbrev LRow (w : World) (v : Value) (zs : List LK) : Prop := SRow LK.vs w v zs
instance : Inhabited LK := ⟨⟨0, 0, 0⟩⟩
theorem LK.to_any (s : LK) (w : World) : Calls Tryd.prog 85 #[.agg #[.int .i64 s.a, .int .i64 s.b, .float .f32 s.ps]] w fun e w' => e = .returned (.agg #[.int .i64 s.a, .int .i64 s.b, .float .f32 s.ps]) ∧ Below w.heap.size w w' := by
  go_enter Tryd.func85, Tryd.ntmps85
  go_wp2
  refine bodyPost_ret (v := .agg #[.int .i64 s.a, .int .i64 s.b, .float .f32 s.ps]) ?_ rfl ?_
  · rw [results_cell1 rfl]
    go_simp
  · exact ⟨rfl, (by repeat (first | exact Below.refl _ _ | refine Below.setCell ?_ (by first | exact Nat.le_refl _ | (simp; done) | (simp; omega) | omega) _ | refine below_drewN ?_ _ | refine Below.alloc ?_ (by first | exact Nat.le_refl _ | (simp; done) | (simp; omega) | omega) _))⟩
theorem Tryd.rowOfL : (Tryd.prog.info? 114).map (fun i => (i.zero, i.size, i.bytes)) = some (some (.agg #[.int .i64 0, .int .i64 0, .float .f32 0]), 3, 24) := by kernel_rfl
def LNew (zs : List LK) (w : World) (e : Ending) (w' : World) : Prop :=
  e = .returned (.slice (some ⟨w.heap.size, 0, none⟩) zs.length zs.length) ∧ Below w.heap.size w w' ∧ Cells w' w.heap.size (flS LK.vs zs)
theorem LK.at {zs : List LK} {k : Nat} (hk : k < zs.length) : ∃ s, zs[k]? = some s := ⟨_, List.getElem?_eq_getElem hk⟩

set_option maxHeartbeats 1600000 in
theorem LK.toS_new (v : Value) (zs : List LK) (w : World) (h : LRow w v zs) (hl : zs.length ≤ 1048576) :
    Calls Tryd.prog 50 #[v] w (LNew zs w) := by
  have hmk := run_make_srow (P := Tryd.prog) 36 114 (.agg #[.int .i64 0, .int .i64 0, .float .f32 0]) 3 24 Tryd.underlying36 Tryd.rowOfL .i64 .i64 zs.length (by omega) (by omega)
  have R0 := Lib.hid (rowIs_madeS w #[.int .i64 0, .int .i64 0, .float .f32 0] (zs.length * 3) 114 (partS LK.vs [.int .i64 0, .int .i64 0, .float .f32 0] 3 zs 0) (fun i hi => by
    have h3 : i % 3 < 3 := Nat.mod_lt _ (by decide)
    show (#[.int .i64 0, .int .i64 0, .float .f32 0] : Array Value)[i % 3]! = partS LK.vs [.int .i64 0, .int .i64 0, .float .f32 0] 3 zs 0 i
    unfold partS
    rw [Nat.zero_mul, if_neg (Nat.not_lt_zero i)]
    generalize i % 3 = r at *
    match r, h3 with
    | 0, _ => rfl
    | 1, _ => rfl
    | 2, _ => rfl))
  have HC := Lib.hid (fun w1 (hb : Below w.heap.size w w1) (hn : 1 ≤ zs.length) => (h.below hb).cells LK.len hn)
  have FIN := Lib.hid (fun (w1 : World) (h : w1.rowIs w.heap.size 114 (zs.length * 3) (partS LK.vs [.int .i64 0, .int .i64 0, .float .f32 0] 3 zs zs.length)) => row_of_partS LK.len h)
  have AT := Lib.hid (fun k (hk : k < zs.length) => LK.at (zs := zs) hk)
  have FLA := Lib.hid (fun i s (hs : zs[i]? = some s) j u (hu : s.vs[j]? = some u) => flS_at LK.vs LK.len hs hu)
  obtain ⟨a, cap, rfl⟩ := h.shape
  unfold LNew
  clear h
  have hzc : (Value.agg #[.int .i64 0, .int .i64 0, .float .f32 0]).cells = #[.int .i64 0, .int .i64 0, .float .f32 0] := rfl
  rw [hzc] at hmk
  generalize hn : zs.length = n at *
  have Hn := Lib.hid hn
  clear hn
  go_enter Tryd.func50, Tryd.ntmps50
  go_wp2
  go_loopw [4] (fun i wr => ∃ k : Nat, k ≤ n ∧ i = .int .i64 k ∧ Hid (Below w.heap.size w wr) ∧ Hid (wr.rowIs w.heap.size 114 (n * 3) (partS LK.vs [.int .i64 0, .int .i64 0, .float .f32 0] 3 zs k))) (fun i _ => n - (intOf i).toNat)
  case atStart => exact ⟨0, Nat.zero_le _, rfl, Lib.hid ((Below.refl _ _).alloc (Nat.le_refl _) _), R0⟩
  case round =>
    obtain ⟨k, hk, rfl, hb, hr⟩ := hrel
    by_cases hlt : k < n
    · obtain ⟨b, off, c', e, hc⟩ := HC.out wr hb.out (by omega)
      have ea : a = some ⟨b, off, none⟩ := by cases e; rfl
      obtain ⟨s, hs⟩ := AT.out k hlt
      have z := hc k s hs
      have z0 : wr.cell? ⟨b, off + k * 3, none⟩ = some (.int .i64 s.a) := z 0 _ rfl
      have z1 : wr.cell? ⟨b, off + k * 3 + 1, none⟩ = some (.int .i64 s.b) := z 1 _ rfl
      have z2 : wr.cell? ⟨b, off + k * 3 + 2, none⟩ = some (.float .f32 s.ps) := z 2 _ rfl
      have FK := Lib.hid (FLA.out k s hs)
      clear e hc z hs hmk
      subst ea
      have hi : (0 : Int) ≤ (k : Int) := by omega
      have hi' : (k : Int) < (n : Int) := by omega
      go_wp2_with fail
      refine (LK.to_any s _).mono ?_
      rintro e w1 ⟨rfl, hb1⟩
      have hr1 := Lib.hid (hr.out.of_block (hb1.block _ hr.out.lt))
      have Bw := Lib.hid (below_step hb.out hb1)
      have y0 : w1.cell? ⟨w.heap.size, k * 3, none⟩ = some (partS LK.vs [.int .i64 0, .int .i64 0, .float .f32 0] 3 zs k (k * 3 + 0)) := hr1.out.cell (by omega)
      have y1 : w1.cell? ⟨w.heap.size, k * 3 + 1, none⟩ = some (partS LK.vs [.int .i64 0, .int .i64 0, .float .f32 0] 3 zs k (k * 3 + 1)) := hr1.out.cell (by omega)
      have y2 : w1.cell? ⟨w.heap.size, k * 3 + 2, none⟩ = some (partS LK.vs [.int .i64 0, .int .i64 0, .float .f32 0] 3 zs k (k * 3 + 2)) := hr1.out.cell (by omega)
      have yf := hr1.out.frozen
      clear hr hb hb1 z0 z1 z2
      go_wp2
      go_roundw
      case rel =>
        refine ⟨k + 1, by omega, by go_num, Lib.hid (((((((Bw.out).setCell (p := ⟨w.heap.size, k * 3, none⟩) (Nat.le_refl _) (.int .i64 s.a))).setCell (p := ⟨w.heap.size, k * 3 + 1, none⟩) (Nat.le_refl _) (.int .i64 s.b))).setCell (p := ⟨w.heap.size, k * 3 + 2, none⟩) (Nat.le_refl _) (.float .f32 s.ps))), Lib.hid (World.rowIs.congr (((((((hr1.out).set (k * 3) (.int .i64 s.a))).set (k * 3 + 1) (.int .i64 s.b))).set (k * 3 + 2) (.float .f32 s.ps))) (fun i hi => ?_))⟩
        by_cases e2 : i = k * 3 + 2
        · rw [if_pos e2, e2]
          exact (partS_lt (FK.out 2 _ rfl) (by omega)).symm
        rw [if_neg e2]
        by_cases e1 : i = k * 3 + 1
        · rw [if_pos e1, e1]
          exact (partS_lt (FK.out 1 _ rfl) (by omega)).symm
        rw [if_neg e1]
        by_cases e0 : i = k * 3
        · rw [if_pos e0, e0]
          exact (partS_lt (FK.out 0 _ rfl) (by omega)).symm
        rw [if_neg e0]
        exact partS_far (by omega)
      case measure => simp [intOf]; omega
    · have e := Lib.hid (show k = n by omega)
      clear HC AT hmk
      go_wp2
      go_ret
      have ek := e.out
      subst ek
      exact ⟨rfl, hb.out, FIN.out _ hr.out⟩

theorem LK.eq_any (s : LK) (w : World) : Calls Tryd.prog 93 #[.agg #[.int .i64 s.a, .int .i64 s.b, .float .f32 s.ps], .agg #[.int .i64 s.a, .int .i64 s.b, .float .f32 s.ps]] w (YesB w) := by
  go_enter Tryd.func93, Tryd.ntmps93
  go_wp2_with (first | (refine wpList_up rfl Tryd.underlying54 Tryd.underlying83 _ rfl _ rfl ?_; intro _ _ _) | (go_at_call 57; refine (same_end _ (by assumption) (by assumption) rfl).mono ?_; rintro e w' ⟨rfl, m, rfl⟩))
  go_ret
  exact ⟨rfl, (by repeat (first | exact Below.refl _ _ | refine Below.setCell ?_ (by first | exact Nat.le_refl _ | (simp; done) | (simp; omega) | omega) _ | refine below_drewN ?_ _ | refine Below.alloc ?_ (by first | exact Nat.le_refl _ | (simp; done) | (simp; omega) | omega) _))⟩

set_option maxHeartbeats 800000 in
theorem LK.eqS_any (v v' : Value) (zs : List LK) (w : World) (h : LRow w v zs) (h' : LRow w v' zs) : Calls Tryd.prog 53 #[v, v'] w (YesB w) := by
  have HC := Lib.hid (fun w1 (hb : Below w.heap.size w w1) (hn : 1 ≤ zs.length) => (h.below hb).cells LK.len hn)
  have HC' := Lib.hid (fun w1 (hb : Below w.heap.size w w1) (hn : 1 ≤ zs.length) => (h'.below hb).cells LK.len hn)
  have AT := Lib.hid (fun k (hk : k < zs.length) => LK.at (zs := zs) hk)
  have HL := Lib.hid h.len
  obtain ⟨a, cap, rfl⟩ := h.shape
  obtain ⟨a', cap', rfl⟩ := h'.shape
  clear h h'
  generalize zs.length = n at *
  go_enter Tryd.func53, Tryd.ntmps53
  go_wp2
  go_loopw [5] (fun i wr => ∃ k : Nat, k ≤ n ∧ i = .int .i64 k ∧ Hid (Below w.heap.size w wr)) (fun i _ => n - (intOf i).toNat)
  case atStart => exact ⟨0, Nat.zero_le _, rfl, Lib.hid (Below.refl _ _)⟩
  case round =>
    obtain ⟨k, hk, rfl, hb⟩ := hrel
    have hG := HL.out
    by_cases hlt : k < n
    · obtain ⟨b, off, c1, e, hc⟩ := HC.out wr hb.out (by omega)
      obtain ⟨b', off', c2, e', hc'⟩ := HC'.out wr hb.out (by omega)
      have ea : a = some ⟨b, off, none⟩ := by cases e; rfl
      have ea' : a' = some ⟨b', off', none⟩ := by cases e'; rfl
      obtain ⟨s, hs⟩ := AT.out k hlt
      have z := hc k s hs
      have y := hc' k s hs
      have FACT := Lib.hid (fun w1 (hw : Ext wr w1) => And.intro (hw.cell (show wr.cell? ⟨b, off + k * 3, none⟩ = some (.int .i64 s.a) from z 0 _ rfl)) (And.intro (hw.cell (show wr.cell? ⟨b, off + k * 3 + 1, none⟩ = some (.int .i64 s.b) from z 1 _ rfl)) (And.intro (hw.cell (show wr.cell? ⟨b, off + k * 3 + 2, none⟩ = some (.float .f32 s.ps) from z 2 _ rfl)) (And.intro (hw.cell (show wr.cell? ⟨b', off' + k * 3, none⟩ = some (.int .i64 s.a) from y 0 _ rfl)) (And.intro (hw.cell (show wr.cell? ⟨b', off' + k * 3 + 1, none⟩ = some (.int .i64 s.b) from y 1 _ rfl)) (hw.cell (show wr.cell? ⟨b', off' + k * 3 + 2, none⟩ = some (.float .f32 s.ps) from y 2 _ rfl)))))))
      clear e hc e' hc' z y hs
      subst ea
      subst ea'
      have Bw0 := Lib.hid hb.out
      clear hb HC HC' AT
      have hi : (0 : Int) ≤ (k : Int) := by omega
      have hi' : (k : Int) < (n : Int) := by omega
      go_wp2
      refine wp_region_looseC (Ext _) (fun _ _ v => v = .bool true) (Ext.start _) (by kernel_rfl) (by kernel_rfl) ?_
      repeat (refine wpLoose_valK rfl ?_ (fun w1 hw1 => ?_) (fun K hK => ?_); rotate_left; (focus (have hF := FACT.out w1 hw1; go_simp; first | done | rfl)); go_simp; refine hK _ ?_; clear hK K)
      refine wpLoose_callS rfl 93 #[.agg #[.int .i64 s.a, .int .i64 s.b, .float .f32 s.ps], .agg #[.int .i64 s.a, .int .i64 s.b, .float .f32 s.ps]] (fun w1 => ?_) (fun w1 hw1 => ?_) (fun v hv => ?_)
      · go_simp
      · refine (LK.eq_any s w1).mono ?_
        rintro e w2 ⟨rfl, hb⟩
        exact ⟨_, rfl, rfl, hb⟩
      subst hv
      repeat (first | (refine wpLoose_farithB rfl _ _ _ _ _ rfl rfl _ _ _ rfl rfl ?_; intro _ _) | (refine wpLoose_valK rfl ?_ (fun w1 hw1 => ?_) (fun K hK => ?_); rotate_left; (focus (have hF := FACT.out w1 hw1; go_simp; first | done | rfl)); go_simp; refine hK _ ?_; clear hK K))
      refine wpLoose_nil ?_; intro w1 hb
      have Bw := Lib.hid (below_step Bw0.out hb)
      clear hb
      go_wp2
      go_roundw
      case rel => exact ⟨k + 1, by omega, by go_num, Bw⟩
      case measure => simp [intOf]; omega
    · go_wp2
      go_ret
      exact ⟨rfl, hb.out⟩

theorem LK.sz_fit (a : Option Addr) (n c left : Nat) (w : World) (hn : n ≤ left) (hl : left ≤ 1048576) :
    Calls Tryd.prog 46 #[.slice a n c, .int .i64 left] w fun e w' => e = .returned (.int .i64 ((left - n : Nat) : Int)) ∧ w = w' := by
  have e : ((left : Int) - (n : Int)) = ((left - n : Nat) : Int) := by omega
  go_enter Tryd.func46, Tryd.ntmps46
  go_wp2
  go_ret
  exact ⟨by simp, rfl⟩
theorem LK.sz_over (a : Option Addr) (n c left : Nat) (w : World) (hn : left < n) (hm : n ≤ 9223372036854775807) (hl : left ≤ 1048576) :
    Calls Tryd.prog 46 #[.slice a n c, .int .i64 left] w fun e w' => e = .returned (.int .i64 (-1)) ∧ w = w' := by
  go_enter Tryd.func46, Tryd.ntmps46
  go_wp2
  go_ret
  exact ⟨rfl, rfl⟩
end Go.Proofs.YtbgldggaiefhoaaDoor

/- Houses: their copies, their sizes, and the comparison of two houses. -/
namespace Go.Proofs.YtbgldggaiefhoaaDoor
open Go.RowKit
set_option linter.unusedVariables false

/-- a house: warmths, holds, leaks and links -/
structure HS where
  W : List Nat
  H : List Nat
  L : List Nat
  K : List LK
def HS.size (r : HS) : Nat := r.W.length + r.H.length + r.L.length + r.K.length
/-- four slices read as the lists of a house -/
structure HRow (w : World) (a b c d : Value) (r : HS) : Prop where
  W : FRow w a r.W
  H : FRow w b r.H
  L : FRow w c r.L
  K : LRow w d r.K
theorem HRow.below {w w' : World} {a b c d : Value} {r : HS} (h : HRow w a b c d r) (hb : Below w.heap.size w w') : HRow w' a b c d r :=
  ⟨h.W.below hb, h.H.below hb, h.L.below hb, h.K.below hb⟩
abbrev slk (p : Nat) (zs : List LK) : Value := .slice (some ⟨p, 0, none⟩) zs.length zs.length
/-- the four blocks of a house -/
structure HouseAt (w : World) (p0 p1 p2 p3 : Nat) (r : HS) : Prop where
  W : Cells w p0 (fl r.W)
  H : Cells w p1 (fl r.H)
  L : Cells w p2 (fl r.L)
  K : Cells w p3 (flS LK.vs r.K)
  o01 : p0 < p1
  o12 : p1 < p2
  o23 : p2 < p3
theorem HouseAt.kept {w w' : World} {p0 p1 p2 p3 : Nat} {r : HS} (h : HouseAt w p0 p1 p2 p3 r) (hb : Below w.heap.size w w') : HouseAt w' p0 p1 p2 p3 r :=
  ⟨h.W.kept hb, h.H.kept hb, h.L.kept hb, h.K.kept hb, h.o01, h.o12, h.o23⟩
theorem HouseAt.row {w : World} {p0 p1 p2 p3 : Nat} {r : HS} (h : HouseAt w p0 p1 p2 p3 r) (hl : r.size ≤ 1048576) : HRow w (sl p0 r.W) (sl p1 r.H) (sl p2 r.L) (slk p3 r.K) r := by
  unfold HS.size at hl
  have hm : maxLen = 9223372036854775807 := rfl
  exact ⟨.of_cells h.W (by omega), .of_cells h.H (by omega), .of_cells h.L (by omega), .of_cells h.K (by omega)⟩
/-- a house, by value, that reads so, in blocks of its own -/
def NewHouse (r : HS) (w : World) (e : Ending) (w' : World) : Prop :=
  ∃ p0 p1 p2 p3, e = .returned (.agg #[sl p0 r.W, sl p1 r.H, sl p2 r.L, slk p3 r.K]) ∧ w.heap.size ≤ p0 ∧ HouseAt w' p0 p1 p2 p3 r ∧ Below w.heap.size w w'
abbrev hvs (a b c d : Value) : List Value := [a, b, c, d]
abbrev zhs : List Value := [.slice none 0 0, .slice none 0 0, .slice none 0 0, .slice none 0 0]
def NewSk (zs : List LK) (w : World) (e : Ending) (w' : World) : Prop := ∃ p, e = .returned (slk p zs) ∧ w.heap.size ≤ p ∧ Cells w' p (flS LK.vs zs) ∧ Below w.heap.size w w'
theorem toK_sl (v : Value) (zs : List LK) (w : World) (h : LRow w v zs) (hl : zs.length ≤ 1048576) : Calls Tryd.prog 50 #[v] w (NewSk zs w) :=
  (LK.toS_new v zs w h hl).mono fun _ _ ⟨he, hb, hc⟩ => ⟨_, he, Nat.le_refl _, hc, hb⟩

set_option maxHeartbeats 1600000 in
set_option maxRecDepth 10000 in
theorem toHouse_any (a b c d : Value) (r : HS) (w : World) (h : HRow w a b c d r) (hl : r.size ≤ 1048576) : Calls Tryd.prog 17 #[.agg #[a, b, c, d]] w (NewHouse r w) := by
  obtain ⟨hW, hH, hL, hK⟩ := h
  have HW := Lib.hid hW
  have HH := Lib.hid hH
  have HL := Lib.hid hL
  have HK := Lib.hid hK
  clear hW hH hL hK
  have lW : Hid (r.W.length ≤ 1048576) := Lib.hid (by unfold HS.size at hl; omega)
  have lH : Hid (r.H.length ≤ 1048576) := Lib.hid (by unfold HS.size at hl; omega)
  have lL : Hid (r.L.length ≤ 1048576) := Lib.hid (by unfold HS.size at hl; omega)
  have lK : Hid (r.K.length ≤ 1048576) := Lib.hid (by unfold HS.size at hl; omega)
  clear hl
  have A := Lib.hid (((Cells.made w (hvs a b c d) 33).al (.cells zhs.toArray 38)).al (.cells zhs.toArray 38))
  have Y := (Cells.made (w.alloc (.cells (hvs a b c d).toArray 33)) zhs 38).al (.cells zhs.toArray 38)
  rw [show (w.alloc (.cells (hvs a b c d).toArray 33)).heap.size = w.heap.size + 1 from by simp] at Y
  have X := Cells.made ((w.alloc (.cells (hvs a b c d).toArray 33)).alloc (.cells zhs.toArray 38)) zhs 38
  rw [show ((w.alloc (.cells (hvs a b c d).toArray 33)).alloc (.cells zhs.toArray 38)).heap.size = w.heap.size + 1 + 1 from by simp] at X
  have Y := Lib.hid Y
  have X := Lib.hid X
  have Bw := Lib.hid (below_al3 w (.cells (hvs a b c d).toArray 33) (.cells zhs.toArray 38) (.cells zhs.toArray 38))
  go_enter Tryd.func17, Tryd.ntmps17
  go_wp2_with fail
  refine (toF_sl _ r.W _ (HW.out.below Bw.out) lW.out).mono ?_
  rintro _ w1 ⟨p0, rfl, hp, C0, hb⟩
  have q0 : Hid (w.heap.size + 2 < p0) := Lib.hid (Nat.lt_of_lt_of_le X.out.lt hp)
  have A := Lib.hid (A.out.kept hb)
  have X := Lib.hid (X.out.kept hb)
  have Y := Lib.hid (Y.out.kept hb)
  have Bw := Lib.hid (below_step Bw.out hb)
  have C0 := Lib.hid C0
  clear hb hp
  have c0 := A.out.at 0 rfl
  have c1 := A.out.at 1 rfl
  have c2 := A.out.at 2 rfl
  have c3 := A.out.at 3 rfl
  have e0 := X.out.at 0 rfl
  have e1 := X.out.at 1 rfl
  have e2 := X.out.at 2 rfl
  have e3 := X.out.at 3 rfl
  have ef := X.out.fz
  go_wp2_with fail
  have C0 := Lib.hid (C0.out.far (q := w.heap.size + 1 + 1) (by have := q0.out; omega) 0 (sl p0 r.W))
  have Bw := Lib.hid (Bw.out.setCell (p := ⟨w.heap.size + 1 + 1, 0, none⟩) (by simp; omega) (sl p0 r.W))
  have A := Lib.hid (A.out.far (q := w.heap.size + 1 + 1) (by omega) 0 (sl p0 r.W))
  have Y := Lib.hid (Y.out.far (q := w.heap.size + 1 + 1) (by omega) 0 (sl p0 r.W))
  have X := Lib.hid (X.out.set 0 (by simp) (sl p0 r.W))
  refine (toF_sl _ r.H _ (HH.out.below Bw.out) lH.out).mono ?_
  rintro _ w2 ⟨p1, rfl, hp, C1, hb⟩
  have q1 : Hid (p0 < p1) := Lib.hid (Nat.lt_of_lt_of_le C0.out.lt hp)
  have A := Lib.hid (A.out.kept hb)
  have X := Lib.hid (X.out.kept hb)
  have Y := Lib.hid (Y.out.kept hb)
  have C0 := Lib.hid (C0.out.kept hb)
  have Bw := Lib.hid (below_step Bw.out hb)
  have C1 := Lib.hid C1
  clear hb hp
  clear c0 c1 c2 c3 e0 e1 e2 e3 ef
  have c0 := A.out.at 0 rfl
  have c1 := A.out.at 1 rfl
  have c2 := A.out.at 2 rfl
  have c3 := A.out.at 3 rfl
  have e0 := X.out.at 0 rfl
  have e1 := X.out.at 1 rfl
  have e2 := X.out.at 2 rfl
  have e3 := X.out.at 3 rfl
  have ef := X.out.fz
  go_wp2_with fail
  have C0 := Lib.hid (C0.out.far (q := w.heap.size + 1 + 1) (by have := q0.out; have := q1.out; omega) 1 (sl p1 r.H))
  have C1 := Lib.hid (C1.out.far (q := w.heap.size + 1 + 1) (by have := q0.out; have := q1.out; omega) 1 (sl p1 r.H))
  have Bw := Lib.hid (Bw.out.setCell (p := ⟨w.heap.size + 1 + 1, 1, none⟩) (by simp; omega) (sl p1 r.H))
  have A := Lib.hid (A.out.far (q := w.heap.size + 1 + 1) (by omega) 1 (sl p1 r.H))
  have Y := Lib.hid (Y.out.far (q := w.heap.size + 1 + 1) (by omega) 1 (sl p1 r.H))
  have X := Lib.hid (X.out.set 1 (by simp) (sl p1 r.H))
  refine (toF_sl _ r.L _ (HL.out.below Bw.out) lL.out).mono ?_
  rintro _ w3 ⟨p2, rfl, hp, C2, hb⟩
  have q2 : Hid (p1 < p2) := Lib.hid (Nat.lt_of_lt_of_le C1.out.lt hp)
  have A := Lib.hid (A.out.kept hb)
  have X := Lib.hid (X.out.kept hb)
  have Y := Lib.hid (Y.out.kept hb)
  have C0 := Lib.hid (C0.out.kept hb)
  have C1 := Lib.hid (C1.out.kept hb)
  have Bw := Lib.hid (below_step Bw.out hb)
  have C2 := Lib.hid C2
  clear hb hp
  clear c0 c1 c2 c3 e0 e1 e2 e3 ef
  have c0 := A.out.at 0 rfl
  have c1 := A.out.at 1 rfl
  have c2 := A.out.at 2 rfl
  have c3 := A.out.at 3 rfl
  have e0 := X.out.at 0 rfl
  have e1 := X.out.at 1 rfl
  have e2 := X.out.at 2 rfl
  have e3 := X.out.at 3 rfl
  have ef := X.out.fz
  go_wp2_with fail
  have C0 := Lib.hid (C0.out.far (q := w.heap.size + 1 + 1) (by have := q0.out; have := q1.out; have := q2.out; omega) 2 (sl p2 r.L))
  have C1 := Lib.hid (C1.out.far (q := w.heap.size + 1 + 1) (by have := q0.out; have := q1.out; have := q2.out; omega) 2 (sl p2 r.L))
  have C2 := Lib.hid (C2.out.far (q := w.heap.size + 1 + 1) (by have := q0.out; have := q1.out; have := q2.out; omega) 2 (sl p2 r.L))
  have Bw := Lib.hid (Bw.out.setCell (p := ⟨w.heap.size + 1 + 1, 2, none⟩) (by simp; omega) (sl p2 r.L))
  have A := Lib.hid (A.out.far (q := w.heap.size + 1 + 1) (by omega) 2 (sl p2 r.L))
  have Y := Lib.hid (Y.out.far (q := w.heap.size + 1 + 1) (by omega) 2 (sl p2 r.L))
  have X := Lib.hid (X.out.set 2 (by simp) (sl p2 r.L))
  refine (toK_sl _ r.K _ (HK.out.below Bw.out) lK.out).mono ?_
  rintro _ w4 ⟨p3, rfl, hp, C3, hb⟩
  have q3 : Hid (p2 < p3) := Lib.hid (Nat.lt_of_lt_of_le C2.out.lt hp)
  have A := Lib.hid (A.out.kept hb)
  have X := Lib.hid (X.out.kept hb)
  have Y := Lib.hid (Y.out.kept hb)
  have C0 := Lib.hid (C0.out.kept hb)
  have C1 := Lib.hid (C1.out.kept hb)
  have C2 := Lib.hid (C2.out.kept hb)
  have Bw := Lib.hid (below_step Bw.out hb)
  have C3 := Lib.hid C3
  clear hb hp
  clear c0 c1 c2 c3 e0 e1 e2 e3 ef
  have c0 := A.out.at 0 rfl
  have c1 := A.out.at 1 rfl
  have c2 := A.out.at 2 rfl
  have c3 := A.out.at 3 rfl
  have e0 := X.out.at 0 rfl
  have e1 := X.out.at 1 rfl
  have e2 := X.out.at 2 rfl
  have e3 := X.out.at 3 rfl
  have ef := X.out.fz
  have g0 := Y.out.at 0 rfl
  have g1 := Y.out.at 1 rfl
  have g2 := Y.out.at 2 rfl
  have g3 := Y.out.at 3 rfl
  have gf := Y.out.fz
  go_wp2
  have q0 := q0.out
  have q1 := q1.out
  have q2 := q2.out
  have q3 := q3.out
  refine bodyPost_ret (v := .agg #[sl p0 r.W, sl p1 r.H, sl p2 r.L, slk p3 r.K]) ?_ rfl ?_
  · rw [results_cell1 rfl]
    go_simp
  · refine ⟨p0, p1, p2, p3, rfl, by omega, ⟨?_, ?_, ?_, ?_, by omega, by omega, by omega⟩, ?_⟩
    · iterate 5 (refine Cells.far ?_ (by omega) _ _)
      exact C0.out
    · iterate 5 (refine Cells.far ?_ (by omega) _ _)
      exact C1.out
    · iterate 5 (refine Cells.far ?_ (by omega) _ _)
      exact C2.out
    · iterate 5 (refine Cells.far ?_ (by omega) _ _)
      exact C3.out
    · iterate 5 (refine Below.setCell ?_ (by first | (simp; done) | (simp; omega)) _)
      exact Bw.out

theorem eqHouse_any (a b c d a' b' c' d' : Value) (r : HS) (w : World) (h : HRow w a b c d r) (h' : HRow w a' b' c' d' r) :
    Calls Tryd.prog 19 #[.agg #[a, b, c, d], .agg #[a', b', c', d']] w (YesB w) := by
  have R := Lib.hid (fun w1 (hb : Below w.heap.size w w1) => h.below hb)
  have R' := Lib.hid (fun w1 (hb : Below w.heap.size w w1) => h'.below hb)
  clear h h'
  go_enter Tryd.func19, Tryd.ntmps19
  go_wp2_with fail
  refine (eqF_any a a' _ _ _ (R.out _ (by first | exact below_al2 _ _ _ | exact below_drewN (below_al2 _ _ _) _ | exact below_drewN (below_drewN (below_al2 _ _ _) _) _)).W (R'.out _ (by first | exact below_al2 _ _ _ | exact below_drewN (below_al2 _ _ _) _ | exact below_drewN (below_drewN (below_al2 _ _ _) _) _)).W (.refl _)).mono ?_
  rintro _ _ ⟨rfl, n0, rfl⟩
  go_wp2_with fail
  refine (eqF_any b b' _ _ _ (R.out _ (by first | exact below_al2 _ _ _ | exact below_drewN (below_al2 _ _ _) _ | exact below_drewN (below_drewN (below_al2 _ _ _) _) _)).H (R'.out _ (by first | exact below_al2 _ _ _ | exact below_drewN (below_al2 _ _ _) _ | exact below_drewN (below_drewN (below_al2 _ _ _) _) _)).H (.refl _)).mono ?_
  rintro _ _ ⟨rfl, n1, rfl⟩
  go_wp2_with fail
  refine (eqF_any c c' _ _ _ (R.out _ (by first | exact below_al2 _ _ _ | exact below_drewN (below_al2 _ _ _) _ | exact below_drewN (below_drewN (below_al2 _ _ _) _) _)).L (R'.out _ (by first | exact below_al2 _ _ _ | exact below_drewN (below_al2 _ _ _) _ | exact below_drewN (below_drewN (below_al2 _ _ _) _) _)).L (.refl _)).mono ?_
  rintro _ _ ⟨rfl, n2, rfl⟩
  have BK := Lib.hid (fun (w1 : World) (hb : Below w.heap.size w w1) => hb)
  go_wp2_with fail
  refine (LK.eqS_any d d' _ _ (R.out _ (by first | exact below_al2 _ _ _ | exact below_drewN (below_al2 _ _ _) _ | exact below_drewN (below_drewN (below_al2 _ _ _) _) _)).K (R'.out _ (by first | exact below_al2 _ _ _ | exact below_drewN (below_al2 _ _ _) _ | exact below_drewN (below_drewN (below_al2 _ _ _) _) _)).K).mono ?_
  rintro _ w9 ⟨rfl, hb⟩
  have Bw := Lib.hid (below_step (w := w) (by first | exact below_al2 _ _ _ | exact below_drewN (below_al2 _ _ _) _ | exact below_drewN (below_drewN (below_al2 _ _ _) _) _) hb)
  clear hb
  go_wp2
  go_ret
  exact ⟨rfl, Bw.out⟩

theorem szHouse_fit (a b c d : Value) (r : HS) (left : Nat) (w : World) (h : HRow w a b c d r) (hl : r.size ≤ left) (hm : left ≤ 1048576) :
    Calls Tryd.prog 15 #[.agg #[a, b, c, d], .int .i64 left] w fun e w' => e = .returned (.int .i64 ((left - r.size : Nat) : Int)) ∧ Below w.heap.size w w' := by
  obtain ⟨a1, a2, rfl⟩ := h.W.shape
  obtain ⟨b1, b2, rfl⟩ := h.H.shape
  obtain ⟨c1, c2, rfl⟩ := h.L.shape
  obtain ⟨d1, d2, rfl⟩ := h.K.shape
  clear h
  have e : Hid (left - r.W.length - r.H.length - r.L.length - r.K.length = left - r.size) := Lib.hid (by unfold HS.size; omega)
  unfold HS.size at hl
  have L0 : Hid (r.W.length ≤ left) := Lib.hid (by omega)
  have L1 : Hid (r.H.length ≤ left - r.W.length) := Lib.hid (by omega)
  have L2 : Hid (r.L.length ≤ left - r.W.length - r.H.length) := Lib.hid (by omega)
  have L3 : Hid (r.K.length ≤ left - r.W.length - r.H.length - r.L.length) := Lib.hid (by omega)
  have M := Lib.hid hm
  clear hl hm
  go_enter Tryd.func15, Tryd.ntmps15
  go_wp2_with fail
  refine (sz32_fit _ _ _ (left) _ L0.out (by have := M.out; omega)).mono ?_
  rintro _ _ ⟨rfl, rfl⟩
  go_wp2_with fail
  refine (sz32_fit _ _ _ (left - r.W.length) _ L1.out (by have := M.out; omega)).mono ?_
  rintro _ _ ⟨rfl, rfl⟩
  go_wp2_with fail
  refine (sz32_fit _ _ _ (left - r.W.length - r.H.length) _ L2.out (by have := M.out; omega)).mono ?_
  rintro _ _ ⟨rfl, rfl⟩
  go_wp2_with fail
  refine (LK.sz_fit _ _ _ (left - r.W.length - r.H.length - r.L.length) _ L3.out (by have := M.out; omega)).mono ?_
  rintro _ _ ⟨rfl, rfl⟩
  go_wp2
  go_ret
  exact ⟨by rw [← e.out]; rfl, below_al1 _ _⟩

theorem szHouse_over (a b c d : Value) (r : HS) (left : Nat) (w : World) (h : HRow w a b c d r) (hl : left < r.size) (hm : left ≤ 1048576) :
    Calls Tryd.prog 15 #[.agg #[a, b, c, d], .int .i64 left] w fun e w' => e = .returned (.int .i64 (-1)) ∧ Below w.heap.size w w' := by
  have N0 := Lib.hid h.W.len
  have N1 := Lib.hid h.H.len
  have N2 := Lib.hid h.L.len
  have N3 := Lib.hid h.K.len
  obtain ⟨a1, a2, rfl⟩ := h.W.shape
  obtain ⟨b1, b2, rfl⟩ := h.H.shape
  obtain ⟨c1, c2, rfl⟩ := h.L.shape
  obtain ⟨d1, d2, rfl⟩ := h.K.shape
  clear h
  unfold HS.size at hl
  have M := Lib.hid hm
  by_cases g0 : r.W.length ≤ left
  · by_cases g1 : r.H.length ≤ left - r.W.length
    · by_cases g2 : r.L.length ≤ left - r.W.length - r.H.length
      · skip
        have L0 : Hid (r.W.length ≤ left) := Lib.hid g0
        have L1 : Hid (r.H.length ≤ left - r.W.length) := Lib.hid g1
        have L2 : Hid (r.L.length ≤ left - r.W.length - r.H.length) := Lib.hid g2
        have L3 : Hid (left - r.W.length - r.H.length - r.L.length < r.K.length) := Lib.hid (by omega)
        clear hl hm g0 g1 g2
        go_enter Tryd.func15, Tryd.ntmps15
        go_wp2_with fail
        refine (sz32_fit _ _ _ (left) _ L0.out (by have := M.out; omega)).mono ?_
        rintro _ _ ⟨rfl, rfl⟩
        go_wp2_with fail
        refine (sz32_fit _ _ _ (left - r.W.length) _ L1.out (by have := M.out; omega)).mono ?_
        rintro _ _ ⟨rfl, rfl⟩
        go_wp2_with fail
        refine (sz32_fit _ _ _ (left - r.W.length - r.H.length) _ L2.out (by have := M.out; omega)).mono ?_
        rintro _ _ ⟨rfl, rfl⟩
        go_wp2_with fail
        refine (LK.sz_over _ _ _ (left - r.W.length - r.H.length - r.L.length) _ L3.out N3.out (by have := M.out; omega)).mono ?_
        rintro _ _ ⟨rfl, rfl⟩
        go_wp2
        go_ret
        exact ⟨rfl, below_al1 _ _⟩
      · skip
        have L0 : Hid (r.W.length ≤ left) := Lib.hid g0
        have L1 : Hid (r.H.length ≤ left - r.W.length) := Lib.hid g1
        have L2 : Hid (left - r.W.length - r.H.length < r.L.length) := Lib.hid (by omega)
        clear hl hm g0 g1 g2
        go_enter Tryd.func15, Tryd.ntmps15
        go_wp2_with fail
        refine (sz32_fit _ _ _ (left) _ L0.out (by have := M.out; omega)).mono ?_
        rintro _ _ ⟨rfl, rfl⟩
        go_wp2_with fail
        refine (sz32_fit _ _ _ (left - r.W.length) _ L1.out (by have := M.out; omega)).mono ?_
        rintro _ _ ⟨rfl, rfl⟩
        go_wp2_with fail
        refine (sz32_over _ _ _ (left - r.W.length - r.H.length) _ L2.out N2.out (by have := M.out; omega)).mono ?_
        rintro _ _ ⟨rfl, rfl⟩
        go_wp2
        go_ret
        exact ⟨rfl, below_al1 _ _⟩
    · skip
      have L0 : Hid (r.W.length ≤ left) := Lib.hid g0
      have L1 : Hid (left - r.W.length < r.H.length) := Lib.hid (by omega)
      clear hl hm g0 g1
      go_enter Tryd.func15, Tryd.ntmps15
      go_wp2_with fail
      refine (sz32_fit _ _ _ (left) _ L0.out (by have := M.out; omega)).mono ?_
      rintro _ _ ⟨rfl, rfl⟩
      go_wp2_with fail
      refine (sz32_over _ _ _ (left - r.W.length) _ L1.out N1.out (by have := M.out; omega)).mono ?_
      rintro _ _ ⟨rfl, rfl⟩
      go_wp2
      go_ret
      exact ⟨rfl, below_al1 _ _⟩
  · skip
    have L0 : Hid (left < r.W.length) := Lib.hid (by omega)
    clear hl hm g0
    go_enter Tryd.func15, Tryd.ntmps15
    go_wp2_with fail
    refine (sz32_over _ _ _ (left) _ L0.out N0.out (by have := M.out; omega)).mono ?_
    rintro _ _ ⟨rfl, rfl⟩
    go_wp2
    go_ret
    exact ⟨rfl, below_al1 _ _⟩

end Go.Proofs.YtbgldggaiefhoaaDoor

/- Houses: whether they are valid, as the specification tells. -/
namespace Go.Proofs.YtbgldggaiefhoaaDoor
open Go.RowKit
set_option linter.unusedVariables false

/-- one of n rooms -/
def inN (n : Nat) (x : Int) : Bool := decide (0 ≤ x) && decide (x ≤ (n : Int) - 1)
/-- a link of a house of n rooms -/
def lkOk (n : Nat) (s : LK) : Bool := inN n s.a && inN n s.b && !(s.a == s.b) && pos s.ps
def lenHs (r : HS) : Bool := decide (1 ≤ r.W.length) && decide (r.W.length ≤ 8) && decide (r.H.length = r.W.length) && decide (r.L.length = r.W.length) && decide (r.K.length ≤ 24)
def vHs (r : HS) : Bool := lenHs r && r.W.all (fin .f32) && r.H.all pos && r.L.all lst && r.K.all (lkOk r.W.length)
structure HsN (r : HS) : Prop where
  a : 1 ≤ r.W.length
  b : r.W.length ≤ 8
  H : r.H.length = r.W.length
  L : r.L.length = r.W.length
  K : r.K.length ≤ 24
theorem HsN.of {r : HS} (h : lenHs r = true) : HsN r := by
  unfold lenHs at h
  simp only [Bool.and_eq_true, decide_eq_true_eq] at h
  exact ⟨h.1.1.1.1, h.1.1.1.2, h.1.1.2, h.1.2, h.2⟩
theorem HsN.ofV {r : HS} (h : vHs r = true) : HsN r := by
  unfold vHs at h
  simp only [Bool.and_eq_true] at h
  exact HsN.of h.1.1.1.1
theorem allF_no {f : Nat → Bool} {zs : List Nat} {k : Nat} (hk : k < zs.length) (h : f (zs.getD k 0) = false) : zs.all f = false := by
  rw [← not_any_not, any_some hk (by rw [h]; rfl)]; rfl
theorem allF_yes {f : Nat → Bool} {zs : List Nat} (h : ∀ k, k < zs.length → f (zs.getD k 0) = true) : zs.all f = true := by
  rw [← not_any_not, any_none (fun k hk => by rw [h k hk]; rfl)]; rfl
theorem allK_no {f : LK → Bool} {zs : List LK} {k : Nat} {s : LK} (hs : zs[k]? = some s) (h : f s = false) : zs.all f = false := by
  rw [List.all_eq_false]
  exact ⟨s, List.mem_of_getElem? hs, by rw [h]; decide⟩
theorem allK_yes {f : LK → Bool} {zs : List LK} (h : ∀ (k : Nat) (s : LK), zs[k]? = some s → f s = true) : zs.all f = true := by
  rw [List.all_eq_true]
  intro s hs
  obtain ⟨k, hk, rfl⟩ := List.mem_iff_getElem.1 hs
  exact h k _ (List.getElem?_eq_getElem hk)
/-- room k is as it must be -/
def rmOk (r : HS) (k : Nat) : Bool := fin .f32 (r.W.getD k 0) && pos (r.H.getD k 0) && lst (r.L.getD k 0)
theorem vHs_room {r : HS} (hn : HsN r) {k : Nat} (hk : k < r.W.length) (h : rmOk r k = false) : vHs r = false := by
  unfold rmOk at h
  unfold vHs
  cases h1 : fin .f32 (r.W.getD k 0)
  · rw [allF_no hk h1]; simp
  · cases h2 : pos (r.H.getD k 0)
    · rw [allF_no (by rw [hn.H]; exact hk) h2]; simp
    · rw [h1, h2] at h
      rw [allF_no (f := lst) (zs := r.L) (by rw [hn.L]; exact hk) (by simpa using h)]; simp
theorem vHs_link {r : HS} {k : Nat} {s : LK} (hs : r.K[k]? = some s) (h : lkOk r.W.length s = false) : vHs r = false := by
  unfold vHs
  rw [allK_no hs h]; simp
theorem vHs_yes {r : HS} (hl : lenHs r = true) (h1 : ∀ k, k < r.W.length → rmOk r k = true) (h2 : ∀ (k : Nat) (s : LK), r.K[k]? = some s → lkOk r.W.length s = true) : vHs r = true := by
  have hn := HsN.of hl
  have h3 : ∀ k, k < r.W.length → fin .f32 (r.W.getD k 0) = true ∧ pos (r.H.getD k 0) = true ∧ lst (r.L.getD k 0) = true := fun k hk => by
    have := h1 k hk
    unfold rmOk at this
    simp only [Bool.and_eq_true] at this
    exact ⟨this.1.1, this.1.2, this.2⟩
  unfold vHs
  rw [hl, allF_yes (fun k hk => (h3 k hk).1), allF_yes (f := pos) (zs := r.H) (fun k hk => (h3 k (by rw [← hn.H]; exact hk)).2.1), allF_yes (f := lst) (zs := r.L) (fun k hk => (h3 k (by rw [← hn.L]; exact hk)).2.2), allK_yes h2]
  rfl
theorem vHs_len {r : HS} (h : lenHs r = false) : vHs r = false := by unfold vHs; rw [h]; simp

theorem specHs_len (p : Nat) (a b c d : Value) (r : HS) (w : World) (A : Cells w p [a, b, c, d]) (h : HRow w a b c d r) (hl : lenHs r = false) : Calls Tryd.prog 47 #[.pointer (some ⟨p, 0, none⟩)] w (Bol (vHs r) w) := by
  have V := Lib.hid (vHs_len hl)
  have N0 := Lib.hid h.W.len
  have N1 := Lib.hid h.H.len
  have N2 := Lib.hid h.L.len
  have N3 := Lib.hid h.K.len
  obtain ⟨a1, a2, rfl⟩ := h.W.shape
  obtain ⟨b1, b2, rfl⟩ := h.H.shape
  obtain ⟨d1, d2, rfl⟩ := h.L.shape
  obtain ⟨e1, e2, rfl⟩ := h.K.shape
  have c0 := A.at 0 rfl
  have c1 := A.at 1 rfl
  have c2 := A.at 2 rfl
  have c3 := A.at 3 rfl
  clear h A
  unfold lenHs at hl
  generalize vHs r = v at *
  generalize r.W.length = n at *
  generalize r.H.length = n1 at *
  generalize r.L.length = n2 at *
  generalize r.K.length = n3 at *
  have M0 := N0.out
  have M1 := N1.out
  have M2 := N2.out
  have M3 := N3.out
  by_cases g0 : 1 ≤ n
  rotate_left
  · skip
    have f0 : decide ((n : Int) < 1) = true := by simp; omega
    clear hl
    go_enter Tryd.func47, Tryd.ntmps47
    go_wp2
    go_ret
    exact ⟨ret_b V.out, 0, rfl⟩
  by_cases g1 : n ≤ 8
  rotate_left
  · skip
    have f0 : decide ((n : Int) < 1) = false := by simp; omega
    have f1 : decide ((8 : Int) < (n : Int)) = true := by simp; omega
    clear hl
    go_enter Tryd.func47, Tryd.ntmps47
    go_wp2
    go_ret
    exact ⟨ret_b V.out, 0, rfl⟩
  by_cases g2 : n1 = n
  rotate_left
  · skip
    have f0 : decide ((n : Int) < 1) = false := by simp; omega
    have f1 : decide ((8 : Int) < (n : Int)) = false := by simp; omega
    have f2 : ((n1 : Int) != (n : Int)) = true := by simp; omega
    have e2 : ((n1 : Int) == (n : Int)) = false := by simp; omega
    clear hl
    go_enter Tryd.func47, Tryd.ntmps47
    go_wp2
    go_ret
    exact ⟨ret_b V.out, 0, rfl⟩
  by_cases g3 : n2 = n
  rotate_left
  · skip
    have f0 : decide ((n : Int) < 1) = false := by simp; omega
    have f1 : decide ((8 : Int) < (n : Int)) = false := by simp; omega
    have f2 : ((n1 : Int) != (n : Int)) = false := by simp; omega
    have e2 : ((n1 : Int) == (n : Int)) = true := by simp; omega
    have f3 : ((n2 : Int) != (n : Int)) = true := by simp; omega
    have e3 : ((n2 : Int) == (n : Int)) = false := by simp; omega
    clear hl
    go_enter Tryd.func47, Tryd.ntmps47
    go_wp2
    go_ret
    exact ⟨ret_b V.out, 0, rfl⟩
  by_cases g4 : n3 ≤ 24
  rotate_left
  · skip
    have f0 : decide ((n : Int) < 1) = false := by simp; omega
    have f1 : decide ((8 : Int) < (n : Int)) = false := by simp; omega
    have f2 : ((n1 : Int) != (n : Int)) = false := by simp; omega
    have e2 : ((n1 : Int) == (n : Int)) = true := by simp; omega
    have f3 : ((n2 : Int) != (n : Int)) = false := by simp; omega
    have e3 : ((n2 : Int) == (n : Int)) = true := by simp; omega
    have f4 : decide ((24 : Int) < (n3 : Int)) = true := by simp; omega
    clear hl
    go_enter Tryd.func47, Tryd.ntmps47
    go_wp2
    go_ret
    exact ⟨ret_b V.out, 0, rfl⟩
  exfalso
  rw [decide_eq_true g0, decide_eq_true g1, decide_eq_true g2, decide_eq_true g3, decide_eq_true g4] at hl
  cases hl

set_option maxRecDepth 10000 in
set_option maxHeartbeats 3200000 in
theorem specHs_ok (p : Nat) (a b c d : Value) (r : HS) (w : World) (A : Cells w p [a, b, c, d]) (h : HRow w a b c d r) (hl : lenHs r = true) : Calls Tryd.prog 47 #[.pointer (some ⟨p, 0, none⟩)] w (Bol (vHs r) w) := by
  have hn := HsN.of hl
  have VR := Lib.hid (fun k (hk : k < r.W.length) (e : rmOk r k = false) => vHs_room hn hk e)
  have VK := Lib.hid (fun k s (hs : r.K[k]? = some s) (e : lkOk r.W.length s = false) => vHs_link hs e)
  have VY := Lib.hid (fun h1 h2 => vHs_yes hl h1 h2)
  have RM := Lib.hid (fun k => show rmOk r k = (fin .f32 (r.W.getD k 0) && pos (r.H.getD k 0) && lst (r.L.getD k 0)) from rfl)
  have LO := Lib.hid (fun n (s : LK) => show lkOk n s = (inN n s.a && inN n s.b && !(s.a == s.b) && pos s.ps) from rfl)
  have AT := Lib.hid (fun k (hk : k < r.K.length) => LK.at (zs := r.K) hk)
  have CW := Lib.hid (fun (hn : 1 ≤ r.W.length) => h.W.cells hn)
  have CH := Lib.hid (fun (hn : 1 ≤ r.H.length) => h.H.cells hn)
  have CL := Lib.hid (fun (hn : 1 ≤ r.L.length) => h.L.cells hn)
  have CK := Lib.hid (fun (hn : 1 ≤ r.K.length) => h.K.cells LK.len hn)
  obtain ⟨a1, a2, rfl⟩ := h.W.shape
  obtain ⟨b1, b2, rfl⟩ := h.H.shape
  obtain ⟨d1, d2, rfl⟩ := h.L.shape
  obtain ⟨e1, e2, rfl⟩ := h.K.shape
  have A := Lib.hid A
  obtain ⟨g0, g1, g2, g3, g4⟩ := hn
  rw [g2] at CH A
  rw [g3] at CL A
  clear h hl g2 g3
  generalize vHs r = v at *
  generalize r.W.length = n at *
  generalize hkk : r.K.length = m at *
  have KL := Lib.hid hkk
  clear hkk
  have f0 : decide ((n : Int) < 1) = false := by simp; omega
  have f1 : decide ((8 : Int) < (n : Int)) = false := by simp; omega
  have f2 : ((n : Int) != (n : Int)) = false := by simp
  have f3 : ((n : Int) == (n : Int)) = true := by simp
  have f4 : decide ((24 : Int) < (m : Int)) = false := by simp; omega
  have c0 := A.out.at 0 rfl
  have c1 := A.out.at 1 rfl
  have c2 := A.out.at 2 rfl
  have c3 := A.out.at 3 rfl
  go_enter Tryd.func47, Tryd.ntmps47
  go_wp2
  clear f0 f1 f2 f3 f4
  go_loopw [4] (fun i wr => ∃ k q : Nat, k ≤ n ∧ i = .int .i64 k ∧ Hid (∀ j, j < k → rmOk r j = true) ∧ wr = w.drewN q) (fun i _ => n - (intOf i).toNat)
  case atStart => exact ⟨0, 0, Nat.zero_le _, rfl, Lib.hid (fun j hj => absurd hj (Nat.not_lt_zero _)), rfl⟩
  case round =>
    obtain ⟨k, q, hk, rfl, hall, rfl⟩ := hrel
    by_cases hlt : k < n
    · obtain ⟨x0, o0, k0, e, hc0⟩ := CW.out (by omega)
      obtain ⟨x1, o1, k1, e', hc1⟩ := CH.out (by omega)
      obtain ⟨x2, o2, k2, e'', hc2⟩ := CL.out (by omega)
      have ea : a1 = some ⟨x0, o0, none⟩ := by cases e; rfl
      have ea' : b1 = some ⟨x1, o1, none⟩ := by cases e'; rfl
      have ea'' : d1 = some ⟨x2, o2, none⟩ := by cases e''; rfl
      have z0 := hc0 k hlt
      have z1 := hc1 k (by omega)
      have z2 := hc2 k (by omega)
      have VRk := Lib.hid (VR.out k hlt)
      have RMk := Lib.hid (RM.out k)
      clear e hc0 e' hc1 e'' hc2 CW CH CL CK
      subst ea
      subst ea'
      subst ea''
      have hi : (0 : Int) ≤ (k : Int) := by omega
      have hi' : (k : Int) < (n : Int) := by omega
      have hd : decide ((k : Int) < (n : Int)) = true := by simp; omega
      generalize r.W.getD k 0 = x at *
      generalize r.H.getD k 0 = y at *
      generalize r.L.getD k 0 = z at *
      cases B0 : fin .f32 x
      · skip
        have V := Lib.hid (VRk.out (by rw [RMk.out]; simp [B0]))
        have H0 := Lib.hid B0
        clear B0
        go_wp2_with fail
        refine (specFinite_any x _).mono ?_
        rw [H0.out]
        rintro e w' ⟨rfl, q0, rfl⟩
        go_wp2
        go_ret
        exact ⟨ret_b V.out, _, rfl⟩
      · skip
        cases B1 : pos y
        · skip
          have V := Lib.hid (VRk.out (by rw [RMk.out]; simp [B0, B1]))
          have H0 := Lib.hid B0
          have H1 := Lib.hid B1
          clear B0 B1
          go_wp2_with fail
          refine (specFinite_any x _).mono ?_
          rw [H0.out]
          rintro e w' ⟨rfl, q0, rfl⟩
          go_wp2_with fail
          refine (specAbove_any y _).mono ?_
          rw [H1.out]
          rintro e w' ⟨rfl, q1, rfl⟩
          go_wp2
          go_ret
          exact ⟨ret_b V.out, _, rfl⟩
        · skip
          cases B2 : lst z
          · skip
            have V := Lib.hid (VRk.out (by rw [RMk.out]; simp [B0, B1, B2]))
            have H0 := Lib.hid B0
            have H1 := Lib.hid B1
            have H2 := Lib.hid B2
            clear B0 B1 B2
            go_wp2_with fail
            refine (specFinite_any x _).mono ?_
            rw [H0.out]
            rintro e w' ⟨rfl, q0, rfl⟩
            go_wp2_with fail
            refine (specAbove_any y _).mono ?_
            rw [H1.out]
            rintro e w' ⟨rfl, q1, rfl⟩
            go_wp2_with fail
            refine (specLeast_any z _).mono ?_
            rw [H2.out]
            rintro e w' ⟨rfl, q2, rfl⟩
            go_wp2
            go_ret
            exact ⟨ret_b V.out, _, rfl⟩
          · skip
            have V := Lib.hid (show rmOk r k = true by rw [RMk.out]; simp [B0, B1, B2])
            have H0 := Lib.hid B0
            have H1 := Lib.hid B1
            have H2 := Lib.hid B2
            clear B0 B1 B2
            go_wp2_with fail
            refine (specFinite_any x _).mono ?_
            rw [H0.out]
            rintro e w' ⟨rfl, q0, rfl⟩
            go_wp2_with fail
            refine (specAbove_any y _).mono ?_
            rw [H1.out]
            rintro e w' ⟨rfl, q1, rfl⟩
            go_wp2_with fail
            refine (specLeast_any z _).mono ?_
            rw [H2.out]
            rintro e w' ⟨rfl, q2, rfl⟩
            go_wp2
            go_roundw
            case rel => exact ⟨k + 1, _, by omega, by go_num, Lib.hid (fun j hj => by rcases Nat.lt_succ_iff_lt_or_eq.1 hj with h | h; exact hall.out j h; subst h; exact V.out), by first | rfl | simp only [World.drewN_drewN]⟩
            case measure => simp [intOf]; omega
    · have e := Lib.hid (show k = n by omega)
      have VY := Lib.hid (VY.out (by have := e.out; subst this; exact hall.out))
      have hd : decide ((k : Int) < (n : Int)) = false := by simp; omega
      clear hall CW CH CL VR RM e
      go_wp2
      clear hd hlt hk
      go_loopw [5, 6] (fun i _ wr => ∃ k q : Nat, k ≤ m ∧ i = .int .i64 k ∧ Hid (∀ (j : Nat) (s : LK), j < k → r.K[j]? = some s → lkOk n s = true) ∧ wr = w.drewN q) (fun i _ _ => m - (intOf i).toNat)
      case atStart => exact ⟨0, _, Nat.zero_le _, rfl, Lib.hid (fun j s hj => absurd hj (Nat.not_lt_zero _)), rfl⟩
      case round =>
        obtain ⟨k, q, hk, rfl, hall, rfl⟩ := hrel
        by_cases hlt : k < m
        · obtain ⟨x3, o3, k3, e, hc⟩ := CK.out (by omega)
          have ea : e1 = some ⟨x3, o3, none⟩ := by cases e; rfl
          obtain ⟨s, hs⟩ := AT.out k hlt
          have z := hc k s hs
          have VKk := Lib.hid (VK.out k s hs)
          have LOk := Lib.hid (LO.out n s)
          have HS := Lib.hid hs
          obtain ⟨sa, sb, sp⟩ := s
          have z0 : w.cell? ⟨x3, o3 + k * 3, none⟩ = some (.int .i64 sa) := z 0 _ rfl
          have z1 : w.cell? ⟨x3, o3 + k * 3 + 1, none⟩ = some (.int .i64 sb) := z 1 _ rfl
          have z2 : w.cell? ⟨x3, o3 + k * 3 + 2, none⟩ = some (.float .f32 sp) := z 2 _ rfl
          have hw9 : ∃ W9, w.drewN q = W9 := ⟨_, rfl⟩
          obtain ⟨W9, hw9⟩ := hw9
          have x0 : W9.cell? ⟨p, 0, none⟩ = some (.slice a1 n a2) := hw9 ▸ c0
          have x3' : W9.cell? ⟨p, 3, none⟩ = some (.slice e1 m e2) := hw9 ▸ c3
          have y0 : W9.cell? ⟨x3, o3 + k * 3, none⟩ = some (.int .i64 sa) := hw9 ▸ z0
          have y1 : W9.cell? ⟨x3, o3 + k * 3 + 1, none⟩ = some (.int .i64 sb) := hw9 ▸ z1
          have y2 : W9.cell? ⟨x3, o3 + k * 3 + 2, none⟩ = some (.float .f32 sp) := hw9 ▸ z2
          rw [hw9]
          have HW9 := Lib.hid hw9
          clear e hc z hs CK VK LO c0 c1 c2 c3 z0 z1 z2 hw9
          subst ea
          have hi : (0 : Int) ≤ (k : Int) := by omega
          have hi' : (k : Int) < (m : Int) := by omega
          have hd : decide ((k : Int) < (m : Int)) = true := by simp; omega
          have Q0 := Lib.hid (fun w => show Calls Tryd.prog 83 #[.int .i64 sa, .int .i64 0, .int .i64 ((n : Int) - 1)] w (Bol (inN n sa) w) from (in_any sa 0 ((n : Int) - 1) w).mono (fun _ _ ⟨he, hw⟩ => ⟨he, 0, hw.symm⟩))
          have Q1 := Lib.hid (fun w => show Calls Tryd.prog 83 #[.int .i64 sb, .int .i64 0, .int .i64 ((n : Int) - 1)] w (Bol (inN n sb) w) from (in_any sb 0 ((n : Int) - 1) w).mono (fun _ _ ⟨he, hw⟩ => ⟨he, 0, hw.symm⟩))
          have Q3 := Lib.hid (specAbove_any sp)
          cases B0 : inN n sa
          · skip
            have V := Lib.hid (VKk.out (by rw [LOk.out]; simp only [B0]; simp))
            have H0 := Lib.hid B0
            clear B0
            go_wp2
            go_quiet (first | (go_at_call_of 83 sa; refine Calls.quiet_of (v := .bool false) ?_; have hq := Q0.out; rw [H0.out] at hq; exact hq _))
            go_wp2
            go_ret
            exact ⟨ret_b V.out, _, by rw [← HW9.out]; exact World.drewN_drewN _ _ _⟩
          · skip
            cases B1 : inN n sb
            · skip
              have V := Lib.hid (VKk.out (by rw [LOk.out]; simp only [B0, B1]; simp))
              have H0 := Lib.hid B0
              have H1 := Lib.hid B1
              clear B0 B1
              go_wp2
              go_quiet (first | (go_at_call_of 83 sa; refine Calls.quiet_of (v := .bool true) ?_; have hq := Q0.out; rw [H0.out] at hq; exact hq _) | (go_at_call_of 83 sb; refine Calls.quiet_of (v := .bool false) ?_; have hq := Q1.out; rw [H1.out] at hq; exact hq _))
              go_wp2
              go_ret
              exact ⟨ret_b V.out, _, by rw [← HW9.out]; exact World.drewN_drewN _ _ _⟩
            · skip
              cases B2 : (sa == sb)
              rotate_left
              · skip
                have V := Lib.hid (VKk.out (by rw [LOk.out]; simp only [B0, B1, B2]; simp))
                have H0 := Lib.hid B0
                have H1 := Lib.hid B1
                have o2 : (sa == sb) = true := B2
                have H2 := Lib.hid B2
                clear B0 B1 B2
                go_wp2
                go_quiet (first | (go_at_call_of 83 sa; refine Calls.quiet_of (v := .bool true) ?_; have hq := Q0.out; rw [H0.out] at hq; exact hq _) | (go_at_call_of 83 sb; refine Calls.quiet_of (v := .bool true) ?_; have hq := Q1.out; rw [H1.out] at hq; exact hq _))
                go_wp2
                go_ret
                exact ⟨ret_b V.out, _, by rw [← HW9.out]; exact World.drewN_drewN _ _ _⟩
              · skip
                cases B3 : pos sp
                · skip
                  have V := Lib.hid (VKk.out (by rw [LOk.out]; simp only [B0, B1, B2, B3]; simp))
                  have H0 := Lib.hid B0
                  have H1 := Lib.hid B1
                  have o2 : (sa == sb) = false := B2
                  have H2 := Lib.hid B2
                  have H3 := Lib.hid B3
                  clear B0 B1 B2 B3
                  go_wp2
                  go_quiet (first | (go_at_call_of 83 sa; refine Calls.quiet_of (v := .bool true) ?_; have hq := Q0.out; rw [H0.out] at hq; exact hq _) | (go_at_call_of 83 sb; refine Calls.quiet_of (v := .bool true) ?_; have hq := Q1.out; rw [H1.out] at hq; exact hq _) | (go_at_call_of 81 sp; refine Calls.quiet_of (v := .bool false) ?_; have hq := Q3.out; rw [H3.out] at hq; exact hq _))
                  go_wp2
                  go_ret
                  exact ⟨ret_b V.out, _, by rw [← HW9.out]; exact World.drewN_drewN _ _ _⟩
                · skip
                  have V := Lib.hid (show lkOk n ⟨sa, sb, sp⟩ = true by rw [LOk.out]; simp only [B0, B1, B2, B3]; rfl)
                  have H0 := Lib.hid B0
                  have H1 := Lib.hid B1
                  have o2 : (sa == sb) = false := B2
                  have H2 := Lib.hid B2
                  have H3 := Lib.hid B3
                  clear B0 B1 B2 B3
                  go_wp2
                  go_quiet (first | (go_at_call_of 83 sa; refine Calls.quiet_of (v := .bool true) ?_; have hq := Q0.out; rw [H0.out] at hq; exact hq _) | (go_at_call_of 83 sb; refine Calls.quiet_of (v := .bool true) ?_; have hq := Q1.out; rw [H1.out] at hq; exact hq _) | (go_at_call_of 81 sp; refine Calls.quiet_of (v := .bool true) ?_; have hq := Q3.out; rw [H3.out] at hq; exact hq _))
                  go_wp2
                  go_roundw
                  case rel => exact ⟨k + 1, _, by omega, by go_num, Lib.hid (fun j s hj hs => by rcases Nat.lt_succ_iff_lt_or_eq.1 hj with h | h; exact hall.out j s h hs; subst h; have he := HS.out.symm.trans hs; cases he; exact V.out), by rw [← HW9.out]; exact World.drewN_drewN _ _ _⟩
                  case measure => simp [intOf]; omega
        · have e := Lib.hid (show k = m by omega)
          have hd : decide ((k : Int) < (m : Int)) = false := by simp; omega
          go_wp2
          go_ret
          exact ⟨ret_b (VY.out (fun j s hs => hall.out j s (by have h1 := (List.getElem?_eq_some_iff.1 hs).1; have h2 := e.out; have h3 := KL.out; omega) hs)), _, rfl⟩

theorem specHs_any (p : Nat) (a b c d : Value) (r : HS) (w : World) (A : Cells w p [a, b, c, d]) (h : HRow w a b c d r) : Calls Tryd.prog 47 #[.pointer (some ⟨p, 0, none⟩)] w (Bol (vHs r) w) := by
  cases hl : lenHs r
  · exact specHs_len p a b c d r w A h hl
  · exact specHs_ok p a b c d r w A h hl
end Go.Proofs.YtbgldggaiefhoaaDoor

/- Whether all numbers of a list are at least 0. -/
namespace Go.Proofs.YtbgldggaiefhoaaDoor
open Go.RowKit
theorem litLst_any (y q : Nat) (w : World) (hq : w.cell? ⟨q, 0, none⟩ = some (.func (.func 89) #[] #[])) :
    Calls Tryd.prog 125 #[.float .f32 y, .pointer (some ⟨q, 0, none⟩)] w (Bol (!(lst y)) w) := by
  go_enter Tryd.func125, Tryd.ntmps125
  go_wp2_with (go_at_call 89; refine (implNotNeg_any _ _).mono ?_; rintro e w' ⟨rfl, n, rfl⟩)
  go_ret
  exact ⟨rfl, _, rfl⟩

theorem idxLst_any (v : Value) (zs : List Nat) (q : Nat) (w : World) (h : FRow w v zs) (hq : w.cell? ⟨q, 0, none⟩ = some (.func (.func 89) #[] #[])) :
    Calls Tryd.prog 149 #[v, .func (.func 125) #[] #[.pointer (some ⟨q, 0, none⟩)]] w (Idx (zs.any (fun z => !(lst z))) w) := by
  have VS := Lib.hid (fun k (hk : k < zs.length) (h : (!(lst (zs.getD k 0))) = true) => any_some (f := fun z => !(lst z)) hk h)
  have VN := Lib.hid (fun h => any_none (f := fun z => !(lst z)) (zs := zs) h)
  have HC := Lib.hid (fun (hn : 1 ≤ zs.length) => h.cells hn)
  have HL := Lib.hid h.len
  obtain ⟨a, cap, rfl⟩ := h.shape
  clear h
  generalize hb : zs.any (fun z => !(lst z)) = b at *
  clear hb
  have HG : Hid (∀ k, zs.getD k 0 = zs.getD k 0) := Lib.hid (fun k => rfl)
  generalize hn : zs.length = n at *
  clear hn
  go_enter Tryd.func149, Tryd.ntmps149
  go_wp2
  go_loopw [5, 8] (fun _ i wr => ∃ k q : Nat, k ≤ n ∧ i = .int .i64 k ∧ Hid (∀ j, j < k → (!(lst (zs.getD j 0))) = false) ∧ wr = w.drewN q) (fun _ i _ => n - (intOf i).toNat)
  case atStart => exact ⟨0, 0, Nat.zero_le _, rfl, Lib.hid (fun j hj => absurd hj (Nat.not_lt_zero _)), rfl⟩
  case round =>
    obtain ⟨k, q, hk, rfl, hall, rfl⟩ := hrel
    by_cases hlt : k < n
    · obtain ⟨b0, o0, cap', e, hc⟩ := HC.out (by omega)
      have ea : a = some ⟨b0, o0, none⟩ := by cases e; rfl
      have z0 := hc k hlt
      have VSk := Lib.hid (VS.out k hlt)
      clear e hc
      subst ea
      have hG := HL.out
      have hi : (0 : Int) ≤ (k : Int) := by omega
      have hi' : (k : Int) < (n : Int) := by omega
      generalize hy : zs.getD k 0 = y at *
      cases B : lst y
      · have V := Lib.hid (VSk.out (by rw [B]; rfl))
        go_wp2_with (go_at_call 125; refine (litLst_any y _ _ (by simpa using hq)).mono ?_; rw [B]; rintro e w' ⟨rfl, n, rfl⟩)
        go_ret
        exact ⟨_, rfl, by rw [V.out]; simp, _, rfl⟩
      · have V := Lib.hid (show (!(lst (zs.getD k 0))) = false by rw [hy, B]; rfl)
        clear hy
        go_wp2_with (go_at_call 125; refine (litLst_any y _ _ (by simpa using hq)).mono ?_; rw [B]; rintro e w' ⟨rfl, n, rfl⟩)
        go_roundw
        case rel => exact ⟨k + 1, _, by omega, by go_num, Lib.hid (fun j hj => by rcases Nat.lt_succ_iff_lt_or_eq.1 hj with h | h; exact hall.out j h; subst h; exact V.out), rfl⟩
        case measure => simp [intOf]; omega
    · have e := Lib.hid (show k = n by omega)
      go_wp2
      go_ret
      have := e.out
      subst this
      exact ⟨_, rfl, by rw [VN.out hall.out]; rfl, _, rfl⟩

theorem allLst_any (v : Value) (zs : List Nat) (w : World) (h : FRow w v zs) : Calls Tryd.prog 86 #[v, .func (.func 89) #[] #[]] w (BolB (zs.all (lst)) w) := by
  have H := Lib.hid (h.below (below_al1 w (.cells [Value.func (.func 89) #[] #[]].toArray 111)))
  have e := Lib.hid (show (!(zs.any (fun z => !(lst z)))) = zs.all (lst) from not_any_not _ _)
  clear h
  go_enter Tryd.func86, Tryd.ntmps86
  go_wp2_with (first | (go_at_call 149; refine (idxLst_any _ zs _ _ H.out (by simp)).mono ?_; rintro e w' ⟨i, rfl, hi, n, rfl⟩) | go_in)
  go_ret
  exact ⟨ret_b e.out.symm, below_drewN (below_al1 _ _) _⟩

end Go.Proofs.YtbgldggaiefhoaaDoor

/- Houses: whether they are valid, as the program tells. -/
namespace Go.Proofs.YtbgldggaiefhoaaDoor
open Go.RowKit
set_option linter.unusedVariables false

theorem hasRoom_any (a b c d : Value) (r : HS) (x : Int) (w : World) (h : HRow w a b c d r) (h8 : r.W.length ≤ 8) : Calls Tryd.prog 129 #[.agg #[a, b, c, d], .int .i64 x] w (BolB (inN r.W.length x) w) := by
  obtain ⟨a1, a2, rfl⟩ := h.W.shape
  clear h
  have IN := Lib.hid (show inN r.W.length x = (decide (0 ≤ x) && decide (x < (r.W.length : Int))) by unfold inN; congr 1; rw [decide_eq_decide]; omega)
  rw [IN.out]
  generalize r.W.length = n at *
  cases B : decide (0 ≤ x)
  · have f0 : decide ((0 : Int) ≤ x) = false := B
    go_enter Tryd.func129, Tryd.ntmps129
    go_wp2
    go_ret
    exact ⟨ret_b (by simp), below_al1 _ _⟩
  · have f0 : decide ((0 : Int) ≤ x) = true := B
    go_enter Tryd.func129, Tryd.ntmps129
    go_wp2
    go_ret
    exact ⟨ret_b (by simp), below_al1 _ _⟩

set_option maxHeartbeats 800000 in
theorem takesLink_any (a b c d : Value) (r : HS) (s : LK) (w : World) (h : HRow w a b c d r) (h8 : r.W.length ≤ 8) : Calls Tryd.prog 91 #[.agg #[a, b, c, d], .agg #[.int .i64 s.a, .int .i64 s.b, .float .f32 s.ps]] w (BolB (lkOk r.W.length s) w) := by
  have HR := Lib.hid (fun x w1 (hb : Below w.heap.size w w1) => hasRoom_any a b c d r x w1 (h.below hb) h8)
  obtain ⟨sa, sb, sp⟩ := s
  unfold lkOk
  clear h
  have A := Lib.hid ((Cells.made w [a, b, c, d] 38).al (.cells ([.int .i64 sa, .int .i64 sb, .float .f32 sp] : List Value).toArray 114))
  have X := Cells.made (w.alloc (.cells ([a, b, c, d] : List Value).toArray 38)) [.int .i64 sa, .int .i64 sb, .float .f32 sp] 114
  rw [show (w.alloc (.cells ([a, b, c, d] : List Value).toArray 38)).heap.size = w.heap.size + 1 from by simp] at X
  have X := Lib.hid X
  have Bw := Lib.hid (below_al2 w (.cells ([a, b, c, d] : List Value).toArray 38) (.cells ([.int .i64 sa, .int .i64 sb, .float .f32 sp] : List Value).toArray 114))
  simp only []
  cases B0 : inN r.W.length sa
  · skip
    have H0 := Lib.hid B0
    clear B0
    go_enter Tryd.func91, Tryd.ntmps91
    go_wp2_with fail
    refine (HR.out sa _ Bw.out).mono ?_
    rw [H0.out]
    rintro e w1 ⟨rfl, hb⟩
    have Bw := Lib.hid (below_step Bw.out hb)
    have A := Lib.hid (A.out.kept hb)
    have X := Lib.hid (X.out.kept hb)
    clear hb
    have c0 := A.out.at 0 rfl; have c1 := A.out.at 1 rfl; have c2 := A.out.at 2 rfl; have c3 := A.out.at 3 rfl; have d0 := X.out.at 0 rfl; have d1 := X.out.at 1 rfl; have d2 := X.out.at 2 rfl
    go_wp2
    go_ret
    exact ⟨ret_b (by simp), (by repeat (first | (with_reducible exact Bw.out) | (with_reducible refine below_drewN ?_ _) | (with_reducible exact Below.refl _ _) | (with_reducible refine Below.alloc ?_ (by first | exact Nat.le_refl _ | (simp; done) | (simp; omega) | omega) _)))⟩
  · skip
    cases B1 : inN r.W.length sb
    · skip
      have H0 := Lib.hid B0
      have H1 := Lib.hid B1
      clear B0 B1
      go_enter Tryd.func91, Tryd.ntmps91
      go_wp2_with fail
      refine (HR.out sa _ Bw.out).mono ?_
      rw [H0.out]
      rintro e w1 ⟨rfl, hb⟩
      have Bw := Lib.hid (below_step Bw.out hb)
      have A := Lib.hid (A.out.kept hb)
      have X := Lib.hid (X.out.kept hb)
      clear hb
      have c0 := A.out.at 0 rfl; have c1 := A.out.at 1 rfl; have c2 := A.out.at 2 rfl; have c3 := A.out.at 3 rfl; have d0 := X.out.at 0 rfl; have d1 := X.out.at 1 rfl; have d2 := X.out.at 2 rfl
      go_wp2_with fail
      refine (HR.out sb _ Bw.out).mono ?_
      rw [H1.out]
      rintro e w2 ⟨rfl, hb⟩
      have Bw := Lib.hid (below_step Bw.out hb)
      have A := Lib.hid (A.out.kept hb)
      have X := Lib.hid (X.out.kept hb)
      clear hb
      clear c0 c1 c2 c3 d0 d1 d2
      have c0 := A.out.at 0 rfl; have c1 := A.out.at 1 rfl; have c2 := A.out.at 2 rfl; have c3 := A.out.at 3 rfl; have d0 := X.out.at 0 rfl; have d1 := X.out.at 1 rfl; have d2 := X.out.at 2 rfl
      go_wp2
      go_ret
      exact ⟨ret_b (by simp), (by repeat (first | (with_reducible exact Bw.out) | (with_reducible refine below_drewN ?_ _) | (with_reducible exact Below.refl _ _) | (with_reducible refine Below.alloc ?_ (by first | exact Nat.le_refl _ | (simp; done) | (simp; omega) | omega) _)))⟩
    · skip
      cases B2 : (sa == sb)
      rotate_left
      · skip
        have H0 := Lib.hid B0
        have H1 := Lib.hid B1
        have o2 : (sa == sb) = true := B2
        have o3 : (sa != sb) = false := by rw [bne, o2]; rfl
        have H2 := Lib.hid B2
        clear B0 B1 B2
        go_enter Tryd.func91, Tryd.ntmps91
        go_wp2_with fail
        refine (HR.out sa _ Bw.out).mono ?_
        rw [H0.out]
        rintro e w1 ⟨rfl, hb⟩
        have Bw := Lib.hid (below_step Bw.out hb)
        have A := Lib.hid (A.out.kept hb)
        have X := Lib.hid (X.out.kept hb)
        clear hb
        have c0 := A.out.at 0 rfl; have c1 := A.out.at 1 rfl; have c2 := A.out.at 2 rfl; have c3 := A.out.at 3 rfl; have d0 := X.out.at 0 rfl; have d1 := X.out.at 1 rfl; have d2 := X.out.at 2 rfl
        go_wp2_with fail
        refine (HR.out sb _ Bw.out).mono ?_
        rw [H1.out]
        rintro e w2 ⟨rfl, hb⟩
        have Bw := Lib.hid (below_step Bw.out hb)
        have A := Lib.hid (A.out.kept hb)
        have X := Lib.hid (X.out.kept hb)
        clear hb
        clear c0 c1 c2 c3 d0 d1 d2
        have c0 := A.out.at 0 rfl; have c1 := A.out.at 1 rfl; have c2 := A.out.at 2 rfl; have c3 := A.out.at 3 rfl; have d0 := X.out.at 0 rfl; have d1 := X.out.at 1 rfl; have d2 := X.out.at 2 rfl
        go_wp2
        go_ret
        exact ⟨ret_b (by simp), (by repeat (first | (with_reducible exact Bw.out) | (with_reducible refine below_drewN ?_ _) | (with_reducible exact Below.refl _ _) | (with_reducible refine Below.alloc ?_ (by first | exact Nat.le_refl _ | (simp; done) | (simp; omega) | omega) _)))⟩
      · skip
        cases B3 : pos sp
        · skip
          have H0 := Lib.hid B0
          have H1 := Lib.hid B1
          have o2 : (sa == sb) = false := B2
          have o3 : (sa != sb) = true := by rw [bne, o2]; rfl
          have H2 := Lib.hid B2
          have H3 := Lib.hid B3
          clear B0 B1 B2 B3
          go_enter Tryd.func91, Tryd.ntmps91
          go_wp2_with fail
          refine (HR.out sa _ Bw.out).mono ?_
          rw [H0.out]
          rintro e w1 ⟨rfl, hb⟩
          have Bw := Lib.hid (below_step Bw.out hb)
          have A := Lib.hid (A.out.kept hb)
          have X := Lib.hid (X.out.kept hb)
          clear hb
          have c0 := A.out.at 0 rfl; have c1 := A.out.at 1 rfl; have c2 := A.out.at 2 rfl; have c3 := A.out.at 3 rfl; have d0 := X.out.at 0 rfl; have d1 := X.out.at 1 rfl; have d2 := X.out.at 2 rfl
          go_wp2_with fail
          refine (HR.out sb _ Bw.out).mono ?_
          rw [H1.out]
          rintro e w2 ⟨rfl, hb⟩
          have Bw := Lib.hid (below_step Bw.out hb)
          have A := Lib.hid (A.out.kept hb)
          have X := Lib.hid (X.out.kept hb)
          clear hb
          clear c0 c1 c2 c3 d0 d1 d2
          have c0 := A.out.at 0 rfl; have c1 := A.out.at 1 rfl; have c2 := A.out.at 2 rfl; have c3 := A.out.at 3 rfl; have d0 := X.out.at 0 rfl; have d1 := X.out.at 1 rfl; have d2 := X.out.at 2 rfl
          go_wp2_with fail
          refine (implPos_any sp _).mono ?_
          rw [H3.out]
          rintro e w' ⟨rfl, n3, rfl⟩
          go_wp2
          go_ret
          exact ⟨ret_b (by simp), (by repeat (first | (with_reducible exact Bw.out) | (with_reducible refine below_drewN ?_ _) | (with_reducible exact Below.refl _ _) | (with_reducible refine Below.alloc ?_ (by first | exact Nat.le_refl _ | (simp; done) | (simp; omega) | omega) _)))⟩
        · skip
          have H0 := Lib.hid B0
          have H1 := Lib.hid B1
          have o2 : (sa == sb) = false := B2
          have o3 : (sa != sb) = true := by rw [bne, o2]; rfl
          have H2 := Lib.hid B2
          have H3 := Lib.hid B3
          clear B0 B1 B2 B3
          go_enter Tryd.func91, Tryd.ntmps91
          go_wp2_with fail
          refine (HR.out sa _ Bw.out).mono ?_
          rw [H0.out]
          rintro e w1 ⟨rfl, hb⟩
          have Bw := Lib.hid (below_step Bw.out hb)
          have A := Lib.hid (A.out.kept hb)
          have X := Lib.hid (X.out.kept hb)
          clear hb
          have c0 := A.out.at 0 rfl; have c1 := A.out.at 1 rfl; have c2 := A.out.at 2 rfl; have c3 := A.out.at 3 rfl; have d0 := X.out.at 0 rfl; have d1 := X.out.at 1 rfl; have d2 := X.out.at 2 rfl
          go_wp2_with fail
          refine (HR.out sb _ Bw.out).mono ?_
          rw [H1.out]
          rintro e w2 ⟨rfl, hb⟩
          have Bw := Lib.hid (below_step Bw.out hb)
          have A := Lib.hid (A.out.kept hb)
          have X := Lib.hid (X.out.kept hb)
          clear hb
          clear c0 c1 c2 c3 d0 d1 d2
          have c0 := A.out.at 0 rfl; have c1 := A.out.at 1 rfl; have c2 := A.out.at 2 rfl; have c3 := A.out.at 3 rfl; have d0 := X.out.at 0 rfl; have d1 := X.out.at 1 rfl; have d2 := X.out.at 2 rfl
          go_wp2_with fail
          refine (implPos_any sp _).mono ?_
          rw [H3.out]
          rintro e w' ⟨rfl, n3, rfl⟩
          go_wp2
          go_ret
          exact ⟨ret_b (by simp), (by repeat (first | (with_reducible exact Bw.out) | (with_reducible refine below_drewN ?_ _) | (with_reducible exact Below.refl _ _) | (with_reducible refine Below.alloc ?_ (by first | exact Nat.le_refl _ | (simp; done) | (simp; omega) | omega) _)))⟩

def IdxW (b : Bool) (w : World) (e : Ending) (w' : World) : Prop := ∃ i : Int, e = .returned (.int .i64 i) ∧ decide (0 ≤ i) = b ∧ Below w.heap.size w w'
theorem litLk_any (a b c d : Value) (r : HS) (s : LK) (q : Nat) (w : World) (h : HRow w a b c d r) (h8 : r.W.length ≤ 8) (hq : w.cell? ⟨q, 0, none⟩ = some (.func (.func 91) #[.agg #[a, b, c, d]] #[])) :
    Calls Tryd.prog 128 #[.agg #[.int .i64 s.a, .int .i64 s.b, .float .f32 s.ps], .pointer (some ⟨q, 0, none⟩)] w (BolB (!(lkOk r.W.length s)) w) := by
  have TK := Lib.hid (fun w1 (hb : Below w.heap.size w w1) => takesLink_any a b c d r s w1 (h.below hb) h8)
  obtain ⟨sa, sb, sp⟩ := s
  generalize lkOk r.W.length ⟨sa, sb, sp⟩ = v at *
  have hlt := cell_lt hq
  clear h
  have hq2 : (w.alloc (.cells ([.int .i64 sa, .int .i64 sb, .float .f32 sp] : List Value).toArray 114)).cell? ⟨q, 0, none⟩ = some (.func (.func 91) #[.agg #[a, b, c, d]] #[]) := ((below_al1 w _).cell (p := ⟨q, 0, none⟩) hlt).trans hq
  have Bw := Lib.hid (below_al1 w (.cells ([.int .i64 sa, .int .i64 sb, .float .f32 sp] : List Value).toArray 114))
  go_enter Tryd.func128, Tryd.ntmps128
  go_wp2_with fail
  refine (TK.out _ Bw.out).mono ?_
  rintro e w1 ⟨rfl, hb⟩
  have Bw := Lib.hid (below_step Bw.out hb)
  clear hb
  go_wp2
  go_ret
  exact ⟨rfl, Bw.out⟩

set_option maxHeartbeats 800000 in
theorem idxLk_any (a b c d : Value) (r : HS) (v : Value) (zs : List LK) (q : Nat) (w : World) (hh : HRow w a b c d r) (h8 : r.W.length ≤ 8) (h : LRow w v zs) (hq : w.cell? ⟨q, 0, none⟩ = some (.func (.func 91) #[.agg #[a, b, c, d]] #[])) :
    Calls Tryd.prog 152 #[v, .func (.func 128) #[] #[.pointer (some ⟨q, 0, none⟩)]] w (IdxW (!(zs.all (lkOk r.W.length))) w) := by
  have hlt := cell_lt hq
  have TK := Lib.hid (fun s w1 (hb : Below w.heap.size w w1) => litLk_any a b c d r s q w1 (hh.below hb) h8 ((hb.cell (p := ⟨q, 0, none⟩) hlt).trans hq))
  have HC := Lib.hid (fun w1 (hb : Below w.heap.size w w1) (hn : 1 ≤ zs.length) => (h.below hb).cells LK.len hn)
  have VN := Lib.hid (fun k s (hs : zs[k]? = some s) (e : lkOk r.W.length s = false) => show zs.all (lkOk r.W.length) = false from allK_no hs e)
  have VY := Lib.hid (fun h => show zs.all (lkOk r.W.length) = true from allK_yes h)
  have AT := Lib.hid (fun k (hk : k < zs.length) => LK.at (zs := zs) hk)
  have HL := Lib.hid h.len
  obtain ⟨s0, cap, rfl⟩ := h.shape
  clear h hh hq
  generalize zs.all (lkOk r.W.length) = v at *
  generalize hm : zs.length = m at *
  have KL := Lib.hid hm
  clear hm
  go_enter Tryd.func152, Tryd.ntmps152
  go_wp2
  go_loopw [5, 8] (fun _ i wr => ∃ k : Nat, k ≤ m ∧ i = .int .i64 k ∧ Hid (∀ (j : Nat) (s : LK), j < k → zs[j]? = some s → lkOk r.W.length s = true) ∧ Hid (Below w.heap.size w wr)) (fun _ i _ => m - (intOf i).toNat)
  case atStart => exact ⟨0, Nat.zero_le _, rfl, Lib.hid (fun j s hj => absurd hj (Nat.not_lt_zero _)), Lib.hid (Below.refl _ _)⟩
  case round =>
    obtain ⟨k, hk, rfl, hall, Bw⟩ := hrel
    have hG := HL.out
    by_cases hlt : k < m
    · obtain ⟨b0, o0, c0, e, hc⟩ := HC.out wr Bw.out (by omega)
      have ea : s0 = some ⟨b0, o0, none⟩ := by cases e; rfl
      obtain ⟨s, hs⟩ := AT.out k hlt
      have z := hc k s hs
      have z0 : wr.cell? ⟨b0, o0 + k * 3, none⟩ = some (.int .i64 s.a) := z 0 _ rfl
      have z1 : wr.cell? ⟨b0, o0 + k * 3 + 1, none⟩ = some (.int .i64 s.b) := z 1 _ rfl
      have z2 : wr.cell? ⟨b0, o0 + k * 3 + 2, none⟩ = some (.float .f32 s.ps) := z 2 _ rfl
      have VNk := Lib.hid (VN.out k s hs)
      have HS := Lib.hid hs
      have TKs := Lib.hid (TK.out s wr Bw.out)
      clear e hc z hs HC VN AT TK
      subst ea
      have hi : (0 : Int) ≤ (k : Int) := by omega
      have hi' : (k : Int) < (m : Int) := by omega
      cases B : lkOk r.W.length s
      · have V := Lib.hid (VNk.out B)
        rw [B] at TKs
        clear B
        go_wp2_with fail
        refine TKs.out.mono ?_
        rintro e w1 ⟨rfl, hb⟩
        have Bw := Lib.hid (below_step Bw.out hb)
        clear hb
        go_wp2
        go_ret
        exact ⟨_, rfl, by rw [V.out]; simp, Bw.out⟩
      · have V := Lib.hid B
        rw [B] at TKs
        clear B
        go_wp2_with fail
        refine TKs.out.mono ?_
        rintro e w1 ⟨rfl, hb⟩
        have Bw := Lib.hid (below_step Bw.out hb)
        clear hb
        go_wp2
        go_roundw
        case rel => exact ⟨k + 1, by omega, by go_num, Lib.hid (fun j s' hj hs => by rcases Nat.lt_succ_iff_lt_or_eq.1 hj with h | h; exact hall.out j s' h hs; subst h; have he := HS.out.symm.trans hs; cases he; exact V.out), Bw⟩
        case measure => simp [intOf]; omega
    · have e := Lib.hid (show k = m by omega)
      have V := Lib.hid (VY.out (fun j s hs => hall.out j s (by have h1 := (List.getElem?_eq_some_iff.1 hs).1; have h2 := e.out; have h3 := KL.out; omega) hs))
      clear HC VN AT TK
      go_wp2
      go_ret
      exact ⟨_, rfl, by rw [V.out]; rfl, Bw.out⟩

theorem allLk_any (a b c d : Value) (r : HS) (v : Value) (zs : List LK) (w : World) (hh : HRow w a b c d r) (h8 : r.W.length ≤ 8) (h : LRow w v zs) :
    Calls Tryd.prog 90 #[v, .func (.func 91) #[.agg #[a, b, c, d]] #[]] w (BolB (zs.all (lkOk r.W.length)) w) := by
  have H := Lib.hid (fun w1 (hb : Below w.heap.size w w1) q hq => idxLk_any a b c d r v zs q w1 (hh.below hb) h8 (h.below hb) hq)
  have Bw := Lib.hid (below_al1 w (.cells ([.func (.func 91) #[.agg #[a, b, c, d]] #[]] : List Value).toArray 120))
  obtain ⟨s0, cap, rfl⟩ := h.shape
  clear h hh
  generalize zs.all (lkOk r.W.length) = V at *
  go_enter Tryd.func90, Tryd.ntmps90
  go_wp2_with (first | (go_at_call 152; refine (H.out _ Bw.out _ (by simp)).mono ?_; rintro e w1 ⟨i, rfl, hi, hb⟩; have Bw := Lib.hid (below_step Bw.out hb); have HI := Lib.hid hi; clear hb hi) | go_in)
  go_ret
  exact ⟨ret_b (by rw [HI.out]; simp), Bw.out⟩

theorem implHs_len (a b c d : Value) (r : HS) (w : World) (h : HRow w a b c d r) (hl : lenHs r = false) : Calls Tryd.prog 51 #[.agg #[a, b, c, d]] w (BolB (vHs r) w) := by
  have V := Lib.hid (vHs_len hl)
  have N0 := Lib.hid h.W.len
  have N1 := Lib.hid h.H.len
  have N2 := Lib.hid h.L.len
  have N3 := Lib.hid h.K.len
  obtain ⟨a1, a2, rfl⟩ := h.W.shape
  obtain ⟨b1, b2, rfl⟩ := h.H.shape
  obtain ⟨d1, d2, rfl⟩ := h.L.shape
  obtain ⟨e1, e2, rfl⟩ := h.K.shape
  clear h
  unfold lenHs at hl
  generalize vHs r = v at *
  generalize r.W.length = n at *
  generalize r.H.length = n1 at *
  generalize r.L.length = n2 at *
  generalize r.K.length = n3 at *
  have M0 := N0.out
  have M1 := N1.out
  have M2 := N2.out
  have M3 := N3.out
  by_cases g0 : 1 ≤ n
  rotate_left
  · skip
    have f0 : decide ((1 : Int) ≤ (n : Int)) = false := by simp; omega
    clear hl
    go_enter Tryd.func51, Tryd.ntmps51
    go_wp2
    go_ret
    exact ⟨ret_b V.out, below_al1 _ _⟩
  by_cases g1 : n ≤ 8
  rotate_left
  · skip
    have f0 : decide ((1 : Int) ≤ (n : Int)) = true := by simp; omega
    have f1 : decide ((n : Int) ≤ 8) = false := by simp; omega
    clear hl
    go_enter Tryd.func51, Tryd.ntmps51
    go_wp2
    go_ret
    exact ⟨ret_b V.out, below_al1 _ _⟩
  by_cases g2 : n1 = n
  rotate_left
  · skip
    have f0 : decide ((1 : Int) ≤ (n : Int)) = true := by simp; omega
    have f1 : decide ((n : Int) ≤ 8) = true := by simp; omega
    have f2 : ((n1 : Int) == (n : Int)) = false := by simp; omega
    clear hl
    go_enter Tryd.func51, Tryd.ntmps51
    go_wp2
    go_ret
    exact ⟨ret_b V.out, below_al1 _ _⟩
  by_cases g3 : n2 = n
  rotate_left
  · skip
    have f0 : decide ((1 : Int) ≤ (n : Int)) = true := by simp; omega
    have f1 : decide ((n : Int) ≤ 8) = true := by simp; omega
    have f2 : ((n1 : Int) == (n : Int)) = true := by simp; omega
    have f3 : ((n2 : Int) == (n : Int)) = false := by simp; omega
    clear hl
    go_enter Tryd.func51, Tryd.ntmps51
    go_wp2
    go_ret
    exact ⟨ret_b V.out, below_al1 _ _⟩
  by_cases g4 : n3 ≤ 24
  rotate_left
  · skip
    have f0 : decide ((1 : Int) ≤ (n : Int)) = true := by simp; omega
    have f1 : decide ((n : Int) ≤ 8) = true := by simp; omega
    have f2 : ((n1 : Int) == (n : Int)) = true := by simp; omega
    have f3 : ((n2 : Int) == (n : Int)) = true := by simp; omega
    have f4 : decide ((n3 : Int) ≤ 24) = false := by simp; omega
    clear hl
    go_enter Tryd.func51, Tryd.ntmps51
    go_wp2
    go_ret
    exact ⟨ret_b V.out, below_al1 _ _⟩
  exfalso
  rw [decide_eq_true g0, decide_eq_true g1, decide_eq_true g2, decide_eq_true g3, decide_eq_true g4] at hl
  cases hl

set_option maxRecDepth 10000 in
set_option maxHeartbeats 1600000 in
theorem implHs_ok (a b c d : Value) (r : HS) (w : World) (h : HRow w a b c d r) (hl : lenHs r = true) : Calls Tryd.prog 51 #[.agg #[a, b, c, d]] w (BolB (vHs r) w) := by
  have hn := HsN.of hl
  have VV := Lib.hid (show vHs r = (r.W.all (fin .f32) && r.H.all pos && r.L.all lst && r.K.all (lkOk r.W.length)) by unfold vHs; rw [hl]; rfl)
  have R0 := Lib.hid (fun w1 (hb : Below w.heap.size w w1) => allFin_any a r.W w1 (h.W.below hb))
  have R1 := Lib.hid (fun w1 (hb : Below w.heap.size w w1) => allPos_any b r.H w1 (h.H.below hb))
  have R2 := Lib.hid (fun w1 (hb : Below w.heap.size w w1) => allLst_any c r.L w1 (h.L.below hb))
  have R3 := Lib.hid (fun w1 (hb : Below w.heap.size w w1) => allLk_any a b c d r d r.K w1 (h.below hb) hn.b (h.K.below hb))
  have A := Lib.hid (Cells.made w [a, b, c, d] 38)
  have Bw := Lib.hid (below_al1 w (.cells ([a, b, c, d] : List Value).toArray 38))
  obtain ⟨a1, a2, rfl⟩ := h.W.shape
  obtain ⟨b1, b2, rfl⟩ := h.H.shape
  obtain ⟨d1, d2, rfl⟩ := h.L.shape
  obtain ⟨e1, e2, rfl⟩ := h.K.shape
  obtain ⟨g0, g1, g2, g3, g4⟩ := hn
  clear h hl
  generalize vHs r = v at *
  generalize r.W.all (fin .f32) = q0 at *
  generalize r.H.all pos = q1 at *
  generalize r.L.all lst = q2 at *
  generalize r.K.all (lkOk r.W.length) = q3 at *
  simp only [g2, g3] at R1 R2 R3 A Bw ⊢
  clear g2 g3
  generalize r.W.length = n at *
  generalize r.K.length = m at *
  have f0 : decide ((1 : Int) ≤ (n : Int)) = true := by simp; omega
  have f1 : decide ((n : Int) ≤ 8) = true := by simp; omega
  have f2 : ((n : Int) == (n : Int)) = true := by simp
  have f4 : decide ((m : Int) ≤ 24) = true := by simp; omega
  cases q0
  · skip
    go_enter Tryd.func51, Tryd.ntmps51
    go_wp2_with fail
    refine (R0.out _ Bw.out).mono ?_
    rintro e w1 ⟨rfl, hb⟩
    have Bw := Lib.hid (below_step Bw.out hb)
    have A := Lib.hid (A.out.kept hb)
    clear hb
    have c0 := A.out.at 0 rfl; have c1 := A.out.at 1 rfl; have c2 := A.out.at 2 rfl; have c3 := A.out.at 3 rfl
    go_wp2
    go_ret
    exact ⟨ret_b (by rw [VV.out]; simp), Bw.out⟩
  · skip
    cases q1
    · skip
      go_enter Tryd.func51, Tryd.ntmps51
      go_wp2_with fail
      refine (R0.out _ Bw.out).mono ?_
      rintro e w1 ⟨rfl, hb⟩
      have Bw := Lib.hid (below_step Bw.out hb)
      have A := Lib.hid (A.out.kept hb)
      clear hb
      have c0 := A.out.at 0 rfl; have c1 := A.out.at 1 rfl; have c2 := A.out.at 2 rfl; have c3 := A.out.at 3 rfl
      go_wp2_with fail
      refine (R1.out _ Bw.out).mono ?_
      rintro e w2 ⟨rfl, hb⟩
      have Bw := Lib.hid (below_step Bw.out hb)
      have A := Lib.hid (A.out.kept hb)
      clear hb
      clear c0 c1 c2 c3
      have c0 := A.out.at 0 rfl; have c1 := A.out.at 1 rfl; have c2 := A.out.at 2 rfl; have c3 := A.out.at 3 rfl
      go_wp2
      go_ret
      exact ⟨ret_b (by rw [VV.out]; simp), Bw.out⟩
    · skip
      cases q2
      · skip
        go_enter Tryd.func51, Tryd.ntmps51
        go_wp2_with fail
        refine (R0.out _ Bw.out).mono ?_
        rintro e w1 ⟨rfl, hb⟩
        have Bw := Lib.hid (below_step Bw.out hb)
        have A := Lib.hid (A.out.kept hb)
        clear hb
        have c0 := A.out.at 0 rfl; have c1 := A.out.at 1 rfl; have c2 := A.out.at 2 rfl; have c3 := A.out.at 3 rfl
        go_wp2_with fail
        refine (R1.out _ Bw.out).mono ?_
        rintro e w2 ⟨rfl, hb⟩
        have Bw := Lib.hid (below_step Bw.out hb)
        have A := Lib.hid (A.out.kept hb)
        clear hb
        clear c0 c1 c2 c3
        have c0 := A.out.at 0 rfl; have c1 := A.out.at 1 rfl; have c2 := A.out.at 2 rfl; have c3 := A.out.at 3 rfl
        go_wp2_with fail
        refine (R2.out _ Bw.out).mono ?_
        rintro e w3 ⟨rfl, hb⟩
        have Bw := Lib.hid (below_step Bw.out hb)
        have A := Lib.hid (A.out.kept hb)
        clear hb
        clear c0 c1 c2 c3
        have c0 := A.out.at 0 rfl; have c1 := A.out.at 1 rfl; have c2 := A.out.at 2 rfl; have c3 := A.out.at 3 rfl
        go_wp2
        go_ret
        exact ⟨ret_b (by rw [VV.out]; simp), Bw.out⟩
      · skip
        go_enter Tryd.func51, Tryd.ntmps51
        go_wp2_with fail
        refine (R0.out _ Bw.out).mono ?_
        rintro e w1 ⟨rfl, hb⟩
        have Bw := Lib.hid (below_step Bw.out hb)
        have A := Lib.hid (A.out.kept hb)
        clear hb
        have c0 := A.out.at 0 rfl; have c1 := A.out.at 1 rfl; have c2 := A.out.at 2 rfl; have c3 := A.out.at 3 rfl
        go_wp2_with fail
        refine (R1.out _ Bw.out).mono ?_
        rintro e w2 ⟨rfl, hb⟩
        have Bw := Lib.hid (below_step Bw.out hb)
        have A := Lib.hid (A.out.kept hb)
        clear hb
        clear c0 c1 c2 c3
        have c0 := A.out.at 0 rfl; have c1 := A.out.at 1 rfl; have c2 := A.out.at 2 rfl; have c3 := A.out.at 3 rfl
        go_wp2_with fail
        refine (R2.out _ Bw.out).mono ?_
        rintro e w3 ⟨rfl, hb⟩
        have Bw := Lib.hid (below_step Bw.out hb)
        have A := Lib.hid (A.out.kept hb)
        clear hb
        clear c0 c1 c2 c3
        have c0 := A.out.at 0 rfl; have c1 := A.out.at 1 rfl; have c2 := A.out.at 2 rfl; have c3 := A.out.at 3 rfl
        go_wp2_with fail
        refine (R3.out _ Bw.out).mono ?_
        rintro e w4 ⟨rfl, hb⟩
        have Bw := Lib.hid (below_step Bw.out hb)
        have A := Lib.hid (A.out.kept hb)
        clear hb
        clear c0 c1 c2 c3
        have c0 := A.out.at 0 rfl; have c1 := A.out.at 1 rfl; have c2 := A.out.at 2 rfl; have c3 := A.out.at 3 rfl
        go_wp2
        go_ret
        exact ⟨ret_b (by rw [VV.out]; simp), Bw.out⟩

theorem implHs_any (a b c d : Value) (r : HS) (w : World) (h : HRow w a b c d r) : Calls Tryd.prog 51 #[.agg #[a, b, c, d]] w (BolB (vHs r) w) := by
  cases hl : lenHs r
  · exact implHs_len a b c d r w h hl
  · exact implHs_ok a b c d r w h hl

end Go.Proofs.YtbgldggaiefhoaaDoor

/- Arguments that are houses, opened: three slices of numbers, and a slice of links. -/
namespace Go.Proofs.YtbgldggaiefhoaaDoor
open Go.RowKit Go.ChangeShapes Go.WideShapes Go.Joins Go.Deep

/-- a house's numbers are numbers -/
structure HWf (r : HS) : Prop where
  W : ∀ i, i < r.W.length → (Lit.float .f32 (r.W.getD i 0)).wf = true
  H : ∀ i, i < r.H.length → (Lit.float .f32 (r.H.getD i 0)).wf = true
  L : ∀ i, i < r.L.length → (Lit.float .f32 (r.L.getD i 0)).wf = true
  K : ∀ x ∈ r.K, x.wf

section
variable {H : Type} {enc : TypeId × Value → H} {P : Program} {w : World} {base : Nat} {spare : Nat → Bool} {held : Bool}

theorem trh_f32s {t e : TypeId} {n : Nat} {v : Value} {y : DataW H × List MemPlace} (ht : P.underlying t = some (.slice e)) (he : P.underlying e = some (.float .f32)) (hc : P.cellsOf e = 1)
    (h : DataW.trod enc P w base spare held n t [v] = some y) : ∃ zs, FRow w v zs ∧ ∀ i, i < zs.length → (Lit.float .f32 (zs.getD i 0)).wf = true := by
  have hv : ∃ a len cap, v = .slice a len cap := by
    rcases Deep.open_slice1 ht hc h with ⟨hcs, _⟩ | ⟨x, l, c, m, n, V, D, Pl, hcs, _⟩
    · simp at hcs; exact ⟨_, _, _, hcs⟩
    · simp at hcs; exact ⟨_, _, _, hcs⟩
  obtain ⟨a, len, cap, rfl⟩ := hv
  obtain ⟨zs, hz, hw⟩ := open_f32s (enc := enc) (P := P) (w := w) (base := base) (spare := spare) (held := held) (d := y.1) (ps := y.2) ht he hc ⟨n, by simpa [Value.cells] using h⟩
  exact ⟨zs, hz, hw⟩
theorem trh_i64 {t : TypeId} {n : Nat} {v : Value} {y : DataW H × List MemPlace} (he : P.underlying t = some (.int .i64)) (h : DataW.trod enc P w base spare held n t [v] = some y) :
    ∃ b, v = .int .i64 b ∧ (Lit.int .i64 b).wf = true := by
  cases n with
  | zero => simp [DataW.trod] at h
  | succ n =>
    cases v <;> simp [DataW.trod, he] at h
    rename_i k b
    obtain ⟨⟨rfl, hw⟩, _⟩ := h
    exact ⟨b, rfl, hw⟩
theorem tr_link {t : TypeId} {f0 f1 f2 : Field} {n : Nat} {cs : List Value} {y : DataW H × List MemPlace} (hs : P.underlying t = some (.struct #[f0, f1, f2])) (hone : oneCellFields P #[f0, f1, f2] = true) (hC : P.cellsOf t = 3)
    (e0 : P.underlying f0.type = some (.int .i64)) (e1 : P.underlying f1.type = some (.int .i64)) (e2 : P.underlying f2.type = some (.float .f32))
    (h : DataW.trod enc P w base spare held n t cs = some y) : ∃ s : LK, cs = s.vs ∧ s.wf := by
  obtain ⟨xs, m, _, _, hl, hx, hg⟩ := DataW.trod_struct hs h
  have hx' : xs.length = 3 := hx
  match cs, hl.trans hC, xs, hx' with
  | [c0, c1, c2], _, [y0, y1, y2], _ =>
    obtain ⟨o0, k0⟩ := hone_of hone 0 f0 rfl
    obtain ⟨o1, k1⟩ := hone_of hone 1 f1 rfl
    obtain ⟨o2, k2⟩ := hone_of hone 2 f2 rfl
    have g0 := hg 0 f0 rfl
    have g1 := hg 1 f1 rfl
    have g2 := hg 2 f2 rfl
    rw [o0, k0] at g0
    rw [o1, k1] at g1
    rw [o2, k2] at g2
    obtain ⟨b0, rfl, w0⟩ := trh_i64 e0 (show DataW.trod enc P w base spare held m f0.type [c0] = some y0 from g0)
    obtain ⟨b1, rfl, w1⟩ := trh_i64 e1 (show DataW.trod enc P w base spare held m f1.type [c1] = some y1 from g1)
    obtain ⟨b2, rfl, w2⟩ := trF_f32 e2 (show DataW.trod enc P w base spare held m f2.type [c2] = some y2 from g2)
    exact ⟨⟨b0, b1, b2⟩, rfl, w0, w1, w2⟩
theorem trh_links {t e : TypeId} {f0 f1 f2 : Field} {n : Nat} {v : Value} {y : DataW H × List MemPlace} (ht : P.underlying t = some (.slice e)) (hs : P.underlying e = some (.struct #[f0, f1, f2])) (hone : oneCellFields P #[f0, f1, f2] = true) (hC : P.cellsOf e = 3)
    (e0 : P.underlying f0.type = some (.int .i64)) (e1 : P.underlying f1.type = some (.int .i64)) (e2 : P.underlying f2.type = some (.float .f32))
    (h : DataW.trod enc P w base spare held n t [v] = some y) : ∃ zs, LRow w v zs ∧ ∀ x ∈ zs, x.wf := by
  have hv : ∃ a len cap, v = .slice a len cap := by
    rcases Deep.open_slice ht h with ⟨hcs, _⟩ | ⟨x, l, c, m, n, D, Pl, hcs, _⟩
    · simp at hcs; exact ⟨_, _, _, hcs⟩
    · simp at hcs; exact ⟨_, _, _, hcs⟩
  obtain ⟨a, len, cap, rfl⟩ := hv
  exact open_srow (enc := enc) (P := P) (w := w) (base := base) (spare := spare) (held := held) (d := y.1) (ps := y.2) LK.len (by decide) ht hC (fun n cs y h => tr_link hs hone hC e0 e1 e2 h) ⟨n, by simpa [Value.cells] using h⟩

theorem open_house {rr : Reach} {b0 : Nat} {t s e sb eb : TypeId} {f0 f1 f2 f3 g0 g1 g2 : Field} {v : Value} {d : DataW H} {p : List MemPlace} (hs : P.underlying t = some (.struct #[f0, f1, f2, f3])) (hone : oneCellFields P #[f0, f1, f2, f3] = true) (hC : P.cellsOf t = 4)
    (e0 : f0.type = s) (e1 : f1.type = s) (e2 : f2.type = s) (e3 : f3.type = sb)
    (us : P.underlying s = some (.slice e)) (ue : P.underlying e = some (.float .f32)) (uc : P.cellsOf e = 1) (usb : P.underlying sb = some (.slice eb)) (ueb : P.underlying eb = some (.struct #[g0, g1, g2])) (hob : oneCellFields P #[g0, g1, g2] = true) (ucb : P.cellsOf eb = 3)
    (d0 : P.underlying g0.type = some (.int .i64)) (d1 : P.underlying g1.type = some (.int .i64)) (d2 : P.underlying g2.type = some (.float .f32))
    (hv : Value.okWide P w rr b0 t v) (h : DataW.Trod enc P w base spare held t v d p) : ∃ (r : HS) (a b c d : Value), v = .agg #[a, b, c, d] ∧ HRow w a b c d r ∧ HWf r := by
  obtain ⟨cs, rfl, hsz⟩ := okWide_struct hs hv
  obtain ⟨l⟩ := cs
  obtain ⟨fuel, hf⟩ := h
  obtain ⟨xs, m, _, _, hl, hx, hg⟩ := DataW.trod_struct hs hf
  have hx' : xs.length = 4 := hx
  have hl' : l.length = 4 := by simpa [Value.cells] using hl.trans hC
  match l, hl', xs, hx' with
  | [c0, c1, c2, c3], _, [y0, y1, y2, y3], _ =>
    obtain ⟨o0, k0⟩ := hone_of hone 0 f0 rfl
    obtain ⟨o1, k1⟩ := hone_of hone 1 f1 rfl
    obtain ⟨o2, k2⟩ := hone_of hone 2 f2 rfl
    obtain ⟨o3, k3⟩ := hone_of hone 3 f3 rfl
    have g0 := hg 0 f0 rfl
    have g1 := hg 1 f1 rfl
    have g2 := hg 2 f2 rfl
    have g3 := hg 3 f3 rfl
    rw [o0, k0, e0] at g0
    rw [o1, k1, e1] at g1
    rw [o2, k2, e2] at g2
    rw [o3, k3, e3] at g3
    obtain ⟨z0, r0, w0⟩ := trh_f32s us ue uc (show DataW.trod enc P w base spare held m s [c0] = some y0 from g0)
    obtain ⟨z1, r1, w1⟩ := trh_f32s us ue uc (show DataW.trod enc P w base spare held m s [c1] = some y1 from g1)
    obtain ⟨z2, r2, w2⟩ := trh_f32s us ue uc (show DataW.trod enc P w base spare held m s [c2] = some y2 from g2)
    obtain ⟨z3, r3, w3⟩ := trh_links usb ueb hob ucb d0 d1 d2 (show DataW.trod enc P w base spare held m sb [c3] = some y3 from g3)
    exact ⟨⟨z0, z1, z2, z3⟩, c0, c1, c2, c3, rfl, ⟨r0, r1, r2, r3⟩, w0, w1, w2, w3⟩
end
end Go.Proofs.YtbgldggaiefhoaaDoor

/- The text of a house: both sides, and the law's walk. -/
namespace Go.Proofs.YtbgldggaiefhoaaDoor
open Go.RowKit
set_option linter.unusedVariables false

/-- the text of a link -/
def lkTx (s : LK) : ByteArray := lTx [s.a, s.b] ++ (⟨#[58]⟩ : ByteArray) ++ nTx [s.ps]
/-- the text of links -/
def lnTx (zs : List LK) : ByteArray := bif zs.isEmpty then ⟨#[110, 111, 110, 101]⟩ else jn 47 (zs.map lkTx)
def hLs (r : HS) : List (List Nat) := [r.W, r.H, r.L]
def hTx (r : HS) : ByteArray := nTx r.W ++ (⟨#[59]⟩ : ByteArray) ++ nTx r.H ++ (⟨#[59]⟩ : ByteArray) ++ nTx r.L ++ (⟨#[59]⟩ : ByteArray) ++ lnTx r.K
theorem jn3 (c : UInt8) (x y z : ByteArray) : jn c [x, y, z] = x ++ (⟨#[c]⟩ : ByteArray) ++ y ++ (⟨#[c]⟩ : ByteArray) ++ z := by
  rw [show [x, y, z] = ([x, y] ++ [z]) from rfl, jn_snoc _ _ _ (by simp), show [x, y] = ([x] ++ [y]) from rfl, jn_snoc _ _ _ (by simp), jn_one]
  simp only [ByteArray.append_assoc]
theorem ok1 {x : Nat} (h : (Lit.float .f32 x).wf = true) : LOk [x] := ⟨by simp, fun i hi => by
  match i, hi with
  | 0, _ => exact h
  | i + 1, hi => exact absurd hi (by show ¬ (i + 1 < 1); omega)⟩
theorem row1 {w : World} {p x : Nat} (h : Cells w p [.float .f32 x]) : FRow w (.slice (some ⟨p, 0, none⟩) 1 1) [x] := FRow.of_cells (zs := [x]) h (by show 1 ≤ 9223372036854775807; decide)
theorem rowI2 {w : World} {p : Nat} {x y : Int} (h : Cells w p [.int .i64 x, .int .i64 y]) : JRow w (.slice (some ⟨p, 0, none⟩) 2 2) [x, y] := JRow.of_cells (zs := [x, y]) h (by show 2 ≤ 9223372036854775807; decide)
/-- a link whose numbers are small -/
structure LkOk (s : LK) : Prop where
  a : 0 ≤ s.a ∧ s.a ≤ 100
  b : 0 ≤ s.b ∧ s.b ≤ 100
  ps : (Lit.float .f32 s.ps).wf = true
theorem LkOk.bd {s : LK} (h : LkOk s) : ∀ i, i < [s.a, s.b].length → -9223372036854775808 ≤ [s.a, s.b].getD i 0 ∧ [s.a, s.b].getD i 0 ≤ 9223372036854775807 := fun i hi => by
  obtain ⟨h1, h2⟩ := h.a
  obtain ⟨h3, h4⟩ := h.b
  match i, hi with
  | 0, _ => exact ⟨by show _ ≤ s.a; omega, by show s.a ≤ _; omega⟩
  | 1, _ => exact ⟨by show _ ≤ s.b; omega, by show s.b ≤ _; omega⟩
  | i + 2, hi => exact absurd hi (by show ¬ (i + 2 < 2); omega)
theorem LkOk.in {s : LK} (h : LkOk s) : okL [s.a, s.b] = true := by
  obtain ⟨h1, h2⟩ := h.a
  obtain ⟨h3, h4⟩ := h.b
  unfold okL inV
  simp
  omega
theorem lTx2_size {s : LK} (h : LkOk s) : (lTx [s.a, s.b]).size ≤ 44 := by
  have := jn_size 44 21 ([s.a, s.b].map decZ) (decs_le _ (fun z hz => by
    obtain ⟨j, hj, rfl⟩ := List.getElem_of_mem hz
    have := h.bd j hj
    rwa [List.getD_eq_getElem?_getD, List.getElem?_eq_getElem hj] at this))
  exact this
theorem lkTx_size {s : LK} (h : LkOk s) : (lkTx s).size ≤ 2349 := by
  unfold lkTx
  have h1 := lTx2_size h
  have h2 := nTx_size (ok1 h.ps).1
  simp only [ByteArray.size_append]
  have : (⟨#[58]⟩ : ByteArray).size = 1 := rfl
  omega
theorem lks_le {zs : List LK} (h : ∀ s ∈ zs, LkOk s) : ∀ x ∈ zs.map lkTx, x.size ≤ 2349 := by
  intro x hx
  obtain ⟨s, hs, rfl⟩ := List.mem_map.1 hx
  exact lkTx_size (h s hs)
theorem lnTx_size {zs : List LK} (h : ∀ s ∈ zs, LkOk s) (hl : zs.length ≤ 24) : (lnTx zs).size ≤ 56400 := by
  unfold lnTx
  cases zs with
  | nil => decide
  | cons x r =>
    have := jn_size 47 2349 ((x :: r).map lkTx) (lks_le h)
    rw [List.length_map] at this
    show (jn 47 ((x :: r).map lkTx)).size ≤ 56400
    omega
structure HOk (r : HS) : Prop where
  W : LOk r.W
  H : LOk r.H
  L : LOk r.L
  K : ∀ s ∈ r.K, LkOk s
  n : r.K.length ≤ 24
theorem vHs_ok {r : HS} (h : vHs r = true) (hw : HWf r) : HOk r := by
  unfold vHs lenHs at h
  simp only [Bool.and_eq_true, decide_eq_true_eq, List.all_eq_true] at h
  obtain ⟨⟨⟨⟨⟨⟨⟨⟨h1, h2⟩, h3⟩, h4⟩, h5⟩, _⟩, _⟩, _⟩, hk⟩ := h
  refine ⟨⟨by omega, hw.W⟩, ⟨by omega, hw.H⟩, ⟨by omega, hw.L⟩, fun s hs => ?_, h5⟩
  have := hk s hs
  unfold lkOk inN at this
  simp only [Bool.and_eq_true, decide_eq_true_eq] at this
  obtain ⟨⟨⟨⟨a1, a2⟩, ⟨b1, b2⟩⟩, _⟩, _⟩ := this
  exact ⟨⟨a1, by omega⟩, ⟨b1, by omega⟩, (hw.K s hs).2.2⟩

set_option maxHeartbeats 3200000 in
set_option maxRecDepth 20000 in
theorem specLnT_any (v : Value) (zs : List LK) (w : World) (h : LRow w v zs) (hk : ∀ s ∈ zs, LkOk s) (hl : zs.length ≤ 24) : Calls Tryd.prog 84 #[v] w fun e w' => e = .returned (.string (lnTx zs)) ∧ Below w.heap.size w w' := by
  by_cases h0 : zs = []
  · subst h0
    obtain ⟨a, cap, rfl⟩ := h.shape
    go_enter Tryd.func84, Tryd.ntmps84
    go_wp2
    go_ret
    exact ⟨rfl, Below.refl _ _⟩
  · have hn : 1 ≤ zs.length := by
      cases zs with
      | nil => exact absurd rfl h0
      | cons x r => simp
    have EN : lnTx zs = jn 47 (zs.map lkTx) := by
      unfold lnTx
      cases zs with
      | nil => exact absurd rfl h0
      | cons x r => rfl
    rw [EN]
    have HST := Lib.hid (fun k s (hs : zs[k]? = some s) => take_map_snoc lkTx zs k _ hs)
    have HSZ := Lib.hid (fun k => jn_size 47 2349 ((zs.take k).map lkTx) (lks_le (fun s hs => hk s (List.mem_of_mem_take hs))))
    have HOK := Lib.hid (fun k s (hs : zs[k]? = some s) => hk s (List.mem_of_getElem? hs))
    have AT := Lib.hid (fun k (hk : k < zs.length) => LK.at (zs := zs) hk)
    have ET : Hid ((zs.take zs.length).map lkTx = zs.map lkTx) := Lib.hid (by rw [List.take_length])
    have HN0 : Hid (∀ k, 1 ≤ k → k ≤ zs.length → (zs.take k).map lkTx ≠ []) := Lib.hid (by
      intro k h1 h2 e
      have := congrArg List.length e
      rw [List.length_map, List.length_take, List.length_nil] at this; omega)
    obtain ⟨b, off, cap, rfl, hc⟩ := h.cells LK.len hn
    have HC := Lib.hid (fun (w1 : World) (hb : Below w.heap.size w w1) k s (hs : zs[k]? = some s) j u (hu : s.vs[j]? = some u) => (hb.cell (p := ⟨b, off + (k * 3 + j), none⟩) (cell_lt (hc k s hs j u hu))).trans (hc k s hs j u hu))
    clear h hk hc EN h0
    generalize hlen : zs.length = n at *
    have hz0 : ((n : Int) == 0) = false := by simp; omega
    clear hlen
    go_enter Tryd.func84, Tryd.ntmps84
    go_wp2
    go_loopw [3, 4] (fun t i wr => ∃ k : Nat, k ≤ n ∧ i = .int .i64 k ∧ t = .string (if k = 0 then ⟨#[]⟩ else jn 47 ((zs.take k).map lkTx)) ∧ Hid (Below w.heap.size w wr)) (fun _ i _ => n - (intOf i).toNat)
    case atStart => exact ⟨0, Nat.zero_le _, rfl, rfl, Lib.hid (Below.refl _ _)⟩
    case round =>
      obtain ⟨k, hk, rfl, rfl, hb⟩ := hrel
      by_cases hlt : k < n
      · obtain ⟨s, hs⟩ := AT.out k hlt
        have hok := HOK.out k s hs
        have z := HC.out _ hb.out k s hs
        have x0 := Lib.hid (show wr.cell? ⟨b, off + k * 3, none⟩ = some (.int .i64 s.a) from z 0 _ rfl)
        have x1 := Lib.hid (show wr.cell? ⟨b, off + k * 3 + 1, none⟩ = some (.int .i64 s.b) from z 1 _ rfl)
        have x2 := Lib.hid (show wr.cell? ⟨b, off + k * 3 + 2, none⟩ = some (.float .f32 s.ps) from z 2 _ rfl)
        have KL := Lib.hid (fun w1 q (h : Cells w1 q [.int .i64 s.a, .int .i64 s.b]) => specLTx_any _ [s.a, s.b] w1 (rowI2 h) hok.bd (by show 2 ≤ 64; decide))
        have KN := Lib.hid (fun w1 q (h : Cells w1 q [.float .f32 s.ps]) => specNTx_any _ [s.ps] w1 (row1 h) (ok1 hok.ps).2 (ok1 hok.ps).1)
        have EE := HST.out k s hs
        have s1 := lTx2_size hok
        have s2 := nTx_size (ok1 hok.ps).1
        have s3 := HSZ.out k
        rw [List.length_map, List.length_take] at s3
        have ELK : lkTx s = lTx [s.a, s.b] ++ (⟨#[58]⟩ : ByteArray) ++ nTx [s.ps] := rfl
        have NE := HN0.out k
        clear z hs hok
        by_cases hk0 : k = 0
        · subst hk0
          rw [if_pos rfl]
          have REL : Hid (jn 47 ((zs.take 1).map lkTx) = (⟨#[]⟩ : ByteArray) ++ (lTx [s.a, s.b] ++ (⟨#[58]⟩ : ByteArray) ++ nTx [s.ps])) := Lib.hid (by
            rw [show 1 = 0 + 1 from rfl, EE, ELK, List.take_zero, List.map_nil, List.nil_append, jn_one]; exact ba_ext (by simp))
          clear EE ELK s3 NE
          have x0 := Lib.hid (show wr.cell? ⟨b, off, none⟩ = some (.int .i64 s.a) by have := x0.out; rwa [Nat.zero_mul, Nat.add_zero] at this)
          have x1 := Lib.hid (show wr.cell? ⟨b, off + 1, none⟩ = some (.int .i64 s.b) by have := x1.out; rwa [Nat.zero_mul, Nat.add_zero] at this)
          have x2 := Lib.hid (show wr.cell? ⟨b, off + 2, none⟩ = some (.float .f32 s.ps) by have := x2.out; rwa [Nat.zero_mul, Nat.add_zero] at this)
          generalize lTx [s.a, s.b] = tl at *
          generalize nTx [s.ps] = tn at *
          have n1 : ¬ (9223372036854775807 < tl.size + 1) := by omega
          have n2 : ¬ (9223372036854775807 < tl.size + 1 + tn.size) := by omega
          clear s1 s2
          have FACT := Lib.hid (fun w1 (hw : Ext wr w1) => And.intro (hw.cell x0.out) (And.intro (hw.cell x1.out) (hw.cell x2.out)))
          go_wp2
          refine wp_region_facts (Ext wr) (TS [(29, fLit 2 [.int .i64 s.a, .int .i64 s.b]), (30, fIs (.string tl)), (37, fLit 1 [.float .f32 s.ps]), (38, fIs (.string tn))]) (Pers.ext _) (TS.pers _) (Ext.start _) (by kernel_rfl) (by kernel_rfl) (by intro d v c a w h; cases d <;> exact h) ?_
          repeat (refine wpF_val rfl monoQ_end (by rintro _ ⟨⟩; rfl) ?_ (fun w1 hw1 => ?_) (fun K hK => ?_); rotate_left; (focus (have hF := FACT.out w1 hw1; go_simp; first | done | rfl)); go_simp; refine hK _ ?_; clear hK K)
          refine wpF_lit rfl 29 rfl 2 [.int .i64 s.a, .int .i64 s.b] 2 rfl (fun w1 => ?_) (fun q => ?_)
          · go_simp
          repeat (refine wpF_val rfl monoQ_end (by rintro _ ⟨⟩; rfl) ?_ (fun w1 hw1 => ?_) (fun K hK => ?_); rotate_left; (focus (have hF := FACT.out w1 hw1; go_simp; first | done | rfl)); go_simp; refine hK _ ?_; clear hK K)
          refine wpF_callF rfl 30 rfl 123 #[.slice (some ⟨q, 0, none⟩) 2 2] (fIs (.string tl)) rfl (fun w1 => ?_) (fun w1 hC hN => ?_) (fun v1 hv1 => ?_)
          · go_simp
          · refine (KL.out w1 q (lit_of (fact_needL (d := 29) rfl hN (by kernel_rfl) (by repeat (first | exact Or.inr ⟨rfl, rfl⟩ | refine Or.inl ?_))))).mono ?_
            rintro _ w2 ⟨rfl, hb⟩
            exact ⟨_, rfl, hb, rfl⟩
          obtain ⟨_, rfl⟩ := hv1
          repeat (refine wpF_val rfl monoQ_end (by rintro _ ⟨⟩; rfl) ?_ (fun w1 hw1 => ?_) (fun K hK => ?_); rotate_left; (focus (have hF := FACT.out w1 hw1; go_simp; first | done | rfl)); go_simp; refine hK _ ?_; clear hK K)
          refine wpF_lit rfl 37 rfl 1 [.float .f32 s.ps] 54 rfl (fun w1 => ?_) (fun q2 => ?_)
          · go_simp
          repeat (refine wpF_val rfl monoQ_end (by rintro _ ⟨⟩; rfl) ?_ (fun w1 hw1 => ?_) (fun K hK => ?_); rotate_left; (focus (have hF := FACT.out w1 hw1; go_simp; first | done | rfl)); go_simp; refine hK _ ?_; clear hK K)
          refine wpF_callF rfl 38 rfl 75 #[.slice (some ⟨q2, 0, none⟩) 1 1] (fIs (.string tn)) rfl (fun w1 => ?_) (fun w1 hC hN => ?_) (fun v1 hv1 => ?_)
          · go_simp
          · refine (KN.out w1 q2 (lit_of (fact_needL (d := 37) rfl hN (by kernel_rfl) (by repeat (first | exact Or.inr ⟨rfl, rfl⟩ | refine Or.inl ?_))))).mono ?_
            rintro _ w2 ⟨rfl, hb⟩
            exact ⟨_, rfl, hb, rfl⟩
          obtain ⟨_, rfl⟩ := hv1
          repeat (refine wpF_val rfl monoQ_end (by rintro _ ⟨⟩; rfl) ?_ (fun w1 hw1 => ?_) (fun K hK => ?_); rotate_left; (focus (have hF := FACT.out w1 hw1; go_simp; first | done | rfl)); go_simp; refine hK _ ?_; clear hK K)
          refine wpFacts_nil ?_
          intro w3 hb3 _
          have B3 := Lib.hid (below_step hb.out hb3)
          clear hb3 FACT
          go_wp2
          go_roundw
          case rel => exact ⟨1, by omega, by go_num, by rw [if_neg (by omega), REL.out], B3⟩
          case measure => simp [intOf]; omega
        · have EE2 : jn 47 ((zs.take (k + 1)).map lkTx) = jn 47 ((zs.take k).map lkTx) ++ ((⟨#[47]⟩ : ByteArray) ++ lkTx s) := by
            rw [EE, jn_snoc _ _ _ (NE (by omega) hk)]
          rw [if_neg hk0]
          have REL : Hid (jn 47 ((zs.take (k + 1)).map lkTx) = jn 47 ((zs.take k).map lkTx) ++ (⟨#[47]⟩ : ByteArray) ++ (lTx [s.a, s.b] ++ (⟨#[58]⟩ : ByteArray) ++ nTx [s.ps])) := Lib.hid (by
            rw [EE2, ELK]; simp only [ByteArray.append_assoc])
          clear EE EE2 ELK NE
          generalize jn 47 ((zs.take k).map lkTx) = tk at *
          generalize lTx [s.a, s.b] = tl at *
          generalize nTx [s.ps] = tn at *
          have n0 : ¬ (9223372036854775807 < tk.size + 1) := by omega
          have n1 : ¬ (9223372036854775807 < tl.size + 1) := by omega
          have n2 : ¬ (9223372036854775807 < tl.size + 1 + tn.size) := by omega
          have n3 : ¬ (9223372036854775807 < tk.size + 1 + (tl.size + 1 + tn.size)) := by omega
          have kp : decide ((0 : Int) < (k : Int)) = true := by simp; omega
          clear s1 s2 s3
          have FACT := Lib.hid (fun w1 (hw : Ext wr w1) => And.intro (hw.cell x0.out) (And.intro (hw.cell x1.out) (hw.cell x2.out)))
          go_wp2
          refine wp_region_facts (Ext wr) (TS [(29, fLit 2 [.int .i64 s.a, .int .i64 s.b]), (30, fIs (.string tl)), (37, fLit 1 [.float .f32 s.ps]), (38, fIs (.string tn))]) (Pers.ext _) (TS.pers _) (Ext.start _) (by kernel_rfl) (by kernel_rfl) (by intro d v c a w h; cases d <;> exact h) ?_
          repeat (refine wpF_val rfl monoQ_end (by rintro _ ⟨⟩; rfl) ?_ (fun w1 hw1 => ?_) (fun K hK => ?_); rotate_left; (focus (have hF := FACT.out w1 hw1; go_simp; first | done | rfl)); go_simp; refine hK _ ?_; clear hK K)
          refine wpF_lit rfl 29 rfl 2 [.int .i64 s.a, .int .i64 s.b] 2 rfl (fun w1 => ?_) (fun q => ?_)
          · go_simp
          repeat (refine wpF_val rfl monoQ_end (by rintro _ ⟨⟩; rfl) ?_ (fun w1 hw1 => ?_) (fun K hK => ?_); rotate_left; (focus (have hF := FACT.out w1 hw1; go_simp; first | done | rfl)); go_simp; refine hK _ ?_; clear hK K)
          refine wpF_callF rfl 30 rfl 123 #[.slice (some ⟨q, 0, none⟩) 2 2] (fIs (.string tl)) rfl (fun w1 => ?_) (fun w1 hC hN => ?_) (fun v1 hv1 => ?_)
          · go_simp
          · refine (KL.out w1 q (lit_of (fact_needL (d := 29) rfl hN (by kernel_rfl) (by repeat (first | exact Or.inr ⟨rfl, rfl⟩ | refine Or.inl ?_))))).mono ?_
            rintro _ w2 ⟨rfl, hb⟩
            exact ⟨_, rfl, hb, rfl⟩
          obtain ⟨_, rfl⟩ := hv1
          repeat (refine wpF_val rfl monoQ_end (by rintro _ ⟨⟩; rfl) ?_ (fun w1 hw1 => ?_) (fun K hK => ?_); rotate_left; (focus (have hF := FACT.out w1 hw1; go_simp; first | done | rfl)); go_simp; refine hK _ ?_; clear hK K)
          refine wpF_lit rfl 37 rfl 1 [.float .f32 s.ps] 54 rfl (fun w1 => ?_) (fun q2 => ?_)
          · go_simp
          repeat (refine wpF_val rfl monoQ_end (by rintro _ ⟨⟩; rfl) ?_ (fun w1 hw1 => ?_) (fun K hK => ?_); rotate_left; (focus (have hF := FACT.out w1 hw1; go_simp; first | done | rfl)); go_simp; refine hK _ ?_; clear hK K)
          refine wpF_callF rfl 38 rfl 75 #[.slice (some ⟨q2, 0, none⟩) 1 1] (fIs (.string tn)) rfl (fun w1 => ?_) (fun w1 hC hN => ?_) (fun v1 hv1 => ?_)
          · go_simp
          · refine (KN.out w1 q2 (lit_of (fact_needL (d := 37) rfl hN (by kernel_rfl) (by repeat (first | exact Or.inr ⟨rfl, rfl⟩ | refine Or.inl ?_))))).mono ?_
            rintro _ w2 ⟨rfl, hb⟩
            exact ⟨_, rfl, hb, rfl⟩
          obtain ⟨_, rfl⟩ := hv1
          repeat (refine wpF_val rfl monoQ_end (by rintro _ ⟨⟩; rfl) ?_ (fun w1 hw1 => ?_) (fun K hK => ?_); rotate_left; (focus (have hF := FACT.out w1 hw1; go_simp; first | done | rfl)); go_simp; refine hK _ ?_; clear hK K)
          refine wpFacts_nil ?_
          intro w3 hb3 _
          have B3 := Lib.hid (below_step hb.out hb3)
          clear hb3 FACT
          go_wp2
          go_roundw
          case rel => exact ⟨k + 1, by omega, by go_num, by rw [if_neg (by omega), REL.out], B3⟩
          case measure => simp [intOf]; omega
      · have e : k = n := by omega
        subst e
        rw [if_neg (by omega), ET.out]
        go_wp2
        go_ret
        exact ⟨rfl, hb.out⟩

theorem lrowsW {w : World} {q : Nat} {v : Value} {l : List Nat} (hq : w.cell? ⟨q, 0, none⟩ = some v) (hr : FRow w v l) (ho : LOk l) : LRows w q [v] [l] :=
  ⟨rfl, fun j hj => by
    match j, hj with
    | 0, _ => exact hq
    | j + 1, hj => exact absurd hj (by show ¬ (j + 1 < 1); omega), fun j hj => by
    match j, hj with
    | 0, _ => exact hr
    | j + 1, hj => exact absurd hj (by show ¬ (j + 1 < 1); omega), fun j hj => by
    match j, hj with
    | 0, _ => exact ho
    | j + 1, hj => exact absurd hj (by show ¬ (j + 1 < 1); omega)⟩

set_option maxHeartbeats 3200000 in
set_option maxRecDepth 20000 in
theorem implLnT_any (v : Value) (zs : List LK) (w : World) (h : LRow w v zs) (hk : ∀ s ∈ zs, LkOk s) (hl : zs.length ≤ 24) (ht : Tabs w) : Calls Tryd.prog 52 #[v] w fun e w' => e = .returned (.string (lnTx zs)) ∧ Below w.heap.size w w' := by
  by_cases h0 : zs = []
  · subst h0
    obtain ⟨a, cap, rfl⟩ := h.shape
    go_enter Tryd.func52, Tryd.ntmps52
    go_wp2
    go_ret
    exact ⟨rfl, Below.refl _ _⟩
  · have hn : 1 ≤ zs.length := by
      cases zs with
      | nil => exact absurd rfl h0
      | cons x r => simp
    have EN : lnTx zs = jn 47 (zs.map lkTx) := by
      unfold lnTx
      cases zs with
      | nil => exact absurd rfl h0
      | cons x r => rfl
    rw [EN]
    have HT := Lib.hid ht
    have HOK := Lib.hid (fun k s (hs : zs[k]? = some s) => hk s (List.mem_of_getElem? hs))
    have AT := Lib.hid (fun k (hk : k < zs.length) => LK.at (zs := zs) hk)
    have hmk := run_make_row' (P := Tryd.prog) 108 9 (.string ⟨#[]⟩) 16 Tryd.underlying108 Tryd.rowOfZ rfl .i64 .i64 zs.length (by omega) (by omega)
    have HJ := Lib.hid (fun (w1 : World) (bk : Nat) (hcells : ∀ (j : Nat) x, (zs.map lkTx)[j]? = some x → w1.cell? ⟨bk, 0 + j, none⟩ = some (.string x)) (hbk : bk < w1.heap.size) =>
      show Calls Tryd.prog 79 #[.slice (some ⟨bk, 0, none⟩) (zs.map lkTx).length zs.length, .string ⟨#[47]⟩] w1 (fun e w' => e = .returned (.string (jn 47 (zs.map lkTx))) ∧ Below w1.heap.size w1 w') from Tryd.strings_Join bk 0 zs.length (zs.map lkTx) ⟨#[47]⟩ w1 hcells hbk (by rw [List.length_map]; omega) (by rw [List.length_map]; exact Nat.le_refl _) (by
        have := jn_len 47 2349 (zs.map lkTx) (lks_le hk)
        rw [List.length_map] at this
        show (Lib.join _ [47]).length ≤ _
        omega))
    have HG := Lib.hid (fun j (hj : j < zs.length) => show (zs.map lkTx)[j]? = some (lkTx (zs.getD j ⟨0, 0, 0⟩)) by rw [List.getElem?_map, List.getElem?_eq_getElem hj, List.getD_eq_getElem?_getD, List.getElem?_eq_getElem hj]; rfl)
    have HGD := Lib.hid (fun k s (hs : zs[k]? = some s) => show zs.getD k ⟨0, 0, 0⟩ = s by rw [List.getD_eq_getElem?_getD, hs]; rfl)
    have HLm : Hid ((zs.map lkTx).length = zs.length) := Lib.hid (List.length_map _)
    obtain ⟨b, off, cap, rfl, hc⟩ := h.cells LK.len hn
    have HC := Lib.hid (fun (w1 : World) (hb : Below w.heap.size w w1) k s (hs : zs[k]? = some s) j u (hu : s.vs[j]? = some u) => (hb.cell (p := ⟨b, off + (k * 3 + j), none⟩) (cell_lt (hc k s hs j u hu))).trans (hc k s hs j u hu))
    clear h hk hc EN h0 ht
    generalize jn 47 (zs.map lkTx) = T at *
    generalize hlen : zs.length = n at *
    clear hlen
    have hz0 : ((n : Int) == 0) = false := by simp; omega
    have R0 := Lib.hid ((World.rowIs_made w (.string ⟨#[]⟩) n 9).congr (g := fun j => .string (if j < 0 then lkTx (zs.getD j ⟨0, 0, 0⟩) else ⟨#[]⟩)) (fun j _ => by simp))
    go_enter Tryd.func52, Tryd.ntmps52
    go_wp2
    go_loopw [16] (fun i wr => ∃ k : Nat, k ≤ n ∧ i = .int .i64 k ∧ Hid (Below w.heap.size w wr) ∧ Hid (wr.rowIs w.heap.size 9 n (fun j => .string (if j < k then lkTx (zs.getD j ⟨0, 0, 0⟩) else ⟨#[]⟩)))) (fun i _ => n - (intOf i).toNat)
    case atStart => exact ⟨0, by omega, rfl, Lib.hid (below_al1 w _), R0⟩
    case round =>
      obtain ⟨k, hk, rfl, hb, hr⟩ := hrel
      by_cases hlt : k < n
      · obtain ⟨s, hs⟩ := AT.out k hlt
        have hok := HOK.out k s hs
        have z := HC.out _ hb.out k s hs
        have x0 : wr.cell? ⟨b, off + k * 3, none⟩ = some (.int .i64 s.a) := z 0 _ rfl
        have x1 : wr.cell? ⟨b, off + k * 3 + 1, none⟩ = some (.int .i64 s.b) := z 1 _ rfl
        have x2 : wr.cell? ⟨b, off + k * 3 + 2, none⟩ = some (.float .f32 s.ps) := z 2 _ rfl
        have EG := Lib.hid (HGD.out k s hs)
        have s1 := lTx2_size hok
        have s2 := nTx_size (ok1 hok.ps).1
        -- the link's own block, then the row of its rooms
        have B2 := Lib.hid ((hb.out.alloc hb.out.size (.cells #[.int .i64 s.a, .int .i64 s.b, .float .f32 s.ps] 114)).alloc (by have := hb.out.size; simp; omega) (.cells #[.int .i64 s.a, .int .i64 s.b] 2))
        have A2 := Lib.hid ((Cells.made wr [.int .i64 s.a, .int .i64 s.b, .float .f32 s.ps] 114).al (.cells #[.int .i64 s.a, .int .i64 s.b] 2))
        have C3 := Cells.made (wr.alloc (.cells #[.int .i64 s.a, .int .i64 s.b, .float .f32 s.ps] 114)) [.int .i64 s.a, .int .i64 s.b] 2
        rw [show (wr.alloc (.cells #[.int .i64 s.a, .int .i64 s.b, .float .f32 s.ps] 114)).heap.size = wr.heap.size + 1 from by simp] at C3
        have R2 := Lib.hid ((hr.out.alloc (.cells #[.int .i64 s.a, .int .i64 s.b, .float .f32 s.ps] 114)).alloc (.cells #[.int .i64 s.a, .int .i64 s.b] 2))
        have KL := implLT_any (.slice (some ⟨wr.heap.size + 1, 0, none⟩) 2 2) [s.a, s.b] _ (rowI2 C3) hok.bd (HT.out.below B2.out)
        unfold TyB at KL
        rw [hok.in] at KL
        have KL := Lib.hid KL
        have KN := Lib.hid (fun w1 q p (hT : Tabs w1) (hq : w1.cell? ⟨q, 0, none⟩ = some (.slice (some ⟨p, 0, none⟩) 1 1)) (hp : Cells w1 p [.float .f32 s.ps]) => show Calls Tryd.prog 43 #[.slice (some ⟨q, 0, none⟩) 1 1] w1 (fun e w' => e = .returned (.string (nTx [s.ps])) ∧ Below w1.heap.size w1 w') from by
          have := textLists_any q _ [[s.ps]] w1 (lrowsW hq (row1 hp) (ok1 hok.ps)) (by simp) (by simp) hT
          rwa [show jn 59 ([[s.ps]].map nTx) = nTx [s.ps] from jn_one 59 _] at this)
        have ELK : Hid (lTx [s.a, s.b] ++ (⟨#[58]⟩ : ByteArray) ++ nTx [s.ps] = lkTx s) := Lib.hid rfl
        clear z hs hok C3
        generalize lTx [s.a, s.b] = tl at *
        generalize nTx [s.ps] = tn at *
        have n1 : ¬ (9223372036854775807 < tl.size + 1) := by omega
        have n2 : ¬ (9223372036854775807 < tl.size + 1 + tn.size) := by omega
        clear s1 s2
        go_wp2_with fail
        refine KL.out.mono ?_
        rintro e w2 ⟨rfl, hb2⟩
        have B3 := Lib.hid (below_step B2.out hb2)
        have A3 := Lib.hid (A2.out.kept hb2)
        have R3 := Lib.hid (R2.out.of_block (hb2.block _ R2.out.lt))
        have y2 := A3.out.at 2 rfl
        clear hb2 x0 x1 x2
        have B4 := Lib.hid ((B3.out.alloc B3.out.size (.cells #[.float .f32 s.ps] 54)).alloc (by have := B3.out.size; simp; omega) (.cells #[.slice (some ⟨w2.heap.size, 0, none⟩) 1 1] 30))
        have P4 := (Cells.made w2 [.float .f32 s.ps] 54).al (.cells #[.slice (some ⟨w2.heap.size, 0, none⟩) 1 1] 30)
        have Q4 := Cells.made (w2.alloc (.cells #[.float .f32 s.ps] 54)) [.slice (some ⟨w2.heap.size, 0, none⟩) 1 1] 30
        rw [show (w2.alloc (.cells #[.float .f32 s.ps] 54)).heap.size = w2.heap.size + 1 from by simp] at Q4
        have R4 := Lib.hid ((R3.out.alloc (.cells #[.float .f32 s.ps] 54)).alloc (.cells #[.slice (some ⟨w2.heap.size, 0, none⟩) 1 1] 30))
        have KX := Lib.hid (KN.out _ (w2.heap.size + 1) w2.heap.size (HT.out.below B4.out) (Q4.at 0 rfl) P4)
        clear P4 Q4
        go_wp2_with fail
        refine KX.out.mono ?_
        rintro e w3 ⟨rfl, hb3⟩
        have B5 := Lib.hid (below_step B4.out hb3)
        have R5 := Lib.hid (R4.out.of_block (hb3.block _ R4.out.lt))
        clear hb3 y2
        have C1 := R5.out.cell hlt
        have F1 := R5.out.frozen k
        have R6 := Lib.hid (R5.out.set k (.string (tl ++ (⟨#[58]⟩ : ByteArray) ++ tn)))
        have B6 := Lib.hid (B5.out.setCell (p := ⟨w.heap.size, k, none⟩) (Nat.le_refl _) (.string (tl ++ (⟨#[58]⟩ : ByteArray) ++ tn)))
        have HX := Lib.hid (fun j => show (if j = k then (.string (tl ++ (⟨#[58]⟩ : ByteArray) ++ tn) : Value) else .string (if j < k then lkTx (zs.getD j ⟨0, 0, 0⟩) else ⟨#[]⟩)) = .string (if j < k + 1 then lkTx (zs.getD j ⟨0, 0, 0⟩) else ⟨#[]⟩) by
          by_cases e : j = k
          · subst e; rw [if_pos rfl, if_pos (by omega), EG.out, ELK.out]
          · rw [if_neg e]
            by_cases e2 : j < k
            · rw [if_pos e2, if_pos (by omega)]
            · rw [if_neg e2, if_neg (by omega)])
        rw [if_neg (Nat.lt_irrefl k)] at C1
        go_wp2
        go_roundw
        case rel => exact ⟨k + 1, by omega, by go_num, B6, Lib.hid (R6.out.congr (fun j _ => HX.out j))⟩
        case measure => simp [intOf]; omega
      · have e : k = n := by omega
        subst e
        have HA := HJ.out wr w.heap.size (fun j x hx => by
          have hj : j < k := by
            by_cases hj : j < k
            · exact hj
            · rw [List.getElem?_eq_none (by rw [HLm.out]; omega)] at hx; cases hx
          rw [HG.out j hj] at hx
          cases hx
          rw [Nat.zero_add, hr.out.cell hj, if_pos hj]) hr.out.lt
        rw [HLm.out] at HA
        have HA := Lib.hid HA
        clear HJ
        go_wp2_with fail
        refine HA.out.mono ?_
        rintro e w2 ⟨rfl, hb2⟩
        have B2 := Lib.hid (below_step hb.out hb2)
        clear hb2
        go_wp2
        go_ret
        exact ⟨rfl, B2.out⟩

set_option maxHeartbeats 3200000 in
set_option maxRecDepth 20000 in
theorem specHsT_any (a b c d : Value) (r : HS) (p : Nat) (w : World) (A : Cells w p (hvs a b c d)) (h : HRow w a b c d r) (ho : HOk r) : Calls Tryd.prog 48 #[.pointer (some ⟨p, 0, none⟩)] w fun e w' => e = .returned (.string (hTx r)) ∧ Below w.heap.size w w' := by
  have EN : hTx r = nTx r.W ++ (⟨#[59]⟩ : ByteArray) ++ nTx r.H ++ (⟨#[59]⟩ : ByteArray) ++ nTx r.L ++ (⟨#[59]⟩ : ByteArray) ++ lnTx r.K := rfl
  rw [EN]
  clear EN
  have KW := Lib.hid (fun w1 (hb : Below w.heap.size w w1) => specNTx_any a r.W w1 (h.below hb).W ho.W.2 ho.W.1)
  have KE := Lib.hid (fun w1 (hb : Below w.heap.size w w1) => specNTx_any b r.H w1 (h.below hb).H ho.H.2 ho.H.1)
  have KH := Lib.hid (fun w1 (hb : Below w.heap.size w w1) => specNTx_any c r.L w1 (h.below hb).L ho.L.2 ho.L.1)
  have KT := Lib.hid (fun w1 (hb : Below w.heap.size w w1) => specLnT_any d r.K w1 (h.below hb).K ho.K ho.n)
  have s1 := nTx_size ho.W.1
  have s2 := nTx_size ho.H.1
  have s3 := nTx_size ho.L.1
  have s4 := lnTx_size ho.K ho.n
  have HA := Lib.hid A
  clear h ho A
  generalize nTx r.W = ta at *
  generalize nTx r.H = tb at *
  generalize nTx r.L = tc at *
  generalize lnTx r.K = td at *
  have n1 : ¬ (9223372036854775807 < ta.size + 1) := by omega
  have n2 : ¬ (9223372036854775807 < ta.size + 1 + tb.size) := by omega
  have n3 : ¬ (9223372036854775807 < ta.size + 1 + tb.size + 1) := by omega
  have n4 : ¬ (9223372036854775807 < ta.size + 1 + tb.size + 1 + tc.size) := by omega
  have n5 : ¬ (9223372036854775807 < ta.size + 1 + tb.size + 1 + tc.size + 1) := by omega
  have n6 : ¬ (9223372036854775807 < ta.size + 1 + tb.size + 1 + tc.size + 1 + td.size) := by omega
  clear s1 s2 s3 s4
  have FACT := Lib.hid (fun w1 (hw : Ext w w1) => And.intro (hw.cell (HA.out.at 0 rfl)) (And.intro (hw.cell (HA.out.at 1 rfl)) (And.intro (hw.cell (HA.out.at 2 rfl)) (hw.cell (HA.out.at 3 rfl)))))
  go_enter Tryd.func48, Tryd.ntmps48
  go_wp2
  refine wp_region_facts (Ext w) (TS [(7, fIs (.string ta)), (13, fIs (.string tb)), (20, fIs (.string tc)), (27, fIs (.string td))]) (Pers.ext _) (TS.pers _) (Ext.start _) (by kernel_rfl) (by kernel_rfl) (by intro d v c a w h; cases d <;> exact h) ?_
  repeat (refine wpF_val rfl monoQ_end (by rintro _ ⟨⟩; rfl) ?_ (fun w1 hw1 => ?_) (fun K hK => ?_); rotate_left; (focus (have hF := FACT.out w1 hw1; go_simp; first | done | rfl)); go_simp; refine hK _ ?_; clear hK K)
  refine wpF_callF rfl 7 rfl 75 #[a] (fIs (.string ta)) rfl (fun w1 => ?_) (fun w1 hC hN => ?_) (fun v1 hv1 => ?_)
  · go_simp
  · refine (KW.out w1 hC).mono ?_
    rintro _ w2 ⟨rfl, hb⟩
    exact ⟨_, rfl, hb, rfl⟩
  obtain ⟨_, rfl⟩ := hv1
  repeat (refine wpF_val rfl monoQ_end (by rintro _ ⟨⟩; rfl) ?_ (fun w1 hw1 => ?_) (fun K hK => ?_); rotate_left; (focus (have hF := FACT.out w1 hw1; go_simp; first | done | rfl)); go_simp; refine hK _ ?_; clear hK K)
  refine wpF_callF rfl 13 rfl 75 #[b] (fIs (.string tb)) rfl (fun w1 => ?_) (fun w1 hC hN => ?_) (fun v1 hv1 => ?_)
  · go_simp
  · refine (KE.out w1 hC).mono ?_
    rintro _ w2 ⟨rfl, hb⟩
    exact ⟨_, rfl, hb, rfl⟩
  obtain ⟨_, rfl⟩ := hv1
  repeat (refine wpF_val rfl monoQ_end (by rintro _ ⟨⟩; rfl) ?_ (fun w1 hw1 => ?_) (fun K hK => ?_); rotate_left; (focus (have hF := FACT.out w1 hw1; go_simp; first | done | rfl)); go_simp; refine hK _ ?_; clear hK K)
  refine wpF_callF rfl 20 rfl 75 #[c] (fIs (.string tc)) rfl (fun w1 => ?_) (fun w1 hC hN => ?_) (fun v1 hv1 => ?_)
  · go_simp
  · refine (KH.out w1 hC).mono ?_
    rintro _ w2 ⟨rfl, hb⟩
    exact ⟨_, rfl, hb, rfl⟩
  obtain ⟨_, rfl⟩ := hv1
  repeat (refine wpF_val rfl monoQ_end (by rintro _ ⟨⟩; rfl) ?_ (fun w1 hw1 => ?_) (fun K hK => ?_); rotate_left; (focus (have hF := FACT.out w1 hw1; go_simp; first | done | rfl)); go_simp; refine hK _ ?_; clear hK K)
  refine wpF_callF rfl 27 rfl 84 #[d] (fIs (.string td)) rfl (fun w1 => ?_) (fun w1 hC hN => ?_) (fun v1 hv1 => ?_)
  · go_simp
  · refine (KT.out w1 hC).mono ?_
    rintro _ w2 ⟨rfl, hb⟩
    exact ⟨_, rfl, hb, rfl⟩
  obtain ⟨_, rfl⟩ := hv1
  repeat (refine wpF_val rfl monoQ_end (by rintro _ ⟨⟩; rfl) ?_ (fun w1 hw1 => ?_) (fun K hK => ?_); rotate_left; (focus (have hF := FACT.out w1 hw1; go_simp; first | done | rfl)); go_simp; refine hK _ ?_; clear hK K)
  refine wpFacts_nil ?_
  intro w3 hb _
  go_wp2
  go_ret
  exact ⟨rfl, hb⟩

set_option maxRecDepth 20000 in
theorem specHT_any (a b c d : Value) (r : HS) (w : World) (h : HRow w a b c d r) (hw : HWf r) : Calls Tryd.prog 16 #[.agg #[a, b, c, d]] w (TxB (hTx r) (vHs r) w) := by
  have A := Lib.hid (Cells.made w (hvs a b c d) 38)
  have Bw := Lib.hid (below_al1 w (.cells (hvs a b c d).toArray 38))
  have HV := Lib.hid (specHs_any _ a b c d r _ A.out (h.below Bw.out))
  have HT := Lib.hid (fun (ho : HOk r) n => specHsT_any a b c d r w.heap.size ((w.alloc (.cells (hvs a b c d).toArray 38)).drewN n) (A.out.drewN) ((h.below Bw.out).below (below_drewN (Below.refl _ _) n)) ho)
  unfold TxB
  cases hv : vHs r
  · have HB := Lib.hid hv
    clear hv HT h hw
    go_enter Tryd.func16, Tryd.ntmps16
    go_wp2_with fail
    refine HV.out.mono ?_
    rw [HB.out]
    rintro e w1 ⟨rfl, n, rfl⟩
    go_wp2
    go_ret2
    exact ⟨rfl, below_drewN Bw.out n⟩
  · have HB := Lib.hid hv
    have HT := Lib.hid (HT.out (vHs_ok hv hw))
    clear hv h hw
    generalize hTx r = T at *
    go_enter Tryd.func16, Tryd.ntmps16
    go_wp2_with fail
    refine HV.out.mono ?_
    rw [HB.out]
    rintro e w1 ⟨rfl, n, rfl⟩
    go_wp2_with fail
    refine (HT.out n).mono ?_
    rintro e w2 ⟨rfl, hb⟩
    have B := Lib.hid (below_step (below_drewN Bw.out n) hb)
    clear hb
    go_wp2
    go_ret2
    exact ⟨rfl, B.out⟩

set_option maxHeartbeats 3200000 in
set_option maxRecDepth 20000 in
theorem implHT_any (a b c d : Value) (r : HS) (w : World) (h : HRow w a b c d r) (hw : HWf r) (ht : Tabs w) : Calls Tryd.prog 18 #[.agg #[a, b, c, d]] w (TxB (hTx r) (vHs r) w) := by
  have HV := fun w1 (hb : Below w.heap.size w w1) => implHs_any a b c d r w1 (h.below hb)
  have KR := Lib.hid (fun w1 (hb : Below w.heap.size w w1) => h.below hb)
  obtain ⟨a1, q1, rfl⟩ := h.W.shape
  obtain ⟨a2, q2, rfl⟩ := h.H.shape
  obtain ⟨a3, q3, rfl⟩ := h.L.shape
  obtain ⟨a4, q4, rfl⟩ := h.K.shape
  generalize hh1 : r.W.length = n1 at *
  generalize hh2 : r.H.length = n2 at *
  generalize hh3 : r.L.length = n3 at *
  generalize hh4 : r.K.length = n4 at *
  clear hh1 hh2 hh3 hh4
  have A := Lib.hid (Cells.made w (hvs (.slice a1 n1 q1) (.slice a2 n2 q2) (.slice a3 n3 q3) (.slice a4 n4 q4)) 38)
  have Bw := Lib.hid (below_al1 w (.cells (hvs (.slice a1 n1 q1) (.slice a2 n2 q2) (.slice a3 n3 q3) (.slice a4 n4 q4)).toArray 38))
  have HV := Lib.hid (HV _ Bw.out)
  have c0 := A.out.at 0 rfl
  have c1 := A.out.at 1 rfl
  have c2 := A.out.at 2 rfl
  have c3 := A.out.at 3 rfl
  unfold TxB
  cases hv : vHs r
  · have HB := Lib.hid hv
    clear hv h hw ht
    go_enter Tryd.func18, Tryd.ntmps18
    go_wp2_with fail
    refine HV.out.mono ?_
    rw [HB.out]
    rintro e w1 ⟨rfl, hb⟩
    have B := Lib.hid (below_step Bw.out hb)
    clear hb
    go_wp2
    go_ret2
    exact ⟨rfl, B.out⟩
  · have HB := Lib.hid hv
    have HO := Lib.hid (vHs_ok hv hw)
    have HT := Lib.hid ht
    have EN : hTx r = jn 59 ((hLs r).map nTx) ++ (⟨#[59]⟩ : ByteArray) ++ lnTx r.K := by
      show hTx r = jn 59 [nTx r.W, nTx r.H, nTx r.L] ++ (⟨#[59]⟩ : ByteArray) ++ lnTx r.K
      rw [jn3]; rfl
    rw [EN]
    have KX := Lib.hid (fun w1 q (hb : Below w.heap.size w w1) (hq : Cells w1 q [.slice a1 n1 q1, .slice a2 n2 q2, .slice a3 n3 q3]) => show Calls Tryd.prog 43 #[.slice (some ⟨q, 0, none⟩) 3 3] w1 (fun e w' => e = .returned (.string (jn 59 ((hLs r).map nTx))) ∧ Below w1.heap.size w1 w') from
      textLists_any q [.slice a1 n1 q1, .slice a2 n2 q2, .slice a3 n3 q3] (hLs r) w1 ⟨rfl, fun j hj => by
        match j, hj with
        | 0, _ => exact hq.at 0 rfl
        | 1, _ => exact hq.at 1 rfl
        | 2, _ => exact hq.at 2 rfl
        | j + 3, hj => exact absurd hj (by show ¬ (j + 3 < 3); omega), fun j hj => by
        match j, hj with
        | 0, _ => exact (KR.out w1 hb).W
        | 1, _ => exact (KR.out w1 hb).H
        | 2, _ => exact (KR.out w1 hb).L
        | j + 3, hj => exact absurd hj (by show ¬ (j + 3 < 3); omega), fun j hj => by
        match j, hj with
        | 0, _ => exact HO.out.W
        | 1, _ => exact HO.out.H
        | 2, _ => exact HO.out.L
        | j + 3, hj => exact absurd hj (by show ¬ (j + 3 < 3); omega)⟩ (by show 1 ≤ 3; decide) (by show 3 ≤ 8; decide) (HT.out.below hb))
    have KT := Lib.hid (fun w1 (hb : Below w.heap.size w w1) => implLnT_any _ r.K w1 (KR.out w1 hb).K HO.out.K HO.out.n (HT.out.below hb))
    have s1 : (jn 59 ((hLs r).map nTx)).size ≤ 2305 * 3 := by
      have := jn_size 59 2304 ((hLs r).map nTx) (ntxs_le _ (fun j hj => by
        match j, hj with
        | 0, _ => exact HO.out.W
        | 1, _ => exact HO.out.H
        | 2, _ => exact HO.out.L
        | j + 3, hj => exact absurd hj (by show ¬ (j + 3 < 3); omega)))
      rw [List.length_map] at this
      exact this
    have s4 := lnTx_size HO.out.K HO.out.n
    clear hv h hw ht EN KR HO
    generalize jn 59 ((hLs r).map nTx) = ta at *
    generalize lnTx r.K = td at *
    have m1 : ¬ (9223372036854775807 < ta.size + 1) := by omega
    have m2 : ¬ (9223372036854775807 < ta.size + 1 + td.size) := by omega
    clear s1 s4
    go_enter Tryd.func18, Tryd.ntmps18
    go_wp2_with fail
    refine HV.out.mono ?_
    rw [HB.out]
    rintro e w1 ⟨rfl, hb⟩
    have B := Lib.hid (below_step Bw.out hb)
    have A := Lib.hid (A.out.kept hb)
    clear hb c0 c1 c2 c3
    go_wp2
    have FACT := Lib.hid (fun w2 (hw : Ext w1 w2) => And.intro (hw.cell (A.out.at 0 rfl)) (And.intro (hw.cell (A.out.at 1 rfl)) (And.intro (hw.cell (A.out.at 2 rfl)) (hw.cell (A.out.at 3 rfl)))))
    refine wp_region_facts (Ext w1) (TS [(13, fLit 3 [.slice a1 n1 q1, .slice a2 n2 q2, .slice a3 n3 q3]), (14, fIs (.string ta)), (18, fIs (.string td))]) (Pers.ext _) (TS.pers _) (Ext.start _) (by kernel_rfl) (by kernel_rfl) (by intro d v c a w h; cases d <;> exact h) ?_
    repeat (refine wpF_val rfl monoQ_end (by rintro _ ⟨⟩; rfl) ?_ (fun w1 hw1 => ?_) (fun K hK => ?_); rotate_left; (focus (have hF := FACT.out w1 hw1; go_simp; first | done | rfl)); go_simp; refine hK _ ?_; clear hK K)
    refine wpF_lit rfl 13 rfl 3 [.slice a1 n1 q1, .slice a2 n2 q2, .slice a3 n3 q3] 30 rfl (fun w2 => ?_) (fun q => ?_)
    · go_simp
    repeat (refine wpF_val rfl monoQ_end (by rintro _ ⟨⟩; rfl) ?_ (fun w1 hw1 => ?_) (fun K hK => ?_); rotate_left; (focus (have hF := FACT.out w1 hw1; go_simp; first | done | rfl)); go_simp; refine hK _ ?_; clear hK K)
    refine wpF_callF rfl 14 rfl 43 #[.slice (some ⟨q, 0, none⟩) 3 3] (fIs (.string ta)) rfl (fun w2 => ?_) (fun w2 hC hN => ?_) (fun v1 hv1 => ?_)
    · go_simp
    · refine (KX.out w2 q (below_step B.out hC) (lit_of (fact_needL (d := 13) rfl hN (by kernel_rfl) (by repeat (first | exact Or.inr ⟨rfl, rfl⟩ | refine Or.inl ?_))))).mono ?_
      rintro _ w3 ⟨rfl, hb⟩
      exact ⟨_, rfl, hb, rfl⟩
    obtain ⟨_, rfl⟩ := hv1
    repeat (refine wpF_val rfl monoQ_end (by rintro _ ⟨⟩; rfl) ?_ (fun w1 hw1 => ?_) (fun K hK => ?_); rotate_left; (focus (have hF := FACT.out w1 hw1; go_simp; first | done | rfl)); go_simp; refine hK _ ?_; clear hK K)
    refine wpF_callF rfl 18 rfl 52 #[.slice a4 n4 q4] (fIs (.string td)) rfl (fun w2 => ?_) (fun w2 hC hN => ?_) (fun v1 hv1 => ?_)
    · go_simp
    · refine (KT.out w2 (below_step B.out hC)).mono ?_
      rintro _ w3 ⟨rfl, hb⟩
      exact ⟨_, rfl, hb, rfl⟩
    obtain ⟨_, rfl⟩ := hv1
    repeat (refine wpF_val rfl monoQ_end (by rintro _ ⟨⟩; rfl) ?_ (fun w1 hw1 => ?_) (fun K hK => ?_); rotate_left; (focus (have hF := FACT.out w1 hw1; go_simp; first | done | rfl)); go_simp; refine hK _ ?_; clear hK K)
    refine wpFacts_nil ?_
    intro w3 hb _
    have B := Lib.hid (below_step B.out hb)
    clear hb
    go_wp2
    go_ret2
    exact ⟨rfl, B.out⟩

set_option maxRecDepth 10000 in
set_option maxHeartbeats 1600000 in
theorem fnExactHouseText_walk (r : HS) (a b c d : Value) (w : World) (h : HRow w a b c d r) (hf : HWf r) (ht : Tabs w) :
    Calls Tryd.prog 4 #[.agg #[a, b, c, d]] w (Tru w) := by
  have R := Lib.hid (fun w1 (hb : Below w.heap.size w w1) => h.below hb)
  have CS := Lib.hid (fun a b c d w1 (h1 : HRow w1 a b c d r) => specHT_any a b c d r w1 h1 hf)
  have CI := Lib.hid (fun a b c d w1 (h1 : HRow w1 a b c d r) (hT : Tabs w1) => implHT_any a b c d r w1 h1 hf hT)
  clear h hf
  unfold TxB at *
  generalize (bif vHs r then hTx r else (⟨#[]⟩ : ByteArray)) = S at *
  generalize vHs r = ok at *
  have HT := Lib.hid ht
  clear ht
  have A := Lib.hid (Cells.made w (hvs a b c d) 33)
  have Bw := Lib.hid (below_al1 w (.cells (hvs a b c d).toArray 33))
  by_cases hl : r.size ≤ 1048576
  · have HL := Lib.hid hl
    clear hl
    go_enter Tryd.func4, Tryd.ntmps4
    go_wp2_with fail
    refine (szHouse_fit a b c d r 1048576 _ (R.out _ Bw.out) HL.out (Nat.le_refl _)).mono ?_
    rintro _ w1 ⟨rfl, hb⟩
    have Bw := Lib.hid (below_step Bw.out hb); have A := Lib.hid (A.out.kept hb); have c0 := A.out.at 0 rfl; have c1 := A.out.at 1 rfl; have c2 := A.out.at 2 rfl; have c3 := A.out.at 3 rfl; clear hb
    go_wp2_with fail
    refine (toHouse_any a b c d r _ (R.out _ Bw.out) HL.out).mono ?_
    rintro _ w2 ⟨p0, p1, p2, p3, rfl, hp, V, hb⟩
    clear c0 c1 c2 c3
    have Bw := Lib.hid (below_step Bw.out hb); have A := Lib.hid (A.out.kept hb); have c0 := A.out.at 0 rfl; have c1 := A.out.at 1 rfl; have c2 := A.out.at 2 rfl; have c3 := A.out.at 3 rfl; have V := Lib.hid V; clear hb hp
    go_wp2_with fail
    refine (CS.out _ _ _ _ _ (V.out.row HL.out)).mono ?_
    rintro _ w3 ⟨rfl, hb⟩
    clear c0 c1 c2 c3
    have Bw := Lib.hid (below_step Bw.out hb); have A := Lib.hid (A.out.kept hb); have c0 := A.out.at 0 rfl; have c1 := A.out.at 1 rfl; have c2 := A.out.at 2 rfl; have c3 := A.out.at 3 rfl; clear hb V
    go_wp2_with fail
    refine (toHouse_any a b c d r _ (R.out _ Bw.out) HL.out).mono ?_
    rintro _ w4 ⟨x0, x1, x2, x3, rfl, hp, V, hb⟩
    clear c0 c1 c2 c3
    have Bw := Lib.hid (below_step Bw.out hb); have A := Lib.hid (A.out.kept hb); have c0 := A.out.at 0 rfl; have c1 := A.out.at 1 rfl; have c2 := A.out.at 2 rfl; have c3 := A.out.at 3 rfl; have V := Lib.hid V; clear hb hp
    have X := Lib.hid (Cells.made w4 (hvs (sl x0 r.W) (sl x1 r.H) (sl x2 r.L) (slk x3 r.K)) 38)
    have V := Lib.hid (V.out.kept (below_al1 w4 (.cells (hvs (sl x0 r.W) (sl x1 r.H) (sl x2 r.L) (slk x3 r.K)).toArray 38)))
    have A := Lib.hid (A.out.kept (below_al1 w4 (.cells (hvs (sl x0 r.W) (sl x1 r.H) (sl x2 r.L) (slk x3 r.K)).toArray 38)))
    have Bw := Lib.hid (below_step Bw.out (below_al1 w4 (.cells (hvs (sl x0 r.W) (sl x1 r.H) (sl x2 r.L) (slk x3 r.K)).toArray 38)))
    go_wp2_with fail
    refine (CI.out _ _ _ _ _ (V.out.row HL.out) (HT.out.below Bw.out)).mono ?_
    rintro _ w5 ⟨rfl, hb⟩
    clear c0 c1 c2 c3
    have Bw := Lib.hid (below_step Bw.out hb); have A := Lib.hid (A.out.kept hb); have X := Lib.hid (X.out.kept hb); have V := Lib.hid (V.out.kept hb); have c0 := A.out.at 0 rfl; have c1 := A.out.at 1 rfl; have c2 := A.out.at 2 rfl; have c3 := A.out.at 3 rfl; clear hb
    have d0 := X.out.at 0 rfl; have d1 := X.out.at 1 rfl; have d2 := X.out.at 2 rfl; have d3 := X.out.at 3 rfl
    go_wp2
    generalize w4.heap.size = q at *
    go_region_held3 (fun w' => w'.cell? ⟨w.heap.size, 0, none⟩ = some (a) ∧ w'.cell? ⟨w.heap.size, 1, none⟩ = some (b) ∧ w'.cell? ⟨w.heap.size, 2, none⟩ = some (c) ∧ w'.cell? ⟨w.heap.size, 3, none⟩ = some (d) ∧ w'.cell? ⟨q, 0, none⟩ = some (sl x0 r.W) ∧ w'.cell? ⟨q, 1, none⟩ = some (sl x1 r.H) ∧ w'.cell? ⟨q, 2, none⟩ = some (sl x2 r.L) ∧ w'.cell? ⟨q, 3, none⟩ = some (slk x3 r.K)) (exact ⟨c0, c1, c2, c3, d0, d1, d2, d3⟩)
      (first
      | (go_at_call 17; refine (toHouse_any a b c d r _ (R.out _ (below_drewN Bw.out _)) HL.out).mono ?_; rintro _ w6 ⟨y0, y1, y2, y3, rfl, hp, Z, hb⟩; have Bw := Lib.hid (below_step Bw.out (below_undrew hb)); have A := Lib.hid (A.out.kept (below_undrew hb)); have X := Lib.hid (X.out.kept (below_undrew hb)); have V := Lib.hid (V.out.kept (below_undrew hb)); have Z := Lib.hid Z; clear hp hb; have c0 := A.out.at 0 rfl; have c1 := A.out.at 1 rfl; have c2 := A.out.at 2 rfl; have c3 := A.out.at 3 rfl; have d0 := X.out.at 0 rfl; have d1 := X.out.at 1 rfl; have d2 := X.out.at 2 rfl; have d3 := X.out.at 3 rfl)
      | (go_at_call 19; refine (eqHouse_any _ _ _ _ _ _ _ _ r _ (V.out.row HL.out) (Z.out.row HL.out)).mono ?_; rintro _ w7 ⟨rfl, hb⟩; have Bw := Lib.hid (below_step Bw.out hb); have A := Lib.hid (A.out.kept hb); have X := Lib.hid (X.out.kept hb); clear hb; have c0 := A.out.at 0 rfl; have c1 := A.out.at 1 rfl; have c2 := A.out.at 2 rfl; have c3 := A.out.at 3 rfl; have d0 := X.out.at 0 rfl; have d1 := X.out.at 1 rfl; have d2 := X.out.at 2 rfl; have d3 := X.out.at 3 rfl))
    all_goals
      go_wp2
      go_ret
      exact Tru.below Bw.out
  · have HL := Lib.hid (Nat.lt_of_not_le hl)
    clear hl
    go_enter Tryd.func4, Tryd.ntmps4
    go_wp2_with fail
    refine (szHouse_over a b c d r 1048576 _ (R.out _ Bw.out) HL.out (Nat.le_refl _)).mono ?_
    rintro _ w1 ⟨rfl, hb⟩
    have Bw := Lib.hid (below_step Bw.out hb); have A := Lib.hid (A.out.kept hb); have c0 := A.out.at 0 rfl; have c1 := A.out.at 1 rfl; have c2 := A.out.at 2 rfl; have c3 := A.out.at 3 rfl; clear hb
    go_wp2
    go_ret
    exact Tru.below Bw.out

end Go.Proofs.YtbgldggaiefhoaaDoor
