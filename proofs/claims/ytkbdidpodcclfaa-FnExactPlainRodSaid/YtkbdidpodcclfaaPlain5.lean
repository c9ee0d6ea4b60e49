/- The program's rod of equal cells. -/
import Derived.Test.YtkbdidpodcclfaaPlain4
import Derived.Test.YtkbdidpodcclfaaNew
import Derived.BigRegion
namespace Go.Proofs.Ytkbdidpodcclfaa
open Go.RowKit
set_option linter.unusedVariables false

theorem implPR_out (x : Int) (y0 y1 y2 y3 : Nat) (w : World) (hx : (decide (1 ≤ x) && decide (x ≤ 48)) = false) : Calls Try.prog 12 #[.int .i64 x, .float .f32 y0, .float .f32 y1, .float .f32 y2, .float .f32 y3] w (NoRod w) := by
  have R := Lib.hid (Cells.made w [.slice none 0 0, .slice none 0 0, .slice none 0 0, .slice none 0 0] 25)
  have Bw := Lib.hid (below_al1 w (.cells [.slice none 0 0, .slice none 0 0, .slice none 0 0, .slice none 0 0].toArray 25))
  unfold NoRod nilRod
  by_cases h : x < 1
  · clear hx
    go_enter Try.func12, Try.ntmps12
    go_wp2
    refine bodyPost_ret (v := .tuple #[.agg #[.slice none 0 0, .slice none 0 0, .slice none 0 0, .slice none 0 0], .bool false]) ?_ rfl ?_
    · rw [results_cell_tmp rfl]
      go_simp
    · refine ⟨rfl, ?_⟩
      first | exact Bw.out | exact below_set4 Bw.out (by omega) _ _ _ _
  · have h48 : (48 : Int) < x := by
      have h1 : (1 : Int) ≤ x := by omega
      simp [h1] at hx
      omega
    clear hx
    go_enter Try.func12, Try.ntmps12
    go_wp2
    refine bodyPost_ret (v := .tuple #[.agg #[.slice none 0 0, .slice none 0 0, .slice none 0 0, .slice none 0 0], .bool false]) ?_ rfl ?_
    · rw [results_cell_tmp rfl]
      go_simp
    · refine ⟨rfl, ?_⟩
      first | exact Bw.out | exact below_set4 Bw.out (by omega) _ _ _ _

/-- the numbers of a rod in one block, k of its cells filled -/
def pl (n k y0 y1 y2 y3 i : Nat) : Nat := if i < n then (if i < k then y0 else 0) else if i < 2 * n then (if i < n + k then y1 else 0) else if i < 3 * n then (if i < 2 * n + k then y2 else 0) else (if i < 3 * n + k then y3 else 0)
theorem pl_zero (n y0 y1 y2 y3 i : Nat) (hi : i < 4 * n) : pl n 0 y0 y1 y2 y3 i = 0 := by
  unfold pl
  repeat' split
  all_goals first | rfl | omega
theorem pl_set {w : World} {g n k y0 y1 y2 y3 : Nat} (h : w.rowIs g 22 (4 * n) (fun i => .float .f32 (pl n k y0 y1 y2 y3 i))) (hk : k < n) :
    ((((w.setCell ⟨g, k, none⟩ (.float .f32 y0)).setCell ⟨g, n + k, none⟩ (.float .f32 y1)).setCell ⟨g, 2 * n + k, none⟩ (.float .f32 y2)).setCell ⟨g, 3 * n + k, none⟩ (.float .f32 y3)).rowIs g 22 (4 * n) (fun i => .float .f32 (pl n (k + 1) y0 y1 y2 y3 i)) := by
  refine World.rowIs.congr ((((h.set k (.float .f32 y0)).set (n + k) (.float .f32 y1)).set (2 * n + k) (.float .f32 y2)).set (3 * n + k) (.float .f32 y3)) (fun i hi => ?_)
  have key : ∀ (c : Prop) [Decidable c] (x y : Nat), (if c then Value.float .f32 x else .float .f32 y) = .float .f32 (if c then x else y) := fun c _ x y => by split <;> rfl
  simp only [key]
  congr 1
  unfold pl
  repeat' split
  all_goals first | rfl | omega
theorem pl_row {w : World} {g n y0 y1 y2 y3 : Nat} (h : w.rowIs g 22 (4 * n) (fun i => .float .f32 (pl n n y0 y1 y2 y3 i))) (hn : n ≤ 48) :
    RRow w (.slice (some ⟨g, 0, none⟩) n n) (.slice (some ⟨g, n, none⟩) n n) (.slice (some ⟨g, 2 * n, none⟩) n n) (.slice (some ⟨g, 3 * n, none⟩) n n) (repRod n y0 y1 y2 y3) := by
  have hx : maxLen = 9223372036854775807 := rfl
  have key : ∀ o y, (∀ i, i < n → pl n n y0 y1 y2 y3 (o + i) = y) → o + n ≤ 4 * n → FRow w (.slice (some ⟨g, o, none⟩) n n) (rep n y) := by
    intro o y hf ho
    refine .inr ⟨g, o, n, by rw [rep_len], by rw [rep_len]; omega, fun i hi => ?_⟩
    rw [rep_len] at hi
    rw [h.cell (by omega), hf i hi]
    simp [rep, hi]
  refine ⟨key 0 y0 (fun i hi => ?_) (by omega), key n y1 (fun i hi => ?_) (by omega), key (2 * n) y2 (fun i hi => ?_) (by omega), key (3 * n) y3 (fun i hi => ?_) (by omega)⟩ <;> (unfold pl; repeat' split) <;> first | rfl | omega

set_option maxHeartbeats 3200000 in
set_option maxRecDepth 4000 in
theorem implPR_any (n y0 y1 y2 y3 : Nat) (w : World) (hp : 1 ≤ n) (hq : n ≤ 48) (b : Bool) (hv : vRod (repRod n y0 y1 y2 y3) = b) : Calls Try.prog 12 #[.int .i64 n, .float .f32 y0, .float .f32 y1, .float .f32 y2, .float .f32 y3] w fun e w' => ∃ g, e = .returned (.tuple #[ifR b (inBlk g n), .bool b]) ∧ w.heap.size ≤ g ∧ w'.rowIs g 22 (4 * n) (fun i => .float .f32 (pl n n y0 y1 y2 y3 i)) ∧ Below w.heap.size w w' := by
  have R := Lib.hid (Cells.made w [.slice none 0 0, .slice none 0 0, .slice none 0 0, .slice none 0 0] 25)
  have Bw := Lib.hid (below_al1 w (.cells [.slice none 0 0, .slice none 0 0, .slice none 0 0, .slice none 0 0].toArray 25))
  have Z : Hid (w.heap.size ≤ (w.alloc (.cells [.slice none 0 0, .slice none 0 0, .slice none 0 0, .slice none 0 0].toArray 25)).heap.size) := Lib.hid (by simp)
  have HP := Lib.hid hp
  have HQ := Lib.hid hq
  have HV := Lib.hid hv
  have l1 : (1 : Int) ≤ (n : Int) := by omega
  have l2 : (n : Int) ≤ 48 := by omega
  clear hp hq hv
  go_enter Try.func12, Try.ntmps12
  go_wp2_with fail
  generalize hW : w.alloc (.cells [.slice none 0 0, .slice none 0 0, .slice none 0 0, .slice none 0 0].toArray 25) = w1 at *
  clear hW
  refine (newRod_any n _ HP.out (by have := HQ.out; omega)).mono ?_
  rintro _ w2 ⟨g, rfl, hg, hr, hb⟩
  have R := Lib.hid (R.out.kept hb)
  have GG : Hid (w.heap.size < g) := Lib.hid (by have := (Cells.lt ‹Cells w1 w.heap.size _›); omega)
  have B2 := Lib.hid (below_trans2 Bw.out Z.out hb)
  have Z2 := Lib.hid (Nat.le_trans Z.out hb.size)
  have G2 := Lib.hid hr.lt
  have RO := Lib.hid (rowIs_below hr (below_al1 w2 (.cells [.slice (some ⟨g, 0, none⟩) n n, .slice (some ⟨g, n, none⟩) n n, .slice (some ⟨g, 2 * n, none⟩) n n, .slice (some ⟨g, 3 * n, none⟩) n n].toArray 25)))
  have A := Lib.hid (Cells.made w2 [.slice (some ⟨g, 0, none⟩) n n, .slice (some ⟨g, n, none⟩) n n, .slice (some ⟨g, 2 * n, none⟩) n n, .slice (some ⟨g, 3 * n, none⟩) n n] 25)
  have R := Lib.hid (R.out.al (.cells [.slice (some ⟨g, 0, none⟩) n n, .slice (some ⟨g, n, none⟩) n n, .slice (some ⟨g, 2 * n, none⟩) n n, .slice (some ⟨g, 3 * n, none⟩) n n].toArray 25))
  have B3 := Lib.hid (B2.out.alloc Z2.out (.cells [.slice (some ⟨g, 0, none⟩) n n, .slice (some ⟨g, n, none⟩) n n, .slice (some ⟨g, 2 * n, none⟩) n n, .slice (some ⟨g, 3 * n, none⟩) n n].toArray 25))
  clear hg hr hb l1
  unfold inBlk
  go_wp2_with fail
  generalize hW : (w2.alloc (.cells [.slice (some ⟨g, 0, none⟩) n n, .slice (some ⟨g, n, none⟩) n n, .slice (some ⟨g, 2 * n, none⟩) n n, .slice (some ⟨g, 3 * n, none⟩) n n].toArray 25)) = w3 at *
  clear hW
  go_loopw [13, 26] (fun _ i wr => ∃ k : Nat, k ≤ n ∧ i = .int .i64 k ∧ Hid (wr.rowIs g 22 (4 * n) (fun i => .float .f32 (pl n k y0 y1 y2 y3 i))) ∧ Hid (Cells wr w2.heap.size [.slice (some ⟨g, 0, none⟩) n n, .slice (some ⟨g, n, none⟩) n n, .slice (some ⟨g, 2 * n, none⟩) n n, .slice (some ⟨g, 3 * n, none⟩) n n]) ∧ Hid (Cells wr w.heap.size [.slice none 0 0, .slice none 0 0, .slice none 0 0, .slice none 0 0]) ∧ Hid (Below w.heap.size w wr)) (fun _ i _ => n - (intOf i).toNat)
  case atStart => exact ⟨0, Nat.zero_le _, rfl, Lib.hid (RO.out.congr (fun i hi => by rw [pl_zero n y0 y1 y2 y3 i hi])), A, R, B3⟩
  case round =>
    obtain ⟨k, hk, rfl, RO, A, R, B⟩ := hrel
    have hG := HQ.out
    by_cases hlt : k < n
    · have c0 := A.out.at 0 rfl; have c1 := A.out.at 1 rfl; have c2 := A.out.at 2 rfl; have c3 := A.out.at 3 rfl
      have cf := A.out.fz
      have z0 := RO.out.cell (i := k) (by omega)
      have z1 := RO.out.cell (i := n + k) (by omega)
      have z2 := RO.out.cell (i := 2 * n + k) (by omega)
      have z3 := RO.out.cell (i := 3 * n + k) (by omega)
      generalize pl n k y0 y1 y2 y3 k = x0 at z0
      generalize pl n k y0 y1 y2 y3 (n + k) = x1 at z1
      generalize pl n k y0 y1 y2 y3 (2 * n + k) = x2 at z2
      generalize pl n k y0 y1 y2 y3 (3 * n + k) = x3 at z3
      have zf := RO.out.frozen
      have hi : (0 : Int) ≤ (k : Int) := by omega
      have hi' : (k : Int) < (n : Int) := by omega
      have hne : ¬ g = w2.heap.size := by have := G2.out; omega
      have hne' : ¬ w2.heap.size = g := by have := G2.out; omega
      go_wp2
      go_region
      go_wp2
      go_roundw
      case rel =>
        refine ⟨k + 1, by omega, by go_num, Lib.hid (pl_set RO.out hlt), Lib.hid ?_, Lib.hid ?_, Lib.hid ?_⟩
        · exact (((A.out.far hne _ _).far hne _ _).far hne _ _).far hne _ _
        · have hg : g ≠ w.heap.size := by have := GG.out; omega
          exact (((R.out.far hg _ _).far hg _ _).far hg _ _).far hg _ _
        · have hg : w.heap.size ≤ g := by have := GG.out; omega
          exact ((((B.out.setCell (p := ⟨g, _, none⟩) hg _).setCell (p := ⟨g, _, none⟩) hg _).setCell (p := ⟨g, _, none⟩) hg _).setCell (p := ⟨g, _, none⟩) hg _).drew
      case measure => simp [intOf]; omega
    · have e := Lib.hid (show k = n by omega)
      have e1 := e.out
      subst e1
      have RR := Lib.hid (pl_row RO.out HQ.out)
      have c0 := A.out.at 0 rfl; have c1 := A.out.at 1 rfl; have c2 := A.out.at 2 rfl; have c3 := A.out.at 3 rfl
      have r0 := R.out.at 0 rfl; have r1 := R.out.at 1 rfl; have r2 := R.out.at 2 rfl; have r3 := R.out.at 3 rfl; have rf := R.out.fz
      have CG := Lib.hid (implGive_any _ _ _ _ _ _ RR.out)
      rw [HV.out] at CG
      have CG := Lib.hid (show Calls Try.prog 42 #[inBlk g k] wr (GiveP (inBlk g k) b wr) from CG.out)
      unfold GiveP ifR nilRod inBlk at CG
      have ZB : Hid (w.heap.size ≤ wr.heap.size) := Lib.hid B.out.size
      cases hb0 : b
      all_goals
        rw [hb0] at CG
        simp only [cond_true, cond_false] at CG
        go_wp2_with fail
        refine CG.out.mono ?_
        rintro _ w5 ⟨rfl, hb⟩
        have R := Lib.hid (R.out.kept hb)
        have RO := Lib.hid (rowIs_below RO.out hb)
        have B5 := Lib.hid (below_trans2 B.out ZB.out hb)
        clear hb CG RR r0 r1 r2 r3 rf
        have r0 := R.out.at 0 rfl; have r1 := R.out.at 1 rfl; have r2 := R.out.at 2 rfl; have r3 := R.out.at 3 rfl; have rf := R.out.fz
        go_wp2
      · refine bodyPost_ret (v := .tuple #[.agg #[.slice none 0 0, .slice none 0 0, .slice none 0 0, .slice none 0 0], .bool false]) ?_ rfl ?_
        · rw [results_cell_tmp rfl]
          go_simp
        · have hg := GG.out
          exact ⟨g, by rw [hb0]; rfl, by omega, rowIs_far (rowIs_far (rowIs_far (rowIs_far RO.out (by omega)) (by omega)) (by omega)) (by omega), below_set4 B5.out (by omega) _ _ _ _⟩
      · refine bodyPost_ret (v := .tuple #[.agg #[.slice (some ⟨g, 0, none⟩) k k, .slice (some ⟨g, k, none⟩) k k, .slice (some ⟨g, 2 * k, none⟩) k k, .slice (some ⟨g, 3 * k, none⟩) k k], .bool true]) ?_ rfl ?_
        · rw [results_cell_tmp rfl]
          go_simp
        · have hg := GG.out
          exact ⟨g, by rw [hb0]; rfl, by omega, rowIs_far (rowIs_far (rowIs_far (rowIs_far RO.out (by omega)) (by omega)) (by omega)) (by omega), below_set4 B5.out (by omega) _ _ _ _⟩
end Go.Proofs.Ytkbdidpodcclfaa
