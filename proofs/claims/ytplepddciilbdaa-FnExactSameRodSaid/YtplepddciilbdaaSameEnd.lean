/- Whether two numbers, and two ends, are the same. -/
import Derived.Test.YtplepddciilbdaaEnd
import Derived.Deep.RegionHeld3
namespace Go.Proofs.Ytplepddciilbdaa
open Go.RowKit

/-- the bits of a number, as the document tells them -/
def bits32 (a : Nat) : Int := if nn .f32 a then 2143289344 else a

theorem specBits_any (a : Nat) (w : World) (wa : (Lit.float .f32 a).wf = true) :
    Calls Try.prog 85 #[.float .f32 a] w fun e w' => e = .returned (.int .i64 (bits32 a)) ∧ w = w' := by
  have ho := order_self (k := .f32) (x := a)
  have hl := wf32 wa
  cases hn : nn .f32 a
  · rw [hn] at ho; simp only [Bool.false_eq_true, if_false] at ho
    go_enter Try.func85, Try.ntmps85
    go_wp2
    go_ret
    exact ⟨by simp [bits32, hn], rfl⟩
  · rw [hn] at ho; simp only [if_true] at ho
    go_enter Try.func85, Try.ntmps85
    go_wp2
    go_ret
    exact ⟨by simp [bits32, hn], rfl⟩
theorem implBits_any (a : Nat) (w : World) (wa : (Lit.float .f32 a).wf = true) :
    Calls Try.prog 84 #[.float .f32 a] w fun e w' => e = .returned (.int .i64 (bits32 a)) ∧ w = w' := by
  have ho := order_self (k := .f32) (x := a)
  have hl := wf32 wa
  cases hn : nn .f32 a
  · rw [hn] at ho; simp only [Bool.false_eq_true, if_false] at ho
    go_enter Try.func84, Try.ntmps84
    go_wp2
    go_ret
    exact ⟨by simp [bits32, hn], rfl⟩
  · rw [hn] at ho; simp only [if_true] at ho
    go_enter Try.func84, Try.ntmps84
    go_wp2
    go_ret
    exact ⟨by simp [bits32, hn], rfl⟩


def sm (a b : Nat) : Bool := bits32 a == bits32 b
theorem specSame_any (a b : Nat) (w : World) (wa : (Lit.float .f32 a).wf = true) (wb : (Lit.float .f32 b).wf = true) :
    Calls Try.prog 55 #[.float .f32 a, .float .f32 b] w fun e w' => e = .returned (.bool (sm a b)) ∧ w = w' := by
  go_enter Try.func55, Try.ntmps55
  go_wp2_with (go_at_call 85; refine (specBits_any _ _ (by assumption)).mono ?_; rintro e w' ⟨rfl, rfl⟩)
  go_ret
  exact ⟨rfl, rfl⟩
theorem implSame_any (a b : Nat) (w : World) (wa : (Lit.float .f32 a).wf = true) (wb : (Lit.float .f32 b).wf = true) :
    Calls Try.prog 53 #[.float .f32 a, .float .f32 b] w fun e w' => e = .returned (.bool (sm a b)) ∧ w = w' := by
  go_enter Try.func53, Try.ntmps53
  go_wp2_with (go_at_call 84; refine (implBits_any _ _ (by assumption)).mono ?_; rintro e w' ⟨rfl, rfl⟩)
  go_ret
  exact ⟨rfl, rfl⟩

def sameE (k k' : Int) (x x' y y' : Nat) : Bool := (k == k') && sm x x' && sm y y'

theorem specSameE_any (k k' : Int) (x x' y y' : Nat) (w : World) (wx : (Lit.float .f32 x).wf = true) (wx' : (Lit.float .f32 x').wf = true) (wy : (Lit.float .f32 y).wf = true) (wy' : (Lit.float .f32 y').wf = true) :
    Calls Try.prog 25 #[endV k x y, endV k' x' y'] w (BolB (sameE k k' x x' y y') w) := by
  unfold endV
  by_cases hk : k = k'
  · subst hk
    cases hs : sm x x'
    · go_enter Try.func25, Try.ntmps25
      go_wp2_with (go_at_call 55; refine (specSame_any _ _ _ (by assumption) (by assumption)).mono ?_; rw [hs]; rintro e w' ⟨rfl, rfl⟩)
      go_ret
      exact ⟨by simp [sameE, hs], below_al2 _ _ _⟩
    · go_enter Try.func25, Try.ntmps25
      go_wp2_with (first | (go_at_call_of 55 x; refine (specSame_any x x' _ (by assumption) (by assumption)).mono ?_; rw [hs]; rintro e w' ⟨rfl, rfl⟩) | (go_at_call_of 55 y; refine (specSame_any y y' _ (by assumption) (by assumption)).mono ?_; rintro e w' ⟨rfl, rfl⟩))
      go_ret
      exact ⟨by simp [sameE, hs], below_al2 _ _ _⟩
  · have hk' : (k == k') = false := by simp [hk]
    go_enter Try.func25, Try.ntmps25
    go_wp2
    go_ret
    exact ⟨by simp [sameE, hk'], below_al2 _ _ _⟩

theorem implSameE_any (k k' : Int) (x x' y y' : Nat) (w : World) (wx : (Lit.float .f32 x).wf = true) (wx' : (Lit.float .f32 x').wf = true) (wy : (Lit.float .f32 y).wf = true) (wy' : (Lit.float .f32 y').wf = true) :
    Calls Try.prog 26 #[endV k x y, endV k' x' y'] w (BolB (sameE k k' x x' y y') w) := by
  unfold endV
  by_cases hk : k = k'
  · subst hk
    cases hs : sm x x'
    · go_enter Try.func26, Try.ntmps26
      go_wp2_with (go_at_call 53; refine (implSame_any _ _ _ (by assumption) (by assumption)).mono ?_; rw [hs]; rintro e w' ⟨rfl, rfl⟩)
      go_ret
      exact ⟨by simp [sameE, hs], below_al2 _ _ _⟩
    · go_enter Try.func26, Try.ntmps26
      go_wp2_with (first | (go_at_call_of 53 x; refine (implSame_any x x' _ (by assumption) (by assumption)).mono ?_; rw [hs]; rintro e w' ⟨rfl, rfl⟩) | (go_at_call_of 53 y; refine (implSame_any y y' _ (by assumption) (by assumption)).mono ?_; rintro e w' ⟨rfl, rfl⟩))
      go_ret
      exact ⟨by simp [sameE, hs], below_al2 _ _ _⟩
  · have hk' : (k == k') = false := by simp [hk]
    go_enter Try.func26, Try.ntmps26
    go_wp2
    go_ret
    exact ⟨by simp [sameE, hk'], below_al2 _ _ _⟩

theorem fnExactSameEnd_walk (k : Int) (x y : Nat) (k' : Int) (x' y' : Nat) (w : World) (_ : (Lit.int .i64 k).wf = true) (wx : (Lit.float .f32 x).wf = true) (wy : (Lit.float .f32 y).wf = true) (_ : (Lit.int .i64 k').wf = true) (wx' : (Lit.float .f32 x').wf = true) (wy' : (Lit.float .f32 y').wf = true) :
    Calls Try.prog 6 #[.agg #[.int .i64 k, .float .f32 x, .float .f32 y], .agg #[.int .i64 k', .float .f32 x', .float .f32 y']] w (Tru w) := by
  have A := Lib.hid ((Cells.made w [.int .i64 k, .float .f32 x, .float .f32 y] 34).al (.cells [Value.int .i64 k', .float .f32 x', .float .f32 y'].toArray 34))
  have X := Lib.hid (Cells.made (w.alloc (.cells [Value.int .i64 k, .float .f32 x, .float .f32 y].toArray 34)) [.int .i64 k', .float .f32 x', .float .f32 y'] 34)
  have Bw := Lib.hid (below_al2 w (.cells [Value.int .i64 k, .float .f32 x, .float .f32 y].toArray 34) (.cells [Value.int .i64 k', .float .f32 x', .float .f32 y'].toArray 34))
  rw [show (w.alloc (.cells [Value.int .i64 k, .float .f32 x, .float .f32 y].toArray 34)).heap.size = w.heap.size + 1 from by simp] at X
  go_enter Try.func6, Try.ntmps6
  go_wp2
  go_region_held3 (fun w' => w'.cell? ⟨w.heap.size, 0, none⟩ = some (.int .i64 k) ∧ w'.cell? ⟨w.heap.size, 1, none⟩ = some (.float .f32 x) ∧ w'.cell? ⟨w.heap.size, 2, none⟩ = some (.float .f32 y) ∧ w'.cell? ⟨w.heap.size + 1, 0, none⟩ = some (.int .i64 k') ∧ w'.cell? ⟨w.heap.size + 1, 1, none⟩ = some (.float .f32 x') ∧ w'.cell? ⟨w.heap.size + 1, 2, none⟩ = some (.float .f32 y')) (first | exact ⟨c0, c1, c2, d0, d1, d2⟩ | exact ⟨by simp, by simp, by simp, by simp, by simp, by simp⟩)
    (first
    | (go_at_call_of 23 k; refine (toEnd_any k x y _).mono ?_; rintro e w' ⟨rfl, hb⟩; (first | (have Bw := Lib.hid (below_step Bw.out hb)) | (have Bw := Lib.hid (below_step Bw.out (below_undrew hb))) | (have Bw := Lib.hid (below_step Bw.out (below_unal hb))) | (have Bw := Lib.hid (below_step Bw.out (below_unal (below_undrew hb)))) | (have Bw := Lib.hid (below_step Bw.out (below_undrew (below_unal hb)))) | (have Bw := Lib.hid (below_step Bw.out (below_unal (below_unal hb))))); (first | (have A := Lib.hid (A.out.kept hb)) | (have A := Lib.hid (A.out.kept (below_undrew hb))) | (have A := Lib.hid (A.out.kept (below_unal hb))) | (have A := Lib.hid (A.out.kept (below_unal (below_undrew hb)))) | (have A := Lib.hid (A.out.kept (below_undrew (below_unal hb)))) | (have A := Lib.hid (A.out.kept (below_unal (below_unal hb))))); (first | (have X := Lib.hid (X.out.kept hb)) | (have X := Lib.hid (X.out.kept (below_undrew hb))) | (have X := Lib.hid (X.out.kept (below_unal hb))) | (have X := Lib.hid (X.out.kept (below_unal (below_undrew hb)))) | (have X := Lib.hid (X.out.kept (below_undrew (below_unal hb)))) | (have X := Lib.hid (X.out.kept (below_unal (below_unal hb))))); have c0 := A.out.at 0 rfl; have c1 := A.out.at 1 rfl; have c2 := A.out.at 2 rfl; have d0 := X.out.at 0 rfl; have d1 := X.out.at 1 rfl; have d2 := X.out.at 2 rfl; clear hb)
    | (go_at_call_of 23 k'; refine (toEnd_any k' x' y' _).mono ?_; rintro e w' ⟨rfl, hb⟩; (first | (have Bw := Lib.hid (below_step Bw.out hb)) | (have Bw := Lib.hid (below_step Bw.out (below_undrew hb))) | (have Bw := Lib.hid (below_step Bw.out (below_unal hb))) | (have Bw := Lib.hid (below_step Bw.out (below_unal (below_undrew hb)))) | (have Bw := Lib.hid (below_step Bw.out (below_undrew (below_unal hb)))) | (have Bw := Lib.hid (below_step Bw.out (below_unal (below_unal hb))))); (first | (have A := Lib.hid (A.out.kept hb)) | (have A := Lib.hid (A.out.kept (below_undrew hb))) | (have A := Lib.hid (A.out.kept (below_unal hb))) | (have A := Lib.hid (A.out.kept (below_unal (below_undrew hb)))) | (have A := Lib.hid (A.out.kept (below_undrew (below_unal hb)))) | (have A := Lib.hid (A.out.kept (below_unal (below_unal hb))))); (first | (have X := Lib.hid (X.out.kept hb)) | (have X := Lib.hid (X.out.kept (below_undrew hb))) | (have X := Lib.hid (X.out.kept (below_unal hb))) | (have X := Lib.hid (X.out.kept (below_unal (below_undrew hb)))) | (have X := Lib.hid (X.out.kept (below_undrew (below_unal hb)))) | (have X := Lib.hid (X.out.kept (below_unal (below_unal hb))))); have c0 := A.out.at 0 rfl; have c1 := A.out.at 1 rfl; have c2 := A.out.at 2 rfl; have d0 := X.out.at 0 rfl; have d1 := X.out.at 1 rfl; have d2 := X.out.at 2 rfl; clear hb)
    | (go_at_call_of 25 k; refine (specSameE_any k k' x x' y y' _ wx wx' wy wy').mono ?_; rintro e w' ⟨rfl, hb⟩; (first | (have Bw := Lib.hid (below_step Bw.out hb)) | (have Bw := Lib.hid (below_step Bw.out (below_undrew hb))) | (have Bw := Lib.hid (below_step Bw.out (below_unal hb))) | (have Bw := Lib.hid (below_step Bw.out (below_unal (below_undrew hb)))) | (have Bw := Lib.hid (below_step Bw.out (below_undrew (below_unal hb)))) | (have Bw := Lib.hid (below_step Bw.out (below_unal (below_unal hb))))); (first | (have A := Lib.hid (A.out.kept hb)) | (have A := Lib.hid (A.out.kept (below_undrew hb))) | (have A := Lib.hid (A.out.kept (below_unal hb))) | (have A := Lib.hid (A.out.kept (below_unal (below_undrew hb)))) | (have A := Lib.hid (A.out.kept (below_undrew (below_unal hb)))) | (have A := Lib.hid (A.out.kept (below_unal (below_unal hb))))); (first | (have X := Lib.hid (X.out.kept hb)) | (have X := Lib.hid (X.out.kept (below_undrew hb))) | (have X := Lib.hid (X.out.kept (below_unal hb))) | (have X := Lib.hid (X.out.kept (below_unal (below_undrew hb)))) | (have X := Lib.hid (X.out.kept (below_undrew (below_unal hb)))) | (have X := Lib.hid (X.out.kept (below_unal (below_unal hb))))); have c0 := A.out.at 0 rfl; have c1 := A.out.at 1 rfl; have c2 := A.out.at 2 rfl; have d0 := X.out.at 0 rfl; have d1 := X.out.at 1 rfl; have d2 := X.out.at 2 rfl; clear hb)
    | (go_at_call_of 26 k; refine (implSameE_any k k' x x' y y' _ wx wx' wy wy').mono ?_; rintro e w' ⟨rfl, hb⟩; (first | (have Bw := Lib.hid (below_step Bw.out hb)) | (have Bw := Lib.hid (below_step Bw.out (below_undrew hb))) | (have Bw := Lib.hid (below_step Bw.out (below_unal hb))) | (have Bw := Lib.hid (below_step Bw.out (below_unal (below_undrew hb)))) | (have Bw := Lib.hid (below_step Bw.out (below_undrew (below_unal hb)))) | (have Bw := Lib.hid (below_step Bw.out (below_unal (below_unal hb))))); (first | (have A := Lib.hid (A.out.kept hb)) | (have A := Lib.hid (A.out.kept (below_undrew hb))) | (have A := Lib.hid (A.out.kept (below_unal hb))) | (have A := Lib.hid (A.out.kept (below_unal (below_undrew hb)))) | (have A := Lib.hid (A.out.kept (below_undrew (below_unal hb)))) | (have A := Lib.hid (A.out.kept (below_unal (below_unal hb))))); (first | (have X := Lib.hid (X.out.kept hb)) | (have X := Lib.hid (X.out.kept (below_undrew hb))) | (have X := Lib.hid (X.out.kept (below_unal hb))) | (have X := Lib.hid (X.out.kept (below_unal (below_undrew hb)))) | (have X := Lib.hid (X.out.kept (below_undrew (below_unal hb)))) | (have X := Lib.hid (X.out.kept (below_unal (below_unal hb))))); have c0 := A.out.at 0 rfl; have c1 := A.out.at 1 rfl; have c2 := A.out.at 2 rfl; have d0 := X.out.at 0 rfl; have d1 := X.out.at 1 rfl; have d2 := X.out.at 2 rfl; clear hb))
  all_goals
    go_wp2
    go_region_held3 (fun w' => w'.cell? ⟨w.heap.size, 0, none⟩ = some (.int .i64 k) ∧ w'.cell? ⟨w.heap.size, 1, none⟩ = some (.float .f32 x) ∧ w'.cell? ⟨w.heap.size, 2, none⟩ = some (.float .f32 y) ∧ w'.cell? ⟨w.heap.size + 1, 0, none⟩ = some (.int .i64 k') ∧ w'.cell? ⟨w.heap.size + 1, 1, none⟩ = some (.float .f32 x') ∧ w'.cell? ⟨w.heap.size + 1, 2, none⟩ = some (.float .f32 y')) (first | exact ⟨c0, c1, c2, d0, d1, d2⟩ | exact ⟨by simp, by simp, by simp, by simp, by simp, by simp⟩)
      (first
      | (go_at_call_of 23 k; refine (toEnd_any k x y _).mono ?_; rintro e w' ⟨rfl, hb⟩; (first | (have Bw := Lib.hid (below_step Bw.out hb)) | (have Bw := Lib.hid (below_step Bw.out (below_undrew hb))) | (have Bw := Lib.hid (below_step Bw.out (below_unal hb))) | (have Bw := Lib.hid (below_step Bw.out (below_unal (below_undrew hb)))) | (have Bw := Lib.hid (below_step Bw.out (below_undrew (below_unal hb)))) | (have Bw := Lib.hid (below_step Bw.out (below_unal (below_unal hb))))); (first | (have A := Lib.hid (A.out.kept hb)) | (have A := Lib.hid (A.out.kept (below_undrew hb))) | (have A := Lib.hid (A.out.kept (below_unal hb))) | (have A := Lib.hid (A.out.kept (below_unal (below_undrew hb)))) | (have A := Lib.hid (A.out.kept (below_undrew (below_unal hb)))) | (have A := Lib.hid (A.out.kept (below_unal (below_unal hb))))); (first | (have X := Lib.hid (X.out.kept hb)) | (have X := Lib.hid (X.out.kept (below_undrew hb))) | (have X := Lib.hid (X.out.kept (below_unal hb))) | (have X := Lib.hid (X.out.kept (below_unal (below_undrew hb)))) | (have X := Lib.hid (X.out.kept (below_undrew (below_unal hb)))) | (have X := Lib.hid (X.out.kept (below_unal (below_unal hb))))); have c0 := A.out.at 0 rfl; have c1 := A.out.at 1 rfl; have c2 := A.out.at 2 rfl; have d0 := X.out.at 0 rfl; have d1 := X.out.at 1 rfl; have d2 := X.out.at 2 rfl; clear hb)
      | (go_at_call_of 23 k'; refine (toEnd_any k' x' y' _).mono ?_; rintro e w' ⟨rfl, hb⟩; (first | (have Bw := Lib.hid (below_step Bw.out hb)) | (have Bw := Lib.hid (below_step Bw.out (below_undrew hb))) | (have Bw := Lib.hid (below_step Bw.out (below_unal hb))) | (have Bw := Lib.hid (below_step Bw.out (below_unal (below_undrew hb)))) | (have Bw := Lib.hid (below_step Bw.out (below_undrew (below_unal hb)))) | (have Bw := Lib.hid (below_step Bw.out (below_unal (below_unal hb))))); (first | (have A := Lib.hid (A.out.kept hb)) | (have A := Lib.hid (A.out.kept (below_undrew hb))) | (have A := Lib.hid (A.out.kept (below_unal hb))) | (have A := Lib.hid (A.out.kept (below_unal (below_undrew hb)))) | (have A := Lib.hid (A.out.kept (below_undrew (below_unal hb)))) | (have A := Lib.hid (A.out.kept (below_unal (below_unal hb))))); (first | (have X := Lib.hid (X.out.kept hb)) | (have X := Lib.hid (X.out.kept (below_undrew hb))) | (have X := Lib.hid (X.out.kept (below_unal hb))) | (have X := Lib.hid (X.out.kept (below_unal (below_undrew hb)))) | (have X := Lib.hid (X.out.kept (below_undrew (below_unal hb)))) | (have X := Lib.hid (X.out.kept (below_unal (below_unal hb))))); have c0 := A.out.at 0 rfl; have c1 := A.out.at 1 rfl; have c2 := A.out.at 2 rfl; have d0 := X.out.at 0 rfl; have d1 := X.out.at 1 rfl; have d2 := X.out.at 2 rfl; clear hb)
      | (go_at_call_of 25 k; refine (specSameE_any k k' x x' y y' _ wx wx' wy wy').mono ?_; rintro e w' ⟨rfl, hb⟩; (first | (have Bw := Lib.hid (below_step Bw.out hb)) | (have Bw := Lib.hid (below_step Bw.out (below_undrew hb))) | (have Bw := Lib.hid (below_step Bw.out (below_unal hb))) | (have Bw := Lib.hid (below_step Bw.out (below_unal (below_undrew hb)))) | (have Bw := Lib.hid (below_step Bw.out (below_undrew (below_unal hb)))) | (have Bw := Lib.hid (below_step Bw.out (below_unal (below_unal hb))))); (first | (have A := Lib.hid (A.out.kept hb)) | (have A := Lib.hid (A.out.kept (below_undrew hb))) | (have A := Lib.hid (A.out.kept (below_unal hb))) | (have A := Lib.hid (A.out.kept (below_unal (below_undrew hb)))) | (have A := Lib.hid (A.out.kept (below_undrew (below_unal hb)))) | (have A := Lib.hid (A.out.kept (below_unal (below_unal hb))))); (first | (have X := Lib.hid (X.out.kept hb)) | (have X := Lib.hid (X.out.kept (below_undrew hb))) | (have X := Lib.hid (X.out.kept (below_unal hb))) | (have X := Lib.hid (X.out.kept (below_unal (below_undrew hb)))) | (have X := Lib.hid (X.out.kept (below_undrew (below_unal hb)))) | (have X := Lib.hid (X.out.kept (below_unal (below_unal hb))))); have c0 := A.out.at 0 rfl; have c1 := A.out.at 1 rfl; have c2 := A.out.at 2 rfl; have d0 := X.out.at 0 rfl; have d1 := X.out.at 1 rfl; have d2 := X.out.at 2 rfl; clear hb)
      | (go_at_call_of 26 k; refine (implSameE_any k k' x x' y y' _ wx wx' wy wy').mono ?_; rintro e w' ⟨rfl, hb⟩; (first | (have Bw := Lib.hid (below_step Bw.out hb)) | (have Bw := Lib.hid (below_step Bw.out (below_undrew hb))) | (have Bw := Lib.hid (below_step Bw.out (below_unal hb))) | (have Bw := Lib.hid (below_step Bw.out (below_unal (below_undrew hb)))) | (have Bw := Lib.hid (below_step Bw.out (below_undrew (below_unal hb)))) | (have Bw := Lib.hid (below_step Bw.out (below_unal (below_unal hb))))); (first | (have A := Lib.hid (A.out.kept hb)) | (have A := Lib.hid (A.out.kept (below_undrew hb))) | (have A := Lib.hid (A.out.kept (below_unal hb))) | (have A := Lib.hid (A.out.kept (below_unal (below_undrew hb)))) | (have A := Lib.hid (A.out.kept (below_undrew (below_unal hb)))) | (have A := Lib.hid (A.out.kept (below_unal (below_unal hb))))); (first | (have X := Lib.hid (X.out.kept hb)) | (have X := Lib.hid (X.out.kept (below_undrew hb))) | (have X := Lib.hid (X.out.kept (below_unal hb))) | (have X := Lib.hid (X.out.kept (below_unal (below_undrew hb)))) | (have X := Lib.hid (X.out.kept (below_undrew (below_unal hb)))) | (have X := Lib.hid (X.out.kept (below_unal (below_unal hb))))); have c0 := A.out.at 0 rfl; have c1 := A.out.at 1 rfl; have c2 := A.out.at 2 rfl; have d0 := X.out.at 0 rfl; have d1 := X.out.at 1 rfl; have d2 := X.out.at 2 rfl; clear hb))
    all_goals
      go_wp2
      go_ret
      exact Tru.below Bw.out
end Go.Proofs.Ytplepddciilbdaa
