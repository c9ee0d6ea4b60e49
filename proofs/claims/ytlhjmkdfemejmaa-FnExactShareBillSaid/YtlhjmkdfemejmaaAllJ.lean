/- Whether all integers of a list are as a function tells. -/
import Derived.Test.YtlhjmkdfemejmaaJz
import Derived.Test.YtlhjmkdfemejmaaAllP
namespace Go.Proofs.Ytlhjmkdfemejmaa
open Go.RowKit
set_option linter.unusedVariables false

theorem anyJ_some {f : Int → Bool} {zs : List Int} {k : Nat} (hk : k < zs.length) (h : f (zs.getD k 0) = true) : zs.any f = true := by
  rw [List.any_eq_true]
  refine ⟨zs.getD k 0, ?_, h⟩
  simp [List.getD_eq_getElem?_getD, hk]
theorem not_any_notJ (f : Int → Bool) (zs : List Int) : (!(zs.any (fun z => !(f z)))) = zs.all f := by
  induction zs with
  | nil => rfl
  | cons x xs ih => simp only [List.any_cons, List.all_cons, ← ih]; cases f x <;> simp
theorem anyJ_none {f : Int → Bool} {zs : List Int} (h : ∀ k, k < zs.length → f (zs.getD k 0) = false) : zs.any f = false := by
  rw [List.any_eq_false]
  intro x hx
  obtain ⟨i, hi, rfl⟩ := List.mem_iff_getElem.1 hx
  have := h i hi
  simpa [List.getD_eq_getElem?_getD, hi] using this
theorem allJ_none {f : Int → Bool} {zs : List Int} {k : Nat} (hk : k < zs.length) (h : f (zs.getD k 0) = false) : zs.all f = false := by
  rw [← not_any_notJ, anyJ_some hk (by rw [h]; rfl)]; rfl
theorem allJ_some {f : Int → Bool} {zs : List Int} (h : ∀ k, k < zs.length → f (zs.getD k 0) = true) : zs.all f = true := by
  rw [← not_any_notJ, anyJ_none (fun k hk => by rw [h k hk]; rfl)]; rfl

/-- what may be a price -/
def amt (x : Int) : Bool := decide (0 ≤ x) && decide (x ≤ 1000000)
def blk (x : Int) : Bool := amt x && decide (0 < x)
theorem implAmt_any (x : Int) (w : World) : Calls Try.prog 97 #[.int .i64 x] w (Bol (amt x) w) := by
  by_cases h : 0 ≤ x
  · go_enter Try.func97, Try.ntmps97
    go_wp2
    go_ret
    exact ⟨by simp [amt, h], 0, rfl⟩
  · go_enter Try.func97, Try.ntmps97
    go_wp2
    go_ret
    exact ⟨by simp [amt]; intro; omega, 0, rfl⟩
theorem litAmt_any (y : Int) (q : Nat) (w : World) (hq : w.cell? ⟨q, 0, none⟩ = some (.func (.func 97) #[] #[])) :
    Calls Try.prog 143 #[.int .i64 y, .pointer (some ⟨q, 0, none⟩)] w (Bol (!(amt y)) w) := by
  go_enter Try.func143, Try.ntmps143
  go_wp2_with (go_at_call 97; refine (implAmt_any _ _).mono ?_; rintro e w' ⟨rfl, n, rfl⟩)
  go_ret
  exact ⟨rfl, _, rfl⟩

theorem idxAmt_any (v : Value) (zs : List Int) (q : Nat) (w : World) (h : JRow w v zs) (hq : w.cell? ⟨q, 0, none⟩ = some (.func (.func 97) #[] #[])) :
    Calls Try.prog 170 #[v, .func (.func 143) #[] #[.pointer (some ⟨q, 0, none⟩)]] w (Idx (zs.any (fun z => !(amt z))) w) := by
  have VS := Lib.hid (fun k (hk : k < zs.length) (h : (!(amt (zs.getD k 0))) = true) => anyJ_some (f := fun z => !(amt z)) hk h)
  have VN := Lib.hid (fun h => anyJ_none (f := fun z => !(amt z)) (zs := zs) h)
  have HC := Lib.hid (fun (hn : 1 ≤ zs.length) => h.cells hn)
  have HL := Lib.hid h.len
  obtain ⟨a, cap, rfl⟩ := h.shape
  clear h
  generalize hb : zs.any (fun z => !(amt z)) = b at *
  clear hb
  have HG : Hid (∀ k, zs.getD k 0 = zs.getD k 0) := Lib.hid (fun k => rfl)
  generalize hn : zs.length = n at *
  clear hn
  go_enter Try.func170, Try.ntmps170
  go_wp2
  go_loopw [5, 8] (fun _ i wr => ∃ k q : Nat, k ≤ n ∧ i = .int .i64 k ∧ Hid (∀ j, j < k → (!(amt (zs.getD j 0))) = false) ∧ wr = w.drewN q) (fun _ i _ => n - (intOf i).toNat)
  case atStart => exact ⟨0, 0, Nat.zero_le _, rfl, Lib.hid (fun j hj => absurd hj (Nat.not_lt_zero _)), rfl⟩
  case round =>
    obtain ⟨k, q, hk, rfl, hall, rfl⟩ := hrel
    by_cases hlt : k < n
    · obtain ⟨b0, o0, cap', e, hc⟩ := HC.out (by omega)
      have ea : a = some ⟨b0, o0, none⟩ := by cases e; rfl
      have z0 := hc k hlt
      have VSk := Lib.hid (VS.out k hlt)
      clear e hc
      subst ea
      have hG := HL.out
      have hi : (0 : Int) ≤ (k : Int) := by omega
      have hi' : (k : Int) < (n : Int) := by omega
      generalize hy : zs.getD k 0 = y at *
      cases B : amt y
      · have V := Lib.hid (VSk.out (by rw [B]; rfl))
        go_wp2_with (go_at_call 143; refine (litAmt_any y _ _ (by simpa using hq)).mono ?_; rw [B]; rintro e w' ⟨rfl, n, rfl⟩)
        go_ret
        exact ⟨_, rfl, by rw [V.out]; simp, _, rfl⟩
      · have V := Lib.hid (show (!(amt (zs.getD k 0))) = false by rw [hy, B]; rfl)
        clear hy
        go_wp2_with (go_at_call 143; refine (litAmt_any y _ _ (by simpa using hq)).mono ?_; rw [B]; rintro e w' ⟨rfl, n, rfl⟩)
        go_roundw
        case rel => exact ⟨k + 1, _, by omega, by go_num, Lib.hid (fun j hj => by rcases Nat.lt_succ_iff_lt_or_eq.1 hj with h | h; exact hall.out j h; subst h; exact V.out), rfl⟩
        case measure => simp [intOf]; omega
    · have e := Lib.hid (show k = n by omega)
      go_wp2
      go_ret
      have := e.out
      subst this
      exact ⟨_, rfl, by rw [VN.out hall.out]; rfl, _, rfl⟩

theorem allAmt_any (v : Value) (zs : List Int) (w : World) (h : JRow w v zs) : Calls Try.prog 96 #[v, .func (.func 97) #[] #[]] w (BolB (zs.all (amt)) w) := by
  have H := Lib.hid (h.below (below_al1 w (.cells [Value.func (.func 97) #[] #[]].toArray 107)))
  have e := Lib.hid (show (!(zs.any (fun z => !(amt z)))) = zs.all (amt) from not_any_notJ _ _)
  clear h
  go_enter Try.func96, Try.ntmps96
  go_wp2_with (first | (go_at_call 170; refine (idxAmt_any _ zs _ _ H.out (by simp)).mono ?_; rintro e w' ⟨i, rfl, hi, n, rfl⟩) | go_in)
  go_ret
  exact ⟨ret_b e.out.symm, below_drewN (below_al1 _ _) _⟩

end Go.Proofs.Ytlhjmkdfemejmaa
