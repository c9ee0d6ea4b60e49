/- Differences of finite numbers and their sizes; lists of spikes. -/
import Derived.Test.YtabdinmodopadaaMed
import Derived.Test.YtabdinmodopadaaSpkM
import Derived.Test.YtabdinmodopadaaLstJ
import Derived.Test.YtabdinmodopadaaSnLQ
import Derived.Test.YtabdinmodopadaaSnNQ
namespace Go.Proofs.Ytabdinmodopadaa
open Go.RowKit
set_option linter.unusedVariables false

def spO (x m l : Nat) : Bool := FloatKind.f32.format.order (spS x m) l == some .gt
def spL (zs ms : List Nat) (l : Nat) : Nat → List Int
  | 0 => []
  | k + 1 => bif spO (zs.getD k 0) (ms.getD k 0) l then spL zs ms l k ++ [(k : Int)] else spL zs ms l k
theorem spL_len (zs ms : List Nat) (l : Nat) : ∀ k, (spL zs ms l k).length ≤ k
  | 0 => Nat.le_refl _
  | k + 1 => by
    unfold spL
    have := spL_len zs ms l k
    cases spO (zs.getD k 0) (ms.getD k 0) l
    · simp only [cond_false]; omega
    · simp only [cond_true, List.length_append, List.length_cons, List.length_nil]; omega
theorem spL_yes {zs ms : List Nat} {l k : Nat} (h : spO (zs.getD k 0) (ms.getD k 0) l = true) : spL zs ms l (k + 1) = spL zs ms l k ++ [(k : Int)] := by rw [spL, h]; rfl
theorem spL_no {zs ms : List Nat} {l k : Nat} (h : spO (zs.getD k 0) (ms.getD k 0) l = false) : spL zs ms l (k + 1) = spL zs ms l k := by rw [spL, h]; rfl
def spB (zs : List Nat) (l : Nat) : Bool := rds zs && lst l
def spR (zs : List Nat) (l : Nat) : List Int := bif spB zs l then spL zs (medU zs (zs.length - 2)) l zs.length else []
theorem spR_len (zs : List Nat) (l : Nat) : (spR zs l).length ≤ 400 := by
  unfold spR
  cases h : spB zs l
  · simp
  · unfold spB at h
    rw [Bool.and_eq_true] at h
    simp only [cond_true]
    have := spL_len zs (medU zs (zs.length - 2)) l zs.length
    have := (rds_len h.1).2
    omega
theorem sp_no {zs : List Nat} {l : Nat} {w w' : World} (h : spB zs l = false) (hb : Below w.heap.size w w') : LstJO (spR zs l) (spB zs l) w (.returned (.tuple #[.slice none 0 0, .bool false])) w' := by
  unfold spR; rw [h]; exact LstJO.no hb
theorem sp_yes {v : Value} {zs : List Nat} {l : Nat} {w w' : World} (h : spB zs l = true) (ho : OwnJ w' w.heap.size v (spL zs (medU zs (zs.length - 2)) l zs.length)) (hb : Below w.heap.size w w') : LstJO (spR zs l) (spB zs l) w (.returned (.tuple #[v, .bool true])) w' := by
  unfold spR; rw [h]; exact ⟨v, rfl, ho.orow, hb⟩
theorem OwnJ.nilJ (w : World) (base : Nat) : OwnJ w base (.slice none 0 0) [] := ⟨rfl, .inl ⟨rfl, rfl⟩⟩
/-- medians are finite -/
theorem med_fin {a b c : Nat} (ha : fin .f32 a = true) (hb : fin .f32 b = true) (hc : fin .f32 c = true) : fin .f32 (med a b c) = true := by
  unfold med; split
  · exact hb
  · split
    · exact ha
    · exact hc
theorem medU_fin {zs : List Nat} (h : ∀ i, i < zs.length → fin .f32 (zs.getD i 0) = true) : ∀ k, (k = 0 ∨ k + 2 ≤ zs.length) → ∀ i, i < zs.length → fin .f32 ((medU zs k).getD i 0) = true
  | 0, _, i, hi => h i hi
  | k + 1, hk, i, hi => by
    rw [medU]
    by_cases e : i = k + 1
    · subst e
      rw [List.getD_eq_getElem?_getD, List.getElem?_set_self (by rw [medU_len]; exact hi)]
      exact med_fin (h k (by omega)) (h (k + 1) (by omega)) (h (k + 2) (by omega))
    · rw [List.getD_eq_getElem?_getD, List.getElem?_set_ne (Ne.symm e), ← List.getD_eq_getElem?_getD]
      exact medU_fin h k (by omega) i hi
theorem lst_num {l : Nat} (h : lst l = true) : nn .f32 l = false := by
  unfold lst at h
  rw [Bool.and_eq_true] at h
  cases hn : nn .f32 l
  · rfl
  · rw [fin_nan hn] at h; cases h.1

theorem specSizeN_any (q : Nat) (hq : q < 4294967296) (hn : nn .f32 q = false) (w : World) : Calls Try.prog 53 #[.float .f32 q] w fun e w' => e = .returned (.float .f32 (q % 2147483648)) ∧ ∃ n, w' = w.drewN n := by
  have hb := nn_big hn
  have n0 : nn .f32 0 = false := nn_small (by decide)
  have ho := ordk hn n0
  have k0 : key FloatKind.f32.format 0 = 0 := kpos (x := 0) (by decide)
  rw [k0] at ho
  by_cases hs : q < 2147483648
  · rw [kpos hs] at ho
    by_cases h0 : q = 0
    · subst h0
      rw [icmp_eq (by rfl)] at ho
      have f1 : (FloatKind.f32.format.order 0 0 == some Ordering.lt) = false := by rw [ho]; rfl
      have f2 : (FloatKind.f32.format.order 0 0 == some Ordering.eq) = true := by rw [ho]; rfl
      clear ho
      go_enter Try.func53, Try.ntmps53
      go_wp2_with (first | (refine wpList_farith rfl _ _ _ _ _ rfl rfl _ _ _ rfl rfl ?_; intro _ _ _))
      go_ret
      rename_i h1
      have e := num_of_cn (T := 0) (by rw [h1.1]; decide +kernel) (by decide)
      exact ⟨by rw [e]; rfl, _, rfl⟩
    · rw [icmp_gt (by omega)] at ho
      have f1 : (FloatKind.f32.format.order q 0 == some Ordering.lt) = false := by rw [ho]; rfl
      have f2 : (FloatKind.f32.format.order q 0 == some Ordering.eq) = false := by rw [ho]; rfl
      have E := Lib.hid (Nat.mod_eq_of_lt hs).symm
      clear ho
      go_enter Try.func53, Try.ntmps53
      go_wp2_with (first | (refine wpList_farith rfl _ _ _ _ _ rfl rfl _ _ _ rfl rfl ?_; intro _ _ _))
      go_ret
      exact ⟨congrArg (fun z => Ending.returned (.float .f32 z)) E.out, 0, rfl⟩
  · rw [kneg (by omega) hq] at ho
    have f3 : (FloatKind.f32.format.order q 0 == some Ordering.lt || FloatKind.f32.format.order q 0 == some Ordering.eq) = true := by
      by_cases h1 : q = 2147483648
      · rw [icmp_eq (by omega)] at ho; rw [ho]; rfl
      · rw [icmp_lt (by omega)] at ho; rw [ho]; rfl
    have F : Hid (∀ s, FR .sub .f32 0 q s → s = q % 2147483648) := Lib.hid (fun s h => by
      have c : cn .f32 s = fop .sub .f32 0 q := by rw [h.1, cn_small (x := 0) (by decide), cn_small (by omega)]
      by_cases hf : q % 2147483648 < 2139095040
      · rw [sub_neg hq (by omega) hf] at c
        exact num_of_cn c (by rw [Nat.mod_mod]; omega)
      · have e : q = 4286578688 := by omega
        subst e
        exact num_of_cn (s := s) (T := 2139095040) (by rw [c]; decide +kernel) (by decide))
    clear ho
    generalize hx : (FloatKind.f32.format.order q 0 == some Ordering.lt) = u at *
    generalize hy : (FloatKind.f32.format.order q 0 == some Ordering.eq) = v at *
    cases u <;> cases v
    · cases f3
    all_goals
      go_enter Try.func53, Try.ntmps53
      go_wp2_with (first | (refine wpList_farith rfl _ _ _ _ _ rfl rfl _ _ _ rfl rfl ?_; intro _ _ _))
      go_ret
      rename_i h1
      exact ⟨congrArg (fun z => Ending.returned (.float .f32 z)) (F.out _ h1), _, rfl⟩

end Go.Proofs.Ytabdinmodopadaa
