/- Reads in hundredths: both sides. -/
import Derived.Test.YtabdinmodopadaaJz
import Derived.Test.YtabdinmodopadaaAllF
import Derived.Test.YtabdinmodopadaaSnQ
namespace Go.Proofs.Ytabdinmodopadaa
open Go.RowKit
set_option linter.unusedVariables false

theorem anyJ_some {f : Int → Bool} {zs : List Int} {k : Nat} (hk : k < zs.length) (h : f (zs.getD k 0) = true) : zs.any f = true := by
  rw [List.any_eq_true]
  refine ⟨zs.getD k 0, ?_, h⟩
  simp [List.getD_eq_getElem?_getD, hk]
theorem not_any_notJ (f : Int → Bool) (zs : List Int) : (!(zs.any (fun z => !(f z)))) = zs.all f := by
  induction zs with
  | nil => rfl
  | cons x xs ih => simp only [List.any_cons, List.all_cons, ← ih]; cases f x <;> simp
theorem anyJ_none {f : Int → Bool} {zs : List Int} (h : ∀ k, k < zs.length → f (zs.getD k 0) = false) : zs.any f = false := by
  rw [List.any_eq_false]
  intro x hx
  obtain ⟨i, hi, rfl⟩ := List.mem_iff_getElem.1 hx
  have := h i hi
  simpa [List.getD_eq_getElem?_getD, hi] using this
theorem allJ_none {f : Int → Bool} {zs : List Int} {k : Nat} (hk : k < zs.length) (h : f (zs.getD k 0) = false) : zs.all f = false := by
  rw [← not_any_notJ, anyJ_some hk (by rw [h]; rfl)]; rfl
theorem allJ_some {f : Int → Bool} {zs : List Int} (h : ∀ k, k < zs.length → f (zs.getD k 0) = true) : zs.all f = true := by
  rw [← not_any_notJ, anyJ_none (fun k hk => by rw [h k hk]; rfl)]; rfl


/-- what may be a read in hundredths -/
def hnd (x : Int) : Bool := decide (-27315 ≤ x) && decide (x ≤ 200000)
theorem implHnd_any (x : Int) (w : World) : Calls Try.prog 78 #[.int .i64 x] w (Bol (hnd x) w) := by
  by_cases h : -27315 ≤ x
  · by_cases h2 : x ≤ 200000
    · have f0 : decide (-27315 ≤ x) = true := by simp [h]
      have f1 : decide (x ≤ 200000) = true := by simp [h2]
      go_enter Try.func78, Try.ntmps78
      go_wp2
      go_ret
      exact ⟨ret_b (by simp [hnd, h, h2]), 0, rfl⟩
    · have f0 : decide (-27315 ≤ x) = true := by simp [h]
      have f1 : decide (x ≤ 200000) = false := by simp; omega
      go_enter Try.func78, Try.ntmps78
      go_wp2
      go_ret
      exact ⟨ret_b (by simp [hnd, h2]), 0, rfl⟩
  · have f0 : decide (-27315 ≤ x) = false := decide_eq_false h
    have E := Lib.hid (show hnd x = false by unfold hnd; rw [f0]; rfl)
    go_enter Try.func78, Try.ntmps78
    go_wp2
    go_ret
    exact ⟨ret_b E.out, 0, rfl⟩

theorem litHnd_any (y : Int) (q : Nat) (w : World) (hq : w.cell? ⟨q, 0, none⟩ = some (.func (.func 78) #[] #[])) :
    Calls Try.prog 89 #[.int .i64 y, .pointer (some ⟨q, 0, none⟩)] w (Bol (!(hnd y)) w) := by
  go_enter Try.func89, Try.ntmps89
  go_wp2_with (go_at_call 78; refine (implHnd_any _ _).mono ?_; rintro e w' ⟨rfl, n, rfl⟩)
  go_ret
  exact ⟨rfl, _, rfl⟩

theorem idxHnd_any (v : Value) (zs : List Int) (q : Nat) (w : World) (h : JRow w v zs) (hq : w.cell? ⟨q, 0, none⟩ = some (.func (.func 78) #[] #[])) :
    Calls Try.prog 94 #[v, .func (.func 89) #[] #[.pointer (some ⟨q, 0, none⟩)]] w (Idx (zs.any (fun z => !(hnd z))) w) := by
  have VS := Lib.hid (fun k (hk : k < zs.length) (h : (!(hnd (zs.getD k 0))) = true) => anyJ_some (f := fun z => !(hnd z)) hk h)
  have VN := Lib.hid (fun h => anyJ_none (f := fun z => !(hnd z)) (zs := zs) h)
  have HC := Lib.hid (fun (hn : 1 ≤ zs.length) => h.cells hn)
  have HL := Lib.hid h.len
  obtain ⟨a, cap, rfl⟩ := h.shape
  clear h
  generalize hb : zs.any (fun z => !(hnd z)) = b at *
  clear hb
  have HG : Hid (∀ k, zs.getD k 0 = zs.getD k 0) := Lib.hid (fun k => rfl)
  generalize hn : zs.length = n at *
  clear hn
  go_enter Try.func94, Try.ntmps94
  go_wp2
  go_loopw [5, 8] (fun _ i wr => ∃ k q : Nat, k ≤ n ∧ i = .int .i64 k ∧ Hid (∀ j, j < k → (!(hnd (zs.getD j 0))) = false) ∧ wr = w.drewN q) (fun _ i _ => n - (intOf i).toNat)
  case atStart => exact ⟨0, 0, Nat.zero_le _, rfl, Lib.hid (fun j hj => absurd hj (Nat.not_lt_zero _)), rfl⟩
  case round =>
    obtain ⟨k, q, hk, rfl, hall, rfl⟩ := hrel
    by_cases hlt : k < n
    · obtain ⟨b0, o0, cap', e, hc⟩ := HC.out (by omega)
      have ea : a = some ⟨b0, o0, none⟩ := by cases e; rfl
      have z0 := hc k hlt
      have VSk := Lib.hid (VS.out k hlt)
      clear e hc
      subst ea
      have hG := HL.out
      have hi : (0 : Int) ≤ (k : Int) := by omega
      have hi' : (k : Int) < (n : Int) := by omega
      generalize hy : zs.getD k 0 = y at *
      cases B : hnd y
      · have V := Lib.hid (VSk.out (by rw [B]; rfl))
        go_wp2_with (go_at_call 89; refine (litHnd_any y _ _ (by simpa using hq)).mono ?_; rw [B]; rintro e w' ⟨rfl, n, rfl⟩)
        go_ret
        exact ⟨_, rfl, by rw [V.out]; simp, _, rfl⟩
      · have V := Lib.hid (show (!(hnd (zs.getD k 0))) = false by rw [hy, B]; rfl)
        clear hy
        go_wp2_with (go_at_call 89; refine (litHnd_any y _ _ (by simpa using hq)).mono ?_; rw [B]; rintro e w' ⟨rfl, n, rfl⟩)
        go_roundw
        case rel => exact ⟨k + 1, _, by omega, by go_num, Lib.hid (fun j hj => by rcases Nat.lt_succ_iff_lt_or_eq.1 hj with h | h; exact hall.out j h; subst h; exact V.out), rfl⟩
        case measure => simp [intOf]; omega
    · have e := Lib.hid (show k = n by omega)
      go_wp2
      go_ret
      have := e.out
      subst this
      exact ⟨_, rfl, by rw [VN.out hall.out]; rfl, _, rfl⟩

theorem allHnd_any (v : Value) (zs : List Int) (w : World) (h : JRow w v zs) : Calls Try.prog 79 #[v, .func (.func 78) #[] #[]] w (BolB (zs.all (hnd)) w) := by
  have H := Lib.hid (h.below (below_al1 w (.cells [Value.func (.func 78) #[] #[]].toArray 82)))
  have e := Lib.hid (show (!(zs.any (fun z => !(hnd z)))) = zs.all (hnd) from not_any_notJ _ _)
  clear h
  go_enter Try.func79, Try.ntmps79
  go_wp2_with (first | (go_at_call 94; refine (idxHnd_any _ zs _ _ H.out (by simp)).mono ?_; rintro e w' ⟨i, rfl, hi, n, rfl⟩) | go_in)
  go_ret
  exact ⟨ret_b e.out.symm, below_drewN (below_al1 _ _) _⟩

def hns (zs : List Int) : Bool := decide (1 ≤ zs.length) && decide (zs.length ≤ 128) && zs.all hnd
theorem hns_len {zs : List Int} (h : hns zs = true) : 1 ≤ zs.length ∧ zs.length ≤ 128 := by
  unfold hns at h; simp only [Bool.and_eq_true, decide_eq_true_eq] at h; exact h.1
theorem inH_any (x : Int) (w : World) : Calls Try.prog 80 #[.int .i64 x, .int .i64 (-27315), .int .i64 200000] w (BolS (hnd x) w) := by
  by_cases h : -27315 ≤ x
  · by_cases h2 : x ≤ 200000
    · have f0 : decide (-27315 ≤ x) = true := by simp [h]
      have f1 : decide (x ≤ 200000) = true := by simp [h2]
      go_enter Try.func80, Try.ntmps80
      go_wp2
      go_ret
      exact ⟨ret_b (by simp [hnd, h, h2]), rfl⟩
    · have f0 : decide (-27315 ≤ x) = true := by simp [h]
      have f1 : decide (x ≤ 200000) = false := by simp; omega
      go_enter Try.func80, Try.ntmps80
      go_wp2
      go_ret
      exact ⟨ret_b (by simp [hnd, h2]), rfl⟩
  · have f0 : decide (-27315 ≤ x) = false := decide_eq_false h
    have E := Lib.hid (show hnd x = false by unfold hnd; rw [f0]; rfl)
    go_enter Try.func80, Try.ntmps80
    go_wp2
    go_ret
    exact ⟨ret_b E.out, rfl⟩

set_option maxHeartbeats 800000 in
theorem implHns_any (v : Value) (zs : List Int) (w : World) (h : JRow w v zs) : Calls Try.prog 58 #[v] w (BolB (hns zs) w) := by
  have HF := Lib.hid (allHnd_any v zs w h)
  have gL := h.len
  obtain ⟨a, cap, rfl⟩ := h.shape
  clear h
  unfold hns
  generalize zs.all hnd = B at *
  generalize zs.length = n at *
  by_cases h1 : 1 ≤ n
  rotate_left
  · have f1 : decide ((1 : Int) ≤ n) = false := by simp; omega
    go_enter Try.func58, Try.ntmps58
    go_wp2
    go_ret
    exact ⟨ret_b (by simp [h1]), Below.refl _ _⟩
  · have f1 : decide ((1 : Int) ≤ n) = true := by simp; omega
    by_cases h2 : n ≤ 128
    rotate_left
    · have f2 : decide ((n : Int) ≤ 128) = false := by simp; omega
      go_enter Try.func58, Try.ntmps58
      go_wp2
      go_ret
      exact ⟨ret_b (by simp [h2]), Below.refl _ _⟩
    · have f2 : decide ((n : Int) ≤ 128) = true := by simp; omega
      have P1 := Lib.hid (show decide (1 ≤ n) = true by simp [h1])
      have P2 := Lib.hid (show decide (n ≤ 128) = true by simp [h2])
      go_enter Try.func58, Try.ntmps58
      go_wp2_with fail
      refine HF.out.mono ?_
      rintro e w1 ⟨rfl, hb⟩
      have Bw := Lib.hid hb
      clear hb
      go_wp2
      go_ret
      exact ⟨ret_b (by rw [P1.out, P2.out]; simp), Bw.out⟩

set_option maxHeartbeats 1600000 in
theorem specHns_any (v : Value) (zs : List Int) (w : World) (h : JRow w v zs) : Calls Try.prog 59 #[v] w (BolS (hns zs) w) := by
  have HC := Lib.hid (fun (hn : 1 ≤ zs.length) => h.cells hn)
  have gL := h.len
  have HB := Lib.hid (fun k (hk : k < zs.length) (e : hnd (zs.getD k 0) = false) => allJ_none (f := hnd) hk e)
  have HA := Lib.hid (fun (e : ∀ k, k < zs.length → hnd (zs.getD k 0) = true) => allJ_some (f := hnd) e)
  obtain ⟨a, cap, rfl⟩ := h.shape
  clear h
  unfold hns
  generalize zs.all hnd = B at *
  generalize hnn : zs.length = n at *
  clear hnn
  by_cases h2 : n ≤ 128
  rotate_left
  · have f2 : decide ((n : Int) ≤ 128) = false := by simp; omega
    have P2 := Lib.hid (show decide (n ≤ 128) = false by simp; omega)
    have f1 : decide ((1 : Int) ≤ n) = true := by simp; omega
    have f0 : decide ((0 : Int) < n) = true := by simp; omega
    clear HB HA HC
    go_enter Try.func59, Try.ntmps59
    go_wp2
    go_loopw [4] (fun i wr => i = .int .i64 0 ∧ wr = w) (fun _ _ => 0)
    case atStart => exact ⟨rfl, rfl⟩
    case round =>
      obtain ⟨rfl, rfl⟩ := hrel
      go_wp2
      go_ret
      exact ⟨ret_b (by rw [P2.out]; simp), rfl⟩
  · have f2 : decide ((n : Int) ≤ 128) = true := by simp; omega
    have P2 := Lib.hid (show decide (n ≤ 128) = true by simp [h2])
    go_enter Try.func59, Try.ntmps59
    go_wp2
    go_loopw [4] (fun i wr => ∃ k : Nat, k ≤ n ∧ i = .int .i64 k ∧ wr = w ∧ Hid (∀ j, j < k → hnd (zs.getD j 0) = true)) (fun i _ => n - (intOf i).toNat)
    case atStart => exact ⟨0, Nat.zero_le _, rfl, rfl, Lib.hid (fun j hj => absurd hj (Nat.not_lt_zero _))⟩
    case round =>
      obtain ⟨k, hk, rfl, rfl, hall⟩ := hrel
      by_cases hlt : k < n
      · obtain ⟨b0, o0, c0, e, hc⟩ := HC.out (by omega)
        have ea : a = some ⟨b0, o0, none⟩ := by cases e; rfl
        have z0 := hc k hlt
        have HBk := Lib.hid (HB.out k hlt)
        clear e hc HC HB HA
        subst ea
        have hi : (0 : Int) ≤ (k : Int) := by omega
        have hi' : (k : Int) < (n : Int) := by omega
        generalize hy : zs.getD k 0 = y at *
        cases C : hnd y
        · have E := Lib.hid (HBk.out C)
          have CK := Lib.hid C
          clear C HBk
          go_wp2_with fail
          refine (inH_any y _).mono ?_
          rw [CK.out]
          rintro e w' ⟨rfl, rfl⟩
          go_wp2
          go_ret
          exact ⟨ret_b (by rw [E.out]; simp), rfl⟩
        · have V := Lib.hid (show hnd (zs.getD k 0) = true by rw [hy]; exact C)
          have CK := Lib.hid C
          clear C HBk hy
          go_wp2_with fail
          refine (inH_any y _).mono ?_
          rw [CK.out]
          rintro e w' ⟨rfl, rfl⟩
          go_wp2
          go_roundw
          case rel => exact ⟨k + 1, by omega, by go_num, (by first | rfl | trivial), Lib.hid (fun j hj => by rcases Nat.lt_succ_iff_lt_or_eq.1 hj with h | h; exact hall.out j h; subst h; exact V.out)⟩
          case measure => simp [intOf]; omega
      · have e : k = n := by omega
        have E := Lib.hid (HA.out (by rw [← e]; exact hall.out))
        subst e
        clear HA HB HC
        by_cases h1 : 1 ≤ k
        · have f1 : decide ((1 : Int) ≤ k) = true := by simp; omega
          have P1 := Lib.hid (show decide (1 ≤ k) = true by simp [h1])
          go_wp2
          go_ret
          exact ⟨ret_b (by rw [E.out, P1.out, P2.out]; rfl), rfl⟩
        · have f1 : decide ((1 : Int) ≤ k) = false := by simp; omega
          have P1 := Lib.hid (show decide (1 ≤ k) = false by simp; omega)
          go_wp2
          go_ret
          exact ⟨ret_b (by rw [P1.out]; rfl), rfl⟩

end Go.Proofs.Ytabdinmodopadaa
