/- How a bill is shared: both sides. -/
import Derived.Test.YtlhjmkdfemejmaaLstJ
import Derived.Test.YtlhjmkdfemejmaaPrcA
import Derived.Test.YtlhjmkdfemejmaaMn
namespace Go.Proofs.Ytlhjmkdfemejmaa
open Go.RowKit
set_option linter.unusedVariables false

def sumZ (u : List Int) : Nat → Int
  | 0 => 0
  | k + 1 => sumZ u k + u.getD k 0
theorem sumZ_bd {u : List Int} {n : Nat} (hu : ∀ k, k < n → 0 ≤ u.getD k 0 ∧ u.getD k 0 ≤ 1000000) : ∀ k, k ≤ n → 0 ≤ sumZ u k ∧ sumZ u k ≤ 1000000 * (k : Int) := by
  intro k
  induction k with
  | zero => intro _; exact ⟨Int.le_refl _, by simp [sumZ]⟩
  | succ k ih =>
    intro hk
    have h1 := ih (by omega)
    have h2 := hu k (by omega)
    unfold sumZ
    generalize u.getD k 0 = m at *
    omega
/-- what is left of l behind k units -/
def shl (l : Int) (u : List Int) : Nat → Int
  | 0 => l
  | k + 1 => shl l u k - mn (shl l u k) (u.getD k 0)
theorem shl_bd {l : Int} {u : List Int} {n : Nat} {M : Int} (hl : 0 ≤ l ∧ l ≤ M) (hu : ∀ k, k < n → 0 ≤ u.getD k 0 ∧ u.getD k 0 ≤ 1000000) : ∀ k, k ≤ n → 0 ≤ shl l u k ∧ shl l u k ≤ M := by
  intro k
  induction k with
  | zero => intro _; exact hl
  | succ k ih =>
    intro hk
    have h1 := ih (by omega)
    have h2 := hu k (by omega)
    have h3 := mn_bd h1 h2.1
    unfold shl
    generalize mn (shl l u k) (u.getD k 0) = m at *
    omega
/-- the first k shares -/
def shrL (e l : Int) (u : List Int) : Nat → List Int
  | 0 => []
  | k + 1 => shrL e l u k ++ [e * u.getD k 0 + mn (shl l u k) (u.getD k 0)]
theorem shrL_length (e l : Int) (u : List Int) : ∀ k, (shrL e l u k).length = k := by
  intro k
  induction k with
  | zero => rfl
  | succ k ih => unfold shrL; rw [List.length_append, ih]; rfl
theorem mul_bd2 {e x : Int} (he : 0 ≤ e ∧ e ≤ 1000000000000) (hx : 0 ≤ x ∧ x ≤ 1000000) : 0 ≤ e * x ∧ e * x ≤ 1000000000000000000 := by
  refine ⟨Int.mul_nonneg he.1 hx.1, ?_⟩
  have := Int.mul_le_mul he.2 hx.2 hx.1 (by omega)
  simpa using this
def shrOk (b : Int) (u : List Int) : Bool := decide (0 ≤ b) && decide (b ≤ 1000000000000) && decide (u.length ≤ 8) && u.all amt
def shrB (b : Int) (u : List Int) : Bool := shrOk b u && !(sumZ u u.length == 0)
def shrS (b : Int) (u : List Int) : List Int := bif shrB b u then shrL (b / sumZ u u.length) (b % sumZ u u.length) u u.length else []
theorem shrS_len (b : Int) (u : List Int) : (shrS b u).length ≤ 200 := by
  unfold shrS
  cases h : shrB b u
  · simp
  · unfold shrB shrOk at h
    simp only [Bool.and_eq_true, decide_eq_true_eq] at h
    simp only [cond_true]
    rw [shrL_length]
    omega
theorem shrOk_at {b : Int} {u : List Int} (h : shrOk b u = true) : (0 ≤ b ∧ b ≤ 1000000000000) ∧ u.length ≤ 8 ∧ ∀ k, k < u.length → 0 ≤ u.getD k 0 ∧ u.getD k 0 ≤ 1000000 := by
  unfold shrOk at h
  simp only [Bool.and_eq_true, decide_eq_true_eq] at h
  refine ⟨h.1.1, h.1.2, fun k hk => ?_⟩
  have := (List.all_eq_true.1 h.2) (u.getD k 0) (by simp [List.getD_eq_getElem?_getD, hk])
  simpa [amt] using this
theorem ediv_bd {b t : Int} (hb : 0 ≤ b ∧ b ≤ 1000000000000) (ht : 1 ≤ t) : 0 ≤ b / t ∧ b / t ≤ 1000000000000 :=
  ⟨Int.ediv_nonneg hb.1 (by omega), Int.le_trans (Int.ediv_le_self _ hb.1) hb.2⟩
theorem emod_bd {b t : Int} (ht : 1 ≤ t ∧ t ≤ 8000000) : 0 ≤ b % t ∧ b % t ≤ 8000000 :=
  ⟨Int.emod_nonneg _ (by omega), by have := Int.emod_lt_of_pos b (show 0 < t by omega); omega⟩
theorem shrB_no {b : Int} {u : List Int} {w w' : World} (h : shrB b u = false) (hb : Below w.heap.size w w') : LstJO (shrS b u) (shrB b u) w (.returned (.tuple #[.slice none 0 0, .bool false])) w' := by
  unfold shrS; rw [h]; exact LstJO.no hb
theorem LstJO.lst {S : List Int} {b : Bool} {w : World} {e : Ending} {w' : World} (h : LstJO S b w e w') (hm : S.length ≤ maxLen) : LstJB S b w e w' := by
  obtain ⟨v, he, ho, hb⟩ := h
  exact ⟨v, he, ho.frow hm, hb⟩
theorem shrB_yes {b : Int} {u : List Int} {w w' : World} {v : Value} (h : shrB b u = true) (ho : OwnJ w' w.heap.size v (shrL (b / sumZ u u.length) (b % sumZ u u.length) u u.length)) (hb : Below w.heap.size w w') : LstJO (shrS b u) (shrB b u) w (.returned (.tuple #[v, .bool true])) w' := by
  unfold shrS; rw [h]; exact ⟨v, rfl, ho.orow, hb⟩
theorem OwnJ.nil (w : World) (base : Nat) : OwnJ w base (.slice none 0 0) [] := ⟨rfl, .inl ⟨rfl, rfl⟩⟩

set_option maxRecDepth 10000 in
set_option maxHeartbeats 3200000 in
theorem specShr_any (b : Int) (v : Value) (u : List Int) (w : World) (h : JRow w v u) : Calls Try.prog 38 #[.int .i64 b, v] w (LstJO (shrS b u) (shrB b u) w) := by
  have FN := Lib.hid (fun (e : shrB b u = false) (w1 : World) (hb : Below w.heap.size w w1) => shrB_no e hb)
  have FY := Lib.hid (fun (e : shrB b u = true) (v : Value) (w1 : World) ho (hb : Below w.heap.size w w1) => shrB_yes (v := v) e ho hb)
  have HC := Lib.hid (fun w1 (hb : Below w.heap.size w w1) (hn : 1 ≤ u.length) => (h.below hb).cells hn)
  have HL := Lib.hid h.len
  have HP := Lib.hid (specPrc_any v u w h)
  obtain ⟨a, cap, rfl⟩ := h.shape
  clear h
  generalize hS : shrS b u = S at *
  generalize hB : shrB b u = BB at *
  clear hS
  cases B0 : (decide (0 ≤ b) && decide (b ≤ 1000000000000))
  · have E := Lib.hid (FN.out (by rw [← hB]; unfold shrB shrOk; rw [B0]; rfl))
    have HI := Lib.hid B0
    clear B0 FN FY hB
    go_enter Try.func38, Try.ntmps38
    go_wp2_with fail
    refine (in_any b _ _ _).mono ?_
    rw [HI.out]
    rintro e w' ⟨rfl, rfl⟩
    go_wp2
    go_ret2
    exact E.out _ (by repeat (first | (with_reducible exact Bw.out) | (with_reducible exact Below.refl _ _) | (with_reducible refine below_drewN ?_ _)))
  · cases B1 : prc u
    · have HQ := Lib.hid B1
      have HI := Lib.hid B0
      have EB := Lib.hid (show shrB b u = false by
        unfold prc at B1
        cases h1 : span u.length
        · by_cases h0 : u.length = 0
          · unfold shrB; rw [h0]; simp [sumZ]
          · have : ¬ u.length ≤ 8 := by
              intro h8
              have : span u.length = true := by unfold span; simp; omega
              rw [this] at h1; cases h1
            unfold shrB shrOk; simp [this]
        · rw [h1] at B1
          unfold shrB shrOk
          rw [show u.all amt = false by simpa using B1]
          simp)
      have E := Lib.hid (FN.out (by rw [← hB]; exact EB.out))
      clear B0 B1 FN FY hB EB
      go_enter Try.func38, Try.ntmps38
      go_wp2_with fail
      refine (in_any b _ _ _).mono ?_
      rw [HI.out]
      rintro e w' ⟨rfl, rfl⟩
      go_wp2_with fail
      refine HP.out.mono ?_
      rw [HQ.out]
      rintro e w' ⟨rfl, q, rfl⟩
      go_wp2
      go_ret2
      exact E.out _ (by repeat (first | (with_reducible exact Bw.out) | (with_reducible exact Below.refl _ _) | (with_reducible refine below_drewN ?_ _)))
    · by_cases B2 : u.length ≤ 8
      rotate_left
      · have HQ := Lib.hid B1
        have HI := Lib.hid B0
        have E := Lib.hid (FN.out (by rw [← hB]; unfold shrB shrOk; simp [B2]))
        have f0 : decide ((8 : Int) < (u.length : Int)) = true := by simp; omega
        clear B0 B1 B2 FN FY hB
        generalize u.length = n at *
        go_enter Try.func38, Try.ntmps38
        go_wp2_with fail
        refine (in_any b _ _ _).mono ?_
        rw [HI.out]
        rintro e w' ⟨rfl, rfl⟩
        go_wp2_with fail
        refine HP.out.mono ?_
        rw [HQ.out]
        rintro e w' ⟨rfl, q, rfl⟩
        go_wp2
        go_ret2
        exact E.out _ (by repeat (first | (with_reducible exact Bw.out) | (with_reducible exact Below.refl _ _) | (with_reducible refine below_drewN ?_ _)))
      · have OKK : shrOk b u = true := by
          unfold prc at B1
          simp only [Bool.and_eq_true, decide_eq_true_eq] at B0 B1
          unfold shrOk
          simp [B0.1, B0.2, B2, B1.2]
        have f0 : decide ((8 : Int) < (u.length : Int)) = false := by simp; omega
        have HQ := Lib.hid B1
        have HI := Lib.hid B0
        clear B0 B1 B2
        obtain ⟨hb, h8, hu⟩ := shrOk_at OKK
        have SB := Lib.hid (sumZ_bd hu)
        have HU := Lib.hid hu
        have SS := Lib.hid (fun k => show sumZ u (k + 1) = sumZ u k + u.getD k 0 from rfl)
        have T1 := Lib.hid (fun (h : 1 ≤ sumZ u u.length) => show shrB b u = true by unfold shrB; rw [OKK]; simp; omega)
        have T0 := Lib.hid (fun (h : sumZ u u.length = 0) => show shrB b u = false by unfold shrB; rw [OKK, h]; rfl)
        have TE := Lib.hid (show BB = shrB b u from hB.symm)
        have QL := Lib.hid (fun e l => shrL_length e l u)
        have LB := Lib.hid (fun (l : Int) (hl : 0 ≤ l ∧ l ≤ 8000000) => shl_bd (n := u.length) hl hu)
        have LS := Lib.hid (fun l k => show shl l u (k + 1) = shl l u k - mn (shl l u k) (u.getD k 0) from rfl)
        have RS := Lib.hid (fun e l k => show shrL e l u (k + 1) = shrL e l u k ++ [e * u.getD k 0 + mn (shl l u k) (u.getD k 0)] from rfl)
        have TB := Lib.hid (SB.out u.length (Nat.le_refl _))
        clear OKK hB hu
        generalize hnn : u.length = n at *
        clear hnn
        go_enter Try.func38, Try.ntmps38
        go_wp2_with fail
        refine (in_any b _ _ _).mono ?_
        rw [HI.out]
        rintro e w' ⟨rfl, rfl⟩
        go_wp2_with fail
        refine HP.out.mono ?_
        rw [HQ.out]
        rintro e w' ⟨rfl, q, rfl⟩
        have Bw := Lib.hid (below_drewN (Below.refl w.heap.size w) q)
        have HD := HC
        have HC := Lib.hid (HC.out _ Bw.out)
        go_wp2
        go_loop [6, 7] (fun s i => ∃ k : Nat, k ≤ n ∧ i = .int .i64 k ∧ s = .int .i64 (sumZ u k)) (fun _ i => n - (intOf i).toNat)
        case atStart => exact ⟨0, Nat.zero_le _, rfl, rfl⟩
        case round =>
          obtain ⟨k, hk, rfl, rfl⟩ := hrel
          by_cases hlt : k < n
          · obtain ⟨b0, o0, c0, e, hc⟩ := HC.out (by omega)
            have ea : a = some ⟨b0, o0, none⟩ := by cases e; rfl
            have z0 := hc k hlt
            have bd := SB.out k hk
            have bu := HU.out k hlt
            have ST := Lib.hid (SS.out k)
            clear e hc
            subst ea
            have hi : (0 : Int) ≤ (k : Int) := by omega
            have hi' : (k : Int) < (n : Int) := by omega
            generalize u.getD k 0 = x at *
            generalize sumZ u k = s at *
            go_wp2
            try go_region
            all_goals go_wp2
            go_round
            case rel => exact ⟨k + 1, by omega, by go_num, by rw [ST.out]⟩
            case measure => simp [intOf]; omega
          · have e := Lib.hid (show k = n by omega)
            have ek : sumZ u k = sumZ u n := by rw [e.out]
            have tb := TB.out
            have tn : sumZ u n ≤ 8000000 := by omega
            rw [ek]
            clear ek e SB SS TB
            by_cases ht : sumZ u n = 0
            · have E := Lib.hid (FN.out (TE.out.trans (T0.out ht)))
              have f5 : (sumZ u n == (0 : Int)) = true := by simp [ht]
              clear FN FY T0 T1 QL LB LS RS
              generalize sumZ u n = tt at *
              go_wp2
              go_ret2
              exact E.out _ (by repeat (first | (with_reducible exact Bw.out) | (with_reducible exact Below.refl _ _) | (with_reducible refine below_drewN ?_ _)))
            · have ht1 : 1 ≤ sumZ u n := by omega
              have E := Lib.hid (FY.out (TE.out.trans (T1.out ht1)))
              have f5 : (sumZ u n == (0 : Int)) = false := by simp [ht]
              have eb := ediv_bd hb ht1
              have lb := emod_bd (b := b) ⟨ht1, tn⟩
              clear FN FY T0 T1 tb ht TE
              generalize hee : sumZ u n = tt at *
              clear hee
              have LBl := Lib.hid (LB.out _ lb)
              have QLl := Lib.hid (QL.out (b / tt) (b % tt))
              have LSl := Lib.hid (LS.out (b % tt))
              have RSl := Lib.hid (RS.out (b / tt) (b % tt))
              have L0 : Hid (shl (b % tt) u 0 = b % tt) := Lib.hid rfl
              have R0 : Hid (shrL (b / tt) (b % tt) u 0 = []) := Lib.hid rfl
              clear LB QL LS RS hk
              go_wp2
              skip
              try go_region
              all_goals go_wp2
              generalize b / tt = ee at *
              generalize b % tt = ll at *
              go_loopw [9, 10, 11, 12] (fun l v i _ wr => ∃ j : Nat, j ≤ n ∧ i = .int .i64 j ∧ l = .int .i64 (shl ll u j) ∧ Hid (OwnJ wr w.heap.size v (shrL ee ll u j)) ∧ Hid (Below w.heap.size w wr)) (fun _ _ i _ _ => n - (intOf i).toNat)
              case atStart => exact ⟨0, Nat.zero_le _, rfl, by rw [L0.out], Lib.hid (by rw [R0.out]; have := OwnJ.empty (w.drewN q) w.heap.size (by simp); simpa using this), Lib.hid ((below_drewN (Below.refl _ _) _).alloc (by simp) _)⟩
              case round =>
                obtain ⟨j, hj, rfl, rfl, O2, B2⟩ := hrel
                have hs2 := Lib.hid B2.out.size
                by_cases hlt : j < n
                · obtain ⟨b0, o0, c0, e, hc⟩ := HD.out wr B2.out (by omega)
                  have ea : a = some ⟨b0, o0, none⟩ := by cases e; rfl
                  have z0 := hc j hlt
                  have bl := LBl.out j hj
                  have bu := HU.out j hlt
                  have ST := Lib.hid (LSl.out j)
                  have RT := Lib.hid (RSl.out j)
                  have QZ := Lib.hid (show (shrL ee ll u j).length ≤ 1048576 by rw [QLl.out]; omega)
                  clear e hc
                  subst ea
                  have hi : (0 : Int) ≤ (j : Int) := by omega
                  have hi' : (j : Int) < (n : Int) := by omega
                  generalize u.getD j 0 = x at *
                  generalize shrL ee ll u j = zs at *
                  have me := mul_bd2 eb bu
                  have mb := mn_bd (x := shl ll u j) (y := x) bl bu.1
                  have MM := Lib.hid (min_any (shl ll u j) x)
                  generalize mn (shl ll u j) x = m at *
                  generalize shl ll u j = lj at *
                  go_wp2_with fail
                  refine (MM.out _).mono ?_
                  rintro e w' ⟨rfl, rfl⟩
                  go_wp2_with (at_builtin; refine wpList_appJ rfl _ _ rfl w.heap.size _ zs rfl (O2.out.al _) _ _ (ee * x + m) rfl ((World.cell?_alloc_at _ _ _ _ (by simp)).trans rfl) QZ.out (by have := hs2.out; simp; omega) ?_; intro v' w3 hown' hb; have O3 := Lib.hid hown'; have B3 := Lib.hid ((B2.out.alloc (by have := hs2.out; omega) _).trans hb); clear hown' hb)
                  go_roundw
                  case rel => exact ⟨j + 1, by omega, by go_num, by rw [ST.out], Lib.hid (by rw [RT.out]; exact O3.out), B3⟩
                  case measure => simp [intOf]; omega
                · have e := Lib.hid (show j = n by omega)
                  have ej : shrL ee ll u j = shrL ee ll u n := by rw [e.out]
                  rw [ej] at O2
                  clear ej
                  go_wp2
                  go_ret2
                  exact E.out _ _ O2.out B2.out

set_option maxRecDepth 10000 in
set_option maxHeartbeats 3200000 in
theorem implShr_any (b : Int) (v : Value) (u : List Int) (w : World) (h : JRow w v u) : Calls Try.prog 40 #[.int .i64 b, v] w (LstJO (shrS b u) (shrB b u) w) := by
  have FN := Lib.hid (fun (e : shrB b u = false) (w1 : World) (hb : Below w.heap.size w w1) => shrB_no e hb)
  have FY := Lib.hid (fun (e : shrB b u = true) (v : Value) (w1 : World) ho (hb : Below w.heap.size w w1) => shrB_yes (v := v) e ho hb)
  have HC := Lib.hid (fun w1 (hb : Below w.heap.size w w1) (hn : 1 ≤ u.length) => (h.below hb).cells hn)
  have HL := Lib.hid h.len
  have HP := Lib.hid (allAmt_any v u w h)
  obtain ⟨a, cap, rfl⟩ := h.shape
  clear h
  generalize hS : shrS b u = S at *
  generalize hB : shrB b u = BB at *
  clear hS
  by_cases B0 : 0 ≤ b
  rotate_left
  · have E := Lib.hid (FN.out (by rw [← hB]; unfold shrB shrOk; simp [B0]))
    have f1 : decide (b < (0 : Int)) = true := by simp; omega
    clear B0 FN FY hB
    go_enter Try.func40, Try.ntmps40
    go_wp2
    go_ret2
    exact E.out _ (by repeat (first | (with_reducible exact Bw.out) | (with_reducible exact Below.refl _ _) | (with_reducible refine below_drewN ?_ _)))
  · have f1 : decide (b < (0 : Int)) = false := by simp; omega
    by_cases B1 : b ≤ 1000000000000
    rotate_left
    · have E := Lib.hid (FN.out (by rw [← hB]; unfold shrB shrOk; simp [B1]))
      have f2 : decide ((1000000000000 : Int) < b) = true := by simp; omega
      clear B0 B1 FN FY hB
      go_enter Try.func40, Try.ntmps40
      go_wp2
      go_ret2
      exact E.out _ (by repeat (first | (with_reducible exact Bw.out) | (with_reducible exact Below.refl _ _) | (with_reducible refine below_drewN ?_ _)))
    · have f2 : decide ((1000000000000 : Int) < b) = false := by simp; omega
      by_cases B2 : u.length ≤ 8
      rotate_left
      · have E := Lib.hid (FN.out (by rw [← hB]; unfold shrB shrOk; simp [B2]))
        have f0 : decide ((8 : Int) < (u.length : Int)) = true := by simp; omega
        clear B0 B1 B2 FN FY hB
        generalize u.length = n at *
        go_enter Try.func40, Try.ntmps40
        go_wp2
        go_ret2
        exact E.out _ (by repeat (first | (with_reducible exact Bw.out) | (with_reducible exact Below.refl _ _) | (with_reducible refine below_drewN ?_ _)))
      · have f0 : decide ((8 : Int) < (u.length : Int)) = false := by simp; omega
        cases B3 : u.all amt
        · have E := Lib.hid (FN.out (by rw [← hB]; unfold shrB shrOk; simp [B3]))
          have HQ := Lib.hid B3
          clear B0 B1 B2 B3 FN FY hB
          generalize u.length = n at *
          go_enter Try.func40, Try.ntmps40
          go_wp2_with fail
          refine HP.out.mono ?_
          rw [HQ.out]
          rintro e w1 ⟨rfl, hb⟩
          have Bw := Lib.hid hb
          clear hb
          go_wp2
          go_ret2
          exact E.out _ (by repeat (first | (with_reducible exact Bw.out) | (with_reducible exact Below.refl _ _) | (with_reducible refine below_drewN ?_ _)))
        · have OKK : shrOk b u = true := by unfold shrOk; simp [B0, B1, B2, B3]
          have HQ := Lib.hid B3
          clear B0 B1 B2 B3
          obtain ⟨hb, h8, hu⟩ := shrOk_at OKK
          have SB := Lib.hid (sumZ_bd hu)
          have HU := Lib.hid hu
          have SS := Lib.hid (fun k => show sumZ u (k + 1) = sumZ u k + u.getD k 0 from rfl)
          have T1 := Lib.hid (fun (h : 1 ≤ sumZ u u.length) => show shrB b u = true by unfold shrB; rw [OKK]; simp; omega)
          have T0 := Lib.hid (fun (h : sumZ u u.length = 0) => show shrB b u = false by unfold shrB; rw [OKK, h]; rfl)
          have TE := Lib.hid (show BB = shrB b u from hB.symm)
          have QL := Lib.hid (fun e l => shrL_length e l u)
          have LB := Lib.hid (fun (l : Int) (hl : 0 ≤ l ∧ l ≤ 8000000) => shl_bd (n := u.length) hl hu)
          have LS := Lib.hid (fun l k => show shl l u (k + 1) = shl l u k - mn (shl l u k) (u.getD k 0) from rfl)
          have RS := Lib.hid (fun e l k => show shrL e l u (k + 1) = shrL e l u k ++ [e * u.getD k 0 + mn (shl l u k) (u.getD k 0)] from rfl)
          have TB := Lib.hid (SB.out u.length (Nat.le_refl _))
          clear OKK hB hu
          generalize hnn : u.length = n at *
          clear hnn
          go_enter Try.func40, Try.ntmps40
          go_wp2_with fail
          refine HP.out.mono ?_
          rw [HQ.out]
          rintro e w1 ⟨rfl, hb⟩
          have Bw := Lib.hid hb
          clear hb
          have HD := HC
          have HC := Lib.hid (HC.out _ Bw.out)
          go_wp2
          go_loop [6, 8, 33] (fun s _ i => ∃ k : Nat, k ≤ n ∧ i = .int .i64 k ∧ s = .int .i64 (sumZ u k)) (fun _ _ i => n - (intOf i).toNat)
          case atStart => exact ⟨0, Nat.zero_le _, rfl, rfl⟩
          case round =>
            obtain ⟨k, hk, rfl, rfl⟩ := hrel
            by_cases hlt : k < n
            · obtain ⟨b0, o0, c0, e, hc⟩ := HC.out (by omega)
              have ea : a = some ⟨b0, o0, none⟩ := by cases e; rfl
              have z0 := hc k hlt
              have bd := SB.out k hk
              have bu := HU.out k hlt
              have ST := Lib.hid (SS.out k)
              clear e hc
              subst ea
              have hi : (0 : Int) ≤ (k : Int) := by omega
              have hi' : (k : Int) < (n : Int) := by omega
              generalize u.getD k 0 = x at *
              generalize sumZ u k = s at *
              go_wp2
              try go_region
              all_goals go_wp2
              go_round
              case rel => exact ⟨k + 1, by omega, by go_num, by rw [ST.out]⟩
              case measure => simp [intOf]; omega
            · have e := Lib.hid (show k = n by omega)
              have ek : sumZ u k = sumZ u n := by rw [e.out]
              have tb := TB.out
              have tn : sumZ u n ≤ 8000000 := by omega
              rw [ek]
              clear ek e SB SS TB
              by_cases ht : sumZ u n = 0
              · have E := Lib.hid (FN.out (TE.out.trans (T0.out ht)))
                have f5 : (sumZ u n == (0 : Int)) = true := by simp [ht]
                clear FN FY T0 T1 QL LB LS RS
                generalize sumZ u n = tt at *
                go_wp2
                go_ret2
                exact E.out _ (by repeat (first | (with_reducible exact Bw.out) | (with_reducible exact Below.refl _ _) | (with_reducible refine below_drewN ?_ _)))
              · have ht1 : 1 ≤ sumZ u n := by omega
                have E := Lib.hid (FY.out (TE.out.trans (T1.out ht1)))
                have f5 : (sumZ u n == (0 : Int)) = false := by simp [ht]
                have eb := ediv_bd hb ht1
                have lb := emod_bd (b := b) ⟨ht1, tn⟩
                clear FN FY T0 T1 tb ht TE
                generalize hee : sumZ u n = tt at *
                clear hee
                have LBl := Lib.hid (LB.out _ lb)
                have QLl := Lib.hid (QL.out (b / tt) (b % tt))
                have LSl := Lib.hid (LS.out (b % tt))
                have RSl := Lib.hid (RS.out (b / tt) (b % tt))
                have L0 : Hid (shl (b % tt) u 0 = b % tt) := Lib.hid rfl
                have R0 : Hid (shrL (b / tt) (b % tt) u 0 = []) := Lib.hid rfl
                clear LB QL LS RS hk
                go_wp2
                skip
                try go_region
                all_goals go_wp2
                generalize b / tt = ee at *
                generalize b % tt = ll at *
                go_loopw [10, 11, 13, 14, 51] (fun l v _ _ i wr => ∃ j : Nat, j ≤ n ∧ i = .int .i64 j ∧ l = .int .i64 (shl ll u j) ∧ Hid (OwnJ wr w.heap.size v (shrL ee ll u j)) ∧ Hid (Below w.heap.size w wr)) (fun _ _ _ _ i _ => n - (intOf i).toNat)
                case atStart => exact ⟨0, Nat.zero_le _, rfl, by rw [L0.out], Lib.hid (by rw [R0.out]; exact OwnJ.nil _ _), Lib.hid (by first | exact Bw.out | exact below_drewN Bw.out _)⟩
                case round =>
                  obtain ⟨j, hj, rfl, rfl, O2, B2⟩ := hrel
                  have hs2 := Lib.hid B2.out.size
                  by_cases hlt : j < n
                  · obtain ⟨b0, o0, c0, e, hc⟩ := HD.out wr B2.out (by omega)
                    have ea : a = some ⟨b0, o0, none⟩ := by cases e; rfl
                    have z0 := hc j hlt
                    have bl := LBl.out j hj
                    have bu := HU.out j hlt
                    have ST := Lib.hid (LSl.out j)
                    have RT := Lib.hid (RSl.out j)
                    have QZ := Lib.hid (show (shrL ee ll u j).length ≤ 1048576 by rw [QLl.out]; omega)
                    clear e hc
                    subst ea
                    have hi : (0 : Int) ≤ (j : Int) := by omega
                    have hi' : (j : Int) < (n : Int) := by omega
                    generalize u.getD j 0 = x at *
                    have em : (if x < shl ll u j then x else shl ll u j) = mn (shl ll u j) x := rfl
                    generalize shrL ee ll u j = zs at *
                    have me := mul_bd2 eb bu
                    have mb := mn_bd (x := shl ll u j) (y := x) bl bu.1
                    skip
                    generalize mn (shl ll u j) x = m at *
                    generalize shl ll u j = lj at *
                    go_wp2_with (first | rw [em] | (at_builtin; refine wpList_appJ rfl _ _ rfl w.heap.size _ zs rfl (O2.out.al _) _ _ (ee * x + m) rfl ((World.cell?_alloc_at _ _ _ _ (by simp)).trans rfl) QZ.out (by have := hs2.out; simp; omega) ?_; intro v' w3 hown' hb; have O3 := Lib.hid hown'; have B3 := Lib.hid ((B2.out.alloc (by have := hs2.out; omega) _).trans hb); clear hown' hb))
                    go_roundw
                    case rel => exact ⟨j + 1, by omega, by go_num, by rw [ST.out], Lib.hid (by rw [RT.out]; exact O3.out), B3⟩
                    case measure => simp [intOf]; omega
                  · have e := Lib.hid (show j = n by omega)
                    have ej : shrL ee ll u j = shrL ee ll u n := by rw [e.out]
                    rw [ej] at O2
                    clear ej
                    go_wp2
                    go_ret2
                    exact E.out _ _ O2.out B2.out
end Go.Proofs.Ytlhjmkdfemejmaa
