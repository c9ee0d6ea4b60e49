/- Tables: both sides. -/
import Derived.Test.YtdemahghjgghkaaFinL
import Derived.Test.YtdemahghjgghkaaSl
import Derived.Test.YtdemahghjgghkaaSnP
import Derived.Test.YtdemahghjgghkaaMaxF
import Derived.Test.YtdemahghjgghkaaLooseG
import Derived.IntWalk
namespace Go.Proofs.Ytdemahghjgghkaa
open Go.RowKit
set_option linter.unusedVariables false

theorem all_at {f : Nat → Bool} {zs : List Nat} (h : zs.all f = true) (k : Nat) (hk : k < zs.length) : f (zs.getD k 0) = true := by
  rw [List.all_eq_true] at h
  have : zs.getD k 0 = zs[k] := by simp [List.getD_eq_getElem?_getD, hk]
  rw [this]; exact h _ (List.getElem_mem _)
def ltT (x y : Nat) : Bool := FloatKind.f32.format.order x y == some .lt
theorem nn_finT {x : Nat} (h : fin .f32 x = true) : nn .f32 x = false := by
  cases hn : nn .f32 x with
  | false => rfl
  | true => rw [fin_nan hn] at h; cases h
theorem le_ltT {x y : Nat} (hx : fin .f32 x = true) (hy : fin .f32 y = true) : (FloatKind.f32.format.order x y == some .lt || FloatKind.f32.format.order x y == some .eq) = !ltT y x := by
  unfold ltT
  rw [ordk (nn_finT hx) (nn_finT hy), ordk (nn_finT hy) (nn_finT hx)]
  rcases Int.lt_trichotomy (key FloatKind.f32.format x) (key FloatKind.f32.format y) with h | h | h
  · rw [icmp_lt h, icmp_gt h]; rfl
  · rw [icmp_eq h, icmp_eq h.symm]; rfl
  · rw [icmp_gt h, icmp_lt h]; rfl
/-- whether the first k numbers rise -/
def ris (zs : List Nat) : Nat → Bool
  | 0 => true
  | k + 1 => ris zs k && (k == 0 || ltT (zs.getD (k - 1) 0) (zs.getD k 0))
theorem ris_one (zs : List Nat) : ris zs 1 = true := rfl
theorem ris_step {zs : List Nat} {j : Nat} (h : ris zs (j + 1) = true) (h' : ltT (zs.getD j 0) (zs.getD (j + 1) 0) = true) : ris zs (j + 1 + 1) = true := by
  show (ris zs (j + 1) && (j + 1 == 0 || ltT (zs.getD (j + 1 - 1) 0) (zs.getD (j + 1) 0))) = true
  rw [h, Nat.add_sub_cancel, h']; simp
theorem ris_le {zs : List Nat} {k : Nat} : ∀ n, ris zs n = true → k ≤ n → ris zs k = true
  | 0, h, hk => by obtain rfl : k = 0 := by omega
                   exact h
  | n + 1, h, hk => by
    by_cases e : k = n + 1
    · subst e; exact h
    · unfold ris at h
      rw [Bool.and_eq_true] at h
      exact ris_le n h.1 (by omega)
theorem ris_bad {zs : List Nat} {n j : Nat} (hj : j + 1 < n) (h : ltT (zs.getD j 0) (zs.getD (j + 1) 0) = false) : ris zs n = false := by
  cases hB : ris zs n
  · rfl
  · have := ris_le (k := j + 1 + 1) n hB (by omega)
    have e : ris zs (j + 1 + 1) = (ris zs (j + 1) && (j + 1 == 0 || ltT (zs.getD (j + 1 - 1) 0) (zs.getD (j + 1) 0))) := rfl
    rw [e, Nat.add_sub_cancel, h] at this
    simp at this
theorem ris_end {zs : List Nat} {n j : Nat} (hj : j + 1 ≤ n ∨ j = 0) (hn : ¬ j + 1 < n) (h : ris zs (j + 1) = true) : ris zs n = true := by
  rcases hj with hj | rfl
  · obtain rfl : n = j + 1 := by omega
    exact h
  · exact ris_le (k := n) 1 h (by omega)
def tbl (xs ys : List Nat) : Bool := decide (2 ≤ xs.length) && decide (xs.length ≤ 16) && decide (ys.length = xs.length) && xs.all (fin .f32) && ys.all (fin .f32) && ris xs xs.length && ris ys xs.length
theorem tbl_impl (xs ys : List Nat) : tbl xs ys = (decide (2 ≤ xs.length) && decide (xs.length ≤ 16) && decide (ys.length = xs.length) && (ris xs xs.length && xs.all (fin .f32)) && (ris ys ys.length && ys.all (fin .f32))) := by
  unfold tbl
  by_cases e : ys.length = xs.length
  · rw [e]
    cases decide (2 ≤ xs.length) <;> cases decide (xs.length ≤ 16) <;> cases xs.all (fin .f32) <;> cases ys.all (fin .f32) <;> cases ris xs xs.length <;> cases ris ys xs.length <;> simp
  · simp [e]
theorem tbl_bool (a b c d e f g : Bool) : (a && b && c && d && e && f && g) = true → a = true ∧ b = true ∧ c = true ∧ d = true ∧ e = true ∧ f = true ∧ g = true := by
  cases a <;> cases b <;> cases c <;> cases d <;> cases e <;> cases f <;> cases g <;> simp
theorem tbl_of {xs ys : List Nat} (h : tbl xs ys = true) : 2 ≤ xs.length ∧ xs.length ≤ 16 ∧ ys.length = xs.length ∧ xs.all (fin .f32) = true ∧ ys.all (fin .f32) = true := by
  unfold tbl at h
  obtain ⟨a, b, c, d, e, _, _⟩ := tbl_bool _ _ _ _ _ _ _ h
  exact ⟨of_decide_eq_true a, of_decide_eq_true b, of_decide_eq_true c, d, e⟩
theorem tbl_swap (xs ys : List Nat) : tbl xs ys = tbl ys xs := by
  rw [tbl_impl xs ys, tbl_impl ys xs]
  by_cases e : ys.length = xs.length
  · rw [e]
    cases decide (2 ≤ xs.length) <;> cases decide (xs.length ≤ 16) <;> cases xs.all (fin .f32) <;> cases ys.all (fin .f32) <;> cases ris xs xs.length <;> cases ris ys xs.length <;> simp
  · simp [e, Ne.symm e]

set_option maxHeartbeats 800000 in
theorem rising_any (v : Value) (zs : List Nat) (w : World) (h : FRow w v zs) : Calls Try.prog 45 #[v] w (BolB (ris zs zs.length && zs.all (fin .f32)) w) := by
  have Bw := Lib.hid (Below.refl w.heap.size w)
  have HF := Lib.hid (fun w1 (hb : Below w.heap.size w w1) => allFin_any v zs w1 (h.below hb))
  have HC := Lib.hid (fun w1 (hb : Below w.heap.size w w1) (hn : 1 ≤ zs.length) => (h.below hb).cells hn)
  have HL := Lib.hid h.len
  have RS := Lib.hid (fun j h h' => @ris_step zs j h h')
  have RB := Lib.hid (fun j hj h => @ris_bad zs zs.length j hj h)
  have RE := Lib.hid (fun j hj hn h => @ris_end zs zs.length j hj hn h)
  have R1 := Lib.hid (ris_one zs)
  obtain ⟨a, cap, rfl⟩ := h.shape
  clear h
  generalize ris zs zs.length = R at *
  generalize zs.all (fin .f32) = B at *
  generalize zs.length = n at *
  go_enter Try.func45, Try.ntmps45
  go_wp2
  go_loopw [3] (fun i wr => ∃ j : Nat, (j + 1 ≤ n ∨ j = 0) ∧ i = .int .i64 ((j : Int) + 1) ∧ Hid (ris zs (j + 1) = true) ∧ Hid (Below w.heap.size w wr)) (fun i _ => n - (intOf i).toNat)
  case atStart => exact ⟨0, Or.inr rfl, rfl, R1, Bw⟩
  case round =>
    obtain ⟨j, hj, rfl, hr, Bw⟩ := hrel
    have gL := HL.out
    by_cases hlt : j + 1 < n
    · obtain ⟨b0, o0, c0, e, hc⟩ := HC.out wr Bw.out (by omega)
      have ea : a = some ⟨b0, o0, none⟩ := by cases e; rfl
      have z0 := hc j (by omega)
      have z1 := hc (j + 1) hlt
      have RSj := Lib.hid (RS.out j hr.out)
      have RBj := Lib.hid (RB.out j hlt)
      clear e hc RS RB RE R1
      subst ea
      have hi : (0 : Int) ≤ (j : Int) := by omega
      have hi' : (j : Int) < (n : Int) := by omega
      have hi2 : (0 : Int) ≤ (j : Int) + 1 := by omega
      have hi3 : (j : Int) + 1 < (n : Int) := by omega
      have ht : ((j : Int) + 1).toNat = j + 1 := by omega
      have HW : Hid (IntKind.i64.wrap (j : Int) = (j : Int)) := Lib.hid (IntWalk.i64_in _ (by omega))
      generalize zs.getD j 0 = x at *
      generalize zs.getD (j + 1) 0 = y at *
      cases C : ltT x y
      · have oc : (FloatKind.f32.format.order x y == some .lt) = false := C
        have RF := Lib.hid (RBj.out C)
        clear C hj
        go_wp2
        have hw := HW.out
        refine wp_region_loose (fun _ _ _ => True) (by kernel_rfl) (by kernel_rfl) ?_
        repeat (first | (refine wpLoose_farith rfl _ _ _ _ _ rfl rfl _ _ _ rfl rfl ?_; intro _ _) | (refine wpLoose_valK rfl ?_ (fun w1 hw1 => ?_) (fun K hK => ?_); rotate_left; (focus (obtain ⟨nq, rfl⟩ := hw1; go_simp; first | done | rfl)); go_simp; refine hK _ ?_; clear hK K))
        (refine wpLoose_nil ?_; rintro _ ⟨nq, rfl⟩)
        clear hw
        go_wp2
        go_ret
        exact ⟨ret_b (by rw [RF.out]; rfl), below_drewN Bw.out _⟩
      · have oc : (FloatKind.f32.format.order x y == some .lt) = true := C
        have V := Lib.hid (RSj.out C)
        clear C
        go_wp2
        have hw := HW.out
        refine wp_region_loose (fun _ _ _ => True) (by kernel_rfl) (by kernel_rfl) ?_
        repeat (first | (refine wpLoose_farith rfl _ _ _ _ _ rfl rfl _ _ _ rfl rfl ?_; intro _ _) | (refine wpLoose_valK rfl ?_ (fun w1 hw1 => ?_) (fun K hK => ?_); rotate_left; (focus (obtain ⟨nq, rfl⟩ := hw1; go_simp; first | done | rfl)); go_simp; refine hK _ ?_; clear hK K))
        (refine wpLoose_nil ?_; rintro _ ⟨nq, rfl⟩)
        clear hw
        go_wp2
        go_roundw
        case rel => exact ⟨j + 1, Or.inl (by omega), by go_num, V, Lib.hid (below_drewN Bw.out _)⟩
        case measure => simp [intOf]; omega
    · have RT := Lib.hid (RE.out j hj hlt hr.out)
      clear RS RB RE R1
      go_wp2_with fail
      refine (HF.out _ Bw.out).mono ?_
      rintro e w9 ⟨rfl, hb⟩
      have Bw := Lib.hid (below_step Bw.out hb)
      clear hb
      go_wp2
      go_ret
      exact ⟨ret_b (by rw [RT.out]; rfl), Bw.out⟩
  
theorem implTab_any (v v' : Value) (xs ys : List Nat) (w : World) (h : FRow w v xs) (h' : FRow w v' ys) : Calls Try.prog 17 #[v, v'] w (BolB (tbl xs ys) w) := by
  rw [tbl_impl]
  have Bw := Lib.hid (Below.refl w.heap.size w)
  have HX := Lib.hid (fun w1 (hb : Below w.heap.size w w1) => rising_any v xs w1 (h.below hb))
  have HY := Lib.hid (fun w1 (hb : Below w.heap.size w w1) => rising_any v' ys w1 (h'.below hb))
  have gL := h.len
  have gM := h'.len
  obtain ⟨a, cap, rfl⟩ := h.shape
  obtain ⟨a', cap', rfl⟩ := h'.shape
  clear h h'
  generalize (ris xs xs.length && xs.all (fin .f32)) = X at *
  generalize (ris ys ys.length && ys.all (fin .f32)) = Y at *
  generalize xs.length = n at *
  generalize ys.length = m at *
  cases B0 : decide (2 ≤ n)
  · skip
    have o0_0 : decide ((2 : Int) ≤ (n : Int)) = false := by have hq := of_decide_eq_false B0; simp; omega
    clear B0
    go_enter Try.func17, Try.ntmps17
    go_wp2
    go_ret
    exact ⟨ret_b (by simp), Below.refl _ _⟩
  · skip
    cases B1 : decide (n ≤ 16)
    · skip
      have o0_0 : decide ((2 : Int) ≤ (n : Int)) = true := by have hq := of_decide_eq_true B0; simp; omega
      have o1_0 : decide ((n : Int) ≤ (16 : Int)) = false := by have hq := of_decide_eq_false B1; simp; omega
      clear B0 B1
      go_enter Try.func17, Try.ntmps17
      go_wp2
      go_ret
      exact ⟨ret_b (by simp), Below.refl _ _⟩
    · skip
      cases B2 : decide (m = n)
      · skip
        have o0_0 : decide ((2 : Int) ≤ (n : Int)) = true := by have hq := of_decide_eq_true B0; simp; omega
        have o1_0 : decide ((n : Int) ≤ (16 : Int)) = true := by have hq := of_decide_eq_true B1; simp; omega
        have o2_0 : ((m : Int) == (n : Int)) = false := by have hq := of_decide_eq_false B2; simp; omega
        clear B0 B1 B2
        go_enter Try.func17, Try.ntmps17
        go_wp2
        go_ret
        exact ⟨ret_b (by simp), Below.refl _ _⟩
      · skip
        have o0_0 : decide ((2 : Int) ≤ (n : Int)) = true := by have hq := of_decide_eq_true B0; simp; omega
        have o1_0 : decide ((n : Int) ≤ (16 : Int)) = true := by have hq := of_decide_eq_true B1; simp; omega
        have o2_0 : ((m : Int) == (n : Int)) = true := by have hq := of_decide_eq_true B2; simp; omega
        clear B0 B1 B2
        cases X
        · skip
          go_enter Try.func17, Try.ntmps17
          go_wp2_with fail
          refine (HX.out _ Bw.out).mono ?_
          rintro e w1 ⟨rfl, hb⟩
          have Bw := Lib.hid (below_step Bw.out hb)
          clear hb
          go_wp2
          go_ret
          exact ⟨ret_b (by simp), Bw.out⟩
        · skip
          go_enter Try.func17, Try.ntmps17
          go_wp2_with fail
          refine (HX.out _ Bw.out).mono ?_
          rintro e w1 ⟨rfl, hb⟩
          have Bw := Lib.hid (below_step Bw.out hb)
          clear hb
          go_wp2_with fail
          refine (HY.out _ Bw.out).mono ?_
          rintro e w2 ⟨rfl, hb⟩
          have Bw := Lib.hid (below_step Bw.out hb)
          clear hb
          go_wp2
          go_ret
          exact ⟨ret_b (by simp), Bw.out⟩

set_option maxHeartbeats 1600000 in
theorem specTab_any (v v' : Value) (xs ys : List Nat) (w : World) (h : FRow w v xs) (h' : FRow w v' ys) : Calls Try.prog 44 #[v, v'] w (BolB (tbl xs ys) w) := by
  have Bw := Lib.hid (Below.refl w.heap.size w)
  have HFx := Lib.hid (fun w1 (hb : Below w.heap.size w w1) => specFinL_any v xs w1 (h.below hb))
  have HFy := Lib.hid (fun w1 (hb : Below w.heap.size w w1) => specFinL_any v' ys w1 (h'.below hb))
  have HC := Lib.hid (fun w1 (hb : Below w.heap.size w w1) (hn : 1 ≤ xs.length) => (h.below hb).cells hn)
  have HD := Lib.hid (fun w1 (hb : Below w.heap.size w w1) (hn : 1 ≤ ys.length) => (h'.below hb).cells hn)
  have HL := Lib.hid h.len
  have HM := Lib.hid h'.len
  have AX := Lib.hid (fun (e : xs.all (fin .f32) = true) k hk => all_at e k hk)
  have AY := Lib.hid (fun (e : ys.all (fin .f32) = true) k hk => all_at e k hk)
  have RX := Lib.hid (fun j h h' => @ris_step xs j h h')
  have RY := Lib.hid (fun j h h' => @ris_step ys j h h')
  have BX := Lib.hid (fun j hj h => @ris_bad xs xs.length j hj h)
  have BY := Lib.hid (fun j hj h => @ris_bad ys xs.length j hj h)
  have EX := Lib.hid (fun j hj hn h => @ris_end xs xs.length j hj hn h)
  have EY := Lib.hid (fun j hj hn h => @ris_end ys xs.length j hj hn h)
  have R1 := Lib.hid (And.intro (ris_one xs) (ris_one ys))
  have TB := Lib.hid (show tbl xs ys = (decide (2 ≤ xs.length) && decide (xs.length ≤ 16) && decide (ys.length = xs.length) && xs.all (fin .f32) && ys.all (fin .f32) && ris xs xs.length && ris ys xs.length) from rfl)
  obtain ⟨a, cap, rfl⟩ := h.shape
  obtain ⟨a', cap', rfl⟩ := h'.shape
  clear h h'
  generalize tbl xs ys = T at *
  generalize ris xs xs.length = X at *
  generalize ris ys xs.length = Y at *
  generalize xs.all (fin .f32) = FX at *
  generalize ys.all (fin .f32) = FY at *
  generalize xs.length = n at *
  generalize ys.length = m at *
  cases B0 : decide (2 ≤ n)
  · skip
    have E := Lib.hid (TB.out.trans (by simp [B0] : _ = false))
    have o0_0 : decide ((n : Int) < (2 : Int)) = true := by have hq := of_decide_eq_false B0; simp; omega
    clear B0 TB
    go_enter Try.func44, Try.ntmps44
    go_wp2
    go_ret
    exact ⟨ret_b (by first | exact E.out | exact E.out.symm), (by repeat (first | (with_reducible exact Bw.out) | (with_reducible refine below_drewN ?_ _) | (with_reducible exact Below.refl _ _)))⟩
  · skip
    cases B1 : decide (n ≤ 16)
    · skip
      have E := Lib.hid (TB.out.trans (by simp [B1] : _ = false))
      have o0_0 : decide ((n : Int) < (2 : Int)) = false := by have hq := of_decide_eq_true B0; simp; omega
      have o1_0 : decide ((16 : Int) < (n : Int)) = true := by have hq := of_decide_eq_false B1; simp; omega
      clear B0 B1 TB
      go_enter Try.func44, Try.ntmps44
      go_wp2
      go_ret
      exact ⟨ret_b (by first | exact E.out | exact E.out.symm), (by repeat (first | (with_reducible exact Bw.out) | (with_reducible refine below_drewN ?_ _) | (with_reducible exact Below.refl _ _)))⟩
    · skip
      cases B2 : decide (m = n)
      · skip
        have E := Lib.hid (TB.out.trans (by simp [B2] : _ = false))
        have o0_0 : decide ((n : Int) < (2 : Int)) = false := by have hq := of_decide_eq_true B0; simp; omega
        have o1_0 : decide ((16 : Int) < (n : Int)) = false := by have hq := of_decide_eq_true B1; simp; omega
        have o2_0 : ((m : Int) != (n : Int)) = true := by have hq := of_decide_eq_false B2; simp; omega
        have o2_1 : ((m : Int) == (n : Int)) = false := by have hq := of_decide_eq_false B2; simp; omega
        clear B0 B1 B2 TB
        go_enter Try.func44, Try.ntmps44
        go_wp2
        go_ret
        exact ⟨ret_b (by first | exact E.out | exact E.out.symm), (by repeat (first | (with_reducible exact Bw.out) | (with_reducible refine below_drewN ?_ _) | (with_reducible exact Below.refl _ _)))⟩
      · skip
        cases FX
        · skip
          have E := Lib.hid (TB.out.trans (by simp : _ = false))
          have o0_0 : decide ((n : Int) < (2 : Int)) = false := by have hq := of_decide_eq_true B0; simp; omega
          have o1_0 : decide ((16 : Int) < (n : Int)) = false := by have hq := of_decide_eq_true B1; simp; omega
          have o2_0 : ((m : Int) != (n : Int)) = false := by have hq := of_decide_eq_true B2; simp; omega
          have o2_1 : ((m : Int) == (n : Int)) = true := by have hq := of_decide_eq_true B2; simp; omega
          clear B0 B1 B2 TB
          go_enter Try.func44, Try.ntmps44
          go_wp2_with fail
          refine (HFx.out _ Bw.out).mono ?_
          rintro e w' ⟨rfl, n0, rfl⟩
          have Bw := Lib.hid (below_drewN Bw.out n0)
          go_wp2
          go_ret
          exact ⟨ret_b (by first | exact E.out | exact E.out.symm), (by repeat (first | (with_reducible exact Bw.out) | (with_reducible refine below_drewN ?_ _) | (with_reducible exact Below.refl _ _)))⟩
        · skip
          cases FY
          · skip
            have E := Lib.hid (TB.out.trans (by simp : _ = false))
            have o0_0 : decide ((n : Int) < (2 : Int)) = false := by have hq := of_decide_eq_true B0; simp; omega
            have o1_0 : decide ((16 : Int) < (n : Int)) = false := by have hq := of_decide_eq_true B1; simp; omega
            have o2_0 : ((m : Int) != (n : Int)) = false := by have hq := of_decide_eq_true B2; simp; omega
            have o2_1 : ((m : Int) == (n : Int)) = true := by have hq := of_decide_eq_true B2; simp; omega
            clear B0 B1 B2 TB
            go_enter Try.func44, Try.ntmps44
            go_wp2_with fail
            refine (HFx.out _ Bw.out).mono ?_
            rintro e w' ⟨rfl, n0, rfl⟩
            have Bw := Lib.hid (below_drewN Bw.out n0)
            go_wp2_with fail
            refine (HFy.out _ Bw.out).mono ?_
            rintro e w' ⟨rfl, n1, rfl⟩
            have Bw := Lib.hid (below_drewN Bw.out n1)
            go_wp2
            go_ret
            exact ⟨ret_b (by first | exact E.out | exact E.out.symm), (by repeat (first | (with_reducible exact Bw.out) | (with_reducible refine below_drewN ?_ _) | (with_reducible exact Below.refl _ _)))⟩
          · skip
            have o0_0 : decide ((n : Int) < (2 : Int)) = false := by have hq := of_decide_eq_true B0; simp; omega
            have o1_0 : decide ((16 : Int) < (n : Int)) = false := by have hq := of_decide_eq_true B1; simp; omega
            have o2_0 : ((m : Int) != (n : Int)) = false := by have hq := of_decide_eq_true B2; simp; omega
            have o2_1 : ((m : Int) == (n : Int)) = true := by have hq := of_decide_eq_true B2; simp; omega
            obtain rfl : m = n := of_decide_eq_true B2
            have TE := Lib.hid (TB.out.trans (by rw [B0, B1, B2] <;> rfl : _ = (X && Y)))
            have n2 := of_decide_eq_true B0
            have n16 := of_decide_eq_true B1
            clear B0 B1 B2 TB
            have AX2 := Lib.hid (AX.out rfl)
            have AY2 := Lib.hid (AY.out rfl)
            clear AX AY
            go_enter Try.func44, Try.ntmps44
            go_wp2_with fail
            refine (HFx.out _ Bw.out).mono ?_
            rintro e w' ⟨rfl, n0, rfl⟩
            have Bw := Lib.hid (below_drewN Bw.out n0)
            go_wp2_with fail
            refine (HFy.out _ Bw.out).mono ?_
            rintro e w' ⟨rfl, n1, rfl⟩
            have Bw := Lib.hid (below_drewN Bw.out n1)
            clear HFx HFy
            go_wp2
            go_loopw [6] (fun i wr => ∃ j : Nat, j + 1 ≤ m ∧ i = .int .i64 ((j : Int) + 1) ∧ Hid (ris xs (j + 1) = true ∧ ris ys (j + 1) = true) ∧ Hid (Below w.heap.size w wr)) (fun i _ => m - (intOf i).toNat)
            case atStart => exact ⟨0, by omega, rfl, R1, by first | exact Bw | exact Lib.hid (by repeat (first | (with_reducible exact Bw.out) | (with_reducible refine below_drewN ?_ _) | (with_reducible exact Below.refl _ _)))⟩
            case round =>
              obtain ⟨j, hj, rfl, hr, Bw⟩ := hrel
              have gL := HL.out
              by_cases hlt : j + 1 < m
              · obtain ⟨b0, p0, c0, e, hc⟩ := HC.out wr Bw.out (by omega)
                have ea : a = some ⟨b0, p0, none⟩ := by cases e; rfl
                have z0 := hc j (by omega)
                have z1 := hc (j + 1) hlt
                clear e hc
                obtain ⟨b1, p1, c1, e, hc⟩ := HD.out wr Bw.out (by omega)
                have ea' : a' = some ⟨b1, p1, none⟩ := by cases e; rfl
                have y0 := hc j (by omega)
                have y1 := hc (j + 1) hlt
                clear e hc HC HD
                have LX := Lib.hid (le_ltT (AX2.out (j + 1) hlt) (AX2.out j (by omega)))
                have LY := Lib.hid (le_ltT (AY2.out (j + 1) hlt) (AY2.out j (by omega)))
                have RXj := Lib.hid (RX.out j hr.out.1)
                have RYj := Lib.hid (RY.out j hr.out.2)
                have BXj := Lib.hid (BX.out j hlt)
                have BYj := Lib.hid (BY.out j hlt)
                clear RX RY BX BY EX EY R1 AX2 AY2
                subst ea
                subst ea'
                have hi : (0 : Int) ≤ (j : Int) := by omega
                have hi' : (j : Int) < (m : Int) := by omega
                have hi2 : (0 : Int) ≤ (j : Int) + 1 := by omega
                have hi3 : (j : Int) + 1 < (m : Int) := by omega
                have ht : ((j : Int) + 1).toNat = j + 1 := by omega
                have HW : Hid (IntKind.i64.wrap (j : Int) = (j : Int)) := Lib.hid (IntWalk.i64_in _ (by omega))
                generalize xs.getD j 0 = q0 at *
                generalize xs.getD (j + 1) 0 = q1 at *
                generalize ys.getD j 0 = s0 at *
                generalize ys.getD (j + 1) 0 = s1 at *
                cases C : ltT q0 q1
                · have ox := LX.out.trans (by rw [C]; rfl : _ = true)
                  have RF := Lib.hid (TE.out.trans (by rw [BXj.out C]; rfl : _ = false))
                  clear C LX LY TE BXj BYj RXj RYj
                  go_wp2
                  have hw := HW.out
                  refine wp_region_loose (fun _ _ _ => True) (by kernel_rfl) (by kernel_rfl) ?_
                  repeat ((with_reducible refine wpLoose_cons ?_); (first | ((with_reducible refine wpLoose_skip ?_ ?_); (focus (go_simp; done)); intro K hK; go_simp; refine hK _ ?_; clear hK K) | (refine wpLoose_farithG ?_ _ _ _ _ _ rfl rfl _ _ _ rfl rfl ?_; (focus (go_simp; done)); intro _ _) | (refine wpLoose_valG ?_ ?_ (fun w1 hw1 => ?_) (fun K hK => ?_); (focus (go_simp; done)); rotate_left; (focus (obtain ⟨nq, rfl⟩ := hw1; go_simp; first | done | rfl)); go_simp; refine hK _ ?_; clear hK K) | fail))
                  (refine wpLoose_nil ?_; rintro _ ⟨nq, rfl⟩)
                  clear hw
                  go_wp2
                  go_ret
                  exact ⟨ret_b RF.out, below_drewN Bw.out _⟩
                · have ox := LX.out.trans (by rw [C]; rfl : _ = false)
                  cases D : ltT s0 s1
                  · have oy := LY.out.trans (by rw [D]; rfl : _ = true)
                    have RF := Lib.hid (TE.out.trans (by rw [BYj.out D]; simp : _ = false))
                    clear C D LX LY TE BXj BYj RXj RYj
                    go_wp2
                    have hw := HW.out
                    refine wp_region_loose (fun _ _ _ => True) (by kernel_rfl) (by kernel_rfl) ?_
                    repeat ((with_reducible refine wpLoose_cons ?_); (first | ((with_reducible refine wpLoose_skip ?_ ?_); (focus (go_simp; done)); intro K hK; go_simp; refine hK _ ?_; clear hK K) | (refine wpLoose_farithG ?_ _ _ _ _ _ rfl rfl _ _ _ rfl rfl ?_; (focus (go_simp; done)); intro _ _) | (refine wpLoose_valG ?_ ?_ (fun w1 hw1 => ?_) (fun K hK => ?_); (focus (go_simp; done)); rotate_left; (focus (obtain ⟨nq, rfl⟩ := hw1; go_simp; first | done | rfl)); go_simp; refine hK _ ?_; clear hK K) | fail))
                    (refine wpLoose_nil ?_; rintro _ ⟨nq, rfl⟩)
                    clear hw
                    go_wp2
                    go_ret
                    exact ⟨ret_b RF.out, below_drewN Bw.out _⟩
                  · have oy := LY.out.trans (by rw [D]; rfl : _ = false)
                    have V := Lib.hid (And.intro (RXj.out C) (RYj.out D))
                    clear C D LX LY BXj BYj RXj RYj
                    go_wp2
                    have hw := HW.out
                    refine wp_region_loose (fun _ _ _ => True) (by kernel_rfl) (by kernel_rfl) ?_
                    repeat ((with_reducible refine wpLoose_cons ?_); (first | ((with_reducible refine wpLoose_skip ?_ ?_); (focus (go_simp; done)); intro K hK; go_simp; refine hK _ ?_; clear hK K) | (refine wpLoose_farithG ?_ _ _ _ _ _ rfl rfl _ _ _ rfl rfl ?_; (focus (go_simp; done)); intro _ _) | (refine wpLoose_valG ?_ ?_ (fun w1 hw1 => ?_) (fun K hK => ?_); (focus (go_simp; done)); rotate_left; (focus (obtain ⟨nq, rfl⟩ := hw1; go_simp; first | done | rfl)); go_simp; refine hK _ ?_; clear hK K) | fail))
                    (refine wpLoose_nil ?_; rintro _ ⟨nq, rfl⟩)
                    clear hw
                    go_wp2
                    go_roundw
                    case rel => exact ⟨j + 1, by omega, by go_num, V, Lib.hid (below_drewN Bw.out _)⟩
                    case measure => simp [intOf]; omega
              · have RT := Lib.hid (TE.out.trans (by rw [EX.out j (Or.inl hj) hlt hr.out.1, EY.out j (Or.inl hj) hlt hr.out.2]; rfl : _ = true))
                clear RX RY BX BY EX EY R1 AX2 AY2 TE
                go_wp2
                go_ret
                exact ⟨ret_b RT.out, Bw.out⟩
            
theorem specIsTab_any (v v' : Value) (xs ys : List Nat) (w : World) (h : FRow w v xs) (h' : FRow w v' ys) : Calls Try.prog 15 #[v, v'] w (BolB (tbl xs ys) w) := by
  go_enter Try.func15, Try.ntmps15
  go_wp2_with fail
  refine (specTab_any v v' xs ys w h h').mono ?_
  rintro e w1 ⟨rfl, hb⟩
  have Bw := Lib.hid hb
  clear hb
  go_wp2
  go_ret
  exact ⟨rfl, Bw.out⟩

end Go.Proofs.Ytdemahghjgghkaa
