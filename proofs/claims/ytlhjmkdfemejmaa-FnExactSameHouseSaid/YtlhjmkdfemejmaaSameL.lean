/- Whether two lists of numbers are the same: both sides. -/
import Derived.Test.YtlhjmkdfemejmaaSameN
import Derived.Test.YtlhjmkdfemejmaaFr
import Derived.Test.YtlhjmkdfemejmaaLooseB
import Derived.Deep.QuietTactic
import Derived.BigQuiet
namespace Go.Proofs.Ytlhjmkdfemejmaa
open Go.RowKit
set_option linter.unusedVariables false

def Wf (zs : List Nat) : Prop := ∀ i, i < zs.length → (Lit.float .f32 (zs.getD i 0)).wf = true
/-- are two lists the same -/
def smL (zs ys : List Nat) : Bool := (zs.length == ys.length) && (List.range zs.length).all (fun k => sm (zs.getD k 0) (ys.getD k 0))
theorem smL_len {zs ys : List Nat} (h : ¬ zs.length = ys.length) : smL zs ys = false := by simp [smL, h]
theorem smL_no {zs ys : List Nat} {k : Nat} (hk : k < zs.length) (h : sm (zs.getD k 0) (ys.getD k 0) = false) : smL zs ys = false := by
  unfold smL
  rw [Bool.and_eq_false_iff]
  refine .inr ?_
  rw [List.all_eq_false]
  exact ⟨k, by simpa using hk, by rw [h]; simp⟩
theorem smL_yes {zs ys : List Nat} (hl : zs.length = ys.length) (h : ∀ j, j < zs.length → sm (zs.getD j 0) (ys.getD j 0) = true) : smL zs ys = true := by
  unfold smL
  rw [Bool.and_eq_true, List.all_eq_true]
  exact ⟨by simpa using hl, fun x hx => h x (by simpa using hx)⟩

theorem eqFunc_len (v v' : Value) (zs ys : List Nat) (w : World) (h : FRow w v zs) (h' : FRow w v' ys) (hl : ¬ zs.length = ys.length) :
    Calls Try.prog 109 #[v, v', .func (.func 110) #[] #[]] w (Bol false w) := by
  obtain ⟨a, ca, rfl⟩ := h.shape
  obtain ⟨a', ca', rfl⟩ := h'.shape
  have f1 : ((zs.length : Int) == (ys.length : Int)) = false := by simp; omega
  have f2 : ((zs.length : Int) != (ys.length : Int)) = true := by simp; omega
  clear h h'
  generalize zs.length = n at *
  generalize ys.length = m at *
  clear hl
  go_enter Try.func109, Try.ntmps109
  go_wp2
  go_ret
  exact ⟨rfl, 0, rfl⟩

set_option maxHeartbeats 800000 in
theorem eqFunc_eq (v v' : Value) (zs ys : List Nat) (w : World) (h : FRow w v zs) (h' : FRow w v' ys) (hw : Wf zs) (hw' : Wf ys) (hl : zs.length = ys.length) :
    Calls Try.prog 109 #[v, v', .func (.func 110) #[] #[]] w (Bol (smL zs ys) w) := by
  have VS := Lib.hid (fun k (hk : k < zs.length) (h : sm (zs.getD k 0) (ys.getD k 0) = false) => smL_no hk h)
  have VN := Lib.hid (fun h => smL_yes hl h)
  have HC := Lib.hid (fun (hn : 1 ≤ zs.length) => h.cells hn)
  have HC' := Lib.hid (fun (hn : 1 ≤ zs.length) => h'.cells (by rw [← hl]; exact hn))
  have HW := Lib.hid hw
  have HW' : Hid (∀ i, i < zs.length → (Lit.float .f32 (ys.getD i 0)).wf = true) := Lib.hid (by rw [hl]; exact hw')
  unfold Wf at HW
  have HL := Lib.hid h.len
  obtain ⟨a, cap, rfl⟩ := h.shape
  obtain ⟨a', cap', rfl⟩ := h'.shape
  rw [← hl] at HC' ⊢
  clear h h' hw hw' hl
  generalize smL zs ys = B at *
  generalize zs.length = n at *
  go_enter Try.func109, Try.ntmps109
  go_wp2
  go_loopw [7, 8, 9, 17] (fun _ _ _ i wr => ∃ k q : Nat, k ≤ n ∧ i = .int .i64 k ∧ Hid (∀ j, j < k → sm (zs.getD j 0) (ys.getD j 0) = true) ∧ wr = w.drewN q) (fun _ _ _ i _ => n - (intOf i).toNat)
  case atStart => exact ⟨0, 0, Nat.zero_le _, rfl, Lib.hid (fun j hj => absurd hj (Nat.not_lt_zero _)), rfl⟩
  case round =>
    obtain ⟨k, q, hk, rfl, hall, rfl⟩ := hrel
    by_cases hlt : k < n
    · obtain ⟨b0, o0, c0, e, hc⟩ := HC.out (by omega)
      obtain ⟨b1, o1, c1, e', hc'⟩ := HC'.out (by omega)
      have ea : a = some ⟨b0, o0, none⟩ := by cases e; rfl
      have ea' : a' = some ⟨b1, o1, none⟩ := by cases e'; rfl
      have z0 := hc k hlt
      have z1 := hc' k hlt
      have VSk := Lib.hid (VS.out k hlt)
      have wx := Lib.hid (HW.out k hlt)
      have wy := Lib.hid (HW'.out k hlt)
      clear e hc e' hc'
      subst ea
      subst ea'
      have hG := HL.out
      have hi : (0 : Int) ≤ (k : Int) := by omega
      have hi' : (k : Int) < (n : Int) := by omega
      generalize hx : zs.getD k 0 = x at *
      generalize hy : ys.getD k 0 = y at *
      cases S : sm x y
      · have V := Lib.hid (VSk.out S)
        clear hx hy
        go_wp2_with (go_at_call 110; refine (implSame_any x y _ wx.out wy.out).mono ?_; rw [S]; rintro e w' ⟨rfl, rfl⟩)
        go_ret
        exact ⟨ret_b V.out, by first | exact ⟨_, rfl⟩ | exact ⟨_, by rw [World.drewN_drewN]⟩⟩
      · have V := Lib.hid (show sm (zs.getD k 0) (ys.getD k 0) = true by rw [hx, hy, S])
        clear hx hy
        go_wp2_with (go_at_call 110; refine (implSame_any x y _ wx.out wy.out).mono ?_; rw [S]; rintro e w' ⟨rfl, rfl⟩)
        go_roundw
        case rel => exact ⟨k + 1, _, by omega, by go_num, Lib.hid (fun j hj => by rcases Nat.lt_succ_iff_lt_or_eq.1 hj with h | h; exact hall.out j h; subst h; exact V.out), rfl⟩
        case measure => simp [intOf]; omega
    · have e := Lib.hid (show k = n by omega)
      go_wp2
      go_ret
      have := e.out
      subst this
      exact ⟨ret_b (VN.out hall.out), _, rfl⟩

theorem eqFunc_any (v v' : Value) (zs ys : List Nat) (w : World) (h : FRow w v zs) (h' : FRow w v' ys) (hw : Wf zs) (hw' : Wf ys) :
    Calls Try.prog 109 #[v, v', .func (.func 110) #[] #[]] w (Bol (smL zs ys) w) := by
  by_cases hl : zs.length = ys.length
  · exact eqFunc_eq v v' zs ys w h h' hw hw' hl
  · rw [smL_len hl]
    exact eqFunc_len v v' zs ys w h h' hl

theorem sameAll_len (v v' : Value) (zs ys : List Nat) (w : World) (h : FRow w v zs) (h' : FRow w v' ys) (hl : ¬ zs.length = ys.length) :
    Calls Try.prog 150 #[v, v'] w (Bol false w) := by
  obtain ⟨a, ca, rfl⟩ := h.shape
  obtain ⟨a', ca', rfl⟩ := h'.shape
  have f1 : ((zs.length : Int) == (ys.length : Int)) = false := by simp; omega
  have f2 : ((zs.length : Int) != (ys.length : Int)) = true := by simp; omega
  clear h h'
  generalize zs.length = n at *
  generalize ys.length = m at *
  clear hl
  go_enter Try.func150, Try.ntmps150
  go_wp2
  go_ret
  exact ⟨rfl, 0, rfl⟩

set_option maxHeartbeats 800000 in
theorem sameAll_eq (v v' : Value) (zs ys : List Nat) (w : World) (h : FRow w v zs) (h' : FRow w v' ys) (hw : Wf zs) (hw' : Wf ys) (hl : zs.length = ys.length) :
    Calls Try.prog 150 #[v, v'] w (Bol (smL zs ys) w) := by
  have VS := Lib.hid (fun k (hk : k < zs.length) (h : sm (zs.getD k 0) (ys.getD k 0) = false) => smL_no hk h)
  have VN := Lib.hid (fun h => smL_yes hl h)
  have HC := Lib.hid (fun (hn : 1 ≤ zs.length) => h.cells hn)
  have HC' := Lib.hid (fun (hn : 1 ≤ zs.length) => h'.cells (by rw [← hl]; exact hn))
  have HW := Lib.hid hw
  have HW' : Hid (∀ i, i < zs.length → (Lit.float .f32 (ys.getD i 0)).wf = true) := Lib.hid (by rw [hl]; exact hw')
  unfold Wf at HW
  have HL := Lib.hid h.len
  obtain ⟨a, cap, rfl⟩ := h.shape
  obtain ⟨a', cap', rfl⟩ := h'.shape
  rw [← hl] at HC' ⊢
  clear h h' hw hw' hl
  generalize smL zs ys = B at *
  generalize zs.length = n at *
  go_enter Try.func150, Try.ntmps150
  go_wp2
  go_loopw [5] (fun i wr => ∃ k q : Nat, k ≤ n ∧ i = .int .i64 k ∧ Hid (∀ j, j < k → sm (zs.getD j 0) (ys.getD j 0) = true) ∧ wr = w.drewN q) (fun i _ => n - (intOf i).toNat)
  case atStart => exact ⟨0, 0, Nat.zero_le _, rfl, Lib.hid (fun j hj => absurd hj (Nat.not_lt_zero _)), rfl⟩
  case round =>
    obtain ⟨k, q, hk, rfl, hall, rfl⟩ := hrel
    by_cases hlt : k < n
    · obtain ⟨b0, o0, c0, e, hc⟩ := HC.out (by omega)
      obtain ⟨b1, o1, c1, e', hc'⟩ := HC'.out (by omega)
      have ea : a = some ⟨b0, o0, none⟩ := by cases e; rfl
      have ea' : a' = some ⟨b1, o1, none⟩ := by cases e'; rfl
      have z0 := hc k hlt
      have z1 := hc' k hlt
      have VSk := Lib.hid (VS.out k hlt)
      have wx := Lib.hid (HW.out k hlt)
      have wy := Lib.hid (HW'.out k hlt)
      clear e hc e' hc'
      subst ea
      subst ea'
      have hG := HL.out
      have hi : (0 : Int) ≤ (k : Int) := by omega
      have hi' : (k : Int) < (n : Int) := by omega
      generalize hx : zs.getD k 0 = x at *
      generalize hy : ys.getD k 0 = y at *
      cases S : sm x y
      · have V := Lib.hid (VSk.out S)
        clear hx hy
        go_wp2
        refine wp_region_loose (fun _ _ v => v = .bool false) (by kernel_rfl) (by kernel_rfl) ?_
        iterate 8 (refine wpLoose_valK rfl ?_ (fun w1 hw1 => ?_) (fun K hK => ?_); rotate_left; (focus (obtain ⟨nq, rfl⟩ := hw1; go_simp; first | done | rfl)); go_simp; refine hK _ ?_; clear hK K)
        refine wpLoose_call rfl 140 #[.float .f32 x, .float .f32 y] (fun w1 => ?_) (fun w1 _ => ?_) ?_
        · go_simp
        · refine (specSame_any x y w1 wx.out wy.out).mono ?_
          rw [S]
          rintro e w2 ⟨rfl, rfl⟩
          exact ⟨_, rfl, rfl, 0, rfl⟩
        rintro v rfl
        (refine wpLoose_valK rfl ?_ (fun w1 hw1 => ?_) (fun K hK => ?_); rotate_left; (focus (obtain ⟨nq, rfl⟩ := hw1; go_simp; first | done | rfl)); go_simp; refine hK _ ?_; clear hK K)
        (refine wpLoose_nil ?_; rintro _ ⟨nq, rfl⟩)
        go_wp2
        go_ret
        exact ⟨ret_b V.out, by first | exact ⟨_, rfl⟩ | exact ⟨_, by rw [World.drewN_drewN]⟩⟩
      · have V := Lib.hid (show sm (zs.getD k 0) (ys.getD k 0) = true by rw [hx, hy, S])
        clear hx hy
        go_wp2
        refine wp_region_loose (fun _ _ v => v = .bool true) (by kernel_rfl) (by kernel_rfl) ?_
        iterate 8 (refine wpLoose_valK rfl ?_ (fun w1 hw1 => ?_) (fun K hK => ?_); rotate_left; (focus (obtain ⟨nq, rfl⟩ := hw1; go_simp; first | done | rfl)); go_simp; refine hK _ ?_; clear hK K)
        refine wpLoose_call rfl 140 #[.float .f32 x, .float .f32 y] (fun w1 => ?_) (fun w1 _ => ?_) ?_
        · go_simp
        · refine (specSame_any x y w1 wx.out wy.out).mono ?_
          rw [S]
          rintro e w2 ⟨rfl, rfl⟩
          exact ⟨_, rfl, rfl, 0, rfl⟩
        rintro v rfl
        (refine wpLoose_valK rfl ?_ (fun w1 hw1 => ?_) (fun K hK => ?_); rotate_left; (focus (obtain ⟨nq, rfl⟩ := hw1; go_simp; first | done | rfl)); go_simp; refine hK _ ?_; clear hK K)
        (refine wpLoose_nil ?_; rintro _ ⟨nq, rfl⟩)
        go_wp2
        go_roundw
        case rel => exact ⟨k + 1, _, by omega, by go_num, Lib.hid (fun j hj => by rcases Nat.lt_succ_iff_lt_or_eq.1 hj with h | h; exact hall.out j h; subst h; exact V.out), rfl⟩
        case measure => simp [intOf]; omega
    · have e := Lib.hid (show k = n by omega)
      go_wp2
      go_ret
      have := e.out
      subst this
      exact ⟨ret_b (VN.out hall.out), _, rfl⟩

theorem sameAll_any (v v' : Value) (zs ys : List Nat) (w : World) (h : FRow w v zs) (h' : FRow w v' ys) (hw : Wf zs) (hw' : Wf ys) :
    Calls Try.prog 150 #[v, v'] w (Bol (smL zs ys) w) := by
  by_cases hl : zs.length = ys.length
  · exact sameAll_eq v v' zs ys w h h' hw hw' hl
  · rw [smL_len hl]
    exact sameAll_len v v' zs ys w h h' hl

end Go.Proofs.Ytlhjmkdfemejmaa
