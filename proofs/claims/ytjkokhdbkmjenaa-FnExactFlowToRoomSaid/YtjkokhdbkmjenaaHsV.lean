/- Houses: whether they are valid, as the specification tells. -/
import Derived.Test.YtjkokhdbkmjenaaHs
import Derived.Test.YtjkokhdbkmjenaaSnA
import Derived.Test.YtjkokhdbkmjenaaIn
import Derived.Test.YtjkokhdbkmjenaaAllP
import Derived.Deep.QuietTactic
import Derived.Deep.RegionHeld3
import Derived.BigQuiet
namespace Go.Proofs.Ytjkokhdbkmjenaa
open Go.RowKit
set_option linter.unusedVariables false

/-- one of n rooms -/
def inN (n : Nat) (x : Int) : Bool := decide (0 ≤ x) && decide (x ≤ (n : Int) - 1)
/-- a link of a house of n rooms -/
def lkOk (n : Nat) (s : LK) : Bool := inN n s.a && inN n s.b && !(s.a == s.b) && pos s.ps
def lenHs (r : HS) : Bool := decide (1 ≤ r.W.length) && decide (r.W.length ≤ 8) && decide (r.H.length = r.W.length) && decide (r.L.length = r.W.length) && decide (r.K.length ≤ 24)
def vHs (r : HS) : Bool := lenHs r && r.W.all (fin .f32) && r.H.all pos && r.L.all lst && r.K.all (lkOk r.W.length)
structure HsN (r : HS) : Prop where
  a : 1 ≤ r.W.length
  b : r.W.length ≤ 8
  H : r.H.length = r.W.length
  L : r.L.length = r.W.length
  K : r.K.length ≤ 24
theorem HsN.of {r : HS} (h : lenHs r = true) : HsN r := by
  unfold lenHs at h
  simp only [Bool.and_eq_true, decide_eq_true_eq] at h
  exact ⟨h.1.1.1.1, h.1.1.1.2, h.1.1.2, h.1.2, h.2⟩
theorem HsN.ofV {r : HS} (h : vHs r = true) : HsN r := by
  unfold vHs at h
  simp only [Bool.and_eq_true] at h
  exact HsN.of h.1.1.1.1
theorem allF_no {f : Nat → Bool} {zs : List Nat} {k : Nat} (hk : k < zs.length) (h : f (zs.getD k 0) = false) : zs.all f = false := by
  rw [← not_any_not, any_some hk (by rw [h]; rfl)]; rfl
theorem allF_yes {f : Nat → Bool} {zs : List Nat} (h : ∀ k, k < zs.length → f (zs.getD k 0) = true) : zs.all f = true := by
  rw [← not_any_not, any_none (fun k hk => by rw [h k hk]; rfl)]; rfl
theorem allK_no {f : LK → Bool} {zs : List LK} {k : Nat} {s : LK} (hs : zs[k]? = some s) (h : f s = false) : zs.all f = false := by
  rw [List.all_eq_false]
  exact ⟨s, List.mem_of_getElem? hs, by rw [h]; decide⟩
theorem allK_yes {f : LK → Bool} {zs : List LK} (h : ∀ (k : Nat) (s : LK), zs[k]? = some s → f s = true) : zs.all f = true := by
  rw [List.all_eq_true]
  intro s hs
  obtain ⟨k, hk, rfl⟩ := List.mem_iff_getElem.1 hs
  exact h k _ (List.getElem?_eq_getElem hk)
/-- room k is as it must be -/
def rmOk (r : HS) (k : Nat) : Bool := fin .f32 (r.W.getD k 0) && pos (r.H.getD k 0) && lst (r.L.getD k 0)
theorem vHs_room {r : HS} (hn : HsN r) {k : Nat} (hk : k < r.W.length) (h : rmOk r k = false) : vHs r = false := by
  unfold rmOk at h
  unfold vHs
  cases h1 : fin .f32 (r.W.getD k 0)
  · rw [allF_no hk h1]; simp
  · cases h2 : pos (r.H.getD k 0)
    · rw [allF_no (by rw [hn.H]; exact hk) h2]; simp
    · rw [h1, h2] at h
      rw [allF_no (f := lst) (zs := r.L) (by rw [hn.L]; exact hk) (by simpa using h)]; simp
theorem vHs_link {r : HS} {k : Nat} {s : LK} (hs : r.K[k]? = some s) (h : lkOk r.W.length s = false) : vHs r = false := by
  unfold vHs
  rw [allK_no hs h]; simp
theorem vHs_yes {r : HS} (hl : lenHs r = true) (h1 : ∀ k, k < r.W.length → rmOk r k = true) (h2 : ∀ (k : Nat) (s : LK), r.K[k]? = some s → lkOk r.W.length s = true) : vHs r = true := by
  have hn := HsN.of hl
  have h3 : ∀ k, k < r.W.length → fin .f32 (r.W.getD k 0) = true ∧ pos (r.H.getD k 0) = true ∧ lst (r.L.getD k 0) = true := fun k hk => by
    have := h1 k hk
    unfold rmOk at this
    simp only [Bool.and_eq_true] at this
    exact ⟨this.1.1, this.1.2, this.2⟩
  unfold vHs
  rw [hl, allF_yes (fun k hk => (h3 k hk).1), allF_yes (f := pos) (zs := r.H) (fun k hk => (h3 k (by rw [← hn.H]; exact hk)).2.1), allF_yes (f := lst) (zs := r.L) (fun k hk => (h3 k (by rw [← hn.L]; exact hk)).2.2), allK_yes h2]
  rfl
theorem vHs_len {r : HS} (h : lenHs r = false) : vHs r = false := by unfold vHs; rw [h]; simp

theorem specHs_len (p : Nat) (a b c d : Value) (r : HS) (w : World) (A : Cells w p [a, b, c, d]) (h : HRow w a b c d r) (hl : lenHs r = false) : Calls Try.prog 73 #[.pointer (some ⟨p, 0, none⟩)] w (Bol (vHs r) w) := by
  have V := Lib.hid (vHs_len hl)
  have N0 := Lib.hid h.W.len
  have N1 := Lib.hid h.H.len
  have N2 := Lib.hid h.L.len
  have N3 := Lib.hid h.K.len
  obtain ⟨a1, a2, rfl⟩ := h.W.shape
  obtain ⟨b1, b2, rfl⟩ := h.H.shape
  obtain ⟨d1, d2, rfl⟩ := h.L.shape
  obtain ⟨e1, e2, rfl⟩ := h.K.shape
  have c0 := A.at 0 rfl
  have c1 := A.at 1 rfl
  have c2 := A.at 2 rfl
  have c3 := A.at 3 rfl
  clear h A
  unfold lenHs at hl
  generalize vHs r = v at *
  generalize r.W.length = n at *
  generalize r.H.length = n1 at *
  generalize r.L.length = n2 at *
  generalize r.K.length = n3 at *
  have M0 := N0.out
  have M1 := N1.out
  have M2 := N2.out
  have M3 := N3.out
  by_cases g0 : 1 ≤ n
  rotate_left
  · skip
    have f0 : decide ((n : Int) < 1) = true := by simp; omega
    clear hl
    go_enter Try.func73, Try.ntmps73
    go_wp2
    go_ret
    exact ⟨ret_b V.out, 0, rfl⟩
  by_cases g1 : n ≤ 8
  rotate_left
  · skip
    have f0 : decide ((n : Int) < 1) = false := by simp; omega
    have f1 : decide ((8 : Int) < (n : Int)) = true := by simp; omega
    clear hl
    go_enter Try.func73, Try.ntmps73
    go_wp2
    go_ret
    exact ⟨ret_b V.out, 0, rfl⟩
  by_cases g2 : n1 = n
  rotate_left
  · skip
    have f0 : decide ((n : Int) < 1) = false := by simp; omega
    have f1 : decide ((8 : Int) < (n : Int)) = false := by simp; omega
    have f2 : ((n1 : Int) != (n : Int)) = true := by simp; omega
    have e2 : ((n1 : Int) == (n : Int)) = false := by simp; omega
    clear hl
    go_enter Try.func73, Try.ntmps73
    go_wp2
    go_ret
    exact ⟨ret_b V.out, 0, rfl⟩
  by_cases g3 : n2 = n
  rotate_left
  · skip
    have f0 : decide ((n : Int) < 1) = false := by simp; omega
    have f1 : decide ((8 : Int) < (n : Int)) = false := by simp; omega
    have f2 : ((n1 : Int) != (n : Int)) = false := by simp; omega
    have e2 : ((n1 : Int) == (n : Int)) = true := by simp; omega
    have f3 : ((n2 : Int) != (n : Int)) = true := by simp; omega
    have e3 : ((n2 : Int) == (n : Int)) = false := by simp; omega
    clear hl
    go_enter Try.func73, Try.ntmps73
    go_wp2
    go_ret
    exact ⟨ret_b V.out, 0, rfl⟩
  by_cases g4 : n3 ≤ 24
  rotate_left
  · skip
    have f0 : decide ((n : Int) < 1) = false := by simp; omega
    have f1 : decide ((8 : Int) < (n : Int)) = false := by simp; omega
    have f2 : ((n1 : Int) != (n : Int)) = false := by simp; omega
    have e2 : ((n1 : Int) == (n : Int)) = true := by simp; omega
    have f3 : ((n2 : Int) != (n : Int)) = false := by simp; omega
    have e3 : ((n2 : Int) == (n : Int)) = true := by simp; omega
    have f4 : decide ((24 : Int) < (n3 : Int)) = true := by simp; omega
    clear hl
    go_enter Try.func73, Try.ntmps73
    go_wp2
    go_ret
    exact ⟨ret_b V.out, 0, rfl⟩
  exfalso
  rw [decide_eq_true g0, decide_eq_true g1, decide_eq_true g2, decide_eq_true g3, decide_eq_true g4] at hl
  cases hl

set_option maxRecDepth 10000 in
set_option maxHeartbeats 3200000 in
theorem specHs_ok (p : Nat) (a b c d : Value) (r : HS) (w : World) (A : Cells w p [a, b, c, d]) (h : HRow w a b c d r) (hl : lenHs r = true) : Calls Try.prog 73 #[.pointer (some ⟨p, 0, none⟩)] w (Bol (vHs r) w) := by
  have hn := HsN.of hl
  have VR := Lib.hid (fun k (hk : k < r.W.length) (e : rmOk r k = false) => vHs_room hn hk e)
  have VK := Lib.hid (fun k s (hs : r.K[k]? = some s) (e : lkOk r.W.length s = false) => vHs_link hs e)
  have VY := Lib.hid (fun h1 h2 => vHs_yes hl h1 h2)
  have RM := Lib.hid (fun k => show rmOk r k = (fin .f32 (r.W.getD k 0) && pos (r.H.getD k 0) && lst (r.L.getD k 0)) from rfl)
  have LO := Lib.hid (fun n (s : LK) => show lkOk n s = (inN n s.a && inN n s.b && !(s.a == s.b) && pos s.ps) from rfl)
  have AT := Lib.hid (fun k (hk : k < r.K.length) => LK.at (zs := r.K) hk)
  have CW := Lib.hid (fun (hn : 1 ≤ r.W.length) => h.W.cells hn)
  have CH := Lib.hid (fun (hn : 1 ≤ r.H.length) => h.H.cells hn)
  have CL := Lib.hid (fun (hn : 1 ≤ r.L.length) => h.L.cells hn)
  have CK := Lib.hid (fun (hn : 1 ≤ r.K.length) => h.K.cells LK.len hn)
  obtain ⟨a1, a2, rfl⟩ := h.W.shape
  obtain ⟨b1, b2, rfl⟩ := h.H.shape
  obtain ⟨d1, d2, rfl⟩ := h.L.shape
  obtain ⟨e1, e2, rfl⟩ := h.K.shape
  have A := Lib.hid A
  obtain ⟨g0, g1, g2, g3, g4⟩ := hn
  rw [g2] at CH A
  rw [g3] at CL A
  clear h hl g2 g3
  generalize vHs r = v at *
  generalize r.W.length = n at *
  generalize hkk : r.K.length = m at *
  have KL := Lib.hid hkk
  clear hkk
  have f0 : decide ((n : Int) < 1) = false := by simp; omega
  have f1 : decide ((8 : Int) < (n : Int)) = false := by simp; omega
  have f2 : ((n : Int) != (n : Int)) = false := by simp
  have f3 : ((n : Int) == (n : Int)) = true := by simp
  have f4 : decide ((24 : Int) < (m : Int)) = false := by simp; omega
  have c0 := A.out.at 0 rfl
  have c1 := A.out.at 1 rfl
  have c2 := A.out.at 2 rfl
  have c3 := A.out.at 3 rfl
  go_enter Try.func73, Try.ntmps73
  go_wp2
  clear f0 f1 f2 f3 f4
  go_loopw [4] (fun i wr => ∃ k q : Nat, k ≤ n ∧ i = .int .i64 k ∧ Hid (∀ j, j < k → rmOk r j = true) ∧ wr = w.drewN q) (fun i _ => n - (intOf i).toNat)
  case atStart => exact ⟨0, 0, Nat.zero_le _, rfl, Lib.hid (fun j hj => absurd hj (Nat.not_lt_zero _)), rfl⟩
  case round =>
    obtain ⟨k, q, hk, rfl, hall, rfl⟩ := hrel
    by_cases hlt : k < n
    · obtain ⟨x0, o0, k0, e, hc0⟩ := CW.out (by omega)
      obtain ⟨x1, o1, k1, e', hc1⟩ := CH.out (by omega)
      obtain ⟨x2, o2, k2, e'', hc2⟩ := CL.out (by omega)
      have ea : a1 = some ⟨x0, o0, none⟩ := by cases e; rfl
      have ea' : b1 = some ⟨x1, o1, none⟩ := by cases e'; rfl
      have ea'' : d1 = some ⟨x2, o2, none⟩ := by cases e''; rfl
      have z0 := hc0 k hlt
      have z1 := hc1 k (by omega)
      have z2 := hc2 k (by omega)
      have VRk := Lib.hid (VR.out k hlt)
      have RMk := Lib.hid (RM.out k)
      clear e hc0 e' hc1 e'' hc2 CW CH CL CK
      subst ea
      subst ea'
      subst ea''
      have hi : (0 : Int) ≤ (k : Int) := by omega
      have hi' : (k : Int) < (n : Int) := by omega
      have hd : decide ((k : Int) < (n : Int)) = true := by simp; omega
      generalize r.W.getD k 0 = x at *
      generalize r.H.getD k 0 = y at *
      generalize r.L.getD k 0 = z at *
      cases B0 : fin .f32 x
      · skip
        have V := Lib.hid (VRk.out (by rw [RMk.out]; simp [B0]))
        have H0 := Lib.hid B0
        clear B0
        go_wp2_with fail
        refine (specFinite_any x _).mono ?_
        rw [H0.out]
        rintro e w' ⟨rfl, q0, rfl⟩
        go_wp2
        go_ret
        exact ⟨ret_b V.out, _, rfl⟩
      · skip
        cases B1 : pos y
        · skip
          have V := Lib.hid (VRk.out (by rw [RMk.out]; simp [B0, B1]))
          have H0 := Lib.hid B0
          have H1 := Lib.hid B1
          clear B0 B1
          go_wp2_with fail
          refine (specFinite_any x _).mono ?_
          rw [H0.out]
          rintro e w' ⟨rfl, q0, rfl⟩
          go_wp2_with fail
          refine (specAbove_any y _).mono ?_
          rw [H1.out]
          rintro e w' ⟨rfl, q1, rfl⟩
          go_wp2
          go_ret
          exact ⟨ret_b V.out, _, rfl⟩
        · skip
          cases B2 : lst z
          · skip
            have V := Lib.hid (VRk.out (by rw [RMk.out]; simp [B0, B1, B2]))
            have H0 := Lib.hid B0
            have H1 := Lib.hid B1
            have H2 := Lib.hid B2
            clear B0 B1 B2
            go_wp2_with fail
            refine (specFinite_any x _).mono ?_
            rw [H0.out]
            rintro e w' ⟨rfl, q0, rfl⟩
            go_wp2_with fail
            refine (specAbove_any y _).mono ?_
            rw [H1.out]
            rintro e w' ⟨rfl, q1, rfl⟩
            go_wp2_with fail
            refine (specLeast_any z _).mono ?_
            rw [H2.out]
            rintro e w' ⟨rfl, q2, rfl⟩
            go_wp2
            go_ret
            exact ⟨ret_b V.out, _, rfl⟩
          · skip
            have V := Lib.hid (show rmOk r k = true by rw [RMk.out]; simp [B0, B1, B2])
            have H0 := Lib.hid B0
            have H1 := Lib.hid B1
            have H2 := Lib.hid B2
            clear B0 B1 B2
            go_wp2_with fail
            refine (specFinite_any x _).mono ?_
            rw [H0.out]
            rintro e w' ⟨rfl, q0, rfl⟩
            go_wp2_with fail
            refine (specAbove_any y _).mono ?_
            rw [H1.out]
            rintro e w' ⟨rfl, q1, rfl⟩
            go_wp2_with fail
            refine (specLeast_any z _).mono ?_
            rw [H2.out]
            rintro e w' ⟨rfl, q2, rfl⟩
            go_wp2
            go_roundw
            case rel => exact ⟨k + 1, _, by omega, by go_num, Lib.hid (fun j hj => by rcases Nat.lt_succ_iff_lt_or_eq.1 hj with h | h; exact hall.out j h; subst h; exact V.out), by first | rfl | simp only [World.drewN_drewN]⟩
            case measure => simp [intOf]; omega
    · have e := Lib.hid (show k = n by omega)
      have VY := Lib.hid (VY.out (by have := e.out; subst this; exact hall.out))
      have hd : decide ((k : Int) < (n : Int)) = false := by simp; omega
      clear hall CW CH CL VR RM e
      go_wp2
      clear hd hlt hk
      go_loopw [5, 6] (fun i _ wr => ∃ k q : Nat, k ≤ m ∧ i = .int .i64 k ∧ Hid (∀ (j : Nat) (s : LK), j < k → r.K[j]? = some s → lkOk n s = true) ∧ wr = w.drewN q) (fun i _ _ => m - (intOf i).toNat)
      case atStart => exact ⟨0, _, Nat.zero_le _, rfl, Lib.hid (fun j s hj => absurd hj (Nat.not_lt_zero _)), rfl⟩
      case round =>
        obtain ⟨k, q, hk, rfl, hall, rfl⟩ := hrel
        by_cases hlt : k < m
        · obtain ⟨x3, o3, k3, e, hc⟩ := CK.out (by omega)
          have ea : e1 = some ⟨x3, o3, none⟩ := by cases e; rfl
          obtain ⟨s, hs⟩ := AT.out k hlt
          have z := hc k s hs
          have VKk := Lib.hid (VK.out k s hs)
          have LOk := Lib.hid (LO.out n s)
          have HS := Lib.hid hs
          obtain ⟨sa, sb, sp⟩ := s
          have z0 : w.cell? ⟨x3, o3 + k * 3, none⟩ = some (.int .i64 sa) := z 0 _ rfl
          have z1 : w.cell? ⟨x3, o3 + k * 3 + 1, none⟩ = some (.int .i64 sb) := z 1 _ rfl
          have z2 : w.cell? ⟨x3, o3 + k * 3 + 2, none⟩ = some (.float .f32 sp) := z 2 _ rfl
          have hw9 : ∃ W9, w.drewN q = W9 := ⟨_, rfl⟩
          obtain ⟨W9, hw9⟩ := hw9
          have x0 : W9.cell? ⟨p, 0, none⟩ = some (.slice a1 n a2) := hw9 ▸ c0
          have x3' : W9.cell? ⟨p, 3, none⟩ = some (.slice e1 m e2) := hw9 ▸ c3
          have y0 : W9.cell? ⟨x3, o3 + k * 3, none⟩ = some (.int .i64 sa) := hw9 ▸ z0
          have y1 : W9.cell? ⟨x3, o3 + k * 3 + 1, none⟩ = some (.int .i64 sb) := hw9 ▸ z1
          have y2 : W9.cell? ⟨x3, o3 + k * 3 + 2, none⟩ = some (.float .f32 sp) := hw9 ▸ z2
          rw [hw9]
          have HW9 := Lib.hid hw9
          clear e hc z hs CK VK LO c0 c1 c2 c3 z0 z1 z2 hw9
          subst ea
          have hi : (0 : Int) ≤ (k : Int) := by omega
          have hi' : (k : Int) < (m : Int) := by omega
          have hd : decide ((k : Int) < (m : Int)) = true := by simp; omega
          have Q0 := Lib.hid (fun w => show Calls Try.prog 68 #[.int .i64 sa, .int .i64 0, .int .i64 ((n : Int) - 1)] w (Bol (inN n sa) w) from (in_any sa 0 ((n : Int) - 1) w).mono (fun _ _ ⟨he, hw⟩ => ⟨he, 0, hw.symm⟩))
          have Q1 := Lib.hid (fun w => show Calls Try.prog 68 #[.int .i64 sb, .int .i64 0, .int .i64 ((n : Int) - 1)] w (Bol (inN n sb) w) from (in_any sb 0 ((n : Int) - 1) w).mono (fun _ _ ⟨he, hw⟩ => ⟨he, 0, hw.symm⟩))
          have Q3 := Lib.hid (specAbove_any sp)
          cases B0 : inN n sa
          · skip
            have V := Lib.hid (VKk.out (by rw [LOk.out]; simp only [B0]; simp))
            have H0 := Lib.hid B0
            clear B0
            go_wp2
            go_quiet (first | (go_at_call_of 68 sa; refine Calls.quiet_of (v := .bool false) ?_; have hq := Q0.out; rw [H0.out] at hq; exact hq _))
            go_wp2
            go_ret
            exact ⟨ret_b V.out, _, by rw [← HW9.out]; exact World.drewN_drewN _ _ _⟩
          · skip
            cases B1 : inN n sb
            · skip
              have V := Lib.hid (VKk.out (by rw [LOk.out]; simp only [B0, B1]; simp))
              have H0 := Lib.hid B0
              have H1 := Lib.hid B1
              clear B0 B1
              go_wp2
              go_quiet (first | (go_at_call_of 68 sa; refine Calls.quiet_of (v := .bool true) ?_; have hq := Q0.out; rw [H0.out] at hq; exact hq _) | (go_at_call_of 68 sb; refine Calls.quiet_of (v := .bool false) ?_; have hq := Q1.out; rw [H1.out] at hq; exact hq _))
              go_wp2
              go_ret
              exact ⟨ret_b V.out, _, by rw [← HW9.out]; exact World.drewN_drewN _ _ _⟩
            · skip
              cases B2 : (sa == sb)
              rotate_left
              · skip
                have V := Lib.hid (VKk.out (by rw [LOk.out]; simp only [B0, B1, B2]; simp))
                have H0 := Lib.hid B0
                have H1 := Lib.hid B1
                have o2 : (sa == sb) = true := B2
                have H2 := Lib.hid B2
                clear B0 B1 B2
                go_wp2
                go_quiet (first | (go_at_call_of 68 sa; refine Calls.quiet_of (v := .bool true) ?_; have hq := Q0.out; rw [H0.out] at hq; exact hq _) | (go_at_call_of 68 sb; refine Calls.quiet_of (v := .bool true) ?_; have hq := Q1.out; rw [H1.out] at hq; exact hq _))
                go_wp2
                go_ret
                exact ⟨ret_b V.out, _, by rw [← HW9.out]; exact World.drewN_drewN _ _ _⟩
              · skip
                cases B3 : pos sp
                · skip
                  have V := Lib.hid (VKk.out (by rw [LOk.out]; simp only [B0, B1, B2, B3]; simp))
                  have H0 := Lib.hid B0
                  have H1 := Lib.hid B1
                  have o2 : (sa == sb) = false := B2
                  have H2 := Lib.hid B2
                  have H3 := Lib.hid B3
                  clear B0 B1 B2 B3
                  go_wp2
                  go_quiet (first | (go_at_call_of 68 sa; refine Calls.quiet_of (v := .bool true) ?_; have hq := Q0.out; rw [H0.out] at hq; exact hq _) | (go_at_call_of 68 sb; refine Calls.quiet_of (v := .bool true) ?_; have hq := Q1.out; rw [H1.out] at hq; exact hq _) | (go_at_call_of 90 sp; refine Calls.quiet_of (v := .bool false) ?_; have hq := Q3.out; rw [H3.out] at hq; exact hq _))
                  go_wp2
                  go_ret
                  exact ⟨ret_b V.out, _, by rw [← HW9.out]; exact World.drewN_drewN _ _ _⟩
                · skip
                  have V := Lib.hid (show lkOk n ⟨sa, sb, sp⟩ = true by rw [LOk.out]; simp only [B0, B1, B2, B3]; rfl)
                  have H0 := Lib.hid B0
                  have H1 := Lib.hid B1
                  have o2 : (sa == sb) = false := B2
                  have H2 := Lib.hid B2
                  have H3 := Lib.hid B3
                  clear B0 B1 B2 B3
                  go_wp2
                  go_quiet (first | (go_at_call_of 68 sa; refine Calls.quiet_of (v := .bool true) ?_; have hq := Q0.out; rw [H0.out] at hq; exact hq _) | (go_at_call_of 68 sb; refine Calls.quiet_of (v := .bool true) ?_; have hq := Q1.out; rw [H1.out] at hq; exact hq _) | (go_at_call_of 90 sp; refine Calls.quiet_of (v := .bool true) ?_; have hq := Q3.out; rw [H3.out] at hq; exact hq _))
                  go_wp2
                  go_roundw
                  case rel => exact ⟨k + 1, _, by omega, by go_num, Lib.hid (fun j s hj hs => by rcases Nat.lt_succ_iff_lt_or_eq.1 hj with h | h; exact hall.out j s h hs; subst h; have he := HS.out.symm.trans hs; cases he; exact V.out), by rw [← HW9.out]; exact World.drewN_drewN _ _ _⟩
                  case measure => simp [intOf]; omega
        · have e := Lib.hid (show k = m by omega)
          have hd : decide ((k : Int) < (m : Int)) = false := by simp; omega
          go_wp2
          go_ret
          exact ⟨ret_b (VY.out (fun j s hs => hall.out j s (by have h1 := (List.getElem?_eq_some_iff.1 hs).1; have h2 := e.out; have h3 := KL.out; omega) hs)), _, rfl⟩

theorem specHs_any (p : Nat) (a b c d : Value) (r : HS) (w : World) (A : Cells w p [a, b, c, d]) (h : HRow w a b c d r) : Calls Try.prog 73 #[.pointer (some ⟨p, 0, none⟩)] w (Bol (vHs r) w) := by
  cases hl : lenHs r
  · exact specHs_len p a b c d r w A h hl
  · exact specHs_ok p a b c d r w A h hl
end Go.Proofs.Ytjkokhdbkmjenaa
