/- Houses: whether they are valid, as the program tells. -/
import Derived.Test.YtjkokhdbkmjenaaHsV
import Derived.Test.YtjkokhdbkmjenaaAllL
namespace Go.Proofs.Ytjkokhdbkmjenaa
open Go.RowKit
set_option linter.unusedVariables false

theorem hasRoom_any (a b c d : Value) (r : HS) (x : Int) (w : World) (h : HRow w a b c d r) (h8 : r.W.length ≤ 8) : Calls Try.prog 82 #[.agg #[a, b, c, d], .int .i64 x] w (BolB (inN r.W.length x) w) := by
  obtain ⟨a1, a2, rfl⟩ := h.W.shape
  clear h
  have IN := Lib.hid (show inN r.W.length x = (decide (0 ≤ x) && decide (x < (r.W.length : Int))) by unfold inN; congr 1; rw [decide_eq_decide]; omega)
  rw [IN.out]
  generalize r.W.length = n at *
  cases B : decide (0 ≤ x)
  · have f0 : decide ((0 : Int) ≤ x) = false := B
    go_enter Try.func82, Try.ntmps82
    go_wp2
    go_ret
    exact ⟨ret_b (by simp), below_al1 _ _⟩
  · have f0 : decide ((0 : Int) ≤ x) = true := B
    go_enter Try.func82, Try.ntmps82
    go_wp2
    go_ret
    exact ⟨ret_b (by simp), below_al1 _ _⟩

set_option maxHeartbeats 800000 in
theorem takesLink_any (a b c d : Value) (r : HS) (s : LK) (w : World) (h : HRow w a b c d r) (h8 : r.W.length ≤ 8) : Calls Try.prog 77 #[.agg #[a, b, c, d], .agg #[.int .i64 s.a, .int .i64 s.b, .float .f32 s.ps]] w (BolB (lkOk r.W.length s) w) := by
  have HR := Lib.hid (fun x w1 (hb : Below w.heap.size w w1) => hasRoom_any a b c d r x w1 (h.below hb) h8)
  obtain ⟨sa, sb, sp⟩ := s
  unfold lkOk
  clear h
  have A := Lib.hid ((Cells.made w [a, b, c, d] 61).al (.cells ([.int .i64 sa, .int .i64 sb, .float .f32 sp] : List Value).toArray 89))
  have X := Cells.made (w.alloc (.cells ([a, b, c, d] : List Value).toArray 61)) [.int .i64 sa, .int .i64 sb, .float .f32 sp] 89
  rw [show (w.alloc (.cells ([a, b, c, d] : List Value).toArray 61)).heap.size = w.heap.size + 1 from by simp] at X
  have X := Lib.hid X
  have Bw := Lib.hid (below_al2 w (.cells ([a, b, c, d] : List Value).toArray 61) (.cells ([.int .i64 sa, .int .i64 sb, .float .f32 sp] : List Value).toArray 89))
  simp only []
  cases B0 : inN r.W.length sa
  · skip
    have H0 := Lib.hid B0
    clear B0
    go_enter Try.func77, Try.ntmps77
    go_wp2_with fail
    refine (HR.out sa _ Bw.out).mono ?_
    rw [H0.out]
    rintro e w1 ⟨rfl, hb⟩
    have Bw := Lib.hid (below_step Bw.out hb)
    have A := Lib.hid (A.out.kept hb)
    have X := Lib.hid (X.out.kept hb)
    clear hb
    have c0 := A.out.at 0 rfl; have c1 := A.out.at 1 rfl; have c2 := A.out.at 2 rfl; have c3 := A.out.at 3 rfl; have d0 := X.out.at 0 rfl; have d1 := X.out.at 1 rfl; have d2 := X.out.at 2 rfl
    go_wp2
    go_ret
    exact ⟨ret_b (by simp), (by repeat (first | (with_reducible exact Bw.out) | (with_reducible refine below_drewN ?_ _) | (with_reducible exact Below.refl _ _) | (with_reducible refine Below.alloc ?_ (by first | exact Nat.le_refl _ | (simp; done) | (simp; omega) | omega) _)))⟩
  · skip
    cases B1 : inN r.W.length sb
    · skip
      have H0 := Lib.hid B0
      have H1 := Lib.hid B1
      clear B0 B1
      go_enter Try.func77, Try.ntmps77
      go_wp2_with fail
      refine (HR.out sa _ Bw.out).mono ?_
      rw [H0.out]
      rintro e w1 ⟨rfl, hb⟩
      have Bw := Lib.hid (below_step Bw.out hb)
      have A := Lib.hid (A.out.kept hb)
      have X := Lib.hid (X.out.kept hb)
      clear hb
      have c0 := A.out.at 0 rfl; have c1 := A.out.at 1 rfl; have c2 := A.out.at 2 rfl; have c3 := A.out.at 3 rfl; have d0 := X.out.at 0 rfl; have d1 := X.out.at 1 rfl; have d2 := X.out.at 2 rfl
      go_wp2_with fail
      refine (HR.out sb _ Bw.out).mono ?_
      rw [H1.out]
      rintro e w2 ⟨rfl, hb⟩
      have Bw := Lib.hid (below_step Bw.out hb)
      have A := Lib.hid (A.out.kept hb)
      have X := Lib.hid (X.out.kept hb)
      clear hb
      clear c0 c1 c2 c3 d0 d1 d2
      have c0 := A.out.at 0 rfl; have c1 := A.out.at 1 rfl; have c2 := A.out.at 2 rfl; have c3 := A.out.at 3 rfl; have d0 := X.out.at 0 rfl; have d1 := X.out.at 1 rfl; have d2 := X.out.at 2 rfl
      go_wp2
      go_ret
      exact ⟨ret_b (by simp), (by repeat (first | (with_reducible exact Bw.out) | (with_reducible refine below_drewN ?_ _) | (with_reducible exact Below.refl _ _) | (with_reducible refine Below.alloc ?_ (by first | exact Nat.le_refl _ | (simp; done) | (simp; omega) | omega) _)))⟩
    · skip
      cases B2 : (sa == sb)
      rotate_left
      · skip
        have H0 := Lib.hid B0
        have H1 := Lib.hid B1
        have o2 : (sa == sb) = true := B2
        have o3 : (sa != sb) = false := by rw [bne, o2]; rfl
        have H2 := Lib.hid B2
        clear B0 B1 B2
        go_enter Try.func77, Try.ntmps77
        go_wp2_with fail
        refine (HR.out sa _ Bw.out).mono ?_
        rw [H0.out]
        rintro e w1 ⟨rfl, hb⟩
        have Bw := Lib.hid (below_step Bw.out hb)
        have A := Lib.hid (A.out.kept hb)
        have X := Lib.hid (X.out.kept hb)
        clear hb
        have c0 := A.out.at 0 rfl; have c1 := A.out.at 1 rfl; have c2 := A.out.at 2 rfl; have c3 := A.out.at 3 rfl; have d0 := X.out.at 0 rfl; have d1 := X.out.at 1 rfl; have d2 := X.out.at 2 rfl
        go_wp2_with fail
        refine (HR.out sb _ Bw.out).mono ?_
        rw [H1.out]
        rintro e w2 ⟨rfl, hb⟩
        have Bw := Lib.hid (below_step Bw.out hb)
        have A := Lib.hid (A.out.kept hb)
        have X := Lib.hid (X.out.kept hb)
        clear hb
        clear c0 c1 c2 c3 d0 d1 d2
        have c0 := A.out.at 0 rfl; have c1 := A.out.at 1 rfl; have c2 := A.out.at 2 rfl; have c3 := A.out.at 3 rfl; have d0 := X.out.at 0 rfl; have d1 := X.out.at 1 rfl; have d2 := X.out.at 2 rfl
        go_wp2
        go_ret
        exact ⟨ret_b (by simp), (by repeat (first | (with_reducible exact Bw.out) | (with_reducible refine below_drewN ?_ _) | (with_reducible exact Below.refl _ _) | (with_reducible refine Below.alloc ?_ (by first | exact Nat.le_refl _ | (simp; done) | (simp; omega) | omega) _)))⟩
      · skip
        cases B3 : pos sp
        · skip
          have H0 := Lib.hid B0
          have H1 := Lib.hid B1
          have o2 : (sa == sb) = false := B2
          have o3 : (sa != sb) = true := by rw [bne, o2]; rfl
          have H2 := Lib.hid B2
          have H3 := Lib.hid B3
          clear B0 B1 B2 B3
          go_enter Try.func77, Try.ntmps77
          go_wp2_with fail
          refine (HR.out sa _ Bw.out).mono ?_
          rw [H0.out]
          rintro e w1 ⟨rfl, hb⟩
          have Bw := Lib.hid (below_step Bw.out hb)
          have A := Lib.hid (A.out.kept hb)
          have X := Lib.hid (X.out.kept hb)
          clear hb
          have c0 := A.out.at 0 rfl; have c1 := A.out.at 1 rfl; have c2 := A.out.at 2 rfl; have c3 := A.out.at 3 rfl; have d0 := X.out.at 0 rfl; have d1 := X.out.at 1 rfl; have d2 := X.out.at 2 rfl
          go_wp2_with fail
          refine (HR.out sb _ Bw.out).mono ?_
          rw [H1.out]
          rintro e w2 ⟨rfl, hb⟩
          have Bw := Lib.hid (below_step Bw.out hb)
          have A := Lib.hid (A.out.kept hb)
          have X := Lib.hid (X.out.kept hb)
          clear hb
          clear c0 c1 c2 c3 d0 d1 d2
          have c0 := A.out.at 0 rfl; have c1 := A.out.at 1 rfl; have c2 := A.out.at 2 rfl; have c3 := A.out.at 3 rfl; have d0 := X.out.at 0 rfl; have d1 := X.out.at 1 rfl; have d2 := X.out.at 2 rfl
          go_wp2_with fail
          refine (implPos_any sp _).mono ?_
          rw [H3.out]
          rintro e w' ⟨rfl, n3, rfl⟩
          go_wp2
          go_ret
          exact ⟨ret_b (by simp), (by repeat (first | (with_reducible exact Bw.out) | (with_reducible refine below_drewN ?_ _) | (with_reducible exact Below.refl _ _) | (with_reducible refine Below.alloc ?_ (by first | exact Nat.le_refl _ | (simp; done) | (simp; omega) | omega) _)))⟩
        · skip
          have H0 := Lib.hid B0
          have H1 := Lib.hid B1
          have o2 : (sa == sb) = false := B2
          have o3 : (sa != sb) = true := by rw [bne, o2]; rfl
          have H2 := Lib.hid B2
          have H3 := Lib.hid B3
          clear B0 B1 B2 B3
          go_enter Try.func77, Try.ntmps77
          go_wp2_with fail
          refine (HR.out sa _ Bw.out).mono ?_
          rw [H0.out]
          rintro e w1 ⟨rfl, hb⟩
          have Bw := Lib.hid (below_step Bw.out hb)
          have A := Lib.hid (A.out.kept hb)
          have X := Lib.hid (X.out.kept hb)
          clear hb
          have c0 := A.out.at 0 rfl; have c1 := A.out.at 1 rfl; have c2 := A.out.at 2 rfl; have c3 := A.out.at 3 rfl; have d0 := X.out.at 0 rfl; have d1 := X.out.at 1 rfl; have d2 := X.out.at 2 rfl
          go_wp2_with fail
          refine (HR.out sb _ Bw.out).mono ?_
          rw [H1.out]
          rintro e w2 ⟨rfl, hb⟩
          have Bw := Lib.hid (below_step Bw.out hb)
          have A := Lib.hid (A.out.kept hb)
          have X := Lib.hid (X.out.kept hb)
          clear hb
          clear c0 c1 c2 c3 d0 d1 d2
          have c0 := A.out.at 0 rfl; have c1 := A.out.at 1 rfl; have c2 := A.out.at 2 rfl; have c3 := A.out.at 3 rfl; have d0 := X.out.at 0 rfl; have d1 := X.out.at 1 rfl; have d2 := X.out.at 2 rfl
          go_wp2_with fail
          refine (implPos_any sp _).mono ?_
          rw [H3.out]
          rintro e w' ⟨rfl, n3, rfl⟩
          go_wp2
          go_ret
          exact ⟨ret_b (by simp), (by repeat (first | (with_reducible exact Bw.out) | (with_reducible refine below_drewN ?_ _) | (with_reducible exact Below.refl _ _) | (with_reducible refine Below.alloc ?_ (by first | exact Nat.le_refl _ | (simp; done) | (simp; omega) | omega) _)))⟩

def IdxW (b : Bool) (w : World) (e : Ending) (w' : World) : Prop := ∃ i : Int, e = .returned (.int .i64 i) ∧ decide (0 ≤ i) = b ∧ Below w.heap.size w w'
theorem litLk_any (a b c d : Value) (r : HS) (s : LK) (q : Nat) (w : World) (h : HRow w a b c d r) (h8 : r.W.length ≤ 8) (hq : w.cell? ⟨q, 0, none⟩ = some (.func (.func 77) #[.agg #[a, b, c, d]] #[])) :
    Calls Try.prog 93 #[.agg #[.int .i64 s.a, .int .i64 s.b, .float .f32 s.ps], .pointer (some ⟨q, 0, none⟩)] w (BolB (!(lkOk r.W.length s)) w) := by
  have TK := Lib.hid (fun w1 (hb : Below w.heap.size w w1) => takesLink_any a b c d r s w1 (h.below hb) h8)
  obtain ⟨sa, sb, sp⟩ := s
  generalize lkOk r.W.length ⟨sa, sb, sp⟩ = v at *
  have hlt := cell_lt hq
  clear h
  have hq2 : (w.alloc (.cells ([.int .i64 sa, .int .i64 sb, .float .f32 sp] : List Value).toArray 89)).cell? ⟨q, 0, none⟩ = some (.func (.func 77) #[.agg #[a, b, c, d]] #[]) := ((below_al1 w _).cell (p := ⟨q, 0, none⟩) hlt).trans hq
  have Bw := Lib.hid (below_al1 w (.cells ([.int .i64 sa, .int .i64 sb, .float .f32 sp] : List Value).toArray 89))
  go_enter Try.func93, Try.ntmps93
  go_wp2_with fail
  refine (TK.out _ Bw.out).mono ?_
  rintro e w1 ⟨rfl, hb⟩
  have Bw := Lib.hid (below_step Bw.out hb)
  clear hb
  go_wp2
  go_ret
  exact ⟨rfl, Bw.out⟩

set_option maxHeartbeats 800000 in
theorem idxLk_any (a b c d : Value) (r : HS) (v : Value) (zs : List LK) (q : Nat) (w : World) (hh : HRow w a b c d r) (h8 : r.W.length ≤ 8) (h : LRow w v zs) (hq : w.cell? ⟨q, 0, none⟩ = some (.func (.func 77) #[.agg #[a, b, c, d]] #[])) :
    Calls Try.prog 101 #[v, .func (.func 93) #[] #[.pointer (some ⟨q, 0, none⟩)]] w (IdxW (!(zs.all (lkOk r.W.length))) w) := by
  have hlt := cell_lt hq
  have TK := Lib.hid (fun s w1 (hb : Below w.heap.size w w1) => litLk_any a b c d r s q w1 (hh.below hb) h8 ((hb.cell (p := ⟨q, 0, none⟩) hlt).trans hq))
  have HC := Lib.hid (fun w1 (hb : Below w.heap.size w w1) (hn : 1 ≤ zs.length) => (h.below hb).cells LK.len hn)
  have VN := Lib.hid (fun k s (hs : zs[k]? = some s) (e : lkOk r.W.length s = false) => show zs.all (lkOk r.W.length) = false from allK_no hs e)
  have VY := Lib.hid (fun h => show zs.all (lkOk r.W.length) = true from allK_yes h)
  have AT := Lib.hid (fun k (hk : k < zs.length) => LK.at (zs := zs) hk)
  have HL := Lib.hid h.len
  obtain ⟨s0, cap, rfl⟩ := h.shape
  clear h hh hq
  generalize zs.all (lkOk r.W.length) = v at *
  generalize hm : zs.length = m at *
  have KL := Lib.hid hm
  clear hm
  go_enter Try.func101, Try.ntmps101
  go_wp2
  go_loopw [5, 8] (fun _ i wr => ∃ k : Nat, k ≤ m ∧ i = .int .i64 k ∧ Hid (∀ (j : Nat) (s : LK), j < k → zs[j]? = some s → lkOk r.W.length s = true) ∧ Hid (Below w.heap.size w wr)) (fun _ i _ => m - (intOf i).toNat)
  case atStart => exact ⟨0, Nat.zero_le _, rfl, Lib.hid (fun j s hj => absurd hj (Nat.not_lt_zero _)), Lib.hid (Below.refl _ _)⟩
  case round =>
    obtain ⟨k, hk, rfl, hall, Bw⟩ := hrel
    have hG := HL.out
    by_cases hlt : k < m
    · obtain ⟨b0, o0, c0, e, hc⟩ := HC.out wr Bw.out (by omega)
      have ea : s0 = some ⟨b0, o0, none⟩ := by cases e; rfl
      obtain ⟨s, hs⟩ := AT.out k hlt
      have z := hc k s hs
      have z0 : wr.cell? ⟨b0, o0 + k * 3, none⟩ = some (.int .i64 s.a) := z 0 _ rfl
      have z1 : wr.cell? ⟨b0, o0 + k * 3 + 1, none⟩ = some (.int .i64 s.b) := z 1 _ rfl
      have z2 : wr.cell? ⟨b0, o0 + k * 3 + 2, none⟩ = some (.float .f32 s.ps) := z 2 _ rfl
      have VNk := Lib.hid (VN.out k s hs)
      have HS := Lib.hid hs
      have TKs := Lib.hid (TK.out s wr Bw.out)
      clear e hc z hs HC VN AT TK
      subst ea
      have hi : (0 : Int) ≤ (k : Int) := by omega
      have hi' : (k : Int) < (m : Int) := by omega
      cases B : lkOk r.W.length s
      · have V := Lib.hid (VNk.out B)
        rw [B] at TKs
        clear B
        go_wp2_with fail
        refine TKs.out.mono ?_
        rintro e w1 ⟨rfl, hb⟩
        have Bw := Lib.hid (below_step Bw.out hb)
        clear hb
        go_wp2
        go_ret
        exact ⟨_, rfl, by rw [V.out]; simp, Bw.out⟩
      · have V := Lib.hid B
        rw [B] at TKs
        clear B
        go_wp2_with fail
        refine TKs.out.mono ?_
        rintro e w1 ⟨rfl, hb⟩
        have Bw := Lib.hid (below_step Bw.out hb)
        clear hb
        go_wp2
        go_roundw
        case rel => exact ⟨k + 1, by omega, by go_num, Lib.hid (fun j s' hj hs => by rcases Nat.lt_succ_iff_lt_or_eq.1 hj with h | h; exact hall.out j s' h hs; subst h; have he := HS.out.symm.trans hs; cases he; exact V.out), Bw⟩
        case measure => simp [intOf]; omega
    · have e := Lib.hid (show k = m by omega)
      have V := Lib.hid (VY.out (fun j s hs => hall.out j s (by have h1 := (List.getElem?_eq_some_iff.1 hs).1; have h2 := e.out; have h3 := KL.out; omega) hs))
      clear HC VN AT TK
      go_wp2
      go_ret
      exact ⟨_, rfl, by rw [V.out]; rfl, Bw.out⟩

theorem allLk_any (a b c d : Value) (r : HS) (v : Value) (zs : List LK) (w : World) (hh : HRow w a b c d r) (h8 : r.W.length ≤ 8) (h : LRow w v zs) :
    Calls Try.prog 76 #[v, .func (.func 77) #[.agg #[a, b, c, d]] #[]] w (BolB (zs.all (lkOk r.W.length)) w) := by
  have H := Lib.hid (fun w1 (hb : Below w.heap.size w w1) q hq => idxLk_any a b c d r v zs q w1 (hh.below hb) h8 (h.below hb) hq)
  have Bw := Lib.hid (below_al1 w (.cells ([.func (.func 77) #[.agg #[a, b, c, d]] #[]] : List Value).toArray 90))
  obtain ⟨s0, cap, rfl⟩ := h.shape
  clear h hh
  generalize zs.all (lkOk r.W.length) = V at *
  go_enter Try.func76, Try.ntmps76
  go_wp2_with (first | (go_at_call 101; refine (H.out _ Bw.out _ (by simp)).mono ?_; rintro e w1 ⟨i, rfl, hi, hb⟩; have Bw := Lib.hid (below_step Bw.out hb); have HI := Lib.hid hi; clear hb hi) | go_in)
  go_ret
  exact ⟨ret_b (by rw [HI.out]; simp), Bw.out⟩

theorem implHs_len (a b c d : Value) (r : HS) (w : World) (h : HRow w a b c d r) (hl : lenHs r = false) : Calls Try.prog 41 #[.agg #[a, b, c, d]] w (BolB (vHs r) w) := by
  have V := Lib.hid (vHs_len hl)
  have N0 := Lib.hid h.W.len
  have N1 := Lib.hid h.H.len
  have N2 := Lib.hid h.L.len
  have N3 := Lib.hid h.K.len
  obtain ⟨a1, a2, rfl⟩ := h.W.shape
  obtain ⟨b1, b2, rfl⟩ := h.H.shape
  obtain ⟨d1, d2, rfl⟩ := h.L.shape
  obtain ⟨e1, e2, rfl⟩ := h.K.shape
  clear h
  unfold lenHs at hl
  generalize vHs r = v at *
  generalize r.W.length = n at *
  generalize r.H.length = n1 at *
  generalize r.L.length = n2 at *
  generalize r.K.length = n3 at *
  have M0 := N0.out
  have M1 := N1.out
  have M2 := N2.out
  have M3 := N3.out
  by_cases g0 : 1 ≤ n
  rotate_left
  · skip
    have f0 : decide ((1 : Int) ≤ (n : Int)) = false := by simp; omega
    clear hl
    go_enter Try.func41, Try.ntmps41
    go_wp2
    go_ret
    exact ⟨ret_b V.out, below_al1 _ _⟩
  by_cases g1 : n ≤ 8
  rotate_left
  · skip
    have f0 : decide ((1 : Int) ≤ (n : Int)) = true := by simp; omega
    have f1 : decide ((n : Int) ≤ 8) = false := by simp; omega
    clear hl
    go_enter Try.func41, Try.ntmps41
    go_wp2
    go_ret
    exact ⟨ret_b V.out, below_al1 _ _⟩
  by_cases g2 : n1 = n
  rotate_left
  · skip
    have f0 : decide ((1 : Int) ≤ (n : Int)) = true := by simp; omega
    have f1 : decide ((n : Int) ≤ 8) = true := by simp; omega
    have f2 : ((n1 : Int) == (n : Int)) = false := by simp; omega
    clear hl
    go_enter Try.func41, Try.ntmps41
    go_wp2
    go_ret
    exact ⟨ret_b V.out, below_al1 _ _⟩
  by_cases g3 : n2 = n
  rotate_left
  · skip
    have f0 : decide ((1 : Int) ≤ (n : Int)) = true := by simp; omega
    have f1 : decide ((n : Int) ≤ 8) = true := by simp; omega
    have f2 : ((n1 : Int) == (n : Int)) = true := by simp; omega
    have f3 : ((n2 : Int) == (n : Int)) = false := by simp; omega
    clear hl
    go_enter Try.func41, Try.ntmps41
    go_wp2
    go_ret
    exact ⟨ret_b V.out, below_al1 _ _⟩
  by_cases g4 : n3 ≤ 24
  rotate_left
  · skip
    have f0 : decide ((1 : Int) ≤ (n : Int)) = true := by simp; omega
    have f1 : decide ((n : Int) ≤ 8) = true := by simp; omega
    have f2 : ((n1 : Int) == (n : Int)) = true := by simp; omega
    have f3 : ((n2 : Int) == (n : Int)) = true := by simp; omega
    have f4 : decide ((n3 : Int) ≤ 24) = false := by simp; omega
    clear hl
    go_enter Try.func41, Try.ntmps41
    go_wp2
    go_ret
    exact ⟨ret_b V.out, below_al1 _ _⟩
  exfalso
  rw [decide_eq_true g0, decide_eq_true g1, decide_eq_true g2, decide_eq_true g3, decide_eq_true g4] at hl
  cases hl

set_option maxRecDepth 10000 in
set_option maxHeartbeats 1600000 in
theorem implHs_ok (a b c d : Value) (r : HS) (w : World) (h : HRow w a b c d r) (hl : lenHs r = true) : Calls Try.prog 41 #[.agg #[a, b, c, d]] w (BolB (vHs r) w) := by
  have hn := HsN.of hl
  have VV := Lib.hid (show vHs r = (r.W.all (fin .f32) && r.H.all pos && r.L.all lst && r.K.all (lkOk r.W.length)) by unfold vHs; rw [hl]; rfl)
  have R0 := Lib.hid (fun w1 (hb : Below w.heap.size w w1) => allFin_any a r.W w1 (h.W.below hb))
  have R1 := Lib.hid (fun w1 (hb : Below w.heap.size w w1) => allPos_any b r.H w1 (h.H.below hb))
  have R2 := Lib.hid (fun w1 (hb : Below w.heap.size w w1) => allLst_any c r.L w1 (h.L.below hb))
  have R3 := Lib.hid (fun w1 (hb : Below w.heap.size w w1) => allLk_any a b c d r d r.K w1 (h.below hb) hn.b (h.K.below hb))
  have A := Lib.hid (Cells.made w [a, b, c, d] 61)
  have Bw := Lib.hid (below_al1 w (.cells ([a, b, c, d] : List Value).toArray 61))
  obtain ⟨a1, a2, rfl⟩ := h.W.shape
  obtain ⟨b1, b2, rfl⟩ := h.H.shape
  obtain ⟨d1, d2, rfl⟩ := h.L.shape
  obtain ⟨e1, e2, rfl⟩ := h.K.shape
  obtain ⟨g0, g1, g2, g3, g4⟩ := hn
  clear h hl
  generalize vHs r = v at *
  generalize r.W.all (fin .f32) = q0 at *
  generalize r.H.all pos = q1 at *
  generalize r.L.all lst = q2 at *
  generalize r.K.all (lkOk r.W.length) = q3 at *
  simp only [g2, g3] at R1 R2 R3 A Bw ⊢
  clear g2 g3
  generalize r.W.length = n at *
  generalize r.K.length = m at *
  have f0 : decide ((1 : Int) ≤ (n : Int)) = true := by simp; omega
  have f1 : decide ((n : Int) ≤ 8) = true := by simp; omega
  have f2 : ((n : Int) == (n : Int)) = true := by simp
  have f4 : decide ((m : Int) ≤ 24) = true := by simp; omega
  cases q0
  · skip
    go_enter Try.func41, Try.ntmps41
    go_wp2_with fail
    refine (R0.out _ Bw.out).mono ?_
    rintro e w1 ⟨rfl, hb⟩
    have Bw := Lib.hid (below_step Bw.out hb)
    have A := Lib.hid (A.out.kept hb)
    clear hb
    have c0 := A.out.at 0 rfl; have c1 := A.out.at 1 rfl; have c2 := A.out.at 2 rfl; have c3 := A.out.at 3 rfl
    go_wp2
    go_ret
    exact ⟨ret_b (by rw [VV.out]; simp), Bw.out⟩
  · skip
    cases q1
    · skip
      go_enter Try.func41, Try.ntmps41
      go_wp2_with fail
      refine (R0.out _ Bw.out).mono ?_
      rintro e w1 ⟨rfl, hb⟩
      have Bw := Lib.hid (below_step Bw.out hb)
      have A := Lib.hid (A.out.kept hb)
      clear hb
      have c0 := A.out.at 0 rfl; have c1 := A.out.at 1 rfl; have c2 := A.out.at 2 rfl; have c3 := A.out.at 3 rfl
      go_wp2_with fail
      refine (R1.out _ Bw.out).mono ?_
      rintro e w2 ⟨rfl, hb⟩
      have Bw := Lib.hid (below_step Bw.out hb)
      have A := Lib.hid (A.out.kept hb)
      clear hb
      clear c0 c1 c2 c3
      have c0 := A.out.at 0 rfl; have c1 := A.out.at 1 rfl; have c2 := A.out.at 2 rfl; have c3 := A.out.at 3 rfl
      go_wp2
      go_ret
      exact ⟨ret_b (by rw [VV.out]; simp), Bw.out⟩
    · skip
      cases q2
      · skip
        go_enter Try.func41, Try.ntmps41
        go_wp2_with fail
        refine (R0.out _ Bw.out).mono ?_
        rintro e w1 ⟨rfl, hb⟩
        have Bw := Lib.hid (below_step Bw.out hb)
        have A := Lib.hid (A.out.kept hb)
        clear hb
        have c0 := A.out.at 0 rfl; have c1 := A.out.at 1 rfl; have c2 := A.out.at 2 rfl; have c3 := A.out.at 3 rfl
        go_wp2_with fail
        refine (R1.out _ Bw.out).mono ?_
        rintro e w2 ⟨rfl, hb⟩
        have Bw := Lib.hid (below_step Bw.out hb)
        have A := Lib.hid (A.out.kept hb)
        clear hb
        clear c0 c1 c2 c3
        have c0 := A.out.at 0 rfl; have c1 := A.out.at 1 rfl; have c2 := A.out.at 2 rfl; have c3 := A.out.at 3 rfl
        go_wp2_with fail
        refine (R2.out _ Bw.out).mono ?_
        rintro e w3 ⟨rfl, hb⟩
        have Bw := Lib.hid (below_step Bw.out hb)
        have A := Lib.hid (A.out.kept hb)
        clear hb
        clear c0 c1 c2 c3
        have c0 := A.out.at 0 rfl; have c1 := A.out.at 1 rfl; have c2 := A.out.at 2 rfl; have c3 := A.out.at 3 rfl
        go_wp2
        go_ret
        exact ⟨ret_b (by rw [VV.out]; simp), Bw.out⟩
      · skip
        go_enter Try.func41, Try.ntmps41
        go_wp2_with fail
        refine (R0.out _ Bw.out).mono ?_
        rintro e w1 ⟨rfl, hb⟩
        have Bw := Lib.hid (below_step Bw.out hb)
        have A := Lib.hid (A.out.kept hb)
        clear hb
        have c0 := A.out.at 0 rfl; have c1 := A.out.at 1 rfl; have c2 := A.out.at 2 rfl; have c3 := A.out.at 3 rfl
        go_wp2_with fail
        refine (R1.out _ Bw.out).mono ?_
        rintro e w2 ⟨rfl, hb⟩
        have Bw := Lib.hid (below_step Bw.out hb)
        have A := Lib.hid (A.out.kept hb)
        clear hb
        clear c0 c1 c2 c3
        have c0 := A.out.at 0 rfl; have c1 := A.out.at 1 rfl; have c2 := A.out.at 2 rfl; have c3 := A.out.at 3 rfl
        go_wp2_with fail
        refine (R2.out _ Bw.out).mono ?_
        rintro e w3 ⟨rfl, hb⟩
        have Bw := Lib.hid (below_step Bw.out hb)
        have A := Lib.hid (A.out.kept hb)
        clear hb
        clear c0 c1 c2 c3
        have c0 := A.out.at 0 rfl; have c1 := A.out.at 1 rfl; have c2 := A.out.at 2 rfl; have c3 := A.out.at 3 rfl
        go_wp2_with fail
        refine (R3.out _ Bw.out).mono ?_
        rintro e w4 ⟨rfl, hb⟩
        have Bw := Lib.hid (below_step Bw.out hb)
        have A := Lib.hid (A.out.kept hb)
        clear hb
        clear c0 c1 c2 c3
        have c0 := A.out.at 0 rfl; have c1 := A.out.at 1 rfl; have c2 := A.out.at 2 rfl; have c3 := A.out.at 3 rfl
        go_wp2
        go_ret
        exact ⟨ret_b (by rw [VV.out]; simp), Bw.out⟩

theorem implHs_any (a b c d : Value) (r : HS) (w : World) (h : HRow w a b c d r) : Calls Try.prog 41 #[.agg #[a, b, c, d]] w (BolB (vHs r) w) := by
  cases hl : lenHs r
  · exact implHs_len a b c d r w h hl
  · exact implHs_ok a b c d r w h hl

theorem specValidHouse_any (a b c d : Value) (r : HS) (w : World) (h : HRow w a b c d r) : Calls Try.prog 39 #[.agg #[a, b, c, d]] w (BolB (vHs r) w) := by
  have HS := Lib.hid (specHs_any _ a b c d r _ (Cells.made w [a, b, c, d] 61) (h.below (below_al1 w (.cells ([a, b, c, d] : List Value).toArray 61))))
  clear h
  go_enter Try.func39, Try.ntmps39
  go_wp2_with fail
  refine HS.out.mono ?_
  rintro e w' ⟨rfl, n, rfl⟩
  go_wp2
  go_ret
  exact ⟨rfl, below_drewN (below_al1 _ _) _⟩
end Go.Proofs.Ytjkokhdbkmjenaa
