/- Whether a list are faces: both sides. -/
import Derived.Test.YtlhjmkdfemejmaaFcS
import Derived.Test.YtlhjmkdfemejmaaFaceA
import Derived.Test.YtlhjmkdfemejmaaAllP
namespace Go.Proofs.Ytlhjmkdfemejmaa
open Go.RowKit
set_option linter.unusedVariables false

theorem specFaceAt_any (s : FA) (b o : Nat) (w : World) (c0 : w.cell? ⟨b, o, none⟩ = some (.float .f32 s.wd)) (c1 : w.cell? ⟨b, o + 1, none⟩ = some (.float .f32 s.sh)) (c2 : w.cell? ⟨b, o + 2, none⟩ = some (.float .f32 s.wm)) : Calls Try.prog 135 #[.pointer (some ⟨b, o, none⟩)] w (Bol (vFace s) w) := by
  rw [vFace_spec]
  cases B0 : pos s.wd
  · skip
    have H0 := Lib.hid B0
    clear B0
    go_enter Try.func135, Try.ntmps135
    go_wp2_with fail
    refine (specAbove_any s.wd _).mono ?_
    rw [H0.out]
    rintro e w' ⟨rfl, n, rfl⟩
    go_wp2
    go_ret
    exact ⟨ret_bb (by simp), _, rfl⟩
  · skip
    cases B1 : gt0 s.sh
    · skip
      have H0 := Lib.hid B0
      have o1 : (FloatKind.f32.format.order s.sh 0 == some .gt) = false := B1
      have H1 := Lib.hid B1
      clear B0 B1
      go_enter Try.func135, Try.ntmps135
      go_wp2_with fail
      refine (specAbove_any s.wd _).mono ?_
      rw [H0.out]
      rintro e w' ⟨rfl, n, rfl⟩
      go_wp2
      go_ret
      exact ⟨ret_bb (by simp), _, rfl⟩
    · skip
      cases B2 : leN s.sh 1065353216
      · skip
        have H0 := Lib.hid B0
        have o1 : (FloatKind.f32.format.order s.sh 0 == some .gt) = true := B1
        have H1 := Lib.hid B1
        have o2 : (FloatKind.f32.format.order s.sh 1065353216 == some .lt || FloatKind.f32.format.order s.sh 1065353216 == some .eq) = false := B2
        have H2 := Lib.hid B2
        clear B0 B1 B2
        go_enter Try.func135, Try.ntmps135
        go_wp2_with fail
        refine (specAbove_any s.wd _).mono ?_
        rw [H0.out]
        rintro e w' ⟨rfl, n, rfl⟩
        go_wp2
        go_ret
        exact ⟨ret_bb (by simp), _, rfl⟩
      · skip
        cases B3 : lst s.wm
        · skip
          have H0 := Lib.hid B0
          have o1 : (FloatKind.f32.format.order s.sh 0 == some .gt) = true := B1
          have H1 := Lib.hid B1
          have o2 : (FloatKind.f32.format.order s.sh 1065353216 == some .lt || FloatKind.f32.format.order s.sh 1065353216 == some .eq) = true := B2
          have H2 := Lib.hid B2
          have H3 := Lib.hid B3
          clear B0 B1 B2 B3
          go_enter Try.func135, Try.ntmps135
          go_wp2_with fail
          refine (specAbove_any s.wd _).mono ?_
          rw [H0.out]
          rintro e w' ⟨rfl, n, rfl⟩
          go_wp2_with fail
          refine (specLeast_any s.wm _).mono ?_
          rw [H3.out]
          rintro e w' ⟨rfl, n, rfl⟩
          go_wp2
          go_ret
          exact ⟨ret_bb (by simp), _, rfl⟩
        · skip
          have H0 := Lib.hid B0
          have o1 : (FloatKind.f32.format.order s.sh 0 == some .gt) = true := B1
          have H1 := Lib.hid B1
          have o2 : (FloatKind.f32.format.order s.sh 1065353216 == some .lt || FloatKind.f32.format.order s.sh 1065353216 == some .eq) = true := B2
          have H2 := Lib.hid B2
          have H3 := Lib.hid B3
          clear B0 B1 B2 B3
          go_enter Try.func135, Try.ntmps135
          go_wp2_with fail
          refine (specAbove_any s.wd _).mono ?_
          rw [H0.out]
          rintro e w' ⟨rfl, n, rfl⟩
          go_wp2_with fail
          refine (specLeast_any s.wm _).mono ?_
          rw [H3.out]
          rintro e w' ⟨rfl, n, rfl⟩
          go_wp2
          go_ret
          exact ⟨ret_bb (by simp), _, rfl⟩

def arF (zs : List FA) : Bool := decide (1 ≤ zs.length) && decide (zs.length ≤ 8) && zs.all vFace
theorem allT_no {α : Type} {f : α → Bool} {zs : List α} {k : Nat} {s : α} (hs : zs[k]? = some s) (h : f s = false) : zs.all f = false := by
  rw [List.all_eq_false]
  exact ⟨s, List.mem_of_getElem? hs, by rw [h]; decide⟩
theorem allT_yes {α : Type} {f : α → Bool} {zs : List α} (h : ∀ (k : Nat) (s : α), zs[k]? = some s → f s = true) : zs.all f = true := by
  rw [List.all_eq_true]
  intro s hs
  obtain ⟨k, hk, rfl⟩ := List.mem_iff_getElem.1 hs
  exact h k _ (List.getElem?_eq_getElem hk)

set_option maxHeartbeats 800000 in
theorem specAre_any (v : Value) (zs : List FA) (w : World) (h : FcRow w v zs) : Calls Try.prog 78 #[v] w (Bol (arF zs) w) := by
  have VS := Lib.hid (fun k s (hs : zs[k]? = some s) (h : vFace s = false) => show arF zs = false by unfold arF; rw [allT_no hs h, Bool.and_false])
  have VN := Lib.hid (fun (h1 : (decide (1 ≤ zs.length) && decide (zs.length ≤ 8)) = true) h => show arF zs = true by unfold arF; rw [h1, allT_yes h]; rfl)
  have VL := Lib.hid (fun (h1 : (decide (1 ≤ zs.length) && decide (zs.length ≤ 8)) = false) => show arF zs = false by unfold arF; rw [h1]; rfl)
  have HC := Lib.hid (fun (hn : 1 ≤ zs.length) => h.cells FA.len hn)
  have AT := Lib.hid (fun k (hk : k < zs.length) => FA.at (zs := zs) hk)
  have HL := Lib.hid h.len
  obtain ⟨a, cap, rfl⟩ := h.shape
  clear h
  generalize arF zs = B at *
  generalize hn : zs.length = n at *
  have KL := Lib.hid hn
  clear hn
  by_cases h8 : n ≤ 8
  · have f2 : decide ((n : Int) ≤ 8) = true := by simp; omega
    go_enter Try.func78, Try.ntmps78
    go_wp2
    go_loopw [4] (fun i wr => ∃ k q : Nat, k ≤ n ∧ i = .int .i64 k ∧ Hid (∀ (j : Nat) (s : FA), j < k → zs[j]? = some s → vFace s = true) ∧ wr = w.drewN q) (fun i _ => n - (intOf i).toNat)
    case atStart => exact ⟨0, 0, Nat.zero_le _, rfl, Lib.hid (fun j s hj => absurd hj (Nat.not_lt_zero _)), rfl⟩
    case round =>
      obtain ⟨k, q, hk, rfl, hall, rfl⟩ := hrel
      by_cases hlt : k < n
      · obtain ⟨b0, o0, cap', e, hc⟩ := HC.out (by omega)
        have ea : a = some ⟨b0, o0, none⟩ := by cases e; rfl
        obtain ⟨s, hs⟩ := AT.out k hlt
        have z := hc k s hs
        have SF := Lib.hid (fun q => specFaceAt_any s b0 (o0 + k * 3) (w.drewN q) (z 0 _ rfl) (z 1 _ rfl) (z 2 _ rfl))
        have VSk := Lib.hid (VS.out k s hs)
        have HS := Lib.hid hs
        clear e hc z hs AT VS HC
        subst ea
        have hi : (0 : Int) ≤ (k : Int) := by omega
        have hi' : (k : Int) < (n : Int) := by omega
        have f0 : decide ((k : Int) < n) = true := by simp; omega
        cases S : vFace s
        · have V := Lib.hid (VSk.out S)
          rw [S] at SF
          clear S
          go_wp2_with fail
          refine (SF.out _).mono ?_
          rintro e w' ⟨rfl, q2, rfl⟩
          go_wp2
          go_ret
          exact ⟨ret_bb V.out, _, by first | rfl | exact World.drewN_drewN _ _ _⟩
        · have V := Lib.hid S
          rw [S] at SF
          clear S
          go_wp2_with fail
          refine (SF.out _).mono ?_
          rintro e w' ⟨rfl, q2, rfl⟩
          go_wp2
          go_roundw
          case rel => exact ⟨k + 1, _, by omega, by go_num, Lib.hid (fun j s' hj hs => by rcases Nat.lt_succ_iff_lt_or_eq.1 hj with h | h; exact hall.out j s' h hs; subst h; have he := HS.out.symm.trans hs; cases he; exact V.out), by first | rfl | exact World.drewN_drewN _ _ _⟩
          case measure => simp [intOf]; omega
      · have e := Lib.hid (show k = n by omega)
        have f0 : decide ((k : Int) < n) = false := by simp; omega
        by_cases h1 : 1 ≤ n
        · have f1 : decide ((1 : Int) ≤ n) = true := by simp; omega
          have V := Lib.hid (VN.out (by simp [h1, h8]) (fun j s hs => hall.out j s (by have a1 := (List.getElem?_eq_some_iff.1 hs).1; have a2 := e.out; have a3 := KL.out; omega) hs))
          clear AT VS HC VN
          go_wp2
          go_ret
          exact ⟨ret_bb (by rw [V.out]), _, rfl⟩
        · have f1 : decide ((1 : Int) ≤ n) = false := by simp; omega
          have V := Lib.hid (VL.out (by simp [h1]))
          clear AT VS HC VN
          go_wp2
          go_ret
          exact ⟨ret_bb (by rw [V.out]), _, rfl⟩
  · have f2 : decide ((n : Int) ≤ 8) = false := by simp; omega
    have f1 : decide ((1 : Int) ≤ n) = true := by simp; omega
    have V := Lib.hid (VL.out (by simp; omega))
    have hG := HL.out
    have f3 : decide ((0 : Int) < n) = true := by simp; omega
    clear AT VS HC VN
    go_enter Try.func78, Try.ntmps78
    go_wp2
    go_loopw [4] (fun i wr => i = .int .i64 0 ∧ wr = w) (fun i _ => 0)
    case atStart => exact ⟨rfl, rfl⟩
    case round =>
      obtain ⟨rfl, rfl⟩ := hrel
      go_wp2
      go_ret
      exact ⟨ret_bb (by rw [V.out]), 0, rfl⟩

theorem specAreFaces_any (v : Value) (zs : List FA) (w : World) (h : FcRow w v zs) : Calls Try.prog 27 #[v] w (BolB (arF zs) w) := by
  have HS := Lib.hid (specAre_any v zs w h)
  obtain ⟨a, cap, rfl⟩ := h.shape
  clear h
  go_enter Try.func27, Try.ntmps27
  go_wp2_with fail
  refine HS.out.mono ?_
  rintro e w' ⟨rfl, n, rfl⟩
  go_wp2
  go_ret
  exact ⟨rfl, below_drewN (Below.refl _ _) _⟩

def IdxW (b : Bool) (w : World) (e : Ending) (w' : World) : Prop := ∃ i : Int, e = .returned (.int .i64 i) ∧ decide (0 ≤ i) = b ∧ Below w.heap.size w w'
theorem litFc_any (s : FA) (q : Nat) (w : World) (hq : w.cell? ⟨q, 0, none⟩ = some (.func (.func 81) #[] #[])) :
    Calls Try.prog 137 #[.agg #[.float .f32 s.wd, .float .f32 s.sh, .float .f32 s.wm], .pointer (some ⟨q, 0, none⟩)] w (BolB (!(vFace s)) w) := by
  have TK := Lib.hid (fun w1 => implFace_any s w1)
  generalize vFace s = v at *
  have hlt := cell_lt hq
  have hq2 : (w.alloc (.cells ([.float .f32 s.wd, .float .f32 s.sh, .float .f32 s.wm] : List Value).toArray 84)).cell? ⟨q, 0, none⟩ = some (.func (.func 81) #[] #[]) := ((below_al1 w _).cell (p := ⟨q, 0, none⟩) hlt).trans hq
  have Bw := Lib.hid (below_al1 w (.cells ([.float .f32 s.wd, .float .f32 s.sh, .float .f32 s.wm] : List Value).toArray 84))
  go_enter Try.func137, Try.ntmps137
  go_wp2_with fail
  refine (TK.out _).mono ?_
  rintro e w1 ⟨rfl, hb⟩
  have Bw := Lib.hid (below_step Bw.out hb)
  clear hb
  go_wp2
  go_ret
  exact ⟨rfl, Bw.out⟩

set_option maxHeartbeats 800000 in
theorem idxFc_any (v : Value) (zs : List FA) (q : Nat) (w : World) (h : FcRow w v zs) (hq : w.cell? ⟨q, 0, none⟩ = some (.func (.func 81) #[] #[])) :
    Calls Try.prog 167 #[v, .func (.func 137) #[] #[.pointer (some ⟨q, 0, none⟩)]] w (IdxW (!(zs.all vFace)) w) := by
  have hlt := cell_lt hq
  have TK := Lib.hid (fun s w1 (hb : Below w.heap.size w w1) => litFc_any s q w1 ((hb.cell (p := ⟨q, 0, none⟩) hlt).trans hq))
  have HC := Lib.hid (fun w1 (hb : Below w.heap.size w w1) (hn : 1 ≤ zs.length) => (h.below hb).cells FA.len hn)
  have VN := Lib.hid (fun k s (hs : zs[k]? = some s) (e : vFace s = false) => show zs.all vFace = false from allT_no hs e)
  have VY := Lib.hid (fun h => show zs.all vFace = true from allT_yes h)
  have AT := Lib.hid (fun k (hk : k < zs.length) => FA.at (zs := zs) hk)
  have HL := Lib.hid h.len
  obtain ⟨s0, cap, rfl⟩ := h.shape
  clear h hq
  generalize zs.all vFace = v at *
  generalize hm : zs.length = m at *
  have KL := Lib.hid hm
  clear hm
  go_enter Try.func167, Try.ntmps167
  go_wp2
  go_loopw [5, 8] (fun _ i wr => ∃ k : Nat, k ≤ m ∧ i = .int .i64 k ∧ Hid (∀ (j : Nat) (s : FA), j < k → zs[j]? = some s → vFace s = true) ∧ Hid (Below w.heap.size w wr)) (fun _ i _ => m - (intOf i).toNat)
  case atStart => exact ⟨0, Nat.zero_le _, rfl, Lib.hid (fun j s hj => absurd hj (Nat.not_lt_zero _)), Lib.hid (Below.refl _ _)⟩
  case round =>
    obtain ⟨k, hk, rfl, hall, Bw⟩ := hrel
    have hG := HL.out
    by_cases hlt : k < m
    · obtain ⟨b0, o0, c0, e, hc⟩ := HC.out wr Bw.out (by omega)
      have ea : s0 = some ⟨b0, o0, none⟩ := by cases e; rfl
      obtain ⟨s, hs⟩ := AT.out k hlt
      have z := hc k s hs
      have z0 : wr.cell? ⟨b0, o0 + k * 3, none⟩ = some (.float .f32 s.wd) := z 0 _ rfl
      have z1 : wr.cell? ⟨b0, o0 + k * 3 + 1, none⟩ = some (.float .f32 s.sh) := z 1 _ rfl
      have z2 : wr.cell? ⟨b0, o0 + k * 3 + 2, none⟩ = some (.float .f32 s.wm) := z 2 _ rfl
      have VNk := Lib.hid (VN.out k s hs)
      have HS := Lib.hid hs
      have TKs := Lib.hid (TK.out s wr Bw.out)
      clear e hc z hs HC VN AT TK
      subst ea
      have hi : (0 : Int) ≤ (k : Int) := by omega
      have hi' : (k : Int) < (m : Int) := by omega
      cases B : vFace s
      · have V := Lib.hid (VNk.out B)
        rw [B] at TKs
        clear B
        go_wp2_with fail
        refine TKs.out.mono ?_
        rintro e w1 ⟨rfl, hb⟩
        have Bw := Lib.hid (below_step Bw.out hb)
        clear hb
        go_wp2
        go_ret
        exact ⟨_, rfl, by rw [V.out]; simp, Bw.out⟩
      · have V := Lib.hid B
        rw [B] at TKs
        clear B
        go_wp2_with fail
        refine TKs.out.mono ?_
        rintro e w1 ⟨rfl, hb⟩
        have Bw := Lib.hid (below_step Bw.out hb)
        clear hb
        go_wp2
        go_roundw
        case rel => exact ⟨k + 1, by omega, by go_num, Lib.hid (fun j s' hj hs => by rcases Nat.lt_succ_iff_lt_or_eq.1 hj with h | h; exact hall.out j s' h hs; subst h; have he := HS.out.symm.trans hs; cases he; exact V.out), Bw⟩
        case measure => simp [intOf]; omega
    · have e := Lib.hid (show k = m by omega)
      have V := Lib.hid (VY.out (fun j s hs => hall.out j s (by have h1 := (List.getElem?_eq_some_iff.1 hs).1; have h2 := e.out; have h3 := KL.out; omega) hs))
      clear HC VN AT TK
      go_wp2
      go_ret
      exact ⟨_, rfl, by rw [V.out]; rfl, Bw.out⟩

theorem allFc_any (v : Value) (zs : List FA) (w : World) (h : FcRow w v zs) :
    Calls Try.prog 80 #[v, .func (.func 81) #[] #[]] w (BolB (zs.all vFace) w) := by
  have H := Lib.hid (fun w1 (hb : Below w.heap.size w w1) q hq => idxFc_any v zs q w1 (h.below hb) hq)
  have Bw := Lib.hid (below_al1 w (.cells ([.func (.func 81) #[] #[]] : List Value).toArray 88))
  obtain ⟨s0, cap, rfl⟩ := h.shape
  clear h
  generalize zs.all vFace = V at *
  go_enter Try.func80, Try.ntmps80
  go_wp2_with (first | (go_at_call 167; refine (H.out _ Bw.out _ (by simp)).mono ?_; rintro e w1 ⟨i, rfl, hi, hb⟩; have Bw := Lib.hid (below_step Bw.out hb); have HI := Lib.hid hi; clear hb hi) | go_in)
  go_ret
  exact ⟨ret_bb (by rw [HI.out]; simp), Bw.out⟩

theorem implAre_any (v : Value) (zs : List FA) (w : World) (h : FcRow w v zs) : Calls Try.prog 29 #[v] w (BolB (arF zs) w) := by
  have HA := Lib.hid (allFc_any v zs w h)
  have HL := Lib.hid h.len
  obtain ⟨a, cap, rfl⟩ := h.shape
  clear h
  unfold arF
  generalize zs.all vFace = V at *
  generalize zs.length = n at *
  have hG := HL.out
  by_cases h1 : 1 ≤ n
  · have f1 : decide ((1 : Int) ≤ n) = true := by simp; omega
    by_cases h8 : n ≤ 8
    · have f2 : decide ((n : Int) ≤ 8) = true := by simp; omega
      go_enter Try.func29, Try.ntmps29
      go_wp2_with fail
      refine HA.out.mono ?_
      rintro e w1 ⟨rfl, hb⟩
      go_wp2
      go_ret
      exact ⟨ret_bb (by simp [h1, h8]), hb⟩
    · have f2 : decide ((n : Int) ≤ 8) = false := by simp; omega
      go_enter Try.func29, Try.ntmps29
      go_wp2
      go_ret
      exact ⟨ret_bb (by simp [h8]), Below.refl _ _⟩
  · have f1 : decide ((1 : Int) ≤ n) = false := by simp; omega
    go_enter Try.func29, Try.ntmps29
    go_wp2
    go_ret
    exact ⟨ret_bb (by simp [h1]), Below.refl _ _⟩

theorem fnExactAreFaces_walk (v : Value) (zs : List FA) (w : World) (h : FcRow w v zs) (hf : ∀ x ∈ zs, x.wf) : Calls Try.prog 7 #[v] w (Tru w) := by
  clear hf
  have A := Lib.hid h
  have HL := Lib.hid h.len
  obtain ⟨a, cap, rfl⟩ := h.shape
  clear h
  by_cases hl : zs.length ≤ 1048576
  · have HN := Lib.hid hl
    have Bw := Lib.hid (Below.refl w.heap.size w)
    clear hl
    go_enter Try.func7, Try.ntmps7
    go_wp2_with fail
    refine (FA.sz_fit _ _ _ 1048576 _ HN.out (Nat.le_refl _)).mono ?_
    rintro _ _ ⟨rfl, rfl⟩
    go_wp2_with fail
    refine (FA.toS_new _ zs _ A.out HN.out).mono ?_
    rintro _ w1 ⟨rfl, hb, hc⟩
    have X := Lib.hid (SRow.of_cells hc (by have := HN.out; have hm : maxLen = 9223372036854775807 := rfl; omega))
    clear hc
    have A := Lib.hid (A.out.below hb)
    have Bw := Lib.hid (below_step Bw.out hb)
    clear hb
    go_wp2_with fail
    refine (specAreFaces_any _ zs _ X.out).mono ?_
    rintro _ w2 ⟨rfl, hb⟩
    have A := Lib.hid (A.out.below hb)
    have Bw := Lib.hid (below_step Bw.out hb)
    clear hb
    clear X
    go_wp2_with fail
    refine (FA.toS_new _ zs _ A.out HN.out).mono ?_
    rintro _ w1 ⟨rfl, hb, hc⟩
    have X := Lib.hid (SRow.of_cells hc (by have := HN.out; have hm : maxLen = 9223372036854775807 := rfl; omega))
    clear hc
    have A := Lib.hid (A.out.below hb)
    have Bw := Lib.hid (below_step Bw.out hb)
    clear hb
    go_wp2_with fail
    refine (implAre_any _ zs _ X.out).mono ?_
    rintro _ w2 ⟨rfl, hb⟩
    have A := Lib.hid (A.out.below hb)
    have X := Lib.hid (X.out.below hb)
    have Bw := Lib.hid (below_step Bw.out hb)
    clear hb
    go_wp2_with fail
    refine (FA.toS_new _ zs _ A.out HN.out).mono ?_
    rintro _ w1 ⟨rfl, hb, hc⟩
    have Y := Lib.hid (SRow.of_cells hc (by have := HN.out; have hm : maxLen = 9223372036854775807 := rfl; omega))
    clear hc
    have A := Lib.hid (A.out.below hb)
    have X := Lib.hid (X.out.below hb)
    have Bw := Lib.hid (below_step Bw.out hb)
    clear hb
    go_wp2_with fail
    refine (FA.eqS_any _ _ zs _ X.out Y.out).mono ?_
    rintro _ w2 ⟨rfl, hb⟩
    have Bw := Lib.hid (below_step Bw.out hb)
    clear hb
    go_wp2
    go_ret
    exact Tru.below Bw.out
  · have HN := Lib.hid (Nat.lt_of_not_le hl)
    clear hl
    go_enter Try.func7, Try.ntmps7
    go_wp2_with fail
    refine (FA.sz_over _ _ _ 1048576 _ HN.out HL.out (Nat.le_refl _)).mono ?_
    rintro _ _ ⟨rfl, rfl⟩
    go_wp2
    go_ret
    exact Tru.same
end Go.Proofs.Ytlhjmkdfemejmaa
