/- How much heat flows to a room: both sides. -/
import Derived.Test.YtjkokhdbkmjenaaHsN
import Derived.OwnWalk
namespace Go.Proofs.Ytjkokhdbkmjenaa
open Go.RowKit
set_option linter.unusedVariables false

/-- the other room of a link of room i -/
def othR (s : LK) (i : Int) : Int := if s.a = i then s.b else s.a
/-- what is added for a link -/
def flwA (r : HS) (i : Int) (s : LK) (c : Nat) : Nat := fop .add .f32 c (fop .mul .f32 s.ps (fop .sub .f32 (r.W.getD (othR s i).toNat 0) (r.W.getD i.toNat 0)))
/-- what flows to room i by the leak and the first k links -/
def flwTo (r : HS) (i : Int) (y : Nat) : Nat → Nat
  | 0 => fop .add .f32 0 (fop .mul .f32 (r.L.getD i.toNat 0) (fop .sub .f32 y (r.W.getD i.toNat 0)))
  | k + 1 => match r.K[k]? with
    | none => flwTo r i y k
    | some s => if s.a = i ∨ s.b = i then flwA r i s (flwTo r i y k) else flwTo r i y k
theorem flw_start {r : HS} {i : Int} {y p q s : Nat} (f0 : FR .sub .f32 y (r.W.getD i.toNat 0) p) (f1 : FR .mul .f32 (r.L.getD i.toNat 0) p q) (f2 : FR .add .f32 0 q s) : cn .f32 s = flwTo r i y 0 := by
  unfold flwTo
  rw [f2.1, f1.1, f0.1]
  simp only [fopl', fopr']
theorem flw_yes {r : HS} {i : Int} {y k c p q s' o : Nat} {s : LK} (hs : r.K[k]? = some s) (hi : s.a = i ∨ s.b = i) (ho : o = (othR s i).toNat) (h : cn .f32 c = flwTo r i y k) (f0 : FR .sub .f32 (r.W.getD o 0) (r.W.getD i.toNat 0) p) (f1 : FR .mul .f32 s.ps p q) (f2 : FR .add .f32 c q s') : cn .f32 s' = flwTo r i y (k + 1) := by
  subst ho
  unfold flwTo
  rw [hs]
  simp only []
  rw [if_pos hi, ← h]
  unfold flwA
  rw [f2.1, f1.1, f0.1]
  simp only [fopl', fopr']
theorem flw_no {r : HS} {i : Int} {y k c : Nat} {s : LK} (hs : r.K[k]? = some s) (hi : ¬ (s.a = i ∨ s.b = i)) (h : cn .f32 c = flwTo r i y k) : cn .f32 c = flwTo r i y (k + 1) := by
  unfold flwTo
  rw [hs]
  simp only []
  rw [if_neg hi, h]
def FlwS (S : Nat) (w : World) (e : Ending) (w' : World) : Prop := ∃ r n, cn .f32 r = S ∧ e = .returned (.float .f32 r) ∧ w' = w.drewN n
theorem lkOk_bd {n : Nat} {s : LK} (h : lkOk n s = true) : 0 ≤ s.a ∧ s.a < n ∧ 0 ≤ s.b ∧ s.b < n ∧ s.a ≠ s.b := by
  unfold lkOk inN at h
  simp only [Bool.and_eq_true, decide_eq_true_eq, Bool.not_eq_true', beq_eq_false_iff_ne] at h
  omega
theorem vHs_lk {r : HS} (h : vHs r = true) {k : Nat} {s : LK} (hs : r.K[k]? = some s) : lkOk r.W.length s = true := by
  unfold vHs at h
  simp only [Bool.and_eq_true, List.all_eq_true] at h
  exact h.2 s (List.mem_of_getElem? hs)
theorem inN_bd {n : Nat} {x : Int} (h : inN n x = true) : 0 ≤ x ∧ x < n := by
  unfold inN at h
  simp only [Bool.and_eq_true, decide_eq_true_eq] at h
  omega

def OthB (s : LK) (i : Int) (w : World) (e : Ending) (w' : World) : Prop := ∃ (o : Int) (b : Bool), e = .returned (.tuple #[.int .i64 o, .bool b]) ∧ b = decide (s.a = i ∨ s.b = i) ∧ ((s.a = i ∨ s.b = i) → o = othR s i) ∧ Below w.heap.size w w'
theorem OthB.x {s : LK} {i : Int} {w w' : World} (h : s.a = i) (hb : Below w.heap.size w w') : OthB s i w (.returned (.tuple #[.int .i64 s.b, .bool true])) w' :=
  ⟨_, _, rfl, (decide_eq_true (Or.inl h)).symm, fun _ => by unfold othR; rw [if_pos h], hb⟩
theorem OthB.y {s : LK} {i : Int} {w w' : World} (h : ¬ s.a = i) (h2 : s.b = i) (hb : Below w.heap.size w w') : OthB s i w (.returned (.tuple #[.int .i64 s.a, .bool true])) w' :=
  ⟨_, _, rfl, (decide_eq_true (Or.inr h2)).symm, fun _ => by unfold othR; rw [if_neg h], hb⟩
theorem OthB.n {s : LK} {i : Int} {w w' : World} (h : ¬ s.a = i) (h2 : ¬ s.b = i) (hb : Below w.heap.size w w') : OthB s i w (.returned (.tuple #[.int .i64 0, .bool false])) w' :=
  ⟨_, _, rfl, (decide_eq_false (by intro q; rcases q with q | q; exact h q; exact h2 q)).symm, fun q => by rcases q with q | q; exact absurd q h; exact absurd q h2, hb⟩
theorem otherRoom_any (s : LK) (i : Int) (w : World) : Calls Try.prog 95 #[.agg #[.int .i64 s.a, .int .i64 s.b, .float .f32 s.ps], .int .i64 i] w (OthB s i w) := by
  have EX := Lib.hid (fun h w1 hb => @OthB.x s i w w1 h hb)
  have EY := Lib.hid (fun h h2 w1 hb => @OthB.y s i w w1 h h2 hb)
  have EN := Lib.hid (fun h h2 w1 hb => @OthB.n s i w w1 h h2 hb)
  obtain ⟨sa, sb, sp⟩ := s
  by_cases h1 : sa = i
  · have f0 : (i == sa) = true := by simp [h1]
    have EX := Lib.hid (EX.out h1)
    clear h1 EY EN
    go_enter Try.func95, Try.ntmps95
    go_wp2
    go_ret2
    exact EX.out _ (below_al1 _ _)
  · have f0 : (i == sa) = false := by simp; omega
    by_cases h2 : sb = i
    · have f1 : (i == sb) = true := by simp [h2]
      have EY := Lib.hid (EY.out h1 h2)
      clear h1 h2 EX EN
      go_enter Try.func95, Try.ntmps95
      go_wp2
      go_ret2
      exact EY.out _ (below_al1 _ _)
    · have f1 : (i == sb) = false := by simp; omega
      have EN := Lib.hid (EN.out h1 h2)
      clear h1 h2 EX EY
      go_enter Try.func95, Try.ntmps95
      go_wp2
      go_ret2
      exact EN.out _ (below_al1 _ _)

set_option maxRecDepth 10000 in
set_option maxHeartbeats 3200000 in
theorem specFlow_any {n m x0 o0 k0 x1 o1 k1 x2 o2 k2 : Nat} {e1 : Option Addr} {e2 : Nat} (p : Nat) (r : HS) (i : Int) (y : Nat) (w : World) (hv : vHs r = true) (hn : r.W.length = n) (hm : r.K.length = m) (A : Cells w p [Value.slice (some ⟨x0, o0, none⟩) n k0, .slice (some ⟨x1, o1, none⟩) n k1, .slice (some ⟨x2, o2, none⟩) n k2, .slice e1 m e2]) (h : HLay w n x0 o0 x1 o1 x2 o2 r) (hk : LRow w (.slice e1 m e2) r.K) (hi : 0 ≤ i ∧ i < n) :
    Calls Try.prog 81 #[.pointer (some ⟨p, 0, none⟩), .int .i64 i, .float .f32 y] w (FlwS (flwTo r i y m) w) := by
  have n8 := (HsN.ofV hv).b
  have m24 := (HsN.ofV hv).K
  have BDS := Lib.hid (fun k s (hs : r.K[k]? = some s) => lkOk_bd (vHs_lk hv hs))
  have AT := Lib.hid (fun k (hk : k < r.K.length) => LK.at (zs := r.K) hk)
  have CK := Lib.hid (fun (hn : 1 ≤ r.K.length) => hk.cells LK.len hn)
  have SY := Lib.hid (fun k c p q s' o s h1 h2 h3 h4 h5 h6 h7 => @flw_yes r i y k c p q s' o s h1 h2 h3 h4 h5 h6 h7)
  have SN := Lib.hid (fun k c s h1 h2 h3 => @flw_no r i y k c s h1 h2 h3)
  have S0 := Lib.hid (fun p q s h1 h2 h3 => @flw_start r i y p q s h1 h2 h3)
  rw [hn] at n8 BDS
  rw [hm] at m24 AT CK
  have c0 := A.at 0 rfl
  have c2 := A.at 2 rfl
  have c3 := A.at 3 rfl
  have WW := Lib.hid h.W
  have z1 := h.L i.toNat (by omega)
  have z0 := h.W i.toNat (by omega)
  have KL := Lib.hid hm
  clear hk A h hv hn hm
  obtain ⟨i0, iN⟩ := hi
  have it : ((i.toNat : Nat) : Int) = i := by omega
  generalize hg : i.toNat = j at *
  clear hg
  subst it
  generalize hx0 : r.W.getD j 0 = xo at *
  generalize r.L.getD j 0 = xl at *
  have hi : (0 : Int) ≤ (j : Int) := by omega
  have hi' : (j : Int) < (n : Int) := by omega
  go_enter Try.func81, Try.ntmps81
  go_wp2
  refine wp_region_loose (fun _ _ _ => True) (by kernel_rfl) (by kernel_rfl) ?_
  repeat (first | (refine wpLoose_farith rfl _ _ _ _ _ rfl rfl _ _ _ rfl rfl ?_; intro _ _) | (refine wpLoose_valK rfl ?_ (fun w1 hw1 => ?_) (fun K hK => ?_); rotate_left; (focus (obtain ⟨nq, rfl⟩ := hw1; go_simp; first | done | rfl)); go_simp; refine hK _ ?_; clear hK K))
  (refine wpLoose_nil ?_; rintro _ ⟨nq, rfl⟩)
  rename_i r1 f1 r2 f2 r3 f3
  have V0 := Lib.hid (S0.out r1 r2 r3 f1 f2 f3)
  clear f1 f2 f3 S0
  go_wp2
  go_loopw [7, 8, 9] (fun s i _ wr => ∃ k s0 q : Nat, k ≤ m ∧ i = .int .i64 k ∧ s = .float .f32 s0 ∧ Hid (cn .f32 s0 = flwTo r (j : Int) y k) ∧ wr = w.drewN q) (fun _ i _ _ => m - (intOf i).toNat)
  case atStart => exact ⟨0, _, _, Nat.zero_le _, rfl, rfl, V0, by first | rfl | simp only [World.drewN_drewN]⟩
  case round =>
    obtain ⟨k, s0, q, hk, rfl, rfl, hs0, rfl⟩ := hrel
    by_cases hlt : k < m
    · obtain ⟨x3, o3, k3, e, hc⟩ := CK.out (by omega)
      have ea : e1 = some ⟨x3, o3, none⟩ := by cases e; rfl
      obtain ⟨s, hs⟩ := AT.out k hlt
      have z := hc k s hs
      have HS := Lib.hid hs
      have bd := BDS.out k s hs
      have SYk := Lib.hid (fun c p q s' o => SY.out k c p q s' o s hs)
      have SNk := Lib.hid (fun c => SN.out k c s hs)
      obtain ⟨sa, sb, sp⟩ := s
      obtain ⟨b1, b2, b3, b4, b5⟩ := bd
      simp only [] at b1 b2 b3 b4 b5
      have y0 : w.cell? ⟨x3, o3 + k * 3, none⟩ = some (.int .i64 sa) := z 0 _ rfl
      have y1 : w.cell? ⟨x3, o3 + k * 3 + 1, none⟩ = some (.int .i64 sb) := z 1 _ rfl
      have y2 : w.cell? ⟨x3, o3 + k * 3 + 2, none⟩ = some (.float .f32 sp) := z 2 _ rfl
      clear e hc z hs CK AT SY SN BDS
      subst ea
      have hj : (0 : Int) ≤ (k : Int) := by omega
      have hj' : (k : Int) < (m : Int) := by omega
      have hd : decide ((k : Int) < (m : Int)) = true := by simp; omega
      by_cases ha : sa = (j : Int)
      · have hb : ¬ sb = (j : Int) := by omega
        have g0 : (sa == (j : Int)) = true := by simp [ha]
        have g1 : (sb == (j : Int)) = false := by simp [hb]
        have zo := WW.out sb.toNat (by omega)
        have VY := Lib.hid (fun c p q s' => SYk.out c p q s' sb.toNat (Or.inl ha) (by unfold othR; simp [ha]))
        clear SYk SNk WW
        have ib : ((sb.toNat : Nat) : Int) = sb := by omega
        generalize hgb : sb.toNat = jb at *
        clear hgb
        subst ib
        generalize r.W.getD jb 0 = xb at *
        subst ha
        go_wp2
        refine wp_region_loose (fun _ _ _ => True) (by kernel_rfl) (by kernel_rfl) ?_
        repeat (first | (refine wpLoose_farith rfl _ _ _ _ _ rfl rfl _ _ _ rfl rfl ?_; intro _ _) | (refine wpLoose_valK rfl ?_ (fun w1 hw1 => ?_) (fun K hK => ?_); rotate_left; (focus (obtain ⟨nq, rfl⟩ := hw1; go_simp; first | done | rfl)); go_simp; refine hK _ ?_; clear hK K))
        (refine wpLoose_nil ?_; rintro _ ⟨nq, rfl⟩)
        rename_i r1 f1 r2 f2 r3 f3
        have V := Lib.hid (VY.out s0 r1 r2 r3 hs0.out f1 f2 f3)
        clear f1 f2 f3 VY
        go_wp2
        go_roundw
        case rel => exact ⟨k + 1, r3, _, by omega, by go_num, rfl, V, by first | rfl | simp only [World.drewN_drewN]⟩
        case measure => simp [intOf]; omega
      · by_cases hb : sb = (j : Int)
        · have g0 : (sa == (j : Int)) = false := by simp [ha]
          have g1 : (sb == (j : Int)) = true := by simp [hb]
          have zo := WW.out sa.toNat (by omega)
          have VY := Lib.hid (fun c p q s' => SYk.out c p q s' sa.toNat (Or.inr hb) (by unfold othR; simp [ha]))
          clear SYk SNk WW
          have ib : ((sa.toNat : Nat) : Int) = sa := by omega
          generalize hgb : sa.toNat = jb at *
          clear hgb
          subst ib
          generalize r.W.getD jb 0 = xb at *
          subst hb
          go_wp2
          refine wp_region_loose (fun _ _ _ => True) (by kernel_rfl) (by kernel_rfl) ?_
          repeat (first | (refine wpLoose_farith rfl _ _ _ _ _ rfl rfl _ _ _ rfl rfl ?_; intro _ _) | (refine wpLoose_valK rfl ?_ (fun w1 hw1 => ?_) (fun K hK => ?_); rotate_left; (focus (obtain ⟨nq, rfl⟩ := hw1; go_simp; first | done | rfl)); go_simp; refine hK _ ?_; clear hK K))
          (refine wpLoose_nil ?_; rintro _ ⟨nq, rfl⟩)
          rename_i r1 f1 r2 f2 r3 f3
          have V := Lib.hid (VY.out s0 r1 r2 r3 hs0.out f1 f2 f3)
          clear f1 f2 f3 VY
          go_wp2
          go_roundw
          case rel => exact ⟨k + 1, r3, _, by omega, by go_num, rfl, V, by first | rfl | simp only [World.drewN_drewN]⟩
          case measure => simp [intOf]; omega
        · have g0 : (sa == (j : Int)) = false := by simp [ha]
          have g1 : (sb == (j : Int)) = false := by simp [hb]
          have V := Lib.hid (SNk.out s0 (by intro h; rcases h with h | h; exact ha h; exact hb h) hs0.out)
          clear SYk SNk WW ha hb
          go_wp2
          go_roundw
          case rel => exact ⟨k + 1, s0, _, by omega, by go_num, rfl, V, rfl⟩
          case measure => simp [intOf]; omega
    · have e := Lib.hid (show k = m by omega)
      clear CK AT SY SN BDS
      go_wp2
      go_ret
      have := e.out
      subst this
      exact ⟨_, _, hs0.out, rfl, rfl⟩


set_option maxRecDepth 10000 in
set_option maxHeartbeats 3200000 in
theorem implFlow_any {n m x0 o0 k0 x1 o1 k1 x2 o2 k2 : Nat} {e1 : Option Addr} {e2 : Nat} (r : HS) (i : Int) (y : Nat) (w : World) (hv : vHs r = true) (hn : r.W.length = n) (hm : r.K.length = m) (h : HLay w n x0 o0 x1 o1 x2 o2 r) (hk : LRow w (.slice e1 m e2) r.K) (hi : 0 ≤ i ∧ i < n) :
    Calls Try.prog 83 #[.agg #[.slice (some ⟨x0, o0, none⟩) n k0, .slice (some ⟨x1, o1, none⟩) n k1, .slice (some ⟨x2, o2, none⟩) n k2, .slice e1 m e2], .int .i64 i, .float .f32 y] w fun e w' => ∃ c, cn .f32 c = flwTo r i y m ∧ e = .returned (.float .f32 c) ∧ Below w.heap.size w w' := by
  have n8 := (HsN.ofV hv).b
  have m24 := (HsN.ofV hv).K
  have BDS := Lib.hid (fun k s (hs : r.K[k]? = some s) => lkOk_bd (vHs_lk hv hs))
  have AT := Lib.hid (fun k (hk : k < r.K.length) => LK.at (zs := r.K) hk)
  have CK := Lib.hid (fun w1 (hb : Below w.heap.size w w1) (hn : 1 ≤ r.K.length) => (hk.below hb).cells LK.len hn)
  have SY := Lib.hid (fun k c p q s' o s h1 h2 h3 h4 h5 h6 h7 => @flw_yes r i y k c p q s' o s h1 h2 h3 h4 h5 h6 h7)
  have SN := Lib.hid (fun k c s h1 h2 h3 => @flw_no r i y k c s h1 h2 h3)
  have S0 := Lib.hid (fun p q s h1 h2 h3 => @flw_start r i y p q s h1 h2 h3)
  rw [hn] at n8 BDS
  rw [hm] at m24 AT CK
  have A := Lib.hid (Cells.made w [Value.slice (some ⟨x0, o0, none⟩) n k0, .slice (some ⟨x1, o1, none⟩) n k1, .slice (some ⟨x2, o2, none⟩) n k2, .slice e1 m e2] 61)
  have Bw := Lib.hid (below_al1 w (.cells ([Value.slice (some ⟨x0, o0, none⟩) n k0, .slice (some ⟨x1, o1, none⟩) n k1, .slice (some ⟨x2, o2, none⟩) n k2, .slice e1 m e2] : List Value).toArray 61))
  have LY := Lib.hid (fun w1 (hb : Below w.heap.size w w1) => h.below hb)
  have z1 := (LY.out _ Bw.out).L i.toNat (by omega)
  have z0 := (LY.out _ Bw.out).W i.toNat (by omega)
  clear hk h hv hn hm
  obtain ⟨i0, iN⟩ := hi
  have it : ((i.toNat : Nat) : Int) = i := by omega
  generalize hg : i.toNat = j at *
  clear hg
  subst it
  generalize hx0 : r.W.getD j 0 = xo at *
  generalize r.L.getD j 0 = xl at *
  have hi : (0 : Int) ≤ (j : Int) := by omega
  have hi' : (j : Int) < (n : Int) := by omega
  go_enter Try.func83, Try.ntmps83
  go_wp2_with (refine wpList_farith rfl _ _ _ _ _ rfl rfl _ _ _ rfl rfl ?_; intro r0 j0 g0; have f0 := Lib.hid g0; clear g0; refine Stop.go ?_)
  refine Stop.mk ?_
  go_wp2_with (refine wpList_farith rfl _ _ _ _ _ rfl rfl _ _ _ rfl rfl ?_; intro r1 j1 g1; have f1 := Lib.hid g1; clear g1; refine Stop.go ?_)
  refine Stop.mk ?_
  go_wp2_with (refine wpList_farith rfl _ _ _ _ _ rfl rfl _ _ _ rfl rfl ?_; intro r2 j2 g2; have f2 := Lib.hid g2; clear g2; refine Stop.go ?_)
  refine Stop.mk ?_
  have V0 := Lib.hid (S0.out r0 r1 r2 f0.out f1.out f2.out)
  clear f0 f1 f2 S0
  go_wp2
  go_loopw [8, 10, 11, 12, 32] (fun s _ _ _ i wr => ∃ k s0 : Nat, k ≤ m ∧ i = .int .i64 k ∧ s = .float .f32 s0 ∧ Hid (cn .f32 s0 = flwTo r (j : Int) y k) ∧ Hid (Below w.heap.size w wr) ∧ Hid (Cells wr w.heap.size [Value.slice (some ⟨x0, o0, none⟩) n k0, .slice (some ⟨x1, o1, none⟩) n k1, .slice (some ⟨x2, o2, none⟩) n k2, .slice e1 m e2])) (fun _ _ _ _ i _ => m - (intOf i).toNat)
  case atStart => exact ⟨0, _, Nat.zero_le _, rfl, rfl, V0, Lib.hid (by repeat (first | (with_reducible exact Bw.out) | (with_reducible refine below_drewN ?_ _) | (with_reducible exact Below.refl _ _) | (with_reducible exact below_al1 _ _))), Lib.hid (A.out.kept (by repeat (first | (with_reducible exact Below.refl _ _) | (with_reducible refine below_drewN ?_ _))))⟩
  case round =>
    obtain ⟨k, s0, hk, rfl, rfl, hs0, BwL, AL⟩ := hrel
    clear z0 z1
    by_cases hlt : k < m
    · obtain ⟨x3, o3, k3, e, hc⟩ := CK.out wr BwL.out (by omega)
      have ea : e1 = some ⟨x3, o3, none⟩ := by cases e; rfl
      obtain ⟨s, hs⟩ := AT.out k hlt
      have z := hc k s hs
      have bd := BDS.out k s hs
      have SYk := Lib.hid (fun c p q s' o => SY.out k c p q s' o s hs)
      have SNk := Lib.hid (fun c => SN.out k c s hs)
      have OT := Lib.hid (fun w1 => otherRoom_any s (j : Int) w1)
      obtain ⟨sa, sb, sp⟩ := s
      obtain ⟨b1, b2, b3, b4, b5⟩ := bd
      simp only [] at b1 b2 b3 b4 b5
      have y0 : wr.cell? ⟨x3, o3 + k * 3, none⟩ = some (.int .i64 sa) := z 0 _ rfl
      have y1 : wr.cell? ⟨x3, o3 + k * 3 + 1, none⟩ = some (.int .i64 sb) := z 1 _ rfl
      have y2 : wr.cell? ⟨x3, o3 + k * 3 + 2, none⟩ = some (.float .f32 sp) := z 2 _ rfl
      clear e hc z hs AT SY SN BDS
      subst ea
      have hj : (0 : Int) ≤ (k : Int) := by omega
      have hj' : (k : Int) < (m : Int) := by omega
      have hd : decide ((k : Int) < (m : Int)) = true := by simp; omega
      have X := Lib.hid (Cells.made wr [.int .i64 sa, .int .i64 sb, .float .f32 sp] 89)
      have AL := Lib.hid (AL.out.al (.cells ([.int .i64 sa, .int .i64 sb, .float .f32 sp] : List Value).toArray 89))
      have BwL := Lib.hid (below_step BwL.out (below_al1 wr (.cells ([.int .i64 sa, .int .i64 sb, .float .f32 sp] : List Value).toArray 89)))
      go_wp2_with fail
      refine (OT.out _).mono ?_
      rintro e w1 ⟨oo, ob, rfl, hob, hoo, hb⟩
      have X := Lib.hid (X.out.kept hb)
      have AL := Lib.hid (AL.out.kept hb)
      have BwL := Lib.hid (below_step BwL.out hb)
      clear hb y0 y1 y2 OT
      have d2 := X.out.at 2 rfl
      have c0 := AL.out.at 0 rfl
      simp only [] at hob hoo
      by_cases hab : sa = (j : Int) ∨ sb = (j : Int)
      · have eo := hoo hab
        have eb : ob = true := by rw [hob]; exact decide_eq_true hab
        subst eb
        have ho : 0 ≤ oo ∧ oo < n := by rw [eo]; unfold othR; simp only []; split <;> omega
        have zo := (LY.out w1 BwL.out).W oo.toNat (by omega)
        have VY := Lib.hid (fun c p q s' => SYk.out c p q s' oo.toNat hab (by rw [eo]))
        clear SYk SNk LY hab hob hoo eo CK
        have ib : ((oo.toNat : Nat) : Int) = oo := by omega
        generalize hgb : oo.toNat = jb at *
        clear hgb
        subst ib
        generalize r.W.getD jb 0 = xb at *
        have hl : (0 : Int) ≤ (jb : Int) := by omega
        have hl' : (jb : Int) < (n : Int) := by omega
        go_wp2
        refine wp_region_loose (fun _ _ _ => True) (by kernel_rfl) (by kernel_rfl) ?_
        repeat (first | (refine wpLoose_farith rfl _ _ _ _ _ rfl rfl _ _ _ rfl rfl ?_; intro _ _) | (refine wpLoose_valK rfl ?_ (fun w1 hw1 => ?_) (fun K hK => ?_); rotate_left; (focus (obtain ⟨nq, rfl⟩ := hw1; go_simp; first | done | rfl)); go_simp; refine hK _ ?_; clear hK K))
        (refine wpLoose_nil ?_; rintro _ ⟨nq, rfl⟩)
        rename_i r1 f1 r2 f2 r3 f3
        have V := Lib.hid (VY.out s0 r1 r2 r3 hs0.out f1 f2 f3)
        clear f1 f2 f3 VY
        go_wp2
        go_roundw
        case rel => exact ⟨k + 1, r3, by omega, by go_num, rfl, V, Lib.hid (below_drewN BwL.out _), Lib.hid (AL.out.kept (below_drewN (Below.refl _ _) _))⟩
        case measure => simp [intOf]; omega
      · have eb : ob = false := by rw [hob]; exact decide_eq_false hab
        subst eb
        have V := Lib.hid (SNk.out s0 hab hs0.out)
        clear SYk SNk LY hab hob hoo CK
        go_wp2
        go_roundw
        case rel => exact ⟨k + 1, s0, by omega, by go_num, rfl, V, BwL, AL⟩
        case measure => simp [intOf]; omega
    · have e := Lib.hid (show k = m by omega)
      clear CK AT SY SN BDS
      go_wp2
      go_ret
      have := e.out
      subst this
      exact ⟨_, hs0.out, rfl, BwL.out⟩

/-- whether a house is valid, and has a room -/
theorem specHas_any (p : Nat) (a b c d : Value) (r : HS) (i : Int) (w : World) (A : Cells w p [a, b, c, d]) (h : HRow w a b c d r) : Calls Try.prog 80 #[.pointer (some ⟨p, 0, none⟩), .int .i64 i] w (Bol (vHs r && inN r.W.length i) w) := by
  have IS := Lib.hid (specHs_any p a b c d r w A h)
  cases hv : vHs r
  · rw [hv] at IS
    clear h A
    go_enter Try.func80, Try.ntmps80
    go_wp2_with fail
    refine IS.out.mono ?_
    rintro e w' ⟨rfl, q, rfl⟩
    go_wp2
    go_ret
    exact ⟨ret_b (by simp), _, rfl⟩
  · rw [hv] at IS
    have n8 := (HsN.ofV hv).b
    have n1 := (HsN.ofV hv).a
    have c0 := A.at 0 rfl
    obtain ⟨a1, a2, rfl⟩ := h.W.shape
    clear h A hv
    have Q := Lib.hid (fun w => show Calls Try.prog 68 #[.int .i64 i, .int .i64 0, .int .i64 ((r.W.length : Int) - 1)] w (Bol (inN r.W.length i) w) from (in_any i 0 ((r.W.length : Int) - 1) w).mono (fun _ _ ⟨he, hw⟩ => ⟨he, 0, hw.symm⟩))
    generalize r.W.length = n at *
    go_enter Try.func80, Try.ntmps80
    go_wp2_with fail
    refine IS.out.mono ?_
    rintro e w' ⟨rfl, q, rfl⟩
    go_wp2_with fail
    refine (Q.out _).mono ?_
    rintro e w' ⟨rfl, q2, rfl⟩
    go_wp2
    go_ret
    exact ⟨ret_b (by simp), _, by first | rfl | simp only [World.drewN_drewN]⟩

end Go.Proofs.Ytjkokhdbkmjenaa
