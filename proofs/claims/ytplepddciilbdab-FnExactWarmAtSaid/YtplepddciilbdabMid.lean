/- The middles of the cells of a rod. -/
import Derived.Test.YtplepddciilbdabApp
import Derived.Test.YtplepddciilbdabHalf2
namespace Go.Proofs.Ytplepddciilbdab
open Go.RowKit
set_option linter.unusedVariables false

/-- the middle of a cell -/
def mid (r : RL) (k : Nat) : Nat := fop .add .f32 (sumT (tW r) k) (fop .mul .f32 (cn .f32 1056964608) (cn .f32 (r.W.getD k 0)))
def mOk (r : RL) (n : Nat) : Bool := (List.range n).all (fun k => fin .f32 (mid r k))
/-- the numbers zs are the middles -/
def IsMid (r : RL) (zs : List Nat) : Prop := ∀ j, j < zs.length → cn .f32 (zs.getD j 0) = mid r j
theorem IsMid.push {r : RL} {zs : List Nat} {x y m z : Nat} (h : IsMid r zs) (hx : cn .f32 x = sumT (tW r) zs.length) (hy : y = r.W.getD zs.length 0) (h1 : FR .mul .f32 1056964608 y m) (h2 : FR .add .f32 x m z) : IsMid r (zs ++ [z]) := by
  intro j hj
  simp only [List.length_append, List.length_singleton] at hj
  by_cases e : j < zs.length
  · have := h j e
    rw [← this]
    simp [List.getD_eq_getElem?_getD, List.getElem?_append_left e]
  · have ej : j = zs.length := by omega
    subst ej
    have e1 : (zs ++ [z]).getD zs.length 0 = z := by simp [List.getD_eq_getElem?_getD]
    rw [e1, h2.1, h1.1, hx, hy]
    rfl
theorem sumW_step {r : RL} {k x y z : Nat} (hx : cn .f32 x = sumT (tW r) k) (hy : y = r.W.getD k 0) (h : FR .add .f32 x y z) : cn .f32 z = sumT (tW r) (k + 1) := by
  rw [h.1, hx, hy, sumT_succ]; rfl
theorem mOk_all {r : RL} {zs : List Nat} (h : IsMid r zs) : zs.all (fin .f32) = mOk r zs.length := by
  unfold mOk
  rw [Bool.eq_iff_iff, List.all_eq_true, List.all_eq_true]
  constructor
  · intro hh k hk
    have hk' : k < zs.length := by simpa using hk
    rw [← h k hk', fin_cn]
    exact hh _ (by simp [List.getD_eq_getElem?_getD, hk'])
  · intro hh x hx
    obtain ⟨i, hi, rfl⟩ := List.mem_iff_getElem.1 hx
    have := hh i (by simpa using hi)
    rw [← h i hi, fin_cn] at this
    simpa [List.getD_eq_getElem?_getD, hi] using this
theorem mid_exact {r : RL} {zs : List Nat} (h : IsMid r zs) (hf : zs.all (fin .f32) = true) : ∀ j, j < zs.length → zs.getD j 0 = mid r j := by
  intro j hj
  rw [← h j hj]
  have : fin .f32 (zs.getD j 0) = true := by
    rw [List.all_eq_true] at hf
    exact hf _ (by simp [List.getD_eq_getElem?_getD, hj])
  symm
  apply cn_of_num
  cases hn : nn .f32 (zs.getD j 0)
  · rfl
  · rw [fin_nan hn] at this; cases this

/-- what is handed back: the middles, or nothing if one is not finite -/
def Mids (r : RL) (n : Nat) (w : World) (e : Ending) (w' : World) : Prop :=
  Below w.heap.size w w' ∧ ((mOk r n = true ∧ ∃ b o c, e = .returned (.tuple #[.slice (some ⟨b, o, none⟩) n c, .bool true]) ∧ ∀ i, i < n → w'.cell? ⟨b, o + i, none⟩ = some (.float .f32 (mid r i))) ∨
    (mOk r n = false ∧ e = .returned (.tuple #[.slice none 0 0, .bool false])))
theorem Mids.of {r : RL} {zs : List Nat} {w w' : World} {v : Value} (hn : 1 ≤ zs.length) (h : IsMid r zs) (hf : zs.all (fin .f32) = true) (hr : FRow w' v zs) (hb : Below w.heap.size w w') : Mids r zs.length w (.returned (.tuple #[v, .bool true])) w' := by
  obtain ⟨b, o, c, rfl, hc⟩ := hr.cells hn
  exact ⟨hb, .inl ⟨by rw [← mOk_all h]; exact hf, b, o, c, rfl, fun i hi => by rw [hc i hi, mid_exact h hf i hi]⟩⟩
theorem Mids.no {r : RL} {zs : List Nat} {w w' : World} (h : IsMid r zs) (hf : zs.all (fin .f32) = false) (hb : Below w.heap.size w w') : Mids r zs.length w (.returned (.tuple #[.slice none 0 0, .bool false])) w' :=
  ⟨hb, .inr ⟨by rw [← mOk_all h]; exact hf, rfl⟩⟩

theorem specFinL_any (v : Value) (zs : List Nat) (w : World) (h : FRow w v zs) : Calls Try.prog 96 #[v] w (Bol (zs.all (fin .f32)) w) := by
  have VS := Lib.hid (fun k (hk : k < zs.length) (h : (!(fin .f32 (zs.getD k 0))) = true) => any_some (f := fun z => !(fin .f32 z)) hk h)
  have VN := Lib.hid (fun h => any_none (f := fun z => !(fin .f32 z)) (zs := zs) h)
  have EQ := Lib.hid (not_any_not (fin .f32) zs)
  have HC := Lib.hid (fun (hn : 1 ≤ zs.length) => h.cells hn)
  have HL := Lib.hid h.len
  obtain ⟨a, cap, rfl⟩ := h.shape
  clear h
  generalize zs.any (fun z => !(fin .f32 z)) = b at *
  generalize zs.all (fin .f32) = B at *
  generalize hn : zs.length = n at *
  clear hn
  go_enter Try.func96, Try.ntmps96
  go_wp2
  go_loopw [3] (fun i wr => ∃ k q : Nat, k ≤ n ∧ i = .int .i64 k ∧ Hid (∀ j, j < k → (!(fin .f32 (zs.getD j 0))) = false) ∧ wr = w.drewN q) (fun i _ => n - (intOf i).toNat)
  case atStart => exact ⟨0, 0, Nat.zero_le _, rfl, Lib.hid (fun j hj => absurd hj (Nat.not_lt_zero _)), rfl⟩
  case round =>
    obtain ⟨k, q, hk, rfl, hall, rfl⟩ := hrel
    by_cases hlt : k < n
    · obtain ⟨b0, o0, cap', e, hc⟩ := HC.out (by omega)
      have ea : a = some ⟨b0, o0, none⟩ := by cases e; rfl
      have z0 := hc k hlt
      have VSk := Lib.hid (VS.out k hlt)
      clear e hc
      subst ea
      have hG := HL.out
      have hi : (0 : Int) ≤ (k : Int) := by omega
      have hi' : (k : Int) < (n : Int) := by omega
      generalize hy : zs.getD k 0 = y at *
      cases S : fin .f32 y
      · have V := Lib.hid (VSk.out (by rw [S]; rfl))
        go_wp2_with (go_at_call 78; refine (specFinite_any y _).mono ?_; rw [S]; rintro e w' ⟨rfl, m, rfl⟩)
        go_ret
        exact ⟨ret_b (by rw [← EQ.out, V.out]; rfl), _, rfl⟩
      · have V := Lib.hid (show (!(fin .f32 (zs.getD k 0))) = false by rw [hy, S]; rfl)
        clear hy
        go_wp2_with (go_at_call 78; refine (specFinite_any y _).mono ?_; rw [S]; rintro e w' ⟨rfl, m, rfl⟩)
        go_roundw
        case rel => exact ⟨k + 1, _, by omega, by go_num, Lib.hid (fun j hj => by rcases Nat.lt_succ_iff_lt_or_eq.1 hj with h | h; exact hall.out j h; subst h; exact V.out), rfl⟩
        case measure => simp [intOf]; omega
    · have e := Lib.hid (show k = n by omega)
      go_wp2
      go_ret
      have := e.out
      subst this
      exact ⟨ret_b (by rw [← EQ.out, VN.out hall.out]; rfl), _, rfl⟩

/-- a list, if all its numbers are finite -/
def LstB (zs : List Nat) (v : Value) (w : World) (e : Ending) (w' : World) : Prop :=
  Below w.heap.size w w' ∧ ((zs.all (fin .f32) = true ∧ e = .returned (.tuple #[v, .bool true])) ∨ (zs.all (fin .f32) = false ∧ e = .returned (.tuple #[.slice none 0 0, .bool false])))
theorem specList_any (v : Value) (zs : List Nat) (w : World) (h : FRow w v zs) : Calls Try.prog 104 #[v] w (LstB zs v w) := by
  have C := Lib.hid (specFinL_any v zs w h)
  obtain ⟨a, cap, rfl⟩ := h.shape
  clear h
  cases hf : zs.all (fin .f32)
  · rw [hf] at C
    go_enter Try.func104, Try.ntmps104
    go_wp2_with (go_at_call 96; refine C.out.mono ?_; rintro e w' ⟨rfl, n, rfl⟩)
    go_ret2
    exact ⟨below_drewN (Below.refl _ _) _, .inr ⟨hf, rfl⟩⟩
  · rw [hf] at C
    go_enter Try.func104, Try.ntmps104
    go_wp2_with (go_at_call 96; refine C.out.mono ?_; rintro e w' ⟨rfl, n, rfl⟩)
    go_ret2
    exact ⟨below_drewN (Below.refl _ _) _, .inl ⟨hf, rfl⟩⟩

theorem implList_any (v : Value) (zs : List Nat) (w : World) (h : FRow w v zs) : Calls Try.prog 68 #[v] w (LstB zs v w) := by
  have C := Lib.hid (allFin_any v zs w h)
  obtain ⟨a, cap, rfl⟩ := h.shape
  clear h
  cases hf : zs.all (fin .f32)
  · rw [hf] at C
    go_enter Try.func68, Try.ntmps68
    go_wp2_with (go_at_call 101; refine C.out.mono ?_; rintro e w' ⟨rfl, hb⟩; have B1 := Lib.hid hb; clear hb)
    go_ret2
    exact ⟨B1.out, .inr ⟨hf, rfl⟩⟩
  · rw [hf] at C
    go_enter Try.func68, Try.ntmps68
    go_wp2_with (go_at_call 101; refine C.out.mono ?_; rintro e w' ⟨rfl, hb⟩; have B1 := Lib.hid hb; clear hb)
    go_ret2
    exact ⟨B1.out, .inl ⟨hf, rfl⟩⟩

set_option maxHeartbeats 1600000 in
set_option maxRecDepth 4000 in
theorem specMid_any {n b0 o0 k0 b1 o1 k1 b2 o2 k2 b3 o3 k3 : Nat} (r : RL) (p : Nat) (w : World) (A : Cells w p [.slice (some ⟨b0, o0, none⟩) n k0, .slice (some ⟨b1, o1, none⟩) n k1, .slice (some ⟨b2, o2, none⟩) n k2, .slice (some ⟨b3, o3, none⟩) n k3]) (h : Lay w n b0 o0 k0 b1 o1 k1 b2 o2 k2 b3 o3 k3 r) (hq : n ≤ 48) (hp : 1 ≤ n) :
    Calls Try.prog 83 #[.pointer (some ⟨p, 0, none⟩)] w (Mids r n w) := by
  have CA := Lib.hid (fun w1 (hb : Below w.heap.size w w1) => And.intro ((A.kept hb).at 0 rfl) (h.below hb).W)
  have G := Lib.hid hq
  have HP := Lib.hid hp
  have O0 := Lib.hid (Own.empty w w.heap.size (Nat.le_refl _))
  clear A h hq hp
  go_enter Try.func83, Try.ntmps83
  go_wp2
  go_loopw [4, 5, 6] (fun s v i wr => ∃ (k x : Nat) (zs : List Nat), k ≤ n ∧ i = .int .i64 k ∧ s = .float .f32 x ∧ Hid (cn .f32 x = sumT (tW r) k) ∧ Hid (zs.length = k) ∧ Hid (IsMid r zs) ∧ Hid (Own wr w.heap.size v zs) ∧ Hid (Below w.heap.size w wr)) (fun _ _ i _ => n - (intOf i).toNat)
  case atStart => exact ⟨0, 0, [], Nat.zero_le _, rfl, rfl, Lib.hid rfl, Lib.hid rfl, Lib.hid (fun j hj => absurd hj (Nat.not_lt_zero _)), O0, Lib.hid (below_al1 _ _)⟩
  case round =>
    obtain ⟨k, x, zs, hk, rfl, rfl, hx, hzl, hm, hO, hB⟩ := hrel
    obtain ⟨c0, hz⟩ := CA.out _ hB.out
    have hG := G.out
    by_cases hlt : k < n
    · have z0 := hz k hlt
      clear hz
      have Y : Hid (r.W.getD k 0 = r.W.getD zs.length 0) := Lib.hid (by rw [hzl.out])
      have Y2 : Hid (r.W.getD k 0 = r.W.getD k 0) := Lib.hid rfl
      generalize hyk : r.W.getD k 0 = y at *
      have YK := Lib.hid hyk
      clear hyk
      have hi : (0 : Int) ≤ (k : Int) := by omega
      have hi' : (k : Int) < (n : Int) := by omega
      have hzb : Hid (zs.length ≤ 1048576) := Lib.hid (by rw [hzl.out]; omega)
      have hbs : Hid (w.heap.size ≤ wr.heap.size) := Lib.hid hB.out.size
      go_wp2_with (first
        | (refine wpList_farith rfl _ _ _ _ _ rfl rfl _ _ _ rfl rfl ?_; intro y1 j1 h1; have F1 := Lib.hid h1; clear h1)
        | (at_builtin; refine wpList_app32 rfl _ _ rfl w.heap.size _ zs rfl ((hO.out.drewN _).al _) _ y1 _ rfl ((World.cell?_alloc_at _ _ _ _ (by simp)).trans rfl) hzb.out (by have := hbs.out; simp; omega) ?_; intro v' w1 hown' hb; have O1 := Lib.hid hown'; have B1 := Lib.hid (((below_drewN hB.out _).alloc (by have := hbs.out; simp; omega) _).trans hb); obtain ⟨c0', hz'⟩ := CA.out _ B1.out; have z0' := hz' k hlt; rw [YK.out] at z0'; clear hown' hb hz' c0 z0))
      go_roundw
      case rel => exact ⟨k + 1, _, zs ++ [_], by omega, by go_num, rfl, Lib.hid (sumW_step hx.out YK.out.symm (Hid.out (by assumption))), Lib.hid (by simp [hzl.out]), Lib.hid (hm.out.push (by rw [hzl.out]; exact hx.out) Y.out (Hid.out (by assumption)) (Hid.out (by assumption))), Lib.hid (O1.out.drewN _), Lib.hid (below_drewN B1.out _)⟩
      case measure => simp [intOf]; omega
    · have e := Lib.hid (show k = n by omega)
      have hr := Lib.hid (hO.out.row (by rw [hzl.out]; omega))
      clear hz
      go_wp2_with fail
      refine (specList_any _ zs _ hr.out).mono ?_
      rintro _ w2 ⟨hb, (⟨hf, rfl⟩ | ⟨hf, rfl⟩)⟩
      · have B2 := Lib.hid (below_step hB.out hb)
        have R2 := Lib.hid (hr.out.below hb)
        have HF := Lib.hid hf
        clear hb hf
        go_wp2
        go_ret2
        have e1 := e.out
        subst e1
        have e2 := hzl.out
        subst e2
        exact Mids.of HP.out hm.out HF.out R2.out B2.out
      · have B2 := Lib.hid (below_step hB.out hb)
        have HF := Lib.hid hf
        clear hb hf
        go_wp2
        go_ret2
        have e1 := e.out
        subst e1
        have e2 := hzl.out
        subst e2
        exact Mids.no hm.out HF.out B2.out

end Go.Proofs.Ytplepddciilbdab
