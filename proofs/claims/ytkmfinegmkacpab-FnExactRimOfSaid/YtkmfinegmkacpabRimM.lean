/- The rim of what is over a level: numbers, and the program's small pieces. -/
import Derived.Test.YtkmfinegmkacpabEdge
import Derived.Test.YtkmfinegmkacpabOrd
import Derived.Test.YtkmfinegmkacpabNum
import Derived.Test.YtkmfinegmkacpabLooseG
import Derived.Deep.RegionHeld3
namespace Go.Proofs.Ytkmfinegmkacpab
open Go.RowKit
set_option linter.unusedVariables false

/-- is a cell at least as warm as the level; is it less warm -/
def ovr (r : PL) (l k : Nat) : Bool := FloatKind.f32.format.order (r.W.getD k 0) l == some Ordering.gt || FloatKind.f32.format.order (r.W.getD k 0) l == some Ordering.eq
def blw (r : PL) (l k : Nat) : Bool := FloatKind.f32.format.order (r.W.getD k 0) l == some Ordering.lt
theorem blw_not {r : PL} {l k : Nat} (hf : fin .f32 (r.W.getD k 0) = true) (hl : fin .f32 l = true) : blw r l k = !ovr r l k := by
  unfold blw ovr
  rw [ord_key, finP_nn hf, finP_nn hl]
  simp only [Bool.or_self, Bool.false_eq_true, if_false]
  rw [cmp_lt, cmp_gt, cmp_eq]
  generalize key FloatKind.f32.format (r.W.getD k 0) = u
  generalize key FloatKind.f32.format l = v
  rw [Bool.eq_iff_iff]
  simp only [Bool.not_eq_true', Bool.or_eq_false_iff, decide_eq_true_eq, decide_eq_false_iff_not]
  omega
/-- is one of the neighbours at the first sides less warm than the level -/
def rmT (r : PL) (l x z k : Nat) : Nat → Bool
  | 0 => false
  | j + 1 => rmT r l x z k j || (decide (0 ≤ nbr x z k j) && blw r l (nbr x z k j).toNat)
theorem rmT_no {r : PL} {l x z k j : Nat} (h : ¬ 0 ≤ nbr x z k j) : rmT r l x z k (j + 1) = rmT r l x z k j := by
  show (rmT r l x z k j || (decide (0 ≤ nbr x z k j) && blw r l (nbr x z k j).toNat)) = _
  rw [decide_eq_false h]; simp
theorem rmT_m {r : PL} {l x z k j m : Nat} (h : nbr x z k j = (m : Int)) : rmT r l x z k (j + 1) = (rmT r l x z k j || blw r l m) := by
  show (rmT r l x z k j || (decide (0 ≤ nbr x z k j) && blw r l (nbr x z k j).toNat)) = _
  rw [h, decide_eq_true (by omega)]; simp
theorem rmT_any (r : PL) (l x z k : Nat) : ∀ j, rmT r l x z k j = (nbL x z k j).any (fun m => blw r l m.toNat)
  | 0 => rfl
  | j + 1 => by
    by_cases h : 0 ≤ nbr x z k j
    · rw [nbL_yes h, List.any_append, ← rmT_any r l x z k j]
      show (rmT r l x z k j || (decide (0 ≤ nbr x z k j) && blw r l (nbr x z k j).toNat)) = _
      rw [decide_eq_true h]; simp
    · rw [nbL_no h, rmT_no h]; exact rmT_any r l x z k j
theorem any_not_all {f g : Int → Bool} : ∀ (L : List Int), (∀ m ∈ L, f m = !g m) → L.any f = !(L.all g)
  | [], _ => rfl
  | m :: L, h => by
    rw [List.any_cons, List.all_cons, h m (List.mem_cons_self ..), any_not_all L (fun x hx => h x (List.mem_cons_of_mem _ hx))]
    cases g m <;> simp
/-- is a cell at the rim -/
def rc (r : PL) (l k : Nat) : Bool := rmT r l r.X.toNat (r.X.toNat * (r.Y.toNat - 1)) k 4 && ovr r l k
theorem nb_in {r : PL} {n k : Nat} (hl : PlN r n) (hk : k < n) {m : Int} (hm : m ∈ nbL r.X.toNat (r.X.toNat * (r.Y.toNat - 1)) k 4) : (0 : Int) ≤ m ∧ m.toNat < n := by
  obtain ⟨j, _, h0, e⟩ := (nbL_mem 4).1 hm
  obtain ⟨mm, em, hmn⟩ := nbr_nat (Sd.std2 hl) rfl hk j h0
  have : m = (mm : Int) := by rw [← e]; exact em
  omega
theorem rc_impl {r : PL} {l n k : Nat} (hp : PlN r n) (hk : k < n) (hf : ∀ k, k < n → fin .f32 (r.W.getD k 0) = true) (hl : fin .f32 l = true) :
    rc r l k = (ovr r l k && !((nbL r.X.toNat (r.X.toNat * (r.Y.toNat - 1)) k 4).all (fun m => ovr r l m.toNat))) := by
  unfold rc
  rw [rmT_any, Bool.and_comm, any_not_all _ (fun m hm => blw_not (hf _ (nb_in hp hk hm).2) hl)]
def rimB (r : PL) (l : Nat) : Bool := vPl r && fin .f32 l
def rimS (r : PL) (l : Nat) : List Int := bif rimB r l then edTo (rc r l) r.W.length else []
theorem lenRimOf (r : PL) (l : Nat) : (rimS r l).length ≤ 200 := by
  unfold rimS
  cases h : rimB r l
  · simp
  · have hv : vPl r = true := by unfold rimB at h; simp only [Bool.and_eq_true] at h; exact h.1
    have h9 := (PlN.ofV hv).q
    have := edTo_len (rc r l) r.W.length
    rw [cond_true]; omega
theorem anyJ_some {f : Int → Bool} {zs : List Int} {k : Nat} (hk : k < zs.length) (h : f (zs.getD k 0) = true) : zs.any f = true := by
  rw [List.any_eq_true]
  refine ⟨zs.getD k 0, ?_, h⟩
  simp [List.getD_eq_getElem?_getD, hk]
theorem anyJ_none {f : Int → Bool} {zs : List Int} (h : ∀ k, k < zs.length → f (zs.getD k 0) = false) : zs.any f = false := by
  rw [List.any_eq_false]
  intro x hx
  obtain ⟨i, hi, rfl⟩ := List.mem_iff_getElem.1 hx
  have := h i hi
  simpa [List.getD_eq_getElem?_getD, hi] using this
theorem anyJ_not (f : Int → Bool) (zs : List Int) : (!(zs.any (fun z => !(f z)))) = zs.all f := by
  induction zs with
  | nil => rfl
  | cons x xs ih => simp only [List.any_cons, List.all_cons, ← ih]; cases f x <;> simp

theorem over_any (r : PL) (l n p q : Nat) (b0 o0 k0 b1 o1 k1 b2 o2 k2 b3 o3 k3 : Nat) (w : World) (A : Cells w p (pvs r (ps b0 o0 n k0) (ps b1 o1 n k1) (ps b2 o2 n k2) (ps b3 o3 n k3))) (LY : PLay w n b0 o0 b1 o1 b2 o2 b3 o3 r) (hq : w.cell? ⟨q, 0, none⟩ = some (.float .f32 l)) (n9 : n ≤ 144) (k : Nat) (hk : k < n) :
    Calls Try.prog 91 #[.int .i64 (k : Int), .pointer (some ⟨p, 0, none⟩), .pointer (some ⟨q, 0, none⟩)] w (Bol (ovr r l k) w) := by
  have c2 := A.at 2 rfl
  have zk := LY.W k hk
  have hk0 : (0 : Int) ≤ (k : Int) := by omega
  have hk1 : (k : Int) < (n : Int) := by omega
  have OV : Hid (ovr r l k = (FloatKind.f32.format.order (r.W.getD k 0) l == some Ordering.gt || FloatKind.f32.format.order (r.W.getD k 0) l == some Ordering.eq)) := Lib.hid rfl
  generalize ovr r l k = ok at *
  generalize r.W.getD k 0 = y at *
  clear A LY
  go_enter Try.func91, Try.ntmps91
  go_wp2
  refine wp_region_loose (fun _ _ _ => True) (by kernel_rfl) (by kernel_rfl) ?_
  try simp only [List.append]
  repeat ((with_reducible refine wpLoose_cons ?_); (first | ((with_reducible refine wpLoose_skip ?_ ?_); (focus (go_simp; done)); intro K hK; go_simp; refine hK _ ?_; clear hK K) | (refine wpLoose_farithG ?_ _ _ _ _ _ rfl rfl _ _ _ rfl rfl ?_; (focus (go_simp; done)); intro _ _) | (refine wpLoose_valG ?_ ?_ (fun w1 hw1 => ?_) (fun K hK => ?_); (focus (go_simp; done)); rotate_left; (focus (obtain ⟨nq, rfl⟩ := hw1; go_simp; first | done | rfl)); go_simp; refine hK _ ?_; clear hK K) | fail))
  (refine wpLoose_nil ?_; rintro _ ⟨nq, rfl⟩)
  go_wp2
  go_ret
  exact ⟨ret_b OV.out, _, by first | rfl | rw [World.drewN_drewN]⟩

theorem litOv_any (b : Bool) (m : Int) (p ql q : Nat) (w : World) (hq : w.cell? ⟨q, 0, none⟩ = some (.func (.func 91) #[] #[.pointer (some ⟨p, 0, none⟩), .pointer (some ⟨ql, 0, none⟩)])) (OV : Calls Try.prog 91 #[.int .i64 m, .pointer (some ⟨p, 0, none⟩), .pointer (some ⟨ql, 0, none⟩)] w (Bol b w)) :
    Calls Try.prog 127 #[.int .i64 m, .pointer (some ⟨q, 0, none⟩)] w (Bol (!b) w) := by
  have OV := Lib.hid OV
  go_enter Try.func127, Try.ntmps127
  go_wp2_with fail
  refine OV.out.mono ?_
  rintro e w' ⟨rfl, n, rfl⟩
  go_wp2
  go_ret
  exact ⟨rfl, _, rfl⟩

theorem idxOv_any (g : Int → Bool) (v : Value) (zs : List Int) (p ql q : Nat) (w : World) (h : JRow w v zs) (hq : w.cell? ⟨q, 0, none⟩ = some (.func (.func 91) #[] #[.pointer (some ⟨p, 0, none⟩), .pointer (some ⟨ql, 0, none⟩)]))
    (OV : ∀ k, k < zs.length → ∀ w1, Below w.heap.size w w1 → Calls Try.prog 91 #[.int .i64 (zs.getD k 0), .pointer (some ⟨p, 0, none⟩), .pointer (some ⟨ql, 0, none⟩)] w1 (Bol (g (zs.getD k 0)) w1)) :
    Calls Try.prog 158 #[v, .func (.func 127) #[] #[.pointer (some ⟨q, 0, none⟩)]] w (Idx (zs.any (fun z => !(g z))) w) := by
  have OV := Lib.hid OV
  have HQ := Lib.hid hq
  have VS := Lib.hid (fun k (hk : k < zs.length) (h : (!(g (zs.getD k 0))) = true) => anyJ_some (f := fun z => !(g z)) hk h)
  have VN := Lib.hid (fun h => anyJ_none (f := fun z => !(g z)) (zs := zs) h)
  have HC := Lib.hid (fun (hn : 1 ≤ zs.length) => h.cells hn)
  have HL := Lib.hid h.len
  obtain ⟨a, cap, rfl⟩ := h.shape
  clear h hq
  generalize hb : zs.any (fun z => !(g z)) = b at *
  clear hb
  generalize hn : zs.length = n at *
  clear hn
  go_enter Try.func158, Try.ntmps158
  go_wp2
  go_loopw [5, 8] (fun _ i wr => ∃ k q : Nat, k ≤ n ∧ i = .int .i64 k ∧ Hid (∀ j, j < k → (!(g (zs.getD j 0))) = false) ∧ wr = w.drewN q) (fun _ i _ => n - (intOf i).toNat)
  case atStart => exact ⟨0, 0, Nat.zero_le _, rfl, Lib.hid (fun j hj => absurd hj (Nat.not_lt_zero _)), rfl⟩
  case round =>
    obtain ⟨k, q9, hk, rfl, hall, rfl⟩ := hrel
    by_cases hlt : k < n
    · obtain ⟨b0, o0, cap', e, hc⟩ := HC.out (by omega)
      have ea : a = some ⟨b0, o0, none⟩ := by cases e; rfl
      have z0 := hc k hlt
      have VSk := Lib.hid (VS.out k hlt)
      have OVk := Lib.hid (OV.out k hlt)
      clear e hc
      subst ea
      have hG := HL.out
      have hi : (0 : Int) ≤ (k : Int) := by omega
      have hi' : (k : Int) < (n : Int) := by omega
      generalize hy : zs.getD k 0 = y at *
      cases B : g y
      · have V := Lib.hid (VSk.out (by rw [B]; rfl))
        rw [B] at OVk
        go_wp2_with fail
        refine (litOv_any _ y p ql q _ (by simpa using HQ.out) (OVk.out _ (below_drewN (Below.refl _ _) _))).mono ?_
        rintro e w' ⟨rfl, n, rfl⟩
        go_wp2
        go_ret
        exact ⟨_, rfl, by rw [V.out]; simp, _, by first | rfl | rw [World.drewN_drewN]⟩
      · have V := Lib.hid (show (!(g (zs.getD k 0))) = false by rw [hy, B]; rfl)
        rw [B] at OVk
        clear hy
        go_wp2_with fail
        refine (litOv_any _ y p ql q _ (by simpa using HQ.out) (OVk.out _ (below_drewN (Below.refl _ _) _))).mono ?_
        rintro e w' ⟨rfl, n, rfl⟩
        go_wp2
        go_roundw
        case rel => exact ⟨k + 1, _, by omega, by go_num, Lib.hid (fun j hj => by rcases Nat.lt_succ_iff_lt_or_eq.1 hj with h | h; exact hall.out j h; subst h; exact V.out), by first | rfl | rw [World.drewN_drewN]⟩
        case measure => simp [intOf]; omega
    · have e := Lib.hid (show k = n by omega)
      go_wp2
      go_ret
      have := e.out
      subst this
      exact ⟨_, rfl, by rw [VN.out hall.out]; rfl, _, rfl⟩

theorem allOv_any (g : Int → Bool) (v : Value) (zs : List Int) (p ql : Nat) (w : World) (h : JRow w v zs)
    (OV : ∀ k, k < zs.length → ∀ w1, Below w.heap.size w w1 → Calls Try.prog 91 #[.int .i64 (zs.getD k 0), .pointer (some ⟨p, 0, none⟩), .pointer (some ⟨ql, 0, none⟩)] w1 (Bol (g (zs.getD k 0)) w1)) :
    Calls Try.prog 93 #[v, (.func (.func 91) #[] #[.pointer (some ⟨p, 0, none⟩), .pointer (some ⟨ql, 0, none⟩)])] w (BolB (zs.all g) w) := by
  have B1 := Lib.hid (below_al1 w (.cells [Value.func (.func 91) #[] #[.pointer (some ⟨p, 0, none⟩), .pointer (some ⟨ql, 0, none⟩)]].toArray 75))
  have H := Lib.hid (h.below B1.out)
  have OV := Lib.hid (fun k hk w1 hb => OV k hk w1 (below_step B1.out hb))
  have e := Lib.hid (show (!(zs.any (fun z => !(g z)))) = zs.all g from anyJ_not _ _)
  clear h
  go_enter Try.func93, Try.ntmps93
  go_wp2_with (first | (go_at_call 158; refine (idxOv_any g _ zs p ql _ _ H.out (by simp) OV.out).mono ?_; rintro e w' ⟨i, rfl, hi, n, rfl⟩) | go_in)
  go_ret
  exact ⟨ret_b e.out.symm, below_drewN (below_al1 _ _) _⟩
end Go.Proofs.Ytkmfinegmkacpab
