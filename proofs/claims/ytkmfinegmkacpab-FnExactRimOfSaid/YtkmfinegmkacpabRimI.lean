/- The rim of what is over a level: the program's side. -/
import Derived.Test.YtkmfinegmkacpabRimM
import Derived.BigQuiet
namespace Go.Proofs.Ytkmfinegmkacpab
open Go.RowKit
set_option linter.unusedVariables false

@[go_sem] theorem run_store_funcR {P : Program} {w : World} {a : Addr} {m : Mode} (f : Fn) (ts cs : Array Value) : (store a (.func f ts cs) m).run P w = stored P w a (.func f ts cs) m := run_store P w a _ m rfl
set_option maxRecDepth 10000 in
set_option maxHeartbeats 3200000 in
theorem rimTold_any (r : PL) (l n p ql qo : Nat) (b0 o0 k0 b1 o1 k1 b2 o2 k2 b3 o3 k3 : Nat) (w : World) (A0 : Cells w p (pvs r (ps b0 o0 n k0) (ps b1 o1 n k1) (ps b2 o2 n k2) (ps b3 o3 n k3))) (hqo : w.cell? ⟨qo, 0, none⟩ = some (.func (.func 91) #[] #[.pointer (some ⟨p, 0, none⟩), .pointer (some ⟨ql, 0, none⟩)])) (hl : PlN r n) (k : Nat) (hk : k < n)
    (hr : rc r l k = (ovr r l k && !((nbL r.X.toNat (r.X.toNat * (r.Y.toNat - 1)) k 4).all (fun m => ovr r l m.toNat))))
    (OV : ∀ k, k < n → ∀ w1, Below w.heap.size w w1 → Calls Try.prog 91 #[.int .i64 (k : Int), .pointer (some ⟨p, 0, none⟩), .pointer (some ⟨ql, 0, none⟩)] w1 (Bol (ovr r l k) w1)) :
    Calls Try.prog 92 #[.int .i64 (k : Int), .pointer (some ⟨qo, 0, none⟩), .pointer (some ⟨p, 0, none⟩)] w (BolB (rc r l k) w) := by
  have A := Lib.hid A0
  have c0 := A0.at 0 rfl; have c1 := A0.at 1 rfl; have c2 := A0.at 2 rfl; have c3 := A0.at 3 rfl; have c4 := A0.at 4 rfl; have c5 := A0.at 5 rfl
  have NL := Lib.hid (fun w1 => implNb_any _ _ _ _ k (ps b0 o0 n k0) (ps b1 o1 n k1) (ps b2 o2 n k2) (ps b3 o3 n k3) r w1 (Sd.std2 hl) rfl hk)
  have OVk := Lib.hid (OV k hk)
  have ALL := Lib.hid (fun v w1 (J : JRow w1 v (nbL r.X.toNat (r.X.toNat * (r.Y.toNat - 1)) k 4)) (hb : Below w.heap.size w w1) => allOv_any (fun m => ovr r l m.toNat) v (nbL r.X.toNat (r.X.toNat * (r.Y.toNat - 1)) k 4) p ql w1 J (fun i hi w2 hb2 => by
    have hm := nb_in hl hk (m := (nbL r.X.toNat (r.X.toNat * (r.Y.toNat - 1)) k 4).getD i 0) (by simp [List.getD_eq_getElem?_getD, hi])
    have := OV _ hm.2 w2 (below_step hb hb2)
    rw [show (((nbL r.X.toNat (r.X.toNat * (r.Y.toNat - 1)) k 4).getD i 0).toNat : Int) = (nbL r.X.toNat (r.X.toNat * (r.Y.toNat - 1)) k 4).getD i 0 from Int.toNat_of_nonneg hm.1] at this
    exact this))
  have LL := Lib.hid (nbL_len r.X.toNat (r.X.toNat * (r.Y.toNat - 1)) k 4)
  have RC := Lib.hid hr
  have B0 := Lib.hid (Below.refl w.heap.size w)
  clear OV hr hl hk A0
  generalize hNL : nbL r.X.toNat (r.X.toNat * (r.Y.toNat - 1)) k 4 = L at *
  clear hNL
  generalize hal : L.all (fun m => ovr r l m.toNat) = al at *
  clear hal
  generalize rc r l k = rk at *
  cases hov : ovr r l k
  · rw [hov] at OVk RC
    go_enter Try.func92, Try.ntmps92
    go_wp2
    go_quiet (first | (go_at_call 91; exact Calls.quiet_of (OVk.out _ (below_drewN B0.out _))))
    go_wp2
    go_ret
    exact ⟨ret_b (by rw [RC.out]; rfl), below_drewN B0.out _⟩
  · rw [hov] at OVk RC
    go_enter Try.func92, Try.ntmps92
    go_wp2
    go_region_with (first
      | (go_at_call 91; refine (OVk.out _ (below_drewN B0.out 1)).mono ?_; rintro _ w8 ⟨rfl, n8, hw8⟩; have BQ : Hid (Below w.heap.size w w8) := Lib.hid (by rw [hw8]; exact below_drewN (below_drewN B0.out 1) _); clear hw8; have A := Lib.hid (A.out.kept BQ.out); clear c0 c1 c2 c3 c4 c5; have c0 := A.out.at 0 rfl; have c1 := A.out.at 1 rfl; have c2 := A.out.at 2 rfl; have c3 := A.out.at 3 rfl; have c4 := A.out.at 4 rfl; have c5 := A.out.at 5 rfl; have hqo := Ext.cell BQ.out hqo)
      | (go_at_call 64; refine (NL.out _).mono ?_; rintro _ w9 ⟨vL, rfl, hO, hb⟩; have JL := Lib.hid (hO.row (by have := LL.out; omega)); have BQ := Lib.hid (below_step BQ.out hb); have hqo := Ext.cell hb hqo; clear hO hb)
      | (go_at_call 93; refine (ALL.out _ _ JL.out BQ.out).mono ?_; rintro _ w10 ⟨rfl, hb⟩; have BQ := Lib.hid (below_step BQ.out hb); clear hb))
    all_goals
      go_wp2
      go_ret
      exact ⟨ret_b (by rw [RC.out]; simp), BQ.out⟩

set_option maxRecDepth 10000 in
set_option maxHeartbeats 1600000 in
theorem rimThat_any (r : PL) (c : Nat → Bool) (n p qo : Nat) (b0 o0 k0 b1 o1 k1 b2 o2 k2 b3 o3 k3 : Nat) (w : World) (hl : PlN r n)
    (TD0 : ∀ k, k < n → ∀ w1, Below w.heap.size w w1 → Calls Try.prog 92 #[.int .i64 (k : Int), .pointer (some ⟨qo, 0, none⟩), .pointer (some ⟨p, 0, none⟩)] w1 (BolB (c k) w1)) :
    Calls Try.prog 62 #[.agg #[.int .i64 r.X, .int .i64 r.Y, (ps b0 o0 n k0), (ps b1 o1 n k1), (ps b2 o2 n k2), (ps b3 o3 n k3)], .func (.func 92) #[] #[.pointer (some ⟨qo, 0, none⟩), .pointer (some ⟨p, 0, none⟩)]] w (NewJ (edTo c n) w) := by
  have TD := Lib.hid TD0
  have LN := Lib.hid (edTo_len c)
  have SY := Lib.hid (fun k h => edTo_yes (c := c) (k := k) h)
  have SN := Lib.hid (fun k h => edTo_no (c := c) (k := k) h)
  have L0 : Hid (edTo c 0 = []) := Lib.hid rfl
  have HXY := Lib.hid hl.xy
  have N9 := Lib.hid hl.q
  clear hl TD0
  generalize edTo c = L at *
  have A := Lib.hid (Cells.made w (pvs r (ps b0 o0 n k0) (ps b1 o1 n k1) (ps b2 o2 n k2) (ps b3 o3 n k3)) 29)
  have Bw := Lib.hid (below_al1 w (.cells (pvs r (ps b0 o0 n k0) (ps b1 o1 n k1) (ps b2 o2 n k2) (ps b3 o3 n k3)).toArray 29))
  go_enter Try.func62, Try.ntmps62
  go_wp2_with fail
  refine (countOf_any _ _ n _ _ _ _ _ HXY.out N9.out).mono ?_
  rintro e w1 ⟨rfl, hb⟩
  have Bw := Lib.hid (below_step Bw.out hb)
  have A := Lib.hid (A.out.kept hb)
  have c0 := A.out.at 0 rfl; have c1 := A.out.at 1 rfl; have c2 := A.out.at 2 rfl; have c3 := A.out.at 3 rfl; have c4 := A.out.at 4 rfl; have c5 := A.out.at 5 rfl
  clear hb
  have B9 := Lib.hid Bw.out
  have hw1 : Hid (w.heap.size ≤ w1.heap.size) := Lib.hid B9.out.size
  go_wp2
  go_loopw [5, 9] (fun v i wr => ∃ k : Nat, k ≤ n ∧ i = .int .i64 (k : Int) ∧ Hid (OwnJ wr w1.heap.size v (L k)) ∧ Hid (Below w1.heap.size w1 wr)) (fun _ i _ => n - (intOf i).toNat)
  case atStart => exact ⟨0, Nat.zero_le _, rfl, Lib.hid (by rw [L0.out]; exact ⟨by first | rfl | simp, .inl ⟨rfl, rfl⟩⟩), Lib.hid (Below.refl _ _)⟩
  case round =>
    obtain ⟨k, hk, rfl, hO, hB⟩ := hrel
    have hG := N9.out
    have hbs : Hid (w1.heap.size ≤ wr.heap.size) := Lib.hid hB.out.size
    by_cases hlt : k < n
    · have TDk := Lib.hid (TD.out k hlt)
      have SYk := Lib.hid (SY.out k)
      have SNk := Lib.hid (SN.out k)
      have QL : Hid ((L k).length ≤ 1048576) := Lib.hid (by have := LN.out k; omega)
      generalize hzs : L k = zs at *
      have hi : (0 : Int) ≤ (k : Int) := by omega
      have hi' : (k : Int) < (n : Int) := by omega
      cases hek : c k
      · have E := Lib.hid (SNk.out hek)
        rw [hek] at TDk
        go_wp2_with fail
        refine (TDk.out _ (below_step B9.out hB.out)).mono ?_
        rintro e w2 ⟨rfl, hb⟩
        have O2 := Lib.hid (hO.out.kept hb)
        have B2 := Lib.hid (hB.out.trans (hb.mono hbs.out))
        clear hb
        go_wp2
        go_roundw
        case rel => exact ⟨k + 1, by omega, by go_num, Lib.hid (by rw [E.out]; exact O2.out), Lib.hid B2.out⟩
        case measure => simp [intOf]; omega
      · have E := Lib.hid (SYk.out hek)
        rw [hek] at TDk
        go_wp2_with fail
        refine (TDk.out _ (below_step B9.out hB.out)).mono ?_
        rintro e w2 ⟨rfl, hb⟩
        have O2 := Lib.hid (hO.out.kept hb)
        have B2 := Lib.hid (hB.out.trans (hb.mono hbs.out))
        have hs2 : Hid (w1.heap.size ≤ w2.heap.size) := Lib.hid (Nat.le_trans hbs.out hb.size)
        clear hb
        go_wp2_with (at_builtin; refine wpList_appJ rfl _ _ rfl w1.heap.size _ zs rfl (O2.out.al _) _ _ (k : Int) rfl ((World.cell?_alloc_at _ _ _ _ (by simp)).trans rfl) QL.out (by have := hs2.out; simp; omega) ?_; intro v' w3 hown' hb; have O3 := Lib.hid hown'; have B3 := Lib.hid ((B2.out.alloc (by have := hs2.out; omega) _).trans hb); clear hown' hb)
        go_roundw
        case rel => exact ⟨k + 1, by omega, by go_num, Lib.hid (by rw [E.out]; exact O3.out), Lib.hid B3.out⟩
        case measure => simp [intOf]; omega
    · have e := Lib.hid (show k = n by omega)
      go_wp2
      go_ret
      refine ⟨_, rfl, ?_, below_step B9.out hB.out⟩
      have O4 := hO.out.down hw1.out
      rw [e.out] at O4
      simpa using O4

theorem implRimOfL_any (a b c d : Value) (r : PL) (l : Nat) (w : World) (h : PRow w a b c d r) : Calls Try.prog 45 #[.agg #[.int .i64 r.X, .int .i64 r.Y, a, b, c, d], .float .f32 l] w (LstJO (rimS r l) (rimB r l) w) := by
  have A1 := Cells.made w (pvs r a b c d) 29
  have B1 := below_al1 w (.cells (pvs r a b c d).toArray 29)
  have A2 := Lib.hid (A1.kept (below_al1 _ (.cells [Value.float .f32 l].toArray 27)))
  have Bw := Lib.hid (below_step B1 (below_al1 _ (.cells [Value.float .f32 l].toArray 27)))
  have LV := Lib.hid ((Cells.made (w.alloc (.cells (pvs r a b c d).toArray 29)) [Value.float .f32 l] 27).at 0 rfl)
  have hq : Hid ((w.alloc (.cells (pvs r a b c d).toArray 29)).heap.size = w.heap.size + 1) := Lib.hid (by simp)
  rw [hq.out] at LV
  have A := A2
  have IV := Lib.hid (implPl_any a b c d r _ (h.below Bw.out))
  clear A1 B1
  cases hv : vPl r
  · have F : rimB r l = false := by unfold rimB; rw [hv]; rfl
    have E : rimS r l = [] := by unfold rimS; rw [F]; rfl
    rw [E, F]
    rw [hv] at IV
    clear h
    go_enter Try.func45, Try.ntmps45
    go_wp2_with fail
    refine IV.out.mono ?_
    rintro e w1 ⟨rfl, hb⟩
    go_wp2
    go_ret2
    exact .no (below_step Bw.out hb)
  · cases hf : fin .f32 l
    · have F : rimB r l = false := by unfold rimB; rw [hv, hf]; rfl
      have E : rimS r l = [] := by unfold rimS; rw [F]; rfl
      rw [E, F]
      rw [hv] at IV
      have FI := Lib.hid (fun w1 => implFinite_any l w1)
      rw [hf] at FI
      clear h hf
      go_enter Try.func45, Try.ntmps45
      go_wp2_with fail
      refine IV.out.mono ?_
      rintro e w1 ⟨rfl, hb⟩
      have Bw := Lib.hid (below_step Bw.out hb)
      have c0 := Ext.cell hb LV.out
      clear hb
      go_wp2_with fail
      refine (FI.out _).mono ?_
      rintro e w2 ⟨rfl, m2, rfl⟩
      go_wp2
      go_ret2
      exact .no (below_drewN Bw.out _)
    · have F : rimB r l = true := by unfold rimB; rw [hv, hf]; rfl
      have E : rimS r l = edTo (rc r l) r.W.length := by unfold rimS; rw [F]; rfl
      rw [E, F]
      rw [hv] at IV
      have FI := Lib.hid (fun w1 => implFinite_any l w1)
      rw [hf] at FI
      have NN1 := PlN.ofV hv
      have WF : ∀ k, k < r.W.length → fin .f32 (r.W.getD k 0) = true := fun k hk => by
        have := hv
        unfold vPl at this
        simp only [Bool.and_eq_true] at this
        exact all_at this.1.1.2 hk
      obtain ⟨b0, o0, k0, b1, o1, k1, b2, o2, k2, b3, o3, k3, rfl, rfl, rfl, rfl, hL⟩ := h.lay NN1
      have LY := Lib.hid (hL.below Bw.out)
      have TELL := Lib.hid (fun w1 (A : Cells w1 w.heap.size (pvs r (ps b0 o0 r.W.length k0) (ps b1 o1 r.W.length k1) (ps b2 o2 r.W.length k2) (ps b3 o3 r.W.length k3))) (LY : PLay w1 r.W.length b0 o0 b1 o1 b2 o2 b3 o3 r) (hq : w1.cell? ⟨w.heap.size + 1, 0, none⟩ = some (.float .f32 l)) (qo : Nat) (hqo : w1.cell? ⟨qo, 0, none⟩ = some (.func (.func 91) #[] #[.pointer (some ⟨w.heap.size, 0, none⟩), .pointer (some ⟨w.heap.size + 1, 0, none⟩)])) =>
        rimThat_any r (rc r l) r.W.length w.heap.size qo b0 o0 k0 b1 o1 k1 b2 o2 k2 b3 o3 k3 w1 NN1 (fun k hk w2 hb =>
          rimTold_any r l r.W.length w.heap.size (w.heap.size + 1) qo b0 o0 k0 b1 o1 k1 b2 o2 k2 b3 o3 k3 w2 (A.kept hb) (Ext.cell hb hqo) NN1 k hk (rc_impl NN1 hk WF hf) (fun m hm w3 hb3 =>
            over_any r l r.W.length w.heap.size (w.heap.size + 1) b0 o0 k0 b1 o1 k1 b2 o2 k2 b3 o3 k3 w3 ((A.kept hb).kept hb3) ((LY.below hb).below hb3) (Ext.cell hb3 (Ext.cell hb hq)) NN1.q m hm)))
      clear hv hf h hL NN1 WF E F
      generalize edTo (rc r l) r.W.length = L at *
      generalize r.W.length = n at *
      go_enter Try.func45, Try.ntmps45
      go_wp2_with fail
      refine IV.out.mono ?_
      rintro e w1 ⟨rfl, hb⟩
      have Bw := Lib.hid (below_step Bw.out hb)
      have A := Lib.hid (A.out.kept hb)
      have LY := Lib.hid (LY.out.below hb)
      have LV := Lib.hid (Ext.cell hb LV.out)
      have c0 := A.out.at 0 rfl; have c1 := A.out.at 1 rfl; have c2 := A.out.at 2 rfl; have c3 := A.out.at 3 rfl; have c4 := A.out.at 4 rfl; have c5 := A.out.at 5 rfl
      have l0 := LV.out
      clear hb
      go_wp2_with fail
      refine (FI.out _).mono ?_
      rintro e w2 ⟨rfl, m2, hw2⟩
      have hb : Below w1.heap.size w1 w2 := by rw [hw2]; exact below_drewN (Below.refl _ _) _
      clear hw2 c0 c1 c2 c3 c4 c5 l0 IV FI
      have B2 := Lib.hid (below_step Bw.out hb)
      have Ap := Lib.hid (A.out.kept hb)
      have Ly := Lib.hid (LY.out.below hb)
      have Lv := Lib.hid (Ext.cell hb LV.out)
      clear hb
      have hb := below_al1 w2 (.cells #[(Value.func (.func 91) #[] #[.pointer (some ⟨w.heap.size, 0, none⟩), .pointer (some ⟨w.heap.size + 1, 0, none⟩)])] 75)
      have B3 := Lib.hid (below_step B2.out hb)
      have A3 := Lib.hid (Ap.out.kept hb)
      have L3 := Lib.hid (Ly.out.below hb)
      have V3 := Lib.hid (Ext.cell hb Lv.out)
      clear hb
      have Q3 : Hid ((w2.alloc (.cells #[(Value.func (.func 91) #[] #[.pointer (some ⟨w.heap.size, 0, none⟩), .pointer (some ⟨w.heap.size + 1, 0, none⟩)])] 75)).cell? ⟨w2.heap.size, 0, none⟩ = some (Value.func (.func 91) #[] #[.pointer (some ⟨w.heap.size, 0, none⟩), .pointer (some ⟨w.heap.size + 1, 0, none⟩)])) := Lib.hid (by simp)
      have c0 := A3.out.at 0 rfl; have c1 := A3.out.at 1 rfl; have c2 := A3.out.at 2 rfl; have c3 := A3.out.at 3 rfl; have c4 := A3.out.at 4 rfl; have c5 := A3.out.at 5 rfl
      go_wp2_with fail
      refine (TELL.out _ A3.out L3.out V3.out _ Q3.out).mono ?_
      rintro e w4 ⟨v, rfl, hO, hb⟩
      have O2 := Lib.hid (hO.down B3.out.size).orow
      have B4 := Lib.hid (below_step B3.out hb)
      clear hO hb
      go_wp2
      go_ret2
      exact ⟨_, rfl, O2.out, B4.out⟩
end Go.Proofs.Ytkmfinegmkacpab
