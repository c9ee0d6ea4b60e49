/- Several texts in one, for a claim holds 60 files at most: PsM App FinL PsS FlS FwS. -/
import Derived.Test.YtkbdidpodcclfaaYG
import Derived.Test.YtkbdidpodcclfaaYH

/- The passes and the flows of a rod: the numbers. -/
namespace Go.Proofs.Ytkbdidpodcclfaa
open Go.RowKit
set_option linter.unusedVariables false

/-- the numbers zs are, told by cn, f 0, f 1 and so on -/
def IsF (f : Nat → Nat) (zs : List Nat) : Prop := ∀ j, j < zs.length → cn .f32 (zs.getD j 0) = f j
theorem IsF.push {f : Nat → Nat} {zs : List Nat} {z : Nat} (h : IsF f zs) (hz : cn .f32 z = f zs.length) : IsF f (zs ++ [z]) := by
  intro j hj
  simp only [List.length_append, List.length_singleton] at hj
  by_cases e : j < zs.length
  · rw [← h j e]
    simp [List.getD_eq_getElem?_getD, List.getElem?_append_left e]
  · have ej : j = zs.length := by omega
    subst ej
    rw [← hz]
    simp [List.getD_eq_getElem?_getD]
theorem IsF.map {f : Nat → Nat} {zs : List Nat} (h : IsF f zs) : zs.map (cn .f32) = (List.range zs.length).map f := by
  refine List.ext_getElem (by simp) fun i h1 h2 => ?_
  have hi : i < zs.length := by simpa using h1
  have := h i hi
  simp [List.getD_eq_getElem?_getD, hi] at this
  simp [this]
/-- the pass on the left of cell i, and that behind the last one -/
def pV (r : RL) (n : Nat) (kl : Int) (yl : Nat) (kr : Int) (yr : Nat) (i : Nat) : Nat := if i = 0 then aV kl yl (hN r 0) else if i < n then bV r (i - 1) else aV kr yr (hN r (n - 1))
def pL (r : RL) (n : Nat) (kl : Int) (yl : Nat) (kr : Int) (yr : Nat) : List Nat := (List.range (n + 1)).map (pV r n kl yl kr yr)
/-- the flow on the left of cell i, and that behind the last one; warmths at the ends: xl, xr -/
def wV (r : RL) (n xl xr i : Nat) : Nat := if i = 0 then fop .sub .f32 (cn .f32 xl) (cn .f32 (r.T.getD 0 0)) else if i < n then fop .sub .f32 (cn .f32 (r.T.getD (i - 1) 0)) (cn .f32 (r.T.getD i 0)) else fop .sub .f32 (cn .f32 (r.T.getD (n - 1) 0)) (cn .f32 xr)
def qV (r : RL) (n : Nat) (kl : Int) (xl yl : Nat) (kr : Int) (xr yr : Nat) (i : Nat) : Nat := fop .mul .f32 (pV r n kl yl kr yr i) (wV r n xl xr i)
def qL (r : RL) (n : Nat) (kl : Int) (xl yl : Nat) (kr : Int) (xr yr : Nat) : List Nat := (List.range (n + 1)).map (qV r n kl xl yl kr xr yr)
/-- passes are handed back if all are finite -/
def PsR (S : List Nat) (w : World) (e : Ending) (w' : World) : Prop := Below w.heap.size w w' ∧ ((S.all (fin .f32) = true ∧ ∃ v zs, e = .returned (.tuple #[v, .bool true]) ∧ FRow w' v zs ∧ zs.map (cn .f32) = S) ∨ (S.all (fin .f32) = false ∧ e = .returned (.tuple #[.slice none 0 0, .bool false])))
end Go.Proofs.Ytkbdidpodcclfaa

/- A slice of 32-bit numbers that a call makes itself, and appends to; and rods by their cells. -/


/- A list handed on, if all its numbers are finite: both sides (as XMid has them, under names of their own). -/
namespace Go.Proofs.Ytkbdidpodcclfaa
open Go.RowKit
set_option linter.unusedVariables false

theorem specFinQ_any (v : Value) (zs : List Nat) (w : World) (h : FRow w v zs) : Calls Try.prog 103 #[v] w (Bol (zs.all (fin .f32)) w) := by
  have VS := Lib.hid (fun k (hk : k < zs.length) (h : (!(fin .f32 (zs.getD k 0))) = true) => any_some (f := fun z => !(fin .f32 z)) hk h)
  have VN := Lib.hid (fun h => any_none (f := fun z => !(fin .f32 z)) (zs := zs) h)
  have EQ := Lib.hid (not_any_not (fin .f32) zs)
  have HC := Lib.hid (fun (hn : 1 ≤ zs.length) => h.cells hn)
  have HL := Lib.hid h.len
  obtain ⟨a, cap, rfl⟩ := h.shape
  clear h
  generalize zs.any (fun z => !(fin .f32 z)) = b at *
  generalize zs.all (fin .f32) = B at *
  generalize hn : zs.length = n at *
  clear hn
  go_enter Try.func103, Try.ntmps103
  go_wp2
  go_loopw [3] (fun i wr => ∃ k q : Nat, k ≤ n ∧ i = .int .i64 k ∧ Hid (∀ j, j < k → (!(fin .f32 (zs.getD j 0))) = false) ∧ wr = w.drewN q) (fun i _ => n - (intOf i).toNat)
  case atStart => exact ⟨0, 0, Nat.zero_le _, rfl, Lib.hid (fun j hj => absurd hj (Nat.not_lt_zero _)), rfl⟩
  case round =>
    obtain ⟨k, q, hk, rfl, hall, rfl⟩ := hrel
    by_cases hlt : k < n
    · obtain ⟨b0, o0, cap', e, hc⟩ := HC.out (by omega)
      have ea : a = some ⟨b0, o0, none⟩ := by cases e; rfl
      have z0 := hc k hlt
      have VSk := Lib.hid (VS.out k hlt)
      clear e hc
      subst ea
      have hG := HL.out
      have hi : (0 : Int) ≤ (k : Int) := by omega
      have hi' : (k : Int) < (n : Int) := by omega
      generalize hy : zs.getD k 0 = y at *
      cases S : fin .f32 y
      · have V := Lib.hid (VSk.out (by rw [S]; rfl))
        go_wp2_with (go_at_call 70; refine (specFinite_any y _).mono ?_; rw [S]; rintro e w' ⟨rfl, m, rfl⟩)
        go_ret
        exact ⟨ret_b (by rw [← EQ.out, V.out]; rfl), _, rfl⟩
      · have V := Lib.hid (show (!(fin .f32 (zs.getD k 0))) = false by rw [hy, S]; rfl)
        clear hy
        go_wp2_with (go_at_call 70; refine (specFinite_any y _).mono ?_; rw [S]; rintro e w' ⟨rfl, m, rfl⟩)
        go_roundw
        case rel => exact ⟨k + 1, _, by omega, by go_num, Lib.hid (fun j hj => by rcases Nat.lt_succ_iff_lt_or_eq.1 hj with h | h; exact hall.out j h; subst h; exact V.out), rfl⟩
        case measure => simp [intOf]; omega
    · have e := Lib.hid (show k = n by omega)
      go_wp2
      go_ret
      have := e.out
      subst this
      exact ⟨ret_b (by rw [← EQ.out, VN.out hall.out]; rfl), _, rfl⟩

/-- a list, if all its numbers are finite -/
def LsQ (zs : List Nat) (v : Value) (w : World) (e : Ending) (w' : World) : Prop :=
  Below w.heap.size w w' ∧ ((zs.all (fin .f32) = true ∧ e = .returned (.tuple #[v, .bool true])) ∨ (zs.all (fin .f32) = false ∧ e = .returned (.tuple #[.slice none 0 0, .bool false])))
theorem specListQ_any (v : Value) (zs : List Nat) (w : World) (h : FRow w v zs) : Calls Try.prog 81 #[v] w (LsQ zs v w) := by
  have C := Lib.hid (specFinQ_any v zs w h)
  obtain ⟨a, cap, rfl⟩ := h.shape
  clear h
  cases hf : zs.all (fin .f32)
  · rw [hf] at C
    go_enter Try.func81, Try.ntmps81
    go_wp2_with (go_at_call 103; refine C.out.mono ?_; rintro e w' ⟨rfl, n, rfl⟩)
    go_ret2
    exact ⟨below_drewN (Below.refl _ _) _, .inr ⟨hf, rfl⟩⟩
  · rw [hf] at C
    go_enter Try.func81, Try.ntmps81
    go_wp2_with (go_at_call 103; refine C.out.mono ?_; rintro e w' ⟨rfl, n, rfl⟩)
    go_ret2
    exact ⟨below_drewN (Below.refl _ _) _, .inl ⟨hf, rfl⟩⟩

theorem implListQ_any (v : Value) (zs : List Nat) (w : World) (h : FRow w v zs) : Calls Try.prog 56 #[v] w (LsQ zs v w) := by
  have C := Lib.hid (allFin_any v zs w h)
  obtain ⟨a, cap, rfl⟩ := h.shape
  clear h
  cases hf : zs.all (fin .f32)
  · rw [hf] at C
    go_enter Try.func56, Try.ntmps56
    go_wp2_with (go_at_call 76; refine C.out.mono ?_; rintro e w' ⟨rfl, hb⟩; have B1 := Lib.hid hb; clear hb)
    go_ret2
    exact ⟨B1.out, .inr ⟨hf, rfl⟩⟩
  · rw [hf] at C
    go_enter Try.func56, Try.ntmps56
    go_wp2_with (go_at_call 76; refine C.out.mono ?_; rintro e w' ⟨rfl, hb⟩; have B1 := Lib.hid hb; clear hb)
    go_ret2
    exact ⟨B1.out, .inl ⟨hf, rfl⟩⟩
end Go.Proofs.Ytkbdidpodcclfaa

/- The passes of a rod, as the specification lists them. -/
namespace Go.Proofs.Ytkbdidpodcclfaa
open Go.RowKit
set_option linter.unusedVariables false

theorem Own.one (w : World) (base z : Nat) (hb : base ≤ w.heap.size) : Own (w.alloc (.cells #[.float .f32 z] 22)) base (.slice (some ⟨w.heap.size, 0, none⟩) 1 1) [z] :=
  World.ownsRow_lit (w := w) (base := base) (e := 22) (size := 1) #[.float .f32 z] 1 hb (by decide) rfl
set_option maxHeartbeats 3200000 in
set_option maxRecDepth 4000 in
theorem specPasses_any {n b0 o0 k0 b1 o1 k1 b2 o2 k2 b3 o3 k3 : Nat} (r : RL) (p q1 q2 : Nat) (kl : Int) (xl yl : Nat) (kr : Int) (xr yr : Nat) (w : World) (A : Cells w p [.slice (some ⟨b0, o0, none⟩) n k0, .slice (some ⟨b1, o1, none⟩) n k1, .slice (some ⟨b2, o2, none⟩) n k2, .slice (some ⟨b3, o3, none⟩) n k3]) (E1 : Cells w q1 [.int .i64 kl, .float .f32 xl, .float .f32 yl]) (E2 : Cells w q2 [.int .i64 kr, .float .f32 xr, .float .f32 yr]) (h : Lay w n b0 o0 k0 b1 o1 k1 b2 o2 k2 b3 o3 k3 r) (hq : n ≤ 48) (hp : 1 ≤ n) (hl : kOk kl = true) (hr : kOk kr = true) :
    Calls Try.prog 80 #[.pointer (some ⟨p, 0, none⟩), .pointer (some ⟨q1, 0, none⟩), .pointer (some ⟨q2, 0, none⟩)] w (PsR (pL r n kl yl kr yr) w) := by
  have CA := Lib.hid (fun w1 (hb : Below w.heap.size w w1) => (A.kept hb).at 0 rfl)
  have L0 := Lib.hid (specAtEnd_any r false p q1 kl xl yl w A E1 h hq hp hl)
  have LR := Lib.hid (fun w1 (hb : Below w.heap.size w w1) => specAtEnd_any r true p q2 kr xr yr w1 (A.kept hb) (E2.kept hb) (h.below hb) hq hp hr)
  have LO := Lib.hid (fun w1 (hb : Below w.heap.size w w1) k (hk : k + 1 < n) => specOver_any r k p w1 (A.kept hb) (h.below hb) hq hk)
  have G := Lib.hid hq
  have HP := Lib.hid hp
  have c0 := A.at 0 rfl
  clear A E1 E2 h hq hp hl hr
  go_enter Try.func80, Try.ntmps80
  go_wp2_with fail
  refine L0.out.mono ?_
  rintro _ _ ⟨x0, hx0, rfl, m0, rfl⟩
  have HX := Lib.hid hx0
  have O0 := Lib.hid (Own.one (w.drewN m0) w.heap.size x0 (Nat.le_refl _))
  have B0 := Lib.hid ((below_drewN (Below.refl w.heap.size w) m0).alloc (Nat.le_refl _) (.cells #[.float .f32 x0] 22))
  have c0 := CA.out _ B0.out
  clear hx0 L0
  go_wp2
  go_loopw [8, 9] (fun v i wr => ∃ (k : Nat) (zs : List Nat), k + 1 ≤ n ∧ i = .int .i64 k ∧ Hid (zs.length = k + 1) ∧ Hid (IsF (pV r n kl yl kr yr) zs) ∧ Hid (Own wr w.heap.size v zs) ∧ Hid (Below w.heap.size w wr) ∧ Hid (w.heap.size ≤ wr.heap.size)) (fun _ i _ => n - (intOf i).toNat)
  case atStart => exact ⟨0, [x0], HP.out, rfl, Lib.hid rfl, Lib.hid (fun j hj => by have e : j = 0 := by simpa using hj
                                                                                    subst e; exact HX.out), O0, B0, Lib.hid B0.out.size⟩
  case round =>
    obtain ⟨k, zs, hk, rfl, hzl, hm, hO, hB, hbs⟩ := hrel
    have c0 := CA.out _ hB.out
    have hG := G.out
    have e1 : IntKind.i64.wrap ((k : Int) + 1) = ((k + 1 : Nat) : Int) := by
      unfold IntKind.wrap; simp [IntKind.bits, IntKind.signed]; omega
    have hzb : Hid (zs.length ≤ 1048576) := Lib.hid (by rw [hzl.out]; omega)
    by_cases hlt : k + 1 < n
    · have hi' : ((k + 1 : Nat) : Int) < (n : Int) := by omega
      have hi2 : ((k : Int) + 1) < (n : Int) := by omega
      have LK := Lib.hid (LO.out _ hB.out k hlt)
      have HLT := Lib.hid hlt
      go_wp2_with (first
        | (go_at_call 102; refine LK.out.mono ?_; rintro _ _ ⟨y1, h1, rfl, m1, rfl⟩; have F1 := Lib.hid h1; have c1 := CA.out _ (below_drewN hB.out m1); clear h1)
        | (at_builtin; refine wpList_app32 rfl _ _ rfl w.heap.size _ zs rfl ((hO.out.drewN _).al _) _ y1 _ rfl ((World.cell?_alloc_at _ _ _ _ (by simp)).trans rfl) hzb.out (by have := hbs.out; simp; omega) ?_; intro v' w1 hown' hb; have O1 := Lib.hid hown'; have B1 := Lib.hid (((below_drewN hB.out _).alloc (by have := hbs.out; simp; omega) _).trans hb); have c2 := CA.out _ B1.out; clear hown' hb))
      go_roundw
      case rel => exact ⟨k + 1, zs ++ [y1], by omega, by go_num, Lib.hid (by simp [hzl.out]), Lib.hid (hm.out.push (by rw [F1.out, hzl.out]; have := HLT.out; unfold pV; rw [if_neg (by omega), if_pos (by omega)]; rfl)), O1, B1, Lib.hid (Nat.le_trans (by have := hbs.out; omega) B1.out.size)⟩
      case measure => simp [intOf]; omega
    · have e := Lib.hid (show k + 1 = n by omega)
      have hi' : ¬ ((k + 1 : Nat) : Int) < (n : Int) := by omega
      have hi2 : ¬ ((k : Int) + 1) < (n : Int) := by omega
      have LK := Lib.hid (LR.out _ hB.out)
      go_wp2_with (first
        | (go_at_call 90; refine LK.out.mono ?_; rintro _ _ ⟨y1, h1, rfl, m1, rfl⟩; have F1 := Lib.hid h1; clear h1)
        | (at_builtin; refine wpList_app32 rfl _ _ rfl w.heap.size _ zs rfl ((hO.out.drewN _).al _) _ y1 _ rfl ((World.cell?_alloc_at _ _ _ _ (by simp)).trans rfl) hzb.out (by have := hbs.out; simp; omega) ?_; intro v' w1 hown' hb; have O1 := Lib.hid hown'; have B1 := Lib.hid (((below_drewN hB.out _).alloc (by have := hbs.out; simp; omega) _).trans hb); clear hown' hb))
      have FM := Lib.hid (show (zs ++ [y1]).map (cn .f32) = pL r n kl yl kr yr from by
        have h := (hm.out.push (z := y1) (by rw [F1.out, hzl.out]; have := e.out; show aV kr yr (hN r (n - 1)) = _; unfold pV; rw [if_neg (by omega), if_neg (by omega)])).map
        rw [h]; unfold pL; rw [show (zs ++ [y1]).length = n + 1 from by simp [hzl.out]; exact e.out])
      have ALL : Hid ((zs ++ [y1]).all (fin .f32) = (pL r n kl yl kr yr).all (fin .f32)) := Lib.hid (by rw [← FM.out, all_fin_cn])
      have hr := Lib.hid (O1.out.row (by simp [hzl.out]; omega))
      refine (specListQ_any _ (zs ++ [y1]) _ hr.out).mono ?_
      rintro _ w2 ⟨hb, (⟨hf, rfl⟩ | ⟨hf, rfl⟩)⟩
      · have B2 := Lib.hid (below_step B1.out hb)
        have R2 := Lib.hid (hr.out.below hb)
        have HF := Lib.hid hf
        clear hb hf
        go_wp2
        go_ret2
        exact ⟨B2.out, .inl ⟨by rw [← ALL.out]; exact HF.out, _, _, rfl, R2.out, FM.out⟩⟩
      · have B2 := Lib.hid (below_step B1.out hb)
        have HF := Lib.hid hf
        clear hb hf
        go_wp2
        go_ret2
        exact ⟨B2.out, .inr ⟨by rw [← ALL.out]; exact HF.out, rfl⟩⟩
end Go.Proofs.Ytkbdidpodcclfaa

/- The flows of a rod, as the specification lists them. -/
namespace Go.Proofs.Ytkbdidpodcclfaa
open Go.RowKit
set_option linter.unusedVariables false

/-- a slice of one number, made by a literal -/
def fLt (base S : Nat) : Fct := ⟨fun v w => ∃ p r, v = .slice (some ⟨p, 0, none⟩) 1 1 ∧ cn .f32 r = S ∧ Own w base v [r] ∧ Cells w p [.float .f32 r], fun _ => Pers.ex fun _ => Pers.ex fun _ => Pers.and (Pers.const _) (Pers.and (Pers.const _) (Pers.and (fun _ _ h hb => h.kept hb) (Pers.cells _ _)))⟩
theorem lt_of_fact {base S p : Nat} {w : World} (h : (fLt base S).1 (.slice (some ⟨p, 0, none⟩) 1 1) w) : ∃ r, cn .f32 r = S ∧ Own w base (.slice (some ⟨p, 0, none⟩) 1 1) [r] ∧ Cells w p [.float .f32 r] := by
  obtain ⟨p', r, e, h1, h2, h3⟩ := h
  cases e
  exact ⟨r, h1, h2, h3⟩
section
variable {P : Program} {ops : Array Oper} {C : World → Prop} {l : List (Nat × Fct)} {Q : SEnv → Act → Prop} {a : Act} {o : Oper} {rest : List Oper} {E : SEnv}
theorem wpF_lt (hgd : o.guard = none) (d : Nat) (hd : o.dst = some d) (base S x : Nat) (hx : cn .f32 x = S) (hT : TS.findB l d = some (fLt base S)) (hh : ∀ w, C w → base ≤ w.heap.size)
    (hv : ∀ w, (execOp a.eval o).run P w = .ok (.value (.slice (some ⟨w.heap.size, 0, none⟩) 1 1)) (w.alloc (.cells #[.float .f32 x] 22)))
    (h : ∀ p : Nat, wpFacts P ops C (TS l) Q rest (fun x u => E x u ∨ (x = d ∧ u = .slice (some ⟨p, 0, none⟩) 1 1)) (a.put o.dst (.slice (some ⟨p, 0, none⟩) 1 1))) : wpFacts P ops C (TS l) Q (o :: rest) E a :=
  wpFacts_some hgd d hd (fun w hC _ => ⟨_, _, below_al1 w _, TS.mk hT ⟨w.heap.size, x, rfl, hx, Own.one w base x (hh w hC), Cells.made w [.float .f32 x] _⟩, hv w⟩) (fun v ⟨_, hv⟩ => by
    obtain ⟨p, _, rfl, _⟩ := TS.get hT hv
    exact h p)
end
def fsB (r : RL) (n : Nat) (kl : Int) (xl yl : Nat) (kr : Int) (xr yr : Nat) : Bool := (pL r n kl yl kr yr).all (fin .f32) && (qL r n kl xl yl kr xr yr).all (fin .f32)
/-- flows are handed back if all passes and all of them are finite -/
def FsR (B : Bool) (S : List Nat) (w : World) (e : Ending) (w' : World) : Prop := Below w.heap.size w w' ∧ ((B = true ∧ ∃ v zs, e = .returned (.tuple #[v, .bool true]) ∧ FRow w' v zs ∧ zs.map (cn .f32) = S) ∨ (B = false ∧ e = .returned (.tuple #[.slice none 0 0, .bool false])))
theorem map_at {zs S : List Nat} {f : Nat → Nat} {m : Nat} (h : zs.map (cn .f32) = (List.range m).map f) : zs.length = m ∧ ∀ i, i < m → cn .f32 (zs.getD i 0) = f i := by
  have hl : zs.length = m := by have := congrArg List.length h; simpa using this
  refine ⟨hl, fun i hi => ?_⟩
  have := congrArg (fun l => l.getD i 0) h
  simp only [List.getD_eq_getElem?_getD, List.getElem?_map] at this
  rw [List.getElem?_range hi, List.getElem?_eq_getElem (by omega)] at this
  simp at this
  simp [List.getD_eq_getElem?_getD, List.getElem?_eq_getElem (show i < zs.length by omega), this]
set_option maxHeartbeats 3200000 in
set_option maxRecDepth 8000 in
theorem specFlows_any {n b0 o0 k0 b1 o1 k1 b2 o2 k2 b3 o3 k3 : Nat} (r : RL) (p q1 q2 : Nat) (kl : Int) (xl yl : Nat) (kr : Int) (xr yr : Nat) (w : World) (A : Cells w p [.slice (some ⟨b0, o0, none⟩) n k0, .slice (some ⟨b1, o1, none⟩) n k1, .slice (some ⟨b2, o2, none⟩) n k2, .slice (some ⟨b3, o3, none⟩) n k3]) (E1 : Cells w q1 [.int .i64 kl, .float .f32 xl, .float .f32 yl]) (E2 : Cells w q2 [.int .i64 kr, .float .f32 xr, .float .f32 yr]) (h : Lay w n b0 o0 k0 b1 o1 k1 b2 o2 k2 b3 o3 k3 r) (hq : n ≤ 48) (hp : 1 ≤ n) (hl : kOk kl = true) (hr : kOk kr = true) :
    Calls Try.prog 53 #[.pointer (some ⟨p, 0, none⟩), .pointer (some ⟨q1, 0, none⟩), .pointer (some ⟨q2, 0, none⟩)] w (FsR (fsB r n kl xl yl kr xr yr) (qL r n kl xl yl kr xr yr) w) := by
  have CA := Lib.hid (fun w1 (hb : Below w.heap.size w w1) => And.intro ((A.kept hb).at 0 rfl) ((A.kept hb).at 3 rfl))
  have CE := Lib.hid (fun w1 (hb : Below w.heap.size w w1) => And.intro ((E1.kept hb).at 1 rfl) ((E2.kept hb).at 1 rfl))
  have CT := Lib.hid (fun w1 (hb : Below w.heap.size w w1) => (h.below hb).T)
  have L0 := Lib.hid (specPasses_any r p q1 q2 kl xl yl kr xr yr w A E1 E2 h hq hp hl hr)
  have G := Lib.hid hq
  have HP := Lib.hid hp
  clear A E1 E2 h hq hp hl hr
  go_enter Try.func53, Try.ntmps53
  go_wp2_with fail
  refine L0.out.mono ?_
  rintro _ w1 ⟨hb, (⟨hf, v0, ps, rfl, hz, hm⟩ | ⟨hf, rfl⟩)⟩
  case inr =>
    have B := Lib.hid hb
    have HF := Lib.hid hf
    clear hb hf
    go_wp2
    go_ret2
    exact ⟨B.out, .inr ⟨by unfold fsB; rw [HF.out]; rfl, rfl⟩⟩
  case inl =>
    obtain ⟨hl, hv⟩ := map_at (S := ps) (show ps.map (cn .f32) = (List.range (n + 1)).map (pV r n kl yl kr yr) from hm)
    obtain ⟨bz, oz, cz, rfl, hc⟩ := hz.cells (by omega)
    rw [hl]
    have ZC := Lib.hid (fun w' (hb : Below w1.heap.size w1 w') i (hi : i < n + 1) => (hb.cell (p := ⟨bz, oz + i, none⟩) (cell_lt (hc i (by omega)))).trans (hc i (by omega)))
    have PV := Lib.hid hv
    have HF := Lib.hid hf
    have B1 := Lib.hid hb
    clear hb hf hz hm hl hv hc L0
    obtain ⟨a0, a3⟩ := CA.out _ B1.out
    obtain ⟨el, er⟩ := CE.out _ B1.out
    have t0 := CT.out _ B1.out 0 HP.out
    have z0 := ZC.out _ (Below.refl _ _) 0 (Nat.succ_pos _)
    have hG := G.out
    have hn0 : (0 : Int) < (n : Int) := by have := HP.out; omega
    have hn1 : (0 : Int) < ((n + 1 : Nat) : Int) := by omega
    have PV0 := Lib.hid (PV.out 0 (Nat.succ_pos _))
    obtain ⟨N, hN⟩ : ∃ N, N = n + 1 := ⟨_, rfl⟩
    rw [← hN] at ZC PV hn1 ⊢
    have hN0 : 0 < N := by omega
    have hP0 : 0 < n := HP.out
    have HN := Lib.hid hN
    clear hN
    generalize hzz : ps.getD 0 0 = pz at *
    generalize htt : r.T.getD 0 0 = pt at *
    have TT := Lib.hid htt
    clear hzz htt
    go_wp2
    have t1 : w1.cell? ⟨b3, o3, none⟩ = some (.float .f32 pt) := t0
    have z1 : w1.cell? ⟨bz, oz, none⟩ = some (.float .f32 pz) := z0
    have FACT := Lib.hid (fun w2 (hw : Ext w1 w2) => And.intro (hw.cell a0) (And.intro (hw.cell a3) (And.intro (hw.cell el) (And.intro (hw.cell er) (And.intro (hw.cell t0) (And.intro (hw.cell z0) (And.intro (hw.cell t1) (hw.cell z1))))))))
    refine wp_region_facts (Ext w1) (TS [(40, fNum .f32 (fop .sub .f32 (cn .f32 xl) (cn .f32 pt))), (41, fNum .f32 (fop .mul .f32 (cn .f32 pz) (fop .sub .f32 (cn .f32 xl) (cn .f32 pt)))), (42, fLt w1.heap.size (fop .mul .f32 (cn .f32 pz) (fop .sub .f32 (cn .f32 xl) (cn .f32 pt))))]) (Pers.ext _) (TS.pers _) (Ext.start _) (by kernel_rfl) (by kernel_rfl) (by intro d v c a w h; cases d <;> exact h) ?_
    repeat (refine wpF_val rfl monoQ_end (by rintro _ ⟨⟩; rfl) ?_ (fun w1 hw1 => ?_) (fun K hK => ?_); rotate_left; (focus (have hF := FACT.out w1 hw1; go_simp; first | done | rfl)); go_simp; refine hK _ ?_; clear hK K)
    refine wpF_farith rfl 40 rfl .sub _ _ _ _ rfl rfl .f32 xl pt rfl rfl _ rfl rfl (fun x1 hx1 => ?_)
    repeat (refine wpF_val rfl monoQ_end (by rintro _ ⟨⟩; rfl) ?_ (fun w1 hw1 => ?_) (fun K hK => ?_); rotate_left; (focus (have hF := FACT.out w1 hw1; go_simp; first | done | rfl)); go_simp; refine hK _ ?_; clear hK K)
    refine wpF_farith rfl 41 rfl .mul _ _ _ _ rfl rfl .f32 pz x1 rfl rfl _ rfl (by rw [hx1]) (fun x2 hx2 => ?_)
    repeat (refine wpF_val rfl monoQ_end (by rintro _ ⟨⟩; rfl) ?_ (fun w1 hw1 => ?_) (fun K hK => ?_); rotate_left; (focus (have hF := FACT.out w1 hw1; go_simp; first | done | rfl)); go_simp; refine hK _ ?_; clear hK K)
    refine wpF_lt rfl 42 rfl w1.heap.size _ x2 hx2 rfl (fun w1 hw1 => hw1.size) (fun w1 => ?_) (fun g => ?_)
    · go_simp
    repeat (refine wpF_val rfl monoQ_end (by rintro _ ⟨⟩; rfl) ?_ (fun w1 hw1 => ?_) (fun K hK => ?_); rotate_left; (focus (have hF := FACT.out w1 hw1; go_simp; first | done | rfl)); go_simp; refine hK _ ?_; clear hK K)
    refine wpFacts_nil ?_
    intro w2 hC hF
    obtain ⟨y, hy, hO, _⟩ := lt_of_fact (fact_of (d := 42) rfl hF (by repeat (first | exact Or.inr ⟨rfl, rfl⟩ | refine Or.inl ?_)))
    have O0 := Lib.hid hO
    have HY : Hid (cn .f32 y = qV r n kl xl yl kr xr yr 0) := Lib.hid (by rw [hy]; unfold qV; rw [← PV0.out]; unfold wV; rw [if_pos rfl, TT.out])
    have BC := Lib.hid hC
    clear hF FACT hx1 hx2 hy hO hC a0 a3 el er t0 z0 t1 z1 hn1 hN0 hP0
    go_wp2
    go_loopw [11, 12] (fun v i wr => ∃ (k : Nat) (zs : List Nat), k + 1 ≤ n ∧ i = .int .i64 k ∧ Hid (zs.length = k + 1) ∧ Hid (IsF (qV r n kl xl yl kr xr yr) zs) ∧ Hid (Own wr w1.heap.size v zs) ∧ Hid (Below w1.heap.size w1 wr)) (fun _ i _ => n - (intOf i).toNat)
    case atStart => exact ⟨0, [y], HP.out, rfl, Lib.hid rfl, Lib.hid (fun j hj => by have e : j = 0 := by simpa using hj
                                                                                     subst e; exact HY.out), O0, BC⟩
    case round =>
      obtain ⟨k, zs, hk, rfl, hzl, hm, hO, hB⟩ := hrel
      obtain ⟨a0, a3⟩ := CA.out _ (below_step B1.out hB.out)
      obtain ⟨el, er⟩ := CE.out _ (below_step B1.out hB.out)
      have e1 : IntKind.i64.wrap ((k : Int) + 1) = ((k + 1 : Nat) : Int) := by
        unfold IntKind.wrap; simp [IntKind.bits, IntKind.signed]; omega
      have hzb : Hid (zs.length ≤ 1048576) := Lib.hid (by rw [hzl.out]; omega)
      have tk := CT.out _ (below_step B1.out hB.out) k (by omega)
      have hk0 : (0 : Int) ≤ (k : Int) := by omega
      have hkn : (k : Int) < (n : Int) := by omega
      by_cases hlt : k + 1 < n
      · have hi' : ((k + 1 : Nat) : Int) < (n : Int) := by omega
        have hi2 : ((k : Int) + 1) < (n : Int) := by omega
        have HLT := Lib.hid hlt
        have hj0 : (0 : Int) ≤ ((k + 1 : Nat) : Int) := by omega
        have hjN : ((k + 1 : Nat) : Int) < (N : Int) := by have := HN.out; omega
        have hj02 : (0 : Int) ≤ (k : Int) + 1 := by omega
        have hjN2 : (k : Int) + 1 < (N : Int) := by have := HN.out; omega
        have hjt : ((k : Int) + 1).toNat = k + 1 := by omega
        have e1 : IntKind.i64.wrap ((k : Int) + 1) = (k : Int) + 1 := by rw [e1]; rfl
        have hjk : k < n := by omega
        have hjk2 : k + 1 < N := by have := HN.out; omega
        have tl := CT.out _ (below_step B1.out hB.out) (k + 1) hlt
        have zk := ZC.out _ hB.out (k + 1) (by have := HN.out; omega)
        have PK := Lib.hid (PV.out (k + 1) (by have := HN.out; omega))
        generalize hzz : ps.getD (k + 1) 0 = pz2 at *
        generalize htt : r.T.getD k 0 = pa at *
        generalize hts : r.T.getD (k + 1) 0 = pb at *
        have TA := Lib.hid htt
        have TB := Lib.hid hts
        clear hzz htt hts
        have FACT := Lib.hid (fun w2 (hw : Ext wr w2) => And.intro (hw.cell a0) (And.intro (hw.cell a3) (And.intro (hw.cell el) (And.intro (hw.cell er) (And.intro (hw.cell tk) (And.intro (hw.cell tl) (hw.cell zk)))))))
        go_wp2
        refine wp_region_facts_tail 24 [] (Ext wr) (TS [(70, fNum .f32 (fop .sub .f32 (cn .f32 pa) (cn .f32 pb))), (71, fNum .f32 (fop .mul .f32 (cn .f32 pz2) (fop .sub .f32 (cn .f32 pa) (cn .f32 pb)))), (72, fLt w1.heap.size (fop .mul .f32 (cn .f32 pz2) (fop .sub .f32 (cn .f32 pa) (cn .f32 pb))))]) (Pers.ext _) (TS.pers _) (Ext.start _) (by kernel_rfl) (by kernel_rfl) (by intro d v c a w h; cases d <;> exact h) ?_
        simp only [List.take_succ_cons, List.take_zero, List.drop_succ_cons, List.drop_zero]
        repeat (refine wpF_val rfl monoQ_end (by rintro _ ⟨⟩; rfl) ?_ (fun w1 hw1 => ?_) (fun K hK => ?_); rotate_left; (focus (have hF := FACT.out w1 hw1; go_simp; first | done | rfl)); go_simp; refine hK _ ?_; clear hK K)
        refine wpF_farith rfl 70 rfl .sub _ _ _ _ rfl rfl .f32 pa pb rfl rfl _ rfl rfl (fun x1 hx1 => ?_)
        repeat (refine wpF_val rfl monoQ_end (by rintro _ ⟨⟩; rfl) ?_ (fun w1 hw1 => ?_) (fun K hK => ?_); rotate_left; (focus (have hF := FACT.out w1 hw1; go_simp; first | done | rfl)); go_simp; refine hK _ ?_; clear hK K)
        refine wpF_farith rfl 71 rfl .mul _ _ _ _ rfl rfl .f32 pz2 x1 rfl rfl _ rfl (by rw [hx1]) (fun x2 hx2 => ?_)
        repeat (refine wpF_val rfl monoQ_end (by rintro _ ⟨⟩; rfl) ?_ (fun w1 hw1 => ?_) (fun K hK => ?_); rotate_left; (focus (have hF := FACT.out w1 hw1; go_simp; first | done | rfl)); go_simp; refine hK _ ?_; clear hK K)
        refine wpF_lt rfl 72 rfl w1.heap.size _ x2 hx2 rfl (fun w1 hw1 => Nat.le_trans hB.out.size hw1.size) (fun w1 => ?_) (fun g => ?_)
        · go_simp
        refine wpFacts_nil ?_
        intro w3 hC hF
        obtain ⟨y2, hy, _, hCy⟩ := lt_of_fact (fact_of (d := 72) rfl hF (by repeat (first | exact Or.inr ⟨rfl, rfl⟩ | refine Or.inl ?_)))
        have HY2 : Hid (cn .f32 y2 = qV r n kl xl yl kr xr yr (k + 1)) := Lib.hid (by rw [hy]; unfold qV; rw [← PK.out]; unfold wV; rw [if_neg (by omega), if_pos HLT.out, Nat.add_sub_cancel, TA.out, TB.out])
        have CY := Lib.hid (hCy.at 0 rfl)
        have B3 := Lib.hid (below_step hB.out hC)
        have O3 := Lib.hid (hO.out.kept hC)
        clear hF FACT hx1 hx2 hy hC hCy a0 a3 el er tk tl zk
        refine wpList_app32 rfl _ _ rfl w1.heap.size _ zs rfl O3.out g y2 _ rfl CY.out hzb.out B3.out.size ?_
        intro v' w4 hown hb
        have O1 := Lib.hid hown
        have B4 := Lib.hid (B3.out.trans hb)
        clear hown hb
        go_wp2
        go_roundw
        case rel => exact ⟨k + 1, zs ++ [y2], by omega, by go_num, Lib.hid (by simp [hzl.out]), Lib.hid (hm.out.push (by rw [HY2.out, hzl.out])), O1, B4⟩
        case measure => simp [intOf]; omega
      · have e := Lib.hid (show k + 1 = n by omega)
        have hi' : ¬ ((k + 1 : Nat) : Int) < (n : Int) := by omega
        have hi2 : ¬ ((k : Int) + 1) < (n : Int) := by omega
        have e2 : IntKind.i64.wrap ((n : Int) - 1) = (k : Int) := by
          unfold IntKind.wrap; simp [IntKind.bits, IntKind.signed]; omega
        have hj0 : (0 : Int) ≤ (n : Int) := by omega
        have hjN : (n : Int) < (N : Int) := by have := HN.out; omega
        have hjn : n < N := by have := HN.out; omega
        have zk := ZC.out _ hB.out n hjn
        have PK := Lib.hid (PV.out n hjn)
        generalize hzz : ps.getD n 0 = pz2 at *
        generalize htt : r.T.getD k 0 = pa at *
        have TA := Lib.hid htt
        clear hzz htt
        have FACT := Lib.hid (fun w2 (hw : Ext wr w2) => And.intro (hw.cell a0) (And.intro (hw.cell a3) (And.intro (hw.cell el) (And.intro (hw.cell er) (And.intro (hw.cell tk) (hw.cell zk))))))
        go_wp2
        refine wp_region_facts_tail 20 [] (Ext wr) (TS [(91, fNum .f32 (fop .sub .f32 (cn .f32 pa) (cn .f32 xr))), (92, fNum .f32 (fop .mul .f32 (cn .f32 pz2) (fop .sub .f32 (cn .f32 pa) (cn .f32 xr)))), (93, fLt w1.heap.size (fop .mul .f32 (cn .f32 pz2) (fop .sub .f32 (cn .f32 pa) (cn .f32 xr))))]) (Pers.ext _) (TS.pers _) (Ext.start _) (by kernel_rfl) (by kernel_rfl) (by intro d v c a w h; cases d <;> exact h) ?_
        simp only [List.take_succ_cons, List.take_zero, List.drop_succ_cons, List.drop_zero]
        repeat (refine wpF_val rfl monoQ_end (by rintro _ ⟨⟩; rfl) ?_ (fun w1 hw1 => ?_) (fun K hK => ?_); rotate_left; (focus (have hF := FACT.out w1 hw1; go_simp; first | done | rfl)); go_simp; refine hK _ ?_; clear hK K)
        refine wpF_farith rfl 91 rfl .sub _ _ _ _ rfl rfl .f32 pa xr rfl rfl _ rfl rfl (fun x1 hx1 => ?_)
        repeat (refine wpF_val rfl monoQ_end (by rintro _ ⟨⟩; rfl) ?_ (fun w1 hw1 => ?_) (fun K hK => ?_); rotate_left; (focus (have hF := FACT.out w1 hw1; go_simp; first | done | rfl)); go_simp; refine hK _ ?_; clear hK K)
        refine wpF_farith rfl 92 rfl .mul _ _ _ _ rfl rfl .f32 pz2 x1 rfl rfl _ rfl (by rw [hx1]) (fun x2 hx2 => ?_)
        repeat (refine wpF_val rfl monoQ_end (by rintro _ ⟨⟩; rfl) ?_ (fun w1 hw1 => ?_) (fun K hK => ?_); rotate_left; (focus (have hF := FACT.out w1 hw1; go_simp; first | done | rfl)); go_simp; refine hK _ ?_; clear hK K)
        refine wpF_lt rfl 93 rfl w1.heap.size _ x2 hx2 rfl (fun w1 hw1 => Nat.le_trans hB.out.size hw1.size) (fun w1 => ?_) (fun g => ?_)
        · go_simp
        refine wpFacts_nil ?_
        intro w3 hC hF
        obtain ⟨y2, hy, _, hCy⟩ := lt_of_fact (fact_of (d := 93) rfl hF (by repeat (first | exact Or.inr ⟨rfl, rfl⟩ | refine Or.inl ?_)))
        have HY2 : Hid (cn .f32 y2 = qV r n kl xl yl kr xr yr n) := Lib.hid (by rw [hy]; unfold qV; rw [← PK.out]; unfold wV; have := e.out; rw [if_neg (by omega), if_neg (by omega), show n - 1 = k by omega, TA.out])
        have CY := Lib.hid (hCy.at 0 rfl)
        have B3 := Lib.hid (below_step hB.out hC)
        have O3 := Lib.hid (hO.out.kept hC)
        clear hF FACT hx1 hx2 hy hC hCy a0 a3 el er tk zk
        refine wpList_app32 rfl _ _ rfl w1.heap.size _ zs rfl O3.out g y2 _ rfl CY.out hzb.out B3.out.size ?_
        intro v' w4 hown hb
        have O1 := Lib.hid hown
        have B4 := Lib.hid (below_step B1.out (B3.out.trans hb))
        clear hown hb
        have FM := Lib.hid (show (zs ++ [y2]).map (cn .f32) = qL r n kl xl yl kr xr yr from by
          have h := (hm.out.push (z := y2) (by rw [HY2.out, hzl.out, e.out])).map
          rw [h]; unfold qL; rw [show (zs ++ [y2]).length = n + 1 from by simp [hzl.out]; exact e.out])
        have ALL : Hid ((zs ++ [y2]).all (fin .f32) = (qL r n kl xl yl kr xr yr).all (fin .f32)) := Lib.hid (by rw [← FM.out, all_fin_cn])
        have hr := Lib.hid (O1.out.row (by simp [hzl.out]; omega))
        go_wp2_with fail
        refine (specListQ_any _ (zs ++ [y2]) _ hr.out).mono ?_
        rintro _ w5 ⟨hb, (⟨hf, rfl⟩ | ⟨hf, rfl⟩)⟩
        · have B2 := Lib.hid (below_step B4.out hb)
          have R2 := Lib.hid (hr.out.below hb)
          have HF2 := Lib.hid hf
          clear hb hf
          go_wp2
          go_ret2
          exact ⟨B2.out, .inl ⟨by unfold fsB; rw [HF.out, ← ALL.out, HF2.out]; rfl, _, _, rfl, R2.out, FM.out⟩⟩
        · have B2 := Lib.hid (below_step B4.out hb)
          have HF2 := Lib.hid hf
          clear hb hf
          go_wp2
          go_ret2
          exact ⟨B2.out, .inr ⟨by unfold fsB; rw [HF.out, ← ALL.out, HF2.out]; rfl, rfl⟩⟩
end Go.Proofs.Ytkbdidpodcclfaa

/- The flows of a rod: the specification's answer. -/
namespace Go.Proofs.Ytkbdidpodcclfaa
open Go.RowKit
set_option linter.unusedVariables false

def enB (r : RL) (kl : Int) (xl yl : Nat) (kr : Int) (xr yr : Nat) : Bool := vRod r && vEnd kl xl yl && vEnd kr xr yr
def fwB (r : RL) (kl : Int) (xl yl : Nat) (kr : Int) (xr yr : Nat) : Bool := enB r kl xl yl kr xr yr && fsB r r.W.length kl xl yl kr xr yr
def fwS (r : RL) (kl : Int) (xl yl : Nat) (kr : Int) (xr yr : Nat) : List Nat := bif fwB r kl xl yl kr xr yr then qL r r.W.length kl xl yl kr xr yr else []
theorem fwS_le (r : RL) (kl : Int) (xl yl : Nat) (kr : Int) (xr yr : Nat) : (fwS r kl xl yl kr xr yr).length ≤ 400 := by
  unfold fwS
  cases h : fwB r kl xl yl kr xr yr with
  | false => exact Nat.zero_le _
  | true =>
    have hv : vRod r = true := by unfold fwB enB at h; simp only [Bool.and_eq_true] at h; exact h.1.1.1
    have := (Len.ofV hv).q
    simp [qL]; omega
set_option maxHeartbeats 1600000 in
theorem specEnds_any (a b c d : Value) (r : RL) (p q1 q2 : Nat) (kl : Int) (xl yl : Nat) (kr : Int) (xr yr : Nat) (w : World) (A : Cells w p [a, b, c, d]) (E1 : Cells w q1 [.int .i64 kl, .float .f32 xl, .float .f32 yl]) (E2 : Cells w q2 [.int .i64 kr, .float .f32 xr, .float .f32 yr]) (h : RRow w a b c d r) :
    Calls Try.prog 52 #[.pointer (some ⟨p, 0, none⟩), .pointer (some ⟨q1, 0, none⟩), .pointer (some ⟨q2, 0, none⟩)] w (Bol (enB r kl xl yl kr xr yr) w) := by
  have I0 := Lib.hid (specIs_any a b c d r p w A h)
  have I1 := Lib.hid (fun m => specEnd_any kl xl yl q1 (w.drewN m) (E1.at 0 rfl) (E1.at 1 rfl) (E1.at 2 rfl))
  have I2 := Lib.hid (fun m => specEnd_any kr xr yr q2 (w.drewN m) (E2.at 0 rfl) (E2.at 1 rfl) (E2.at 2 rfl))
  clear A E1 E2 h
  unfold enB
  cases hr : vRod r
  · rw [hr] at I0
    go_enter Try.func52, Try.ntmps52
    go_wp2_with fail
    refine I0.out.mono ?_
    rintro _ _ ⟨rfl, m, rfl⟩
    go_wp2
    go_ret
    exact ⟨rfl, _, rfl⟩
  · rw [hr] at I0
    cases hl : vEnd kl xl yl
    · rw [hl] at I1
      go_enter Try.func52, Try.ntmps52
      go_wp2_with fail
      refine I0.out.mono ?_
      rintro _ _ ⟨rfl, m, rfl⟩
      go_wp2_with fail
      refine (I1.out m).mono ?_
      rintro _ _ ⟨rfl, m1, rfl⟩
      go_wp2
      go_ret
      exact ⟨rfl, m + m1, by simp⟩
    · rw [hl] at I1
      go_enter Try.func52, Try.ntmps52
      go_wp2_with fail
      refine I0.out.mono ?_
      rintro _ _ ⟨rfl, m, rfl⟩
      go_wp2_with fail
      refine (I1.out m).mono ?_
      rintro _ _ ⟨rfl, m1, rfl⟩
      go_wp2_with fail
      refine (I2.out (m + m1)).mono ?_
      rintro _ _ ⟨rfl, m2, rfl⟩
      go_wp2
      go_ret
      exact ⟨by simp, m + m1 + m2, by simp⟩
set_option maxHeartbeats 1600000 in
set_option maxRecDepth 4000 in
theorem specFw_any (a b c d : Value) (r : RL) (kl : Int) (xl yl : Nat) (kr : Int) (xr yr : Nat) (w : World) (h : RRow w a b c d r) :
    Calls Try.prog 27 #[.agg #[a, b, c, d], .agg #[.int .i64 kl, .float .f32 xl, .float .f32 yl], .agg #[.int .i64 kr, .float .f32 xr, .float .f32 yr]] w (LstB (fwS r kl xl yl kr xr yr) (fwB r kl xl yl kr xr yr) w) := by
  unfold fwS fwB
  cases he : enB r kl xl yl kr xr yr
  · have H := Lib.hid (h.below (below_al3 w (.cells [a, b, c, d].toArray 25) (.cells [Value.int .i64 kl, .float .f32 xl, .float .f32 yl].toArray 47) (.cells [Value.int .i64 kr, .float .f32 xr, .float .f32 yr].toArray 47)))
    have bb := below_al3 w (.cells [a, b, c, d].toArray 25) (.cells [Value.int .i64 kl, .float .f32 xl, .float .f32 yl].toArray 47) (.cells [Value.int .i64 kr, .float .f32 xr, .float .f32 yr].toArray 47)
    have A := Lib.hid (((Cells.made w [a, b, c, d] 25).al (.cells [Value.int .i64 kl, .float .f32 xl, .float .f32 yl].toArray 47)).al (.cells [Value.int .i64 kr, .float .f32 xr, .float .f32 yr].toArray 47))
    have E1 := (Cells.made (w.alloc (.cells [a, b, c, d].toArray 25)) [.int .i64 kl, .float .f32 xl, .float .f32 yl] 47).al (.cells [Value.int .i64 kr, .float .f32 xr, .float .f32 yr].toArray 47)
    rw [show (w.alloc (.cells [a, b, c, d].toArray 25)).heap.size = w.heap.size + 1 from by simp] at E1
    have E1 := Lib.hid E1
    have E2 := Cells.made ((w.alloc (.cells [a, b, c, d].toArray 25)).alloc (.cells [Value.int .i64 kl, .float .f32 xl, .float .f32 yl].toArray 47)) [.int .i64 kr, .float .f32 xr, .float .f32 yr] 47
    rw [show ((w.alloc (.cells [a, b, c, d].toArray 25)).alloc (.cells [Value.int .i64 kl, .float .f32 xl, .float .f32 yl].toArray 47)).heap.size = w.heap.size + 2 from by simp] at E2
    have E2 := Lib.hid E2
    have Bw := Lib.hid bb
    have IE := Lib.hid (specEnds_any a b c d r _ _ _ kl xl yl kr xr yr _ A.out E1.out E2.out H.out)
    rw [he] at IE
    clear he h bb
    go_enter Try.func27, Try.ntmps27
    go_wp2_with fail
    refine IE.out.mono ?_
    rintro _ _ ⟨rfl, m, rfl⟩
    go_wp2
    go_ret2
    exact LstB.no (below_drewN Bw.out _)
  · have hv : vRod r = true ∧ vEnd kl xl yl = true ∧ vEnd kr xr yr = true := by unfold enB at he; simp only [Bool.and_eq_true] at he; exact ⟨he.1.1, he.1.2, he.2⟩
    have LN := Len.ofV hv.1
    obtain ⟨b0, o0, k0, b1, o1, k1, b2, o2, k2, b3, o3, k3, rfl, rfl, rfl, rfl, hL⟩ := h.lay LN
    obtain ⟨n, hn⟩ : ∃ n, r.W.length = n := ⟨_, rfl⟩
    rw [hn] at LN hL h ⊢
    have bb := below_al3 w (.cells [Value.slice (some ⟨b0, o0, none⟩) n k0, .slice (some ⟨b1, o1, none⟩) n k1, .slice (some ⟨b2, o2, none⟩) n k2, .slice (some ⟨b3, o3, none⟩) n k3].toArray 25) (.cells [Value.int .i64 kl, .float .f32 xl, .float .f32 yl].toArray 47) (.cells [Value.int .i64 kr, .float .f32 xr, .float .f32 yr].toArray 47)
    have A := Lib.hid (((Cells.made w [.slice (some ⟨b0, o0, none⟩) n k0, .slice (some ⟨b1, o1, none⟩) n k1, .slice (some ⟨b2, o2, none⟩) n k2, .slice (some ⟨b3, o3, none⟩) n k3] 25).al (.cells [Value.int .i64 kl, .float .f32 xl, .float .f32 yl].toArray 47)).al (.cells [Value.int .i64 kr, .float .f32 xr, .float .f32 yr].toArray 47))
    have E1 := (Cells.made (w.alloc (.cells [Value.slice (some ⟨b0, o0, none⟩) n k0, .slice (some ⟨b1, o1, none⟩) n k1, .slice (some ⟨b2, o2, none⟩) n k2, .slice (some ⟨b3, o3, none⟩) n k3].toArray 25)) [.int .i64 kl, .float .f32 xl, .float .f32 yl] 47).al (.cells [Value.int .i64 kr, .float .f32 xr, .float .f32 yr].toArray 47)
    rw [show (w.alloc (.cells [Value.slice (some ⟨b0, o0, none⟩) n k0, .slice (some ⟨b1, o1, none⟩) n k1, .slice (some ⟨b2, o2, none⟩) n k2, .slice (some ⟨b3, o3, none⟩) n k3].toArray 25)).heap.size = w.heap.size + 1 from by simp] at E1
    have E1 := Lib.hid E1
    have E2 := Cells.made ((w.alloc (.cells [Value.slice (some ⟨b0, o0, none⟩) n k0, .slice (some ⟨b1, o1, none⟩) n k1, .slice (some ⟨b2, o2, none⟩) n k2, .slice (some ⟨b3, o3, none⟩) n k3].toArray 25)).alloc (.cells [Value.int .i64 kl, .float .f32 xl, .float .f32 yl].toArray 47)) [.int .i64 kr, .float .f32 xr, .float .f32 yr] 47
    rw [show ((w.alloc (.cells [Value.slice (some ⟨b0, o0, none⟩) n k0, .slice (some ⟨b1, o1, none⟩) n k1, .slice (some ⟨b2, o2, none⟩) n k2, .slice (some ⟨b3, o3, none⟩) n k3].toArray 25)).alloc (.cells [Value.int .i64 kl, .float .f32 xl, .float .f32 yl].toArray 47)).heap.size = w.heap.size + 2 from by simp] at E2
    have E2 := Lib.hid E2
    have Bw := Lib.hid bb
    have IE := Lib.hid (specEnds_any _ _ _ _ r _ _ _ kl xl yl kr xr yr _ A.out E1.out E2.out (h.below bb))
    rw [he] at IE
    have LY := Lib.hid (hL.below bb)
    have HP := Lib.hid LN.p; have HQ := Lib.hid LN.q
    have KL := Lib.hid (vEnd_kOk hv.2.1); have KR := Lib.hid (vEnd_kOk hv.2.2)
    clear he h hL bb hv LN hn
    go_enter Try.func27, Try.ntmps27
    go_wp2_with fail
    refine IE.out.mono ?_
    rintro _ _ ⟨rfl, m, rfl⟩
    have A := Lib.hid (A.out.drewN (n := m)); have E1 := Lib.hid (E1.out.drewN (n := m)); have E2 := Lib.hid (E2.out.drewN (n := m))
    have LY := Lib.hid (LY.out.below (below_drewN (Below.refl _ _) m))
    have Bw := Lib.hid (below_drewN Bw.out m)
    have FL := Lib.hid (specFlows_any r _ _ _ kl xl yl kr xr yr _ A.out E1.out E2.out LY.out HQ.out HP.out KL.out KR.out)
    go_wp2_with fail
    refine FL.out.mono ?_
    rintro _ w2 ⟨hb, (⟨hf, v, zs, rfl, hz, hm⟩ | ⟨hf, rfl⟩)⟩
    · have B2 := Lib.hid (below_step Bw.out hb)
      have HF := Lib.hid hf; have HZ := Lib.hid hz; have HM := Lib.hid hm
      clear hb hf hz hm
      go_wp2
      go_ret2
      rw [HF.out]
      exact ⟨v, zs, rfl, HZ.out, HM.out, B2.out⟩
    · have B2 := Lib.hid (below_step Bw.out hb)
      have HF := Lib.hid hf
      clear hb hf
      go_wp2
      go_ret2
      rw [HF.out]
      exact LstB.no B2.out
end Go.Proofs.Ytkbdidpodcclfaa
