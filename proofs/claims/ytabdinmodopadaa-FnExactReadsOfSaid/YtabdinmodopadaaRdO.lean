/- The reads of a track: both sides. -/
import Derived.Test.YtabdinmodopadaaTkS
import Derived.Test.YtabdinmodopadaaLst
namespace Go.Proofs.Ytabdinmodopadaa
open Go.RowKit
set_option linter.unusedVariables false

def trV (z : Int) : Nat := fop .quo .f32 (floatOfInt .f32 z) 1120403456
def trL (zs : List Int) : Nat → List Nat
  | 0 => []
  | k + 1 => trL zs k ++ [trV (zs.getD k 0)]
theorem trL_len (zs : List Int) : ∀ k, (trL zs k).length = k
  | 0 => rfl
  | k + 1 => by rw [trL, List.length_append, trL_len zs k]; rfl
def trS (s : ByteArray) (zs : List Int) : List Nat := bif tkB s zs then trL zs zs.length else []
theorem tkB_len {s : ByteArray} {zs : List Int} (h : tkB s zs = true) : 1 ≤ zs.length ∧ zs.length ≤ 128 := by
  unfold tkB at h; rw [Bool.and_eq_true] at h; exact hns_len h.2
theorem trS_len (s : ByteArray) (zs : List Int) : (trS s zs).length ≤ 400 := by
  unfold trS
  cases h : tkB s zs
  · simp
  · simp only [cond_true, trL_len]; have := (tkB_len h).2; omega
theorem tr_no {s : ByteArray} {zs : List Int} {w w' : World} (h : tkB s zs = false) (hb : Below w.heap.size w w') : LstO (trS s zs) false w (.returned (.tuple #[.slice none 0 0, .bool false])) w' := by
  unfold trS; rw [h]; exact LstO.no hb
theorem tr_yes {s : ByteArray} {zs : List Int} {v : Value} {ys : List Nat} {base : Nat} {w w' : World} (h : tkB s zs = true) (hm : ys.map (cn .f32) = trL zs zs.length) (ho : Own w' base v ys) (hl : w.heap.size ≤ base) (hb : Below w.heap.size w w') : LstO (trS s zs) true w (.returned (.tuple #[v, .bool true])) w' := by
  unfold trS; rw [h]; exact ⟨v, ys, rfl, ho.orow.mono hl, hm, hb⟩
theorem trV_of {z : Int} {r : Nat} (f : FR .quo .f32 (floatOfInt .f32 z) 1120403456 r) : cn .f32 r = trV z := by
  unfold trV; rw [f.1]; simp only [fopl', fopr']
theorem map_snocT {ys S : List Nat} {r : Nat} {V : Nat} (h : ys.map (cn .f32) = S) (hr : cn .f32 r = V) : (ys ++ [r]).map (cn .f32) = S ++ [V] := by
  rw [List.map_append, h, List.map_cons, List.map_nil, hr]
theorem Own.nilT (w : World) (base : Nat) : Own w base (.slice none 0 0) [] := ⟨rfl, .inl ⟨rfl, rfl⟩⟩
theorem ORow.tur {h : Nat} {S : Nat → Prop} {w w' : World} {v : Value} {zs : List Nat} (H : ORow h w v zs) (T : Tur S w w') (hS : ∀ k, S k → k < h) : ORow h w' v zs := by
  rcases H with H | ⟨g, o, c, rfl, hg, hr⟩
  · exact .inl H
  · exact .inr ⟨g, o, c, rfl, hg, hr.of_block (T.block g hr.lt (fun hs => by have := hS g hs; omega))⟩
theorem markTk_any (s : ByteArray) (p : Nat) (zs : List Int) (w : World) (R : RowJ w p 0 zs) (hl : zs.length ≤ 1048576) : Calls Try.prog 33 #[.agg #[.string s, .slice (some ⟨p, 0, none⟩) zs.length zs.length], .int .i64 1] w fun e w' => e = .returned (.int .i64 ((1 + zs.length : Nat) : Int)) ∧ Tur (· = p) w w' := by
  have T := Lib.hid (Tur.of_below (S := (· = p)) (below_al1 w (.cells #[Value.string s, .slice (some ⟨p, 0, none⟩) zs.length zs.length] 40)))
  have HM := Lib.hid (fun w1 (hr : RowJ w1 p 0 zs) => markLJ_any p 0 zs.length 1 zs.length zs w1 hr rfl hl (by decide))
  have R1 := Lib.hid (R.kept (below_al1 w (.cells #[Value.string s, .slice (some ⟨p, 0, none⟩) zs.length zs.length] 40)))
  clear R
  generalize zs.length = n at *
  go_enter Try.func33, Try.ntmps33
  go_wp2_with fail
  refine (HM.out _ R1.out).mono ?_
  rintro _ w1 ⟨rfl, _, hon⟩
  have T2 := Lib.hid (T.out.trans (Tur.of_onl hon rfl))
  clear hon
  go_wp2
  go_ret
  exact ⟨rfl, T2.out⟩

set_option maxRecDepth 20000 in
set_option maxHeartbeats 3200000 in
theorem specRo_any (s : ByteArray) (b : Value) (zs : List Int) (w : World) (h : JRow w b zs) (hs : s.size ≤ 1048576) : Calls Try.prog 31 #[.agg #[.string s, b]] w (LstO (trS s zs) (tkB s zs) w) := by
  have A := Lib.hid (Cells.made w (tkv s b) 40)
  have Ba := Lib.hid (below_al1 w (.cells (tkv s b).toArray 40))
  have HB := Lib.hid (fun w1 (hb : Below (w.heap.size + 1) (w.alloc (.cells (tkv s b).toArray 40)) w1) => (show Below w.heap.size w w1 from Ba.out.trans (hb.mono (Nat.le_succ _))))
  have HA := Lib.hid (fun w1 (hb : Below (w.heap.size + 1) (w.alloc (.cells (tkv s b).toArray 40)) w1) => (show w1.cell? ⟨w.heap.size, 1, none⟩ = some b from (A.out.kept (by simpa using hb)).at 1 rfl))
  have HZ := Lib.hid (fun w1 (hb : Below (w.heap.size + 1) (w.alloc (.cells (tkv s b).toArray 40)) w1) => (show w.heap.size + 1 ≤ w1.heap.size from by have := hb.size; simpa using this))
  have HG := Lib.hid (specTkP_any s b zs w.heap.size (w.alloc (.cells (tkv s b).toArray 40)) (h.below Ba.out) hs (A.out.at 0 rfl) (A.out.at 1 rfl))
  have B1 := Lib.hid (Below.refl (w.heap.size + 1) (w.alloc (.cells (tkv s b).toArray 40)))
  have FN := Lib.hid (fun (e : tkB s zs = false) w1 (hb : Below w.heap.size w w1) => tr_no e hb)
  have FY := Lib.hid (fun (e : tkB s zs = true) v ys w1 hm ho (hb : Below w.heap.size w w1) => @tr_yes s zs v ys (w.heap.size + 1) w w1 e hm ho (Nat.le_succ _) hb)
  have LE := Lib.hid (fun k => show trL zs (k + 1) = trL zs k ++ [trV (zs.getD k 0)] from rfl)
  have LN := Lib.hid (fun k => trL_len zs k)
  have L0 := Lib.hid (show trL zs 0 = [] from rfl)
  have LB := Lib.hid (fun (e : tkB s zs = true) => tkB_len e)
  have HC := Lib.hid (fun w1 (hb : Below w.heap.size w w1) (hn : 1 ≤ zs.length) => (h.below hb).cells hn)
  have HL := Lib.hid h.len
  obtain ⟨a, cap, rfl⟩ := h.shape
  clear h A Ba hs
  generalize trS s zs = S at *
  generalize zs.length = n at *
  cases B0 : tkB s zs
  · skip
    have HR := Lib.hid B0
    have E := Lib.hid (FN.out B0)
    clear B0 FN FY LB HC
    go_enter Try.func31, Try.ntmps31
    go_wp2_with fail
    refine HG.out.mono ?_
    rw [HR.out]
    rintro e w' ⟨rfl, rfl⟩
    go_wp2
    go_ret2
    exact E.out _ (HB.out _ B1.out)
  · skip
    have HR := Lib.hid B0
    have hn := (LB.out B0).1
    have hm := (LB.out B0).2
    have E := Lib.hid (FY.out B0)
    clear B0 FN FY LB
    go_enter Try.func31, Try.ntmps31
    go_wp2_with fail
    refine HG.out.mono ?_
    rw [HR.out]
    rintro e w' ⟨rfl, rfl⟩
    have c1 := HA.out _ B1.out
    have c2 := HA.out ((w.alloc (.cells (tkv s (.slice a n cap)).toArray 40)).alloc (.cells #[] 29)) (B1.out.alloc (by simp) _)
    have OE : Hid (Own ((w.alloc (.cells (tkv s (.slice a n cap)).toArray 40)).alloc (.cells #[] 29)) (w.heap.size + 1) (.slice (some ⟨w.heap.size + 1, 0, none⟩) 0 0) []) := Lib.hid (by have e := Own.empty (w.alloc (.cells (tkv s (.slice a n cap)).toArray 40)) (w.heap.size + 1) (by simp); rw [show (w.alloc (.cells (tkv s (.slice a n cap)).toArray 40)).heap.size = w.heap.size + 1 from by simp] at e; exact e)
    go_wp2
    go_loopw [4, 5, 12] (fun q _ i wr => ∃ k : Nat, k ≤ n ∧ i = .int .i64 k ∧ Hid (∃ ys : List Nat, Own wr (w.heap.size + 1) q ys ∧ ys.map (cn .f32) = trL zs k) ∧ Hid (Below (w.heap.size + 1) (w.alloc (.cells (tkv s (.slice a n cap)).toArray 40)) wr)) (fun _ _ i _ => n - (intOf i).toNat)
    case atStart => exact ⟨0, Nat.zero_le _, rfl, Lib.hid ⟨[], (by first | exact Own.nilT _ _ | exact OE.out), by rw [L0.out]; rfl⟩, Lib.hid (by first | exact B1.out | exact B1.out.alloc (by simp) _)⟩
    case round =>
      obtain ⟨k, hk, rfl, HO, B2⟩ := hrel
      have hs2 := Lib.hid (HZ.out _ B2.out)
      have gL := HL.out
      obtain ⟨ys, O2, HM⟩ := HO.out
      have O2 := Lib.hid O2
      have HM := Lib.hid HM
      clear HO
      have QZ := Lib.hid (show ys.length ≤ 1048576 by rw [len_of_map HM.out, LN.out]; omega)
      by_cases hlt : k < n
      · obtain ⟨b0, o0, c0, e, hc⟩ := HC.out wr (HB.out _ B2.out) (by omega)
        have ea : a = some ⟨b0, o0, none⟩ := by cases e; rfl
        have z0 := hc k hlt
        have c1 := HA.out wr B2.out
        have LEk := Lib.hid (LE.out k)
        clear e hc
        subst ea
        have hi : (0 : Int) ≤ (k : Int) := by omega
        have hi' : (k : Int) < (n : Int) := by omega
        generalize zs.getD k 0 = x at *
        go_wp2_with (refine wpList_farith rfl _ _ _ _ _ rfl rfl _ _ _ rfl rfl ?_; intro r0 j0 g0; have f0 := Lib.hid g0; clear g0; refine Stop.go ?_)
        refine Stop.mk ?_
        have NV := Lib.hid (trV_of f0.out)
        clear f0 c1 z0
        go_wp2_with (at_builtin; refine wpList_app32 rfl _ _ rfl (w.heap.size + 1) _ ys rfl ((O2.out.drewN _).al _) _ r0 _ rfl ((World.cell?_alloc_at _ _ _ _ (by simp)).trans rfl) QZ.out (by have := hs2.out; simp; omega) ?_; intro v' w3 hown' hb; have O3 := Lib.hid hown'; have B3 := Lib.hid (((below_drewN B2.out _).alloc (by have := hs2.out; simp; omega) _).trans hb); clear hown' hb)
        go_roundw
        case rel => exact ⟨k + 1, by omega, by go_num, Lib.hid ⟨ys ++ [r0], O3.out, by rw [LEk.out]; exact map_snocT HM.out NV.out⟩, B3⟩
        case measure => simp [intOf]; omega
      · obtain rfl : k = n := by omega
        go_wp2
        go_ret2
        exact E.out _ ys _ HM.out O2.out (HB.out _ B2.out)

set_option maxRecDepth 20000 in
set_option maxHeartbeats 3200000 in
theorem implRo_any (s : ByteArray) (b : Value) (zs : List Int) (w : World) (h : JRow w b zs) : Calls Try.prog 32 #[.agg #[.string s, b]] w (LstO (trS s zs) (tkB s zs) w) := by
  have A := Lib.hid (Cells.made w (tkv s b) 40)
  have Ba := Lib.hid (below_al1 w (.cells (tkv s b).toArray 40))
  have HB := Lib.hid (fun w1 (hb : Below (w.heap.size + 1) (w.alloc (.cells (tkv s b).toArray 40)) w1) => (show Below w.heap.size w w1 from Ba.out.trans (hb.mono (Nat.le_succ _))))
  have HA := Lib.hid (fun w1 (hb : Below (w.heap.size + 1) (w.alloc (.cells (tkv s b).toArray 40)) w1) => (show w1.cell? ⟨w.heap.size, 1, none⟩ = some b from (A.out.kept (by simpa using hb)).at 1 rfl))
  have HZ := Lib.hid (fun w1 (hb : Below (w.heap.size + 1) (w.alloc (.cells (tkv s b).toArray 40)) w1) => (show w.heap.size + 1 ≤ w1.heap.size from by have := hb.size; simpa using this))
  have HG := Lib.hid (implTk_any s b zs (w.alloc (.cells (tkv s b).toArray 40)) (h.below Ba.out))
  have B1 := Lib.hid (Below.refl (w.heap.size + 1) (w.alloc (.cells (tkv s b).toArray 40)))
  have FN := Lib.hid (fun (e : tkB s zs = false) w1 (hb : Below w.heap.size w w1) => tr_no e hb)
  have FY := Lib.hid (fun (e : tkB s zs = true) v ys w1 hm ho (hb : Below w.heap.size w w1) => @tr_yes s zs v ys (w.heap.size + 1) w w1 e hm ho (Nat.le_succ _) hb)
  have LE := Lib.hid (fun k => show trL zs (k + 1) = trL zs k ++ [trV (zs.getD k 0)] from rfl)
  have LN := Lib.hid (fun k => trL_len zs k)
  have L0 := Lib.hid (show trL zs 0 = [] from rfl)
  have LB := Lib.hid (fun (e : tkB s zs = true) => tkB_len e)
  have HC := Lib.hid (fun w1 (hb : Below w.heap.size w w1) (hn : 1 ≤ zs.length) => (h.below hb).cells hn)
  have HL := Lib.hid h.len
  obtain ⟨a, cap, rfl⟩ := h.shape
  clear h A Ba
  generalize trS s zs = S at *
  generalize zs.length = n at *
  cases B0 : tkB s zs
  · skip
    have HR := Lib.hid B0
    have E := Lib.hid (FN.out B0)
    clear B0 FN FY LB HC
    go_enter Try.func32, Try.ntmps32
    go_wp2_with fail
    refine HG.out.mono ?_
    rw [HR.out]
    rintro e w2 ⟨rfl, hb⟩
    have B1 := Lib.hid (B1.out.trans (by simpa using hb))
    clear hb
    go_wp2
    go_ret2
    exact E.out _ (HB.out _ B1.out)
  · skip
    have HR := Lib.hid B0
    have hn := (LB.out B0).1
    have hm := (LB.out B0).2
    have E := Lib.hid (FY.out B0)
    clear B0 FN FY LB
    go_enter Try.func32, Try.ntmps32
    go_wp2_with fail
    refine HG.out.mono ?_
    rw [HR.out]
    rintro e w2 ⟨rfl, hb⟩
    have B1 := Lib.hid (B1.out.trans (by simpa using hb))
    clear hb
    have c1 := HA.out _ B1.out
    go_wp2
    go_loopw [4, 6, 13] (fun q _ i wr => ∃ k : Nat, k ≤ n ∧ i = .int .i64 k ∧ Hid (∃ ys : List Nat, Own wr (w.heap.size + 1) q ys ∧ ys.map (cn .f32) = trL zs k) ∧ Hid (Below (w.heap.size + 1) (w.alloc (.cells (tkv s (.slice a n cap)).toArray 40)) wr)) (fun _ _ i _ => n - (intOf i).toNat)
    case atStart => exact ⟨0, Nat.zero_le _, rfl, Lib.hid ⟨[], (by first | exact Own.nilT _ _ | exact OE.out), by rw [L0.out]; rfl⟩, Lib.hid (by first | exact B1.out | exact B1.out.alloc (by simp) _)⟩
    case round =>
      obtain ⟨k, hk, rfl, HO, B2⟩ := hrel
      have hs2 := Lib.hid (HZ.out _ B2.out)
      have gL := HL.out
      obtain ⟨ys, O2, HM⟩ := HO.out
      have O2 := Lib.hid O2
      have HM := Lib.hid HM
      clear HO
      have QZ := Lib.hid (show ys.length ≤ 1048576 by rw [len_of_map HM.out, LN.out]; omega)
      by_cases hlt : k < n
      · obtain ⟨b0, o0, c0, e, hc⟩ := HC.out wr (HB.out _ B2.out) (by omega)
        have ea : a = some ⟨b0, o0, none⟩ := by cases e; rfl
        have z0 := hc k hlt
        have c1 := HA.out wr B2.out
        have LEk := Lib.hid (LE.out k)
        clear e hc
        subst ea
        have hi : (0 : Int) ≤ (k : Int) := by omega
        have hi' : (k : Int) < (n : Int) := by omega
        generalize zs.getD k 0 = x at *
        go_wp2_with (refine wpList_farith rfl _ _ _ _ _ rfl rfl _ _ _ rfl rfl ?_; intro r0 j0 g0; have f0 := Lib.hid g0; clear g0; refine Stop.go ?_)
        refine Stop.mk ?_
        have NV := Lib.hid (trV_of f0.out)
        clear f0 c1 z0
        go_wp2_with (at_builtin; refine wpList_app32 rfl _ _ rfl (w.heap.size + 1) _ ys rfl ((O2.out.drewN _).al _) _ r0 _ rfl ((World.cell?_alloc_at _ _ _ _ (by simp)).trans rfl) QZ.out (by have := hs2.out; simp; omega) ?_; intro v' w3 hown' hb; have O3 := Lib.hid hown'; have B3 := Lib.hid (((below_drewN B2.out _).alloc (by have := hs2.out; simp; omega) _).trans hb); clear hown' hb)
        go_roundw
        case rel => exact ⟨k + 1, by omega, by go_num, Lib.hid ⟨ys ++ [r0], O3.out, by rw [LEk.out]; exact map_snocT HM.out NV.out⟩, B3⟩
        case measure => simp [intOf]; omega
      · obtain rfl : k = n := by omega
        go_wp2
        go_ret2
        exact E.out _ ys _ HM.out O2.out (HB.out _ B2.out)

end Go.Proofs.Ytabdinmodopadaa
