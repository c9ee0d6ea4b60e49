/- Tracks: sizes, equality, validity. -/
import Derived.Test.YtabdinmodopadaaTrk
namespace Go.Proofs.Ytabdinmodopadaa
open Go.RowKit
set_option linter.unusedVariables false

def YesT (w : World) (e : Ending) (w' : World) : Prop := e = .returned (.bool true) ∧ Below w.heap.size w w'
theorem szJ_fit (a : Option Addr) (n c left : Nat) (w : World) (hn : n ≤ left) (hl : left ≤ 1048576) :
    Calls Try.prog 55 #[.slice a n c, .int .i64 left] w fun e w' => e = .returned (.int .i64 ((left - n : Nat) : Int)) ∧ w = w' := by
  have e : ((left : Int) - (n : Int)) = ((left - n : Nat) : Int) := by omega
  go_enter Try.func55, Try.ntmps55
  go_wp2
  go_ret
  exact ⟨by simp, rfl⟩
theorem szJ_over (a : Option Addr) (n c left : Nat) (w : World) (hn : left < n) (hm : n ≤ 9223372036854775807) (hl : left ≤ 1048576) :
    Calls Try.prog 55 #[.slice a n c, .int .i64 left] w fun e w' => e = .returned (.int .i64 (-1)) ∧ w = w' := by
  go_enter Try.func55, Try.ntmps55
  go_wp2
  go_ret
  exact ⟨rfl, rfl⟩
theorem szTk_fit (s : ByteArray) (b : Value) (zs : List Int) (w : World) (h : JRow w b zs) (hl : s.size + zs.length ≤ 1048576) :
    Calls Try.prog 23 #[.agg #[.string s, b], .int .i64 1048576] w fun e w' => e = .returned (.int .i64 ((1048576 - s.size - zs.length : Nat) : Int)) ∧ Below w.heap.size w w' := by
  obtain ⟨a1, a2, rfl⟩ := h.shape
  have e : ((1048576 : Int) - (s.size : Int)) = ((1048576 - s.size : Nat) : Int) := by omega
  have L := Lib.hid hl
  have L1 : Hid (zs.length ≤ 1048576 - s.size) := Lib.hid (by omega)
  generalize zs.length = n at *
  clear h
  generalize hq : s.size = q at *
  go_enter Try.func23, Try.ntmps23
  go_wp2_with fail
  refine (szJ_fit _ _ _ (1048576 - q) _ L1.out (by omega)).mono ?_
  rintro _ _ ⟨rfl, rfl⟩
  go_wp2
  go_ret
  exact ⟨rfl, below_al1 _ _⟩
theorem szTk_over (s : ByteArray) (b : Value) (zs : List Int) (w : World) (h : JRow w b zs) (hs : s.size ≤ 9223372036854775807) (hl : 1048576 < s.size + zs.length) :
    Calls Try.prog 23 #[.agg #[.string s, b], .int .i64 1048576] w fun e w' => e = .returned (.int .i64 (-1)) ∧ Below w.heap.size w w' := by
  have gL := h.len
  obtain ⟨a1, a2, rfl⟩ := h.shape
  have L := Lib.hid hl
  generalize zs.length = n at *
  clear h
  generalize hq : s.size = q at *
  by_cases g : q ≤ 1048576
  · have e : ((1048576 : Int) - (q : Int)) = ((1048576 - q : Nat) : Int) := by omega
    have L1 : Hid (1048576 - q < n) := Lib.hid (by omega)
    have G := Lib.hid gL
    go_enter Try.func23, Try.ntmps23
    go_wp2_with fail
    refine (szJ_over _ _ _ (1048576 - q) _ L1.out G.out (by omega)).mono ?_
    rintro _ _ ⟨rfl, rfl⟩
    go_wp2
    go_ret
    exact ⟨rfl, below_al1 _ _⟩
  · have hlt : (1048576 : Int) - (q : Int) < 0 := by omega
    go_enter Try.func23, Try.ntmps23
    go_wp2
    go_ret
    exact ⟨rfl, below_al1 _ _⟩
theorem eqTk_any (s : ByteArray) (b b' : Value) (zs : List Int) (w : World) (h : JRow w b zs) (h' : JRow w b' zs) : Calls Try.prog 27 #[.agg #[.string s, b], .agg #[.string s, b']] w (YesT w) := by
  have R := Lib.hid (fun w1 (hb : Below w.heap.size w w1) => h.below hb)
  have R' := Lib.hid (fun w1 (hb : Below w.heap.size w w1) => h'.below hb)
  clear h h'
  go_enter Try.func27, Try.ntmps27
  go_wp2_with fail
  refine (eqJB2_any b b' zs _ (R.out _ (by first | exact below_al2 _ _ _ | exact below_drewN (below_al2 _ _ _) _)) (R'.out _ (by first | exact below_al2 _ _ _ | exact below_drewN (below_al2 _ _ _) _))).mono ?_
  rintro _ w9 ⟨rfl, hb⟩
  have Bw := Lib.hid (below_step (w := w) (by first | exact below_al2 _ _ _ | exact below_drewN (below_al2 _ _ _) _) hb)
  clear hb
  go_wp2
  go_ret
  exact ⟨rfl, Bw.out⟩
theorem specTkP_any (s : ByteArray) (b : Value) (zs : List Int) (p : Nat) (w : World) (h : JRow w b zs) (hs : s.size ≤ 1048576) (c0 : w.cell? ⟨p, 0, none⟩ = some (.string s)) (c1 : w.cell? ⟨p, 1, none⟩ = some b) : Calls Try.prog 56 #[.pointer (some ⟨p, 0, none⟩)] w (BolS (tkB s zs) w) := by
  have HN := Lib.hid (specNm_any s w hs)
  have HH := Lib.hid (specHns_any b zs w h)
  have GE := Lib.hid (show tkB s zs = (isN s && hns zs) from rfl)
  clear h hs
  generalize tkB s zs = B at *
  cases B0 : isN s
  · have E := Lib.hid (GE.out.trans (by rw [B0]; rfl : _ = false))
    have H0 := Lib.hid B0
    clear B0 GE
    go_enter Try.func56, Try.ntmps56
    go_wp2_with fail
    refine HN.out.mono ?_
    rw [H0.out]
    rintro e w' ⟨rfl, rfl⟩
    go_wp2
    go_ret
    exact ⟨ret_b E.out, rfl⟩
  · have E := Lib.hid (GE.out.trans (by rw [B0]; rfl : _ = hns zs))
    have H0 := Lib.hid B0
    clear B0 GE
    go_enter Try.func56, Try.ntmps56
    go_wp2_with fail
    refine HN.out.mono ?_
    rw [H0.out]
    rintro e w' ⟨rfl, rfl⟩
    go_wp2_with fail
    refine HH.out.mono ?_
    rintro e w' ⟨rfl, rfl⟩
    go_wp2
    go_ret
    exact ⟨ret_b E.out, rfl⟩
theorem specTk_any (s : ByteArray) (b : Value) (zs : List Int) (w : World) (h : JRow w b zs) (hs : s.size ≤ 1048576) : Calls Try.prog 24 #[.agg #[.string s, b]] w (BolB (tkB s zs) w) := by
  have A := Lib.hid (Cells.made w (tkv s b) 40)
  have Bw := Lib.hid (below_al1 w (.cells (tkv s b).toArray 40))
  have HT := Lib.hid (specTkP_any s b zs w.heap.size _ (h.below Bw.out) hs (A.out.at 0 rfl) (A.out.at 1 rfl))
  clear h hs
  go_enter Try.func24, Try.ntmps24
  go_wp2_with fail
  refine HT.out.mono ?_
  rintro e w' ⟨rfl, rfl⟩
  go_wp2
  go_ret
  exact ⟨rfl, Bw.out⟩
set_option maxHeartbeats 800000 in
theorem implTk_any (s : ByteArray) (b : Value) (zs : List Int) (w : World) (h : JRow w b zs) : Calls Try.prog 26 #[.agg #[.string s, b]] w (BolB (tkB s zs) w) := by
  have A := Lib.hid (Cells.made w (tkv s b) 40)
  have Bw := Lib.hid (below_al1 w (.cells (tkv s b).toArray 40))
  have HN := Lib.hid (implName_any s (w.alloc (.cells (tkv s b).toArray 40)))
  have HH := Lib.hid (fun w1 (hb : Below w.heap.size w w1) => implHns_any b zs w1 (h.below hb))
  have GE := Lib.hid (show tkB s zs = (isN s && hns zs) from rfl)
  clear h
  generalize tkB s zs = B at *
  cases B0 : isN s
  · have E := Lib.hid (GE.out.trans (by rw [B0]; rfl : _ = false))
    have H0 := Lib.hid B0
    clear B0 GE
    go_enter Try.func26, Try.ntmps26
    go_wp2_with fail
    refine HN.out.mono ?_
    rw [H0.out]
    rintro e w1 ⟨rfl, hb⟩
    have Bw := Lib.hid (below_step Bw.out hb)
    clear hb
    go_wp2
    go_ret
    exact ⟨ret_b E.out, Bw.out⟩
  · have E := Lib.hid (GE.out.trans (by rw [B0]; rfl : _ = hns zs))
    have H0 := Lib.hid B0
    clear B0 GE
    go_enter Try.func26, Try.ntmps26
    go_wp2_with fail
    refine HN.out.mono ?_
    rw [H0.out]
    rintro e w1 ⟨rfl, hb⟩
    have B1 := Lib.hid (below_step Bw.out hb)
    have A1 := Lib.hid (A.out.kept hb)
    have c1 := A1.out.at 1 rfl
    clear hb
    go_wp2_with fail
    refine (HH.out _ B1.out).mono ?_
    rintro e w2 ⟨rfl, hb⟩
    have B2 := Lib.hid (below_step B1.out hb)
    clear hb
    go_wp2
    go_ret
    exact ⟨ret_b E.out, B2.out⟩

end Go.Proofs.Ytabdinmodopadaa
