/- What a track packs: both sides, and the law. -/
import Derived.Test.YtabdinmodopadaaPak
import Derived.Test.YtabdinmodopadaaHnd
import Derived.Test.YtabdinmodopadaaLstJ
import Derived.Laws.BytesArg
namespace Go.Proofs.Ytabdinmodopadaa
open Go.RowKit
set_option linter.unusedVariables false

def lastZ (zs : List Int) : Nat → Int
  | 0 => 0
  | k + 1 => zs.getD k 0
def pkL (zs : List Int) : Nat → List Int
  | 0 => []
  | k + 1 => pkL zs k ++ pkN (stN (zs.getD k 0 - lastZ zs k))
theorem allZ_at {f : Int → Bool} {zs : List Int} (h : zs.all f = true) (k : Nat) (hk : k < zs.length) : f (zs.getD k 0) = true := by
  rw [List.all_eq_true] at h
  have : zs.getD k 0 = zs[k] := by simp [List.getD_eq_getElem?_getD, hk]
  rw [this]; exact h _ (List.getElem_mem _)
theorem hns_at {zs : List Int} (h : hns zs = true) (k : Nat) (hk : k < zs.length) : -27315 ≤ zs.getD k 0 ∧ zs.getD k 0 ≤ 200000 := by
  unfold hns at h
  rw [Bool.and_eq_true] at h
  have := allZ_at h.2 k hk
  unfold hnd at this
  simpa using this
theorem lastZ_bd {zs : List Int} (h : hns zs = true) : ∀ k, k ≤ zs.length → -27315 ≤ lastZ zs k ∧ lastZ zs k ≤ 200000
  | 0, _ => by show -27315 ≤ (0 : Int) ∧ (0 : Int) ≤ 200000; omega
  | k + 1, hk => hns_at h k (by omega)
theorem pkL_len {zs : List Int} (h : hns zs = true) : ∀ k, k ≤ zs.length → k ≤ (pkL zs k).length ∧ (pkL zs k).length ≤ 3 * k
  | 0, _ => by unfold pkL; simp
  | k + 1, hk => by
    have a := pkL_len h k (by omega)
    have b := hns_at h k (by omega)
    have c := lastZ_bd h k (by omega)
    have d := pkN_len (stN_lt (z := zs.getD k 0 - lastZ zs k) (by omega))
    rw [pkL, List.length_append]
    omega
theorem stN_of {z aa : Int} (h1 : z < 0 → aa = -2 * z - 1) (h2 : ¬ z < 0 → aa = 2 * z) : aa = ((stN z : Nat) : Int) := by
  unfold stN
  by_cases hh : z < 0
  · rw [if_pos hh]; have := h1 hh; omega
  · rw [if_neg hh]; have := h2 hh; omega
def pkT (zs : List Int) : ByteArray := bif hns zs then strOfNums (pkL zs zs.length) else ⟨#[]⟩
def PkB (S : ByteArray) (b : Bool) (w : World) (e : Ending) (w' : World) : Prop := e = .returned (.tuple #[.string S, .bool b]) ∧ Below w.heap.size w w'

set_option maxRecDepth 10000 in
set_option maxHeartbeats 3200000 in
theorem specPl_any (v : Value) (zs : List Int) (w : World) (h : JRow w v zs) (hv : hns zs = true) : Calls Try.prog 60 #[v] w fun e w' => e = .returned (.string (strOfNums (pkL zs zs.length))) ∧ Below w.heap.size w w' := by
  have HC := Lib.hid (fun w1 (hb : Below w.heap.size w w1) (hn : 1 ≤ zs.length) => (h.below hb).cells hn)
  have HL := Lib.hid h.len
  have PLN := Lib.hid (fun k hk => pkL_len (zs := zs) hv k hk)
  have PLE := Lib.hid (fun k => show pkL zs (k + 1) = pkL zs k ++ pkN (stN (zs.getD k 0 - lastZ zs k)) from rfl)
  have LZE := Lib.hid (fun k => show lastZ zs (k + 1) = zs.getD k 0 from rfl)
  have HX := Lib.hid (fun k hk => hns_at (zs := zs) hv k hk)
  have HLZ := Lib.hid (fun k hk => lastZ_bd (zs := zs) hv k hk)
  have hn := (hns_len hv).1
  have hm := (hns_len hv).2
  obtain ⟨a, cap, rfl⟩ := h.shape
  clear h hv
  generalize zs.length = n at *
  have B1 := Lib.hid (Below.refl w.heap.size w)
  go_enter Try.func60, Try.ntmps60
  go_wp2
  go_loopw [3, 4, 5, 6, 7, 11] (fun q l _ _ _ i wr => ∃ k : Nat, k ≤ n ∧ i = .int .i64 k ∧ l = .int .i64 (lastZ zs k) ∧ Hid (OwnU wr w.heap.size q (pkL zs k)) ∧ Hid (Below w.heap.size w wr)) (fun _ _ _ _ _ i _ => n - (intOf i).toNat)
  case atStart => exact ⟨0, Nat.zero_le _, rfl, rfl, Lib.hid (by first | exact OwnU.nil _ _ | exact OwnU.empty _ _ (by first | exact Nat.le_refl _ | exact B1.out.size)), Lib.hid (by first | exact B1.out | exact B1.out.alloc (by first | exact Nat.le_refl _ | exact B1.out.size) _)⟩
  case round =>
    obtain ⟨k, hk, rfl, rfl, O2, B2⟩ := hrel
    have hs2 := Lib.hid B2.out.size
    have gL := HL.out
    have PL := Lib.hid (PLN.out k hk)
    by_cases hlt : k < n
    · obtain ⟨b0, o0, c0, e, hc⟩ := HC.out wr B2.out (by omega)
      have ea : a = some ⟨b0, o0, none⟩ := by cases e; rfl
      have z0 := hc k hlt
      clear e hc
      subst ea
      have LE := Lib.hid (PLE.out k)
      have LZ := Lib.hid (LZE.out k)
      have PN := Lib.hid (PLN.out (k + 1) hlt)
      have hx := HX.out k hlt
      have hl := HLZ.out k hk
      have hi : (0 : Int) ≤ (k : Int) := by omega
      have hi' : (k : Int) < (n : Int) := by omega
      generalize zs.getD k 0 = x at *
      generalize lastZ zs k = lz at *
      have SB := Lib.hid (stN_lt (z := x - lz) (by omega))
      have TL : Hid ((pkL zs k ++ pkN (stN (x - lz))).length ≤ 1048576) := Lib.hid (by rw [← LE.out]; have := PN.out; omega)
      have HBy := Lib.hid (fun (aa : Int) (ha : aa = ((stN (x - lz) : Nat) : Int)) (qq : Value) w1 (ho : OwnU w1 w.heap.size qq (pkL zs k)) (hb : w.heap.size ≤ w1.heap.size) => (show Calls Try.prog 81 #[qq, .int .i64 aa] w1 (fun e w' => ∃ v, e = .returned v ∧ OwnU w' w.heap.size v (pkL zs k ++ pkN (stN (x - lz))) ∧ Below w.heap.size w1 w') from by rw [ha]; exact specBy_any qq _ _ _ w1 ho hb SB.out TL.out))
      have NN := Lib.hid (show ∀ aa : Int, (x - lz < 0 → aa = -2 * (x - lz) - 1) → (¬ x - lz < 0 → aa = 2 * (x - lz)) → aa = ((stN (x - lz) : Nat) : Int) from fun aa h1 h2 => stN_of h1 h2)
      have hd0 : -227315 ≤ x - lz := by omega
      have hd1 : x - lz ≤ 227315 := by omega
      by_cases hg : x - lz < 0
      · skip
        go_wp2_with fail
        refine (HBy.out _ (NN.out _ (fun h => by omega) (fun h => by omega)) _ _ O2.out hs2.out).mono ?_
        rintro e w3 ⟨v', rfl, ho, hb⟩
        have O3 := Lib.hid ho
        have B3 := Lib.hid (B2.out.trans hb)
        clear ho hb
        go_wp2
        go_roundw
        case rel => exact ⟨k + 1, by omega, by go_num, by rw [LZ.out], Lib.hid (by rw [LE.out]; exact O3.out), B3⟩
        case measure => simp [intOf]; omega
      · skip
        go_wp2_with fail
        refine (HBy.out _ (NN.out _ (fun h => by omega) (fun h => by omega)) _ _ O2.out hs2.out).mono ?_
        rintro e w3 ⟨v', rfl, ho, hb⟩
        have O3 := Lib.hid ho
        have B3 := Lib.hid (B2.out.trans hb)
        clear ho hb
        go_wp2
        go_roundw
        case rel => exact ⟨k + 1, by omega, by go_num, by rw [LZ.out], Lib.hid (by rw [LE.out]; exact O3.out), B3⟩
        case measure => simp [intOf]; omega
    · obtain rfl : k = n := by omega
      obtain ⟨g, cap2, rfl⟩ := O2.out.openS (by have := PL.out; omega)
      have hcv := run_convert_bytes_arg (P := Try.prog) wr 71 5 Try.underlying71 Try.underlying5 g 0 (pkL zs k).length cap2 (pkL zs k) rfl (fun i hi => by rw [Nat.zero_add]; exact O2.out.cellAt i hi) 9 Try.underlying9
      go_wp2
      go_ret
      exact ⟨rfl, B2.out⟩

set_option maxRecDepth 10000 in
set_option maxHeartbeats 3200000 in
theorem implPkY_any (v : Value) (zs : List Int) (w : World) (h : JRow w v zs) (hv : hns zs = true) : Calls Try.prog 30 #[v] w (PkB (strOfNums (pkL zs zs.length)) true w) := by
  have HG := Lib.hid (implHns_any v zs w h)
  have HR := Lib.hid hv
  have HC := Lib.hid (fun w1 (hb : Below w.heap.size w w1) (hn : 1 ≤ zs.length) => (h.below hb).cells hn)
  have HL := Lib.hid h.len
  have PLN := Lib.hid (fun k hk => pkL_len (zs := zs) hv k hk)
  have PLE := Lib.hid (fun k => show pkL zs (k + 1) = pkL zs k ++ pkN (stN (zs.getD k 0 - lastZ zs k)) from rfl)
  have LZE := Lib.hid (fun k => show lastZ zs (k + 1) = zs.getD k 0 from rfl)
  have HX := Lib.hid (fun k hk => hns_at (zs := zs) hv k hk)
  have HLZ := Lib.hid (fun k hk => lastZ_bd (zs := zs) hv k hk)
  have hn := (hns_len hv).1
  have hm := (hns_len hv).2
  obtain ⟨a, cap, rfl⟩ := h.shape
  clear h hv
  generalize zs.length = n at *
  go_enter Try.func30, Try.ntmps30
  go_wp2_with fail
  refine HG.out.mono ?_
  rw [HR.out]
  rintro e w2 ⟨rfl, hb⟩
  have B1 := Lib.hid hb
  clear hb
  go_wp2
  go_loopw [4, 5, 7, 13] (fun q l _ i wr => ∃ k : Nat, k ≤ n ∧ i = .int .i64 k ∧ l = .int .i64 (lastZ zs k) ∧ Hid (OwnU wr w.heap.size q (pkL zs k)) ∧ Hid (Below w.heap.size w wr)) (fun _ _ _ i _ => n - (intOf i).toNat)
  case atStart => exact ⟨0, Nat.zero_le _, rfl, rfl, Lib.hid (by first | exact OwnU.nil _ _ | exact OwnU.empty _ _ (by first | exact Nat.le_refl _ | exact B1.out.size)), Lib.hid (by first | exact B1.out | exact B1.out.alloc (by first | exact Nat.le_refl _ | exact B1.out.size) _)⟩
  case round =>
    obtain ⟨k, hk, rfl, rfl, O2, B2⟩ := hrel
    have hs2 := Lib.hid B2.out.size
    have gL := HL.out
    have PL := Lib.hid (PLN.out k hk)
    by_cases hlt : k < n
    · obtain ⟨b0, o0, c0, e, hc⟩ := HC.out wr B2.out (by omega)
      have ea : a = some ⟨b0, o0, none⟩ := by cases e; rfl
      have z0 := hc k hlt
      clear e hc
      subst ea
      have LE := Lib.hid (PLE.out k)
      have LZ := Lib.hid (LZE.out k)
      have PN := Lib.hid (PLN.out (k + 1) hlt)
      have hx := HX.out k hlt
      have hl := HLZ.out k hk
      have hi : (0 : Int) ≤ (k : Int) := by omega
      have hi' : (k : Int) < (n : Int) := by omega
      generalize zs.getD k 0 = x at *
      generalize lastZ zs k = lz at *
      have SB := Lib.hid (stN_lt (z := x - lz) (by omega))
      have TL : Hid ((pkL zs k ++ pkN (stN (x - lz))).length ≤ 1048576) := Lib.hid (by rw [← LE.out]; have := PN.out; omega)
      go_wp2_with fail
      refine (implSt_any _ (x - lz) w.heap.size (pkL zs k) _ O2.out hs2.out (by omega) TL.out).mono ?_
      rintro e w3 ⟨v', rfl, ho, hb⟩
      have O3 := Lib.hid ho
      have B3 := Lib.hid (B2.out.trans hb)
      clear ho hb
      go_wp2
      go_roundw
      case rel => exact ⟨k + 1, by omega, by go_num, by rw [LZ.out], Lib.hid (by rw [LE.out]; exact O3.out), B3⟩
      case measure => simp [intOf]; omega
    · obtain rfl : k = n := by omega
      obtain ⟨g, cap2, rfl⟩ := O2.out.openS (by have := PL.out; omega)
      have hcv := run_convert_bytes_arg (P := Try.prog) wr 71 5 Try.underlying71 Try.underlying5 g 0 (pkL zs k).length cap2 (pkL zs k) rfl (fun i hi => by rw [Nat.zero_add]; exact O2.out.cellAt i hi) 9 Try.underlying9
      go_wp2
      go_ret2
      exact ⟨rfl, B2.out⟩

theorem specPk_any (v : Value) (zs : List Int) (w : World) (h : JRow w v zs) : Calls Try.prog 28 #[v] w (PkB (pkT zs) (hns zs) w) := by
  unfold pkT
  cases B0 : hns zs
  · have HR := Lib.hid B0
    have HG := Lib.hid (specHns_any v zs w h)
    obtain ⟨a, cap, rfl⟩ := h.shape
    clear h B0
    go_enter Try.func28, Try.ntmps28
    go_wp2_with fail
    refine HG.out.mono ?_
    rw [HR.out]
    rintro e w1 ⟨rfl, rfl⟩
    go_wp2
    go_ret2
    exact ⟨rfl, Below.refl _ _⟩
  · have HR := Lib.hid B0
    have HG := Lib.hid (specHns_any v zs w h)
    have HP := Lib.hid (specPl_any v zs w h B0)
    obtain ⟨a, cap, rfl⟩ := h.shape
    clear h B0
    go_enter Try.func28, Try.ntmps28
    go_wp2_with fail
    refine HG.out.mono ?_
    rw [HR.out]
    rintro e w1 ⟨rfl, rfl⟩
    go_wp2_with fail
    refine HP.out.mono ?_
    rintro e w2 ⟨rfl, hb⟩
    have B1 := Lib.hid hb
    clear hb
    go_wp2
    go_ret2
    exact ⟨rfl, B1.out⟩

theorem implPk_any (v : Value) (zs : List Int) (w : World) (h : JRow w v zs) : Calls Try.prog 30 #[v] w (PkB (pkT zs) (hns zs) w) := by
  unfold pkT
  cases B0 : hns zs
  · have HR := Lib.hid B0
    have HG := Lib.hid (implHns_any v zs w h)
    obtain ⟨a, cap, rfl⟩ := h.shape
    clear h B0
    go_enter Try.func30, Try.ntmps30
    go_wp2_with fail
    refine HG.out.mono ?_
    rw [HR.out]
    rintro e w1 ⟨rfl, hb⟩
    have B1 := Lib.hid hb
    clear hb
    go_wp2
    go_ret2
    exact ⟨rfl, B1.out⟩
  · exact implPkY_any v zs w h B0

set_option maxHeartbeats 1600000 in
theorem fnExactPackTrack_walk (v : Value) (zs : List Int) (w : World) (h' : IRow .i64 w v zs ∧ ∀ i, i < zs.length → (Lit.int .i64 (zs.getD i 0)).wf = true) : Calls Try.prog 6 #[v] w (Tru w) := by
  have h : JRow w v zs := h'.1
  clear h'
  have HL := Lib.hid h.len
  by_cases hl : zs.length ≤ 1048576
  · have HN := Lib.hid hl
    have A := Lib.hid h
    have Bw := Lib.hid (Below.refl w.heap.size w)
    have ZM : Hid (zs.length ≤ maxLen) := Lib.hid (Nat.le_trans hl (by decide))
    have CS := Lib.hid (fun v w1 (hr : JRow w1 v zs) => specPk_any v zs w1 hr)
    have CI := Lib.hid (fun v w1 (hr : JRow w1 v zs) => implPk_any v zs w1 hr)
    generalize pkT zs = S at *
    generalize hns zs = ok at *
    obtain ⟨a, cap, rfl⟩ := h.shape
    clear h
    go_enter Try.func6, Try.ntmps6
    go_wp2_with fail
    refine (toJ_own _ zs _ A.out HN.out).mono ?_
    rintro _ w1 ⟨rfl, hr, hb⟩
    have X := Lib.hid hr
    have Bw := Lib.hid (below_step Bw.out hb)
    have A := Lib.hid (A.out.below hb)
    clear hr hb
    go_wp2_with fail
    refine (CS.out _ _ (X.out.row ZM.out)).mono ?_
    rintro _ w2 ⟨rfl, hb⟩
    have Bw := Lib.hid (below_step Bw.out hb)
    have A := Lib.hid (A.out.below hb)
    clear hb X
    go_wp2_with fail
    refine (toJ_own _ zs _ A.out HN.out).mono ?_
    rintro _ w3 ⟨rfl, hr, hb⟩
    have X := Lib.hid hr
    have Bw := Lib.hid (below_step Bw.out hb)
    have A := Lib.hid (A.out.below hb)
    clear hr hb
    go_wp2_with fail
    refine (CI.out _ _ (X.out.row ZM.out)).mono ?_
    rintro _ w4 ⟨rfl, hb⟩
    have Bw := Lib.hid (below_step Bw.out hb)
    have A := Lib.hid (A.out.below hb)
    have X := Lib.hid (X.out.kept hb)
    clear hb
    go_wp2_with fail
    refine (toJ_own _ zs _ A.out HN.out).mono ?_
    rintro _ w5 ⟨rfl, hr, hb⟩
    have Z := Lib.hid hr
    have Bw := Lib.hid (below_step Bw.out hb)
    have X := Lib.hid (X.out.kept hb)
    clear hr hb
    go_wp2_with fail
    refine (eqJB2_any _ _ zs _ (X.out.row ZM.out) (Z.out.row ZM.out)).mono ?_
    rintro _ w6 ⟨rfl, hb⟩
    have Bw := Lib.hid (below_step Bw.out hb)
    clear hb
    go_wp2
    go_ret
    exact Tru.below Bw.out
  · obtain ⟨a, cap, rfl⟩ := h.shape
    clear h
    have gL := HL.out
    go_enter Try.func6, Try.ntmps6
    go_wp2
    go_ret
    exact Tru.same

end Go.Proofs.Ytabdinmodopadaa
