/- The text of a list of integers: both sides. -/
import Derived.Test.YthedpbdeahieaaaDoorDecI
import Derived.Test.YthedpbdeahieaaaDoorJoinM
import Derived.Test.YthedpbdeahieaaaDoorAppZ
import Derived.Test.YthedpbdeahieaaaDoorJRow
import Derived.Test.YthedpbdeahieaaaDoorIn
import Derived.Deep.OwnRows
namespace Go.Proofs.YthedpbdeahieaaaDoor
open Go.RowKit
set_option linter.unusedVariables false

/-- the text of integers -/
def lTx (zs : List Int) : ByteArray := bif zs.isEmpty then ⟨#[110, 111, 110, 101]⟩ else jn 44 (zs.map decZ)
def inV (n : Int) : Bool := decide (-1000000000000000 ≤ n) && decide (n ≤ 1000000000000000)
theorem inV_iff {n : Int} : inV n = true ↔ -1000000000000000 ≤ n ∧ n ≤ 1000000000000000 := by unfold inV; simp
theorem decZ_size (k : Int) (h0 : -9223372036854775808 ≤ k) (h1 : k ≤ 9223372036854775807) : (decZ k).size ≤ 21 := by
  unfold decZ
  rw [strOfNums_size]
  unfold decN
  have := ddig_len 19 k.natAbs (by omega)
  split
  · simp only [List.length_cons]; omega
  · omega
theorem decs_le (zs : List Int) (h : ∀ z ∈ zs, -9223372036854775808 ≤ z ∧ z ≤ 9223372036854775807) : ∀ x ∈ zs.map decZ, x.size ≤ 21 := by
  intro x hx
  obtain ⟨z, hz, rfl⟩ := List.mem_map.1 hx
  exact decZ_size z (h z hz).1 (h z hz).2
theorem getD_someI {zs : List Int} {k : Nat} (h : k < zs.length) : zs[k]? = some (zs.getD k 0) := by
  simp [List.getD_eq_getElem?_getD, h]
theorem implVT_yes (n : Int) (w : World) (h : inV n = true) (ht : Tabs w) : Calls Tryd.prog 63 #[.int .i64 n] w fun e w' => e = .returned (.tuple #[.string (decZ n), .bool true]) ∧ Below w.heap.size w w' := by
  obtain ⟨h1, h2⟩ := inV_iff.1 h
  have HD := Lib.hid (implDec_any n w (by omega) (by omega) ht)
  have d1 : decide (-1000000000000000 ≤ n) = true := by simpa using h1
  have d2 : decide (n ≤ 1000000000000000) = true := by simpa using h2
  clear h ht
  go_enter Tryd.func63, Tryd.ntmps63
  go_wp2_with (first | (go_at_call 24; refine HD.out.mono ?_; rintro e w1 ⟨rfl, hb⟩; have B := Lib.hid hb; clear hb) | go_in)
  go_ret2
  exact ⟨rfl, B.out⟩
theorem implVT_no (n : Int) (w : World) (h : inV n = false) : Calls Tryd.prog 63 #[.int .i64 n] w fun e w' => e = .returned (.tuple #[.string ⟨#[]⟩, .bool false]) ∧ Below w.heap.size w w' := by
  by_cases h1 : -1000000000000000 ≤ n
  · have h2 : ¬ n ≤ 1000000000000000 := fun h2 => by rw [inV_iff.2 ⟨h1, h2⟩] at h; cases h
    have d2 : decide (n ≤ 1000000000000000) = false := by simpa using h2
    clear h
    go_enter Tryd.func63, Tryd.ntmps63
    go_wp2
    go_ret2
    exact ⟨rfl, Below.refl _ _⟩
  · have d1 : decide (-1000000000000000 ≤ n) = false := by simpa using h1
    clear h
    go_enter Tryd.func63, Tryd.ntmps63
    go_wp2
    go_ret2
    exact ⟨rfl, Below.refl _ _⟩

set_option maxHeartbeats 1600000 in
set_option maxRecDepth 20000 in
theorem specLTx_any (v : Value) (zs : List Int) (w : World) (h : JRow w v zs) (hw : ∀ i, i < zs.length → -9223372036854775808 ≤ zs.getD i 0 ∧ zs.getD i 0 ≤ 9223372036854775807) (hl : zs.length ≤ 64) : Calls Tryd.prog 61 #[v] w fun e w' => e = .returned (.string (lTx zs)) ∧ Below w.heap.size w w' := by
  by_cases h0 : zs = []
  · subst h0
    obtain ⟨a, cap, rfl⟩ := h.shape
    go_enter Tryd.func61, Tryd.ntmps61
    go_wp2
    go_ret
    exact ⟨rfl, Below.refl _ _⟩
  · have hn : 1 ≤ zs.length := by
      cases zs with
      | nil => exact absurd rfl h0
      | cons x r => simp
    have EN : lTx zs = jn 44 (zs.map decZ) := by
      unfold lTx
      cases zs with
      | nil => exact absurd rfl h0
      | cons x r => rfl
    rw [EN]
    have HH := Lib.hid (fun k (hk : k < zs.length) (w1 : World) => specDec_any (zs.getD k 0) w1 (hw k hk).1 (hw k hk).2)
    have HST := Lib.hid (fun k (hk : k < zs.length) => take_map_snoc decZ zs k _ (getD_someI hk))
    have HSZ := Lib.hid (fun k => jn_size 44 21 ((zs.take k).map decZ) (decs_le _ (fun z hz => by obtain ⟨j, hj, rfl⟩ := List.getElem_of_mem (List.mem_of_mem_take hz); have := hw j hj; rwa [List.getD_eq_getElem?_getD, List.getElem?_eq_getElem hj] at this)))
    have HZ := Lib.hid (fun k (hk : k < zs.length) => decZ_size (zs.getD k 0) (hw k hk).1 (hw k hk).2)
    obtain ⟨b, off, cap, rfl, hc⟩ := h.cells hn
    have HC := Lib.hid (fun (w1 : World) (hb : Below w.heap.size w w1) k (hk : k < zs.length) => (hb.cell (p := ⟨b, off + k, none⟩) (cell_lt (hc k hk))).trans (hc k hk))
    have HE : Hid ((zs.take zs.length).map decZ = zs.map decZ) := Lib.hid (by rw [List.take_length])
    have HN0 : Hid (∀ k, 1 ≤ k → k ≤ zs.length → (zs.take k).map decZ ≠ []) := Lib.hid (by
      intro k h1 h2 e
      have := congrArg List.length e
      rw [List.length_map, List.length_take, List.length_nil] at this; omega)
    clear hw h EN h0 hc
    generalize hlen : zs.length = n at *
    have HL := Lib.hid hlen
    clear hlen
    have c0 := (HC.out w (Below.refl _ _) 0 (by omega))
    rw [Nat.add_zero] at c0
    go_enter Tryd.func61, Tryd.ntmps61
    go_wp2_with fail
    refine (HH.out 0 (by omega) w).mono ?_
    rintro e w1 ⟨rfl, hb⟩
    have B1 := Lib.hid hb
    clear hb c0
    go_wp2
    go_loopw [3, 4] (fun v i wr => ∃ k : Nat, 1 ≤ k ∧ k ≤ n ∧ i = .int .i64 k ∧ v = .string (jn 44 ((zs.take k).map decZ)) ∧ Hid (Below w.heap.size w wr)) (fun _ i _ => n - (intOf i).toNat)
    case atStart =>
      refine ⟨1, by omega, hn, rfl, ?_, B1⟩
      have := HST.out 0 (by omega)
      rw [this]
      simp [jn_one]
    case round =>
      obtain ⟨k, h1, hk, rfl, rfl, hb⟩ := hrel
      by_cases hlt : k < n
      · have c0 := HC.out _ hb.out k hlt
        have HS : Hid (jn 44 ((zs.take (k + 1)).map decZ) = jn 44 ((zs.take k).map decZ) ++ ((⟨#[44]⟩ : ByteArray) ++ decZ (zs.getD k 0))) := Lib.hid (by rw [HST.out k hlt, jn_snoc _ _ _ (HN0.out k h1 hk)])
        have hz := HSZ.out k
        have hz2 := HZ.out k hlt
        rw [List.length_map, List.length_take] at hz
        have HA := Lib.hid (HH.out k hlt wr)
        generalize jn 44 ((zs.take k).map decZ) = t at *
        generalize decZ (zs.getD k 0) = y at *
        have n1 : ¬ (9223372036854775807 < t.size + (1 + y.size)) := by omega
        have n2 : ¬ (9223372036854775807 < 1 + y.size) := by omega
        clear hz hz2
        go_wp2_with fail
        refine HA.out.mono ?_
        rintro e w2 ⟨rfl, hb2⟩
        have B2 := Lib.hid (below_step hb.out hb2)
        clear hb2 c0
        go_wp2
        refine ⟨⟨k + 1, by omega, by omega, by go_num, by rw [HS.out], B2⟩, by simp [intOf]; omega⟩
      · have e : k = n := by omega
        subst e
        rw [HE.out]
        go_wp2
        go_ret
        exact ⟨rfl, hb.out⟩

set_option maxHeartbeats 1600000 in
set_option maxRecDepth 20000 in
theorem joinDec_any (v : Value) (zs : List Int) (w : World) (h : JRow w v zs) (hw : ∀ i, i < zs.length → -9223372036854775808 ≤ zs.getD i 0 ∧ zs.getD i 0 ≤ 9223372036854775807) (hl : zs.length ≤ 64) (hv : ∀ i, i < zs.length → inV (zs.getD i 0) = true) (ht : Tabs w) : Calls Tryd.prog 62 #[v, .int .i64 64, .func (.func 63) #[] #[]] w fun e w' => e = .returned (.tuple #[.string (lTx zs), .bool true]) ∧ Below w.heap.size w w' := by
  by_cases h0 : zs = []
  · subst h0
    obtain ⟨a, cap, rfl⟩ := h.shape
    go_enter Tryd.func62, Tryd.ntmps62
    go_wp2
    go_ret2
    exact ⟨rfl, Below.refl _ _⟩
  · have hn : 1 ≤ zs.length := by
      cases zs with
      | nil => exact absurd rfl h0
      | cons x r => simp
    have EN : lTx zs = jn 44 (zs.map decZ) := by
      unfold lTx
      cases zs with
      | nil => exact absurd rfl h0
      | cons x r => rfl
    rw [EN]
    have HT := Lib.hid ht
    have HH := Lib.hid (fun k (hk : k < zs.length) (w1 : World) (hT : Tabs w1) => implVT_yes (zs.getD k 0) w1 (hv k hk) hT)
    have hmk := run_make_row' (P := Tryd.prog) 25 9 (.string ⟨#[]⟩) 16 Tryd.underlying25 Tryd.rowOfZ rfl .i64 .i64 zs.length (by omega) (by omega)
    have HJ := Lib.hid (fun (w1 : World) (bk : Nat) (hcells : ∀ (j : Nat) x, (zs.map decZ)[j]? = some x → w1.cell? ⟨bk, 0 + j, none⟩ = some (.string x)) (hbk : bk < w1.heap.size) =>
      show Calls Tryd.prog 93 #[.slice (some ⟨bk, 0, none⟩) (zs.map decZ).length zs.length, .string ⟨#[44]⟩] w1 (fun e w' => e = .returned (.string (jn 44 (zs.map decZ))) ∧ Below w1.heap.size w1 w') from Tryd.strings_Join bk 0 zs.length (zs.map decZ) ⟨#[44]⟩ w1 hcells hbk (by rw [List.length_map]; omega) (by rw [List.length_map]; exact Nat.le_refl _) (by
        have := jn_len 44 21 (zs.map decZ) (decs_le _ (fun z hz => by obtain ⟨j, hj, rfl⟩ := List.getElem_of_mem hz; have := hw j hj; rwa [List.getD_eq_getElem?_getD, List.getElem?_eq_getElem hj] at this))
        rw [List.length_map] at this
        show (Lib.join _ [44]).length ≤ _
        omega))
    have HG := Lib.hid (fun j (hj : j < zs.length) => show (zs.map decZ)[j]? = some (decZ (zs.getD j 0)) by rw [List.getElem?_map, getD_someI hj]; rfl)
    obtain ⟨b, off, cap, rfl, hc⟩ := h.cells hn
    have HC := Lib.hid (fun (w1 : World) (hb : Below w.heap.size w w1) k (hk : k < zs.length) => (hb.cell (p := ⟨b, off + k, none⟩) (cell_lt (hc k hk))).trans (hc k hk))
    have HLm : Hid ((zs.map decZ).length = zs.length) := Lib.hid (List.length_map _)
    clear hw hv h EN h0 hc ht
    generalize jn 44 (zs.map decZ) = T at *
    generalize hlen : zs.length = n at *
    have HL := Lib.hid hlen
    clear hlen
    have hd : decide ((64 : Int) < (n : Int)) = false := by simp; omega
    have hz0 : ((n : Int) == 0) = false := by simp; omega
    go_enter Tryd.func62, Tryd.ntmps62
    have R0 := Lib.hid ((World.rowIs_made w (.string ⟨#[]⟩) n 9).congr (g := fun j => .string (if j < 0 then decZ (zs.getD j 0) else ⟨#[]⟩)) (fun j _ => by simp))
    go_wp2
    go_loopw [25] (fun i wr => ∃ k : Nat, k ≤ n ∧ i = .int .i64 k ∧ Hid (Below w.heap.size w wr) ∧ Hid (wr.rowIs w.heap.size 9 n (fun j => .string (if j < k then decZ (zs.getD j 0) else ⟨#[]⟩)))) (fun i _ => n - (intOf i).toNat)
    case atStart => exact ⟨0, by omega, rfl, Lib.hid (below_al1 w _), R0⟩
    case round =>
      obtain ⟨k, hk, rfl, hb, hr⟩ := hrel
      by_cases hlt : k < n
      · have c0 := HC.out _ hb.out k hlt
        have HA := Lib.hid (HH.out k hlt wr (HT.out.below hb.out))
        go_wp2_with fail
        refine HA.out.mono ?_
        rintro e w2 ⟨rfl, hb2⟩
        have B2 := Lib.hid (below_step hb.out hb2)
        have R2 := Lib.hid (hr.out.of_block (hb2.block _ hr.out.lt))
        clear hb2 c0
        have C1 := R2.out.cell hlt
        have F1 := R2.out.frozen k
        have R3 := Lib.hid (R2.out.set k (.string (decZ (zs.getD k 0))))
        have B3 := Lib.hid (B2.out.setCell (p := ⟨w.heap.size, k, none⟩) (Nat.le_refl _) (.string (decZ (zs.getD k 0))))
        have HX := Lib.hid (fun j => show (if j = k then (.string (decZ (zs.getD k 0)) : Value) else .string (if j < k then decZ (zs.getD j 0) else ⟨#[]⟩)) = .string (if j < k + 1 then decZ (zs.getD j 0) else ⟨#[]⟩) by
          by_cases e : j = k
          · subst e; rw [if_pos rfl, if_pos (by omega)]
          · rw [if_neg e]
            by_cases e2 : j < k
            · rw [if_pos e2, if_pos (by omega)]
            · rw [if_neg e2, if_neg (by omega)])
        rw [if_neg (Nat.lt_irrefl k)] at C1
        generalize decZ (zs.getD k 0) = y at *
        go_wp2
        go_roundw
        case rel => exact ⟨k + 1, by omega, by go_num, B3, Lib.hid (R3.out.congr (fun j _ => HX.out j))⟩
        case measure => simp [intOf]; omega
      · have e : k = n := by omega
        subst e
        have HA := HJ.out wr w.heap.size (fun j x hx => by
          have hj : j < k := by
            by_cases hj : j < k
            · exact hj
            · rw [List.getElem?_eq_none (by rw [HLm.out]; omega)] at hx; cases hx
          rw [HG.out j hj] at hx
          cases hx
          rw [Nat.zero_add, hr.out.cell hj, if_pos hj]) hr.out.lt
        rw [HLm.out] at HA
        have HA := Lib.hid HA
        clear HJ
        go_wp2_with fail
        refine HA.out.mono ?_
        rintro e w2 ⟨rfl, hb2⟩
        have B2 := Lib.hid (below_step hb.out hb2)
        clear hb2
        go_wp2
        go_ret2
        exact ⟨rfl, B2.out⟩
end Go.Proofs.YthedpbdeahieaaaDoor
