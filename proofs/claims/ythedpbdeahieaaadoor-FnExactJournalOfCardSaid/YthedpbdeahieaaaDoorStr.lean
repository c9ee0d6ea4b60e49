/- Lists of texts in a law: copied, compared, measured; and what the form says of one that came in. -/
import Derived.Test.YthedpbdeahieaaaDoorAppZ
import Derived.Test.YthedpbdeahieaaaDoorCell
import Derived.Test.YthedpbdeahieaaaDoorRun
import Derived.BigQuiet
import Derived.SliceStrings
namespace Go.Proofs.YthedpbdeahieaaaDoor
open Go.RowKit Go.ChangeShapes
set_option linter.unusedVariables false

abbrev zTh (zs : List ByteArray) (k : Nat) : ByteArray := zs.getD k ⟨#[]⟩
theorem ZRow.at_ {w : World} {a : Option Addr} {n cap : Nat} {zs : List ByteArray} (h : ZRow w (.slice a n cap) zs) : n = zs.length ∧ ∀ k, k < zs.length → ∃ b off, a = some ⟨b, off, none⟩ ∧ w.cell? ⟨b, off + k, none⟩ = some (.string (zTh zs k)) := by
  rcases h with ⟨⟨a0, c0, e⟩, rfl⟩ | ⟨b, off, c, e, hm, hc⟩
  · cases e; exact ⟨rfl, fun k hk => by simp at hk⟩
  · cases e; exact ⟨rfl, fun k hk => ⟨b, off, rfl, hc k hk⟩⟩
theorem toS_any (v : Value) (zs : List ByteArray) (w : World) (h : ZRow w v zs) (hl : zs.length ≤ 1048576) : Calls Tryd.prog 16 #[v] w fun e w' => ∃ v', e = .returned v' ∧ ZRow w' v' zs ∧ Below w.heap.size w w' := by
  obtain ⟨a, cap, rfl⟩ := h.shape
  have CL := Lib.hid h.at_.2
  obtain ⟨n, hn⟩ : ∃ n, zs.length = n := ⟨_, rfl⟩
  have HN := Lib.hid hn
  have hmk := run_make_row' (P := Tryd.prog) 25 9 (.string ⟨#[]⟩) 16 Tryd.underlying25 Tryd.rowOfZ rfl .i64 .i64 zs.length (by omega) (by omega)
  rw [hn] at hmk CL hl ⊢
  have R0 := Lib.hid ((World.rowIs_made w (.string ⟨#[]⟩) n 9).congr (g := fun j => .string (if j < 0 then zTh zs j else ⟨#[]⟩)) (fun j _ => by simp))
  clear h hn
  go_enter Tryd.func16, Tryd.ntmps16
  go_wp2
  go_loopw [4] (fun i wr => ∃ k : Nat, k ≤ n ∧ i = .int .i64 k ∧ Hid (Below w.heap.size w wr) ∧ Hid (wr.rowIs w.heap.size 9 n (fun j => .string (if j < k then zTh zs j else ⟨#[]⟩)))) (fun i _ => n - (intOf i).toNat)
  case atStart => exact ⟨0, by omega, rfl, Lib.hid (below_al1 w _), R0⟩
  case round =>
    obtain ⟨k, hk, rfl, hb, hr⟩ := hrel
    by_cases hlt : k < n
    · obtain ⟨b, off, ha, h1⟩ := CL.out k hlt
      subst ha
      have h2 : wr.cell? ⟨b, off + k, none⟩ = some (.string (zTh zs k)) := (hb.out.cell (p := ⟨b, off + k, none⟩) (cell_lt h1)).trans h1
      have C1 := hr.out.cell hlt
      have F1 := hr.out.frozen k
      have R3 := Lib.hid (hr.out.set k (.string (zTh zs k)))
      have B3 := Lib.hid (hb.out.setCell (p := ⟨w.heap.size, k, none⟩) (Nat.le_refl _) (.string (zTh zs k)))
      have HX := Lib.hid (fun j => show (if j = k then (.string (zTh zs k) : Value) else .string (if j < k then zTh zs j else ⟨#[]⟩)) = .string (if j < k + 1 then zTh zs j else ⟨#[]⟩) by
        by_cases e : j = k
        · subst e; rw [if_pos rfl, if_pos (by omega)]
        · rw [if_neg e]
          by_cases e2 : j < k
          · rw [if_pos e2, if_pos (by omega)]
          · rw [if_neg e2, if_neg (by omega)])
      rw [if_neg (Nat.lt_irrefl k)] at C1
      clear h1
      have hi0 : (0 : Int) ≤ (k : Int) := by omega
      have hi1 : (k : Int) < (n : Int) := by omega
      generalize zTh zs k = y at *
      go_wp2
      go_roundw
      case rel => exact ⟨k + 1, by omega, by go_num, B3, Lib.hid (R3.out.congr (fun j _ => HX.out j))⟩
      case measure => simp [intOf]; omega
    · have e : k = n := by omega
      subst e
      have HO : Hid (ZRow wr (.slice (some ⟨w.heap.size, 0, none⟩) k k) zs) := Lib.hid (.inr ⟨w.heap.size, 0, k, by rw [HN.out], by have : maxLen = 9223372036854775807 := rfl; have := HN.out; omega, fun i hi => by
        rw [Nat.zero_add, hr.out.cell (by have := HN.out; omega), if_pos (by have := HN.out; omega)]⟩)
      go_wp2
      go_ret
      exact ⟨_, rfl, HO.out, hb.out⟩
theorem eqS_any (v v' : Value) (zs : List ByteArray) (w : World) (h : ZRow w v zs) (h' : ZRow w v' zs) : Calls Tryd.prog 18 #[v, v'] w fun e w2 => e = .returned (.bool true) ∧ Below w.heap.size w w2 := by
  obtain ⟨a, cap, rfl⟩ := h.shape
  obtain ⟨a', cap', rfl⟩ := h'.shape
  have CL := Lib.hid h.at_.2
  have CL' := Lib.hid h'.at_.2
  have hle := h.len
  clear h h'
  obtain ⟨n, hn⟩ : ∃ n, zs.length = n := ⟨_, rfl⟩
  rw [hn] at CL CL' hle ⊢
  clear hn
  go_enter Tryd.func18, Tryd.ntmps18
  go_wp2
  go_loopw [5] (fun i wr => ∃ k q : Nat, k ≤ n ∧ i = .int .i64 k ∧ wr = w.drewN q) (fun i _ => n - (intOf i).toNat)
  case atStart => exact ⟨0, 0, Nat.zero_le _, rfl, rfl⟩
  case round =>
    obtain ⟨k, q, hk, rfl, hwr⟩ := hrel
    have HW := Lib.hid hwr
    by_cases hlt : k < n
    · obtain ⟨b, off, ha, h1⟩ := CL.out k hlt
      obtain ⟨b', off', ha', h1'⟩ := CL'.out k hlt
      subst ha
      subst ha'
      have z0 : wr.cell? ⟨b, off + k, none⟩ = some (.string (zTh zs k)) := by rw [hwr]; exact h1
      have z1 : wr.cell? ⟨b', off' + k, none⟩ = some (.string (zTh zs k)) := by rw [hwr]; exact h1'
      have hi0 : (0 : Int) ≤ (k : Int) := by omega
      have hi1 : (k : Int) < (n : Int) := by omega
      clear h1 h1' hwr
      generalize zTh zs k = y at *
      go_wp2
      go_quiet (fail)
      go_wp2
      go_roundw
      case rel => exact ⟨k + 1, _, by omega, by go_num, by rw [HW.out]; exact World.drewN_drewN _ _ _⟩
      case measure => simp [intOf]; omega
    · clear hwr
      go_wp2
      go_ret
      exact ⟨rfl, by rw [HW.out]; exact below_drewN (Below.refl _ _) q⟩
theorem szS_any (v : Value) (zs : List ByteArray) (w : World) (h : ZRow w v zs) (hm : ∀ k, k < zs.length → (zTh zs k).size ≤ 9223372036854775807) : Calls Tryd.prog 14 #[v, .int .i64 1048576] w fun e w' => ∃ r : Int, e = .returned (.int .i64 r) ∧ (0 ≤ r → zs.length ≤ 1048576 ∧ ∀ k, k < zs.length → (zTh zs k).size ≤ 1048576) ∧ w' = w := by
  obtain ⟨a, cap, rfl⟩ := h.shape
  have CL := Lib.hid h.at_.2
  have HM := Lib.hid hm
  have hle := h.len
  clear h hm
  obtain ⟨n, hn⟩ : ∃ n, zs.length = n := ⟨_, rfl⟩
  rw [hn] at CL HM hle ⊢
  clear hn
  by_cases hl : n ≤ 1048576
  · have hd : decide ((1048576 : Int) - (n : Int) < 0) = false := decide_eq_false (by omega)
    have e0 : IntKind.i64.wrap ((1048576 : Int) - (n : Int)) = (1048576 : Int) - (n : Int) := by unfold IntKind.wrap; simp [IntKind.bits, IntKind.signed]; omega
    go_enter Tryd.func14, Tryd.ntmps14
    go_wp2
    go_loop [1, 5] (fun l i => ∃ (k : Nat) (r : Int), k ≤ n ∧ i = .int .i64 k ∧ l = .int .i64 r ∧ 0 ≤ r ∧ r ≤ 1048576 ∧ Hid (∀ j, j < k → (zTh zs j).size ≤ 1048576)) (fun _ i => n - (intOf i).toNat)
    case atStart => exact ⟨0, _, Nat.zero_le _, rfl, rfl, by omega, by omega, Lib.hid (fun j h => by omega)⟩
    case round =>
      obtain ⟨k, r, hk, rfl, rfl, hr0, hr1, hall⟩ := hrel
      by_cases hlt : k < n
      · obtain ⟨b, off, ha, h1⟩ := CL.out k hlt
        subst ha
        have hs := HM.out k hlt
        have hi0 : (0 : Int) ≤ (k : Int) := by omega
        have hi1 : (k : Int) < (n : Int) := by omega
        have HA : Hid ((zTh zs k).size ≤ 1048576 → ∀ j, j < k + 1 → (zTh zs j).size ≤ 1048576) := Lib.hid (fun h j hj => by
          by_cases e : j = k
          · rw [e]; exact h
          · exact hall.out j (by omega))
        generalize zTh zs k = y at *
        have e1 : IntKind.i64.wrap (r - (y.size : Int)) = r - (y.size : Int) := by unfold IntKind.wrap; simp [IntKind.bits, IntKind.signed]; omega
        by_cases hbig : r - (y.size : Int) < 0
        · have hdd : decide (r - (y.size : Int) < 0) = true := decide_eq_true hbig
          go_wp2
          go_ret
          exact ⟨_, rfl, fun h => absurd h (by decide), rfl⟩
        · have hdd : decide (r - (y.size : Int) < 0) = false := decide_eq_false hbig
          have HA2 := Lib.hid (HA.out (by omega))
          have hr2 : Hid (0 ≤ r - (y.size : Int) ∧ r - (y.size : Int) ≤ 1048576) := Lib.hid (by omega)
          go_wp2
          go_round
          case rel => exact ⟨k + 1, _, by omega, by go_num, rfl, hr2.out.1, hr2.out.2, HA2⟩
          case measure => simp [intOf]; omega
      · have HA3 : Hid (∀ j, j < n → (zTh zs j).size ≤ 1048576) := Lib.hid (fun j hj => hall.out j (by omega))
        go_wp2
        go_ret
        exact ⟨_, rfl, fun _ => by first | exact ⟨hl, HA3.out⟩ | exact HA3.out | (intro k hk; have := HA3.out k hk; simpa [List.getD_eq_getElem?_getD] using this), rfl⟩
  · have hd : decide ((1048576 : Int) - (n : Int) < 0) = true := decide_eq_true (by omega)
    have e0 : IntKind.i64.wrap ((1048576 : Int) - (n : Int)) = (1048576 : Int) - (n : Int) := by unfold IntKind.wrap; simp [IntKind.bits, IntKind.signed]; omega
    go_enter Tryd.func14, Tryd.ntmps14
    go_wp2
    go_ret
    exact ⟨_, rfl, fun h => absurd h (by decide), rfl⟩
/-- a list of texts that came in -/
theorem open_strs {H : Type} {enc : TypeId × Value → H} {P : Program} {w : World} {base : Nat} {spare : Nat → Bool} {held : Bool} {t e : TypeId} {a : Option Addr} {len cap : Nat} {d : DataW H} {ps : List MemPlace}
    (ht : P.underlying t = some (.slice e)) (he : P.underlying e = some .string) (hc : P.cellsOf e = 1) (h : DataW.Trod enc P w base spare held t (.slice a len cap) d ps) :
    ∃ zs, ZRow w (.slice a len cap) zs ∧ ∀ k, k < zs.length → (zTh zs k).size ≤ 9223372036854775807 := by
  have hmx : maxLen = 9223372036854775807 := rfl
  obtain ⟨fuel, hf⟩ := h
  rcases ChangeShapes.open_strings ht he hc hf with ⟨hcs, _⟩ | ⟨x, l, c, ss, hcs, _, hl, hm, hmm, _, hcell, hsz⟩
  · simp [Value.cells] at hcs
    obtain ⟨rfl, rfl, rfl⟩ := hcs
    exact ⟨[], .inl ⟨⟨_, _, rfl⟩, rfl⟩, fun i hi => by simp at hi⟩
  · simp [Value.cells] at hcs
    obtain ⟨rfl, rfl, rfl⟩ := hcs
    have hlm : len ≤ ss.length := by rw [hmm]; split <;> omega
    have hg : ∀ i, i < len → zTh (ss.take len) i = ss.getD i ⟨#[]⟩ := fun i hi => by
      unfold zTh
      simp [List.getD_eq_getElem?_getD, hi]
    refine ⟨ss.take len, ?_, fun i hi => ?_⟩
    · by_cases h0 : len = 0
      · subst h0; exact .inl ⟨⟨_, _, rfl⟩, rfl⟩
      · obtain ⟨xb, xo, xs⟩ := x
        have hs : xs = none := by simpa [Addr.add] using World.cell?_spot (hcell 0 (by omega))
        subst hs
        refine .inr ⟨xb, xo, cap, by simp; omega, by simp; omega, fun i hi => ?_⟩
        have hi' : i < len := by simp at hi; omega
        have := hcell i (by omega)
        have ea : (⟨xb, xo, none⟩ : Addr).add i = ⟨xb, xo + i, none⟩ := by
          by_cases h : i = 0
          · subst h; simp [Addr.add]
          · simp [Addr.add, h]
        rw [ea] at this
        rw [this]
        exact congrArg (fun z => some (Value.string z)) (hg i hi').symm
    · have hi' : i < len := by simp at hi; omega
      rw [hg i hi']
      have := hsz (ss.getD i ⟨#[]⟩) (by
        rw [List.getD_eq_getElem?_getD, List.getElem?_eq_getElem (by omega : i < ss.length)]
        exact List.getElem_mem _)
      omega
end Go.Proofs.YthedpbdeahieaaaDoor
