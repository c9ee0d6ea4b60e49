/- Lists of texts in a law: copied, compared, measured; and what the form says of one that came in. -/
import Derived.Test.YtncjkhdnpioinaaDoorAppZ
import Derived.Test.YtncjkhdnpioinaaDoorCell
import Derived.Test.YtncjkhdnpioinaaDoorRun
import Derived.BigQuiet
import Derived.SliceStrings
namespace Go.Proofs.YtncjkhdnpioinaaDoor
open Go.RowKit Go.ChangeShapes
set_option linter.unusedVariables false

abbrev zTh (zs : List ByteArray) (k : Nat) : ByteArray := zs.getD k ⟨#[]⟩
theorem ZRow.at_ {w : World} {a : Option Addr} {n cap : Nat} {zs : List ByteArray} (h : ZRow w (.slice a n cap) zs) : n = zs.length ∧ ∀ k, k < zs.length → ∃ b off, a = some ⟨b, off, none⟩ ∧ w.cell? ⟨b, off + k, none⟩ = some (.string (zTh zs k)) := by
  rcases h with ⟨⟨a0, c0, e⟩, rfl⟩ | ⟨b, off, c, e, hm, hc⟩
  · cases e; exact ⟨rfl, fun k hk => by simp at hk⟩
  · cases e; exact ⟨rfl, fun k hk => ⟨b, off, rfl, hc k hk⟩⟩
theorem eqS_any (v v' : Value) (zs : List ByteArray) (w : World) (h : ZRow w v zs) (h' : ZRow w v' zs) : Calls Tryd.prog 46 #[v, v'] w fun e w2 => e = .returned (.bool true) ∧ Below w.heap.size w w2 := by
  obtain ⟨a, cap, rfl⟩ := h.shape
  obtain ⟨a', cap', rfl⟩ := h'.shape
  have CL := Lib.hid h.at_.2
  have CL' := Lib.hid h'.at_.2
  have hle := h.len
  clear h h'
  obtain ⟨n, hn⟩ : ∃ n, zs.length = n := ⟨_, rfl⟩
  rw [hn] at CL CL' hle ⊢
  clear hn
  go_enter Tryd.func46, Tryd.ntmps46
  go_wp2
  go_loopw [5] (fun i wr => ∃ k q : Nat, k ≤ n ∧ i = .int .i64 k ∧ wr = w.drewN q) (fun i _ => n - (intOf i).toNat)
  case atStart => exact ⟨0, 0, Nat.zero_le _, rfl, rfl⟩
  case round =>
    obtain ⟨k, q, hk, rfl, hwr⟩ := hrel
    have HW := Lib.hid hwr
    by_cases hlt : k < n
    · obtain ⟨b, off, ha, h1⟩ := CL.out k hlt
      obtain ⟨b', off', ha', h1'⟩ := CL'.out k hlt
      subst ha
      subst ha'
      have z0 : wr.cell? ⟨b, off + k, none⟩ = some (.string (zTh zs k)) := by rw [hwr]; exact h1
      have z1 : wr.cell? ⟨b', off' + k, none⟩ = some (.string (zTh zs k)) := by rw [hwr]; exact h1'
      have hi0 : (0 : Int) ≤ (k : Int) := by omega
      have hi1 : (k : Int) < (n : Int) := by omega
      clear h1 h1' hwr
      generalize zTh zs k = y at *
      go_wp2
      go_quiet (fail)
      go_wp2
      go_roundw
      case rel => exact ⟨k + 1, _, by omega, by go_num, by rw [HW.out]; exact World.drewN_drewN _ _ _⟩
      case measure => simp [intOf]; omega
    · clear hwr
      go_wp2
      go_ret
      exact ⟨rfl, by rw [HW.out]; exact below_drewN (Below.refl _ _) q⟩
/-- a list of texts that came in -/
theorem open_strs {H : Type} {enc : TypeId × Value → H} {P : Program} {w : World} {base : Nat} {spare : Nat → Bool} {held : Bool} {t e : TypeId} {a : Option Addr} {len cap : Nat} {d : DataW H} {ps : List MemPlace}
    (ht : P.underlying t = some (.slice e)) (he : P.underlying e = some .string) (hc : P.cellsOf e = 1) (h : DataW.Trod enc P w base spare held t (.slice a len cap) d ps) :
    ∃ zs, ZRow w (.slice a len cap) zs ∧ ∀ k, k < zs.length → (zTh zs k).size ≤ 9223372036854775807 := by
  have hmx : maxLen = 9223372036854775807 := rfl
  obtain ⟨fuel, hf⟩ := h
  rcases ChangeShapes.open_strings ht he hc hf with ⟨hcs, _⟩ | ⟨x, l, c, ss, hcs, _, hl, hm, hmm, _, hcell, hsz⟩
  · simp [Value.cells] at hcs
    obtain ⟨rfl, rfl, rfl⟩ := hcs
    exact ⟨[], .inl ⟨⟨_, _, rfl⟩, rfl⟩, fun i hi => by simp at hi⟩
  · simp [Value.cells] at hcs
    obtain ⟨rfl, rfl, rfl⟩ := hcs
    have hlm : len ≤ ss.length := by rw [hmm]; split <;> omega
    have hg : ∀ i, i < len → zTh (ss.take len) i = ss.getD i ⟨#[]⟩ := fun i hi => by
      unfold zTh
      simp [List.getD_eq_getElem?_getD, hi]
    refine ⟨ss.take len, ?_, fun i hi => ?_⟩
    · by_cases h0 : len = 0
      · subst h0; exact .inl ⟨⟨_, _, rfl⟩, rfl⟩
      · obtain ⟨xb, xo, xs⟩ := x
        have hs : xs = none := by simpa [Addr.add] using World.cell?_spot (hcell 0 (by omega))
        subst hs
        refine .inr ⟨xb, xo, cap, by simp; omega, by simp; omega, fun i hi => ?_⟩
        have hi' : i < len := by simp at hi; omega
        have := hcell i (by omega)
        have ea : (⟨xb, xo, none⟩ : Addr).add i = ⟨xb, xo + i, none⟩ := by
          by_cases h : i = 0
          · subst h; simp [Addr.add]
          · simp [Addr.add, h]
        rw [ea] at this
        rw [this]
        exact congrArg (fun z => some (Value.string z)) (hg i hi').symm
    · have hi' : i < len := by simp at hi; omega
      rw [hg i hi']
      have := hsz (ss.getD i ⟨#[]⟩) (by
        rw [List.getD_eq_getElem?_getD, List.getElem?_eq_getElem (by omega : i < ss.length)]
        exact List.getElem_mem _)
      omega
end Go.Proofs.YtncjkhdnpioinaaDoor
