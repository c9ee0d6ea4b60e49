/- Lists of integers read from a text: what they are, and a text cut at a mark at most so often. -/
import Derived.Test.YtbgldggaiefhoaaDoorCutZ
import Derived.Test.YtbgldggaiefhoaaDoorRdI
namespace Go.Proofs.YtbgldggaiefhoaaDoor
open Go
set_option linter.unusedVariables false

theorem hit_or (c : UInt8) (s : ByteArray) : Lib.indexB s (mkZ c) = -1 ∨ ∃ i : Nat, Lib.indexB s (mkZ c) = i := by
  have hL : s.data.toList.length = s.size := Array.length_toList
  rcases first_mark c s.data.toList with h | ⟨i, h, hi⟩
  · exact .inl (idx_none (fun j hj => h j (by omega)))
  · exact .inr ⟨i, idx_at h hi⟩
theorem split_more (c : UInt8) : ∀ (K : Nat) (s : ByteArray), Lib.countB s (mkZ c) ≤ K → Lib.splitB (mkZ c) 0 K s = cutZ c s := by
  intro K
  induction K with
  | zero =>
    intro s h
    unfold cutZ
    rw [show Lib.countB s (mkZ c) = 0 by omega]
  | succ K ih =>
    intro s h
    rcases hit_or c s with e | ⟨i, e⟩
    · unfold cutZ
      rw [Lib.splitB_miss _ _ _ _ e, Lib.countB_miss _ _ e]; rfl
    · have hc := Lib.countB_hit s (mkZ c) i (Nat.le_refl 1) e
      unfold cutZ
      rw [hc, Nat.add_comm 1, Lib.splitB_hit _ _ _ _ _ e, Lib.splitB_hit _ _ _ _ _ e, ih _ (by omega)]
      rfl
theorem split_len (c : UInt8) : ∀ (K : Nat) (s : ByteArray), K ≤ Lib.countB s (mkZ c) → (Lib.splitB (mkZ c) 0 K s).length = K + 1 := by
  intro K
  induction K with
  | zero => intro s h; rfl
  | succ K ih =>
    intro s h
    rcases hit_or c s with e | ⟨i, e⟩
    · rw [Lib.countB_miss _ _ e] at h; omega
    · have hc := Lib.countB_hit s (mkZ c) i (Nat.le_refl 1) e
      rw [Lib.splitB_hit _ _ _ _ _ e, List.length_cons, ih _ (by omega)]
/-- a text cut at most M times: the parts, if they are few, or too many -/
theorem splitN_few (c : UInt8) (s : ByteArray) (M : Nat) (h : (cutZ c s).length ≤ M) : Lib.splitB (mkZ c) 0 (min (M + 1) (s.size + 1) - 1) s = cutZ c s := by
  have h1 := cutZ_length c s
  have h2 := Lib.countB_le (mkZ c) (Nat.le_refl 1) s.size s (Nat.le_refl _)
  exact split_more c _ s (by omega)
theorem splitN_many (c : UInt8) (s : ByteArray) (M : Nat) (h : ¬ (cutZ c s).length ≤ M) : (Lib.splitB (mkZ c) 0 (min (M + 1) (s.size + 1) - 1) s).length = M + 1 := by
  have h1 := cutZ_length c s
  have h2 := Lib.countB_le (mkZ c) (Nat.le_refl 1) s.size s (Nat.le_refl _)
  rw [split_len c _ s (by omega)]
  omega

def isNone (s : ByteArray) : Bool := s.toList == [110, 111, 110, 101]
/-- whether a text is that of a list, and the list -/
def rlOk (s : ByteArray) : Bool := isNone s || (decide ((cutZ 44 s).length ≤ 64) && (cutZ 44 s).all rdOk)
def rlL (s : ByteArray) : List Int := if isNone s then [] else if rlOk s then (cutZ 44 s).map rdV else []
theorem rl_none {s : ByteArray} (h : isNone s = true) : rlOk s = true ∧ rlL s = [] := by
  unfold rlOk rlL; rw [h]; exact ⟨rfl, rfl⟩
theorem rl_many {s : ByteArray} (h : isNone s = false) (hm : ¬ (cutZ 44 s).length ≤ 64) : rlOk s = false ∧ rlL s = [] := by
  have e : rlOk s = false := by unfold rlOk; rw [h, decide_eq_false hm]; rfl
  exact ⟨e, by unfold rlL; rw [h, e]; rfl⟩
theorem rl_bad {s : ByteArray} (h : isNone s = false) {k : Nat} (hk : k < (cutZ 44 s).length) (hb : rdOk ((cutZ 44 s).getD k ⟨#[]⟩) = false) : rlOk s = false ∧ rlL s = [] := by
  have e : rlOk s = false := by
    unfold rlOk
    have : (cutZ 44 s).all rdOk = false := by
      rw [List.all_eq_false]
      refine ⟨_, List.getElem_mem hk, ?_⟩
      rw [List.getD_eq_getElem?_getD, List.getElem?_eq_getElem hk] at hb
      simpa using hb
    rw [h, this, Bool.and_false]; rfl
  exact ⟨e, by unfold rlL; rw [h, e]; rfl⟩
theorem rl_good {s : ByteArray} (h : isNone s = false) (hm : (cutZ 44 s).length ≤ 64) (ha : ∀ k, k < (cutZ 44 s).length → rdOk ((cutZ 44 s).getD k ⟨#[]⟩) = true) : rlOk s = true ∧ rlL s = (cutZ 44 s).map rdV := by
  have e : rlOk s = true := by
    unfold rlOk
    have : (cutZ 44 s).all rdOk = true := by
      rw [List.all_eq_true]
      intro x hx
      obtain ⟨k, hk, rfl⟩ := List.getElem_of_mem hx
      have := ha k hk
      rw [List.getD_eq_getElem?_getD, List.getElem?_eq_getElem hk] at this
      exact this
    rw [h, this, decide_eq_true hm]; rfl
  exact ⟨e, by unfold rlL; rw [h, e]; rfl⟩
theorem rlL_le (s : ByteArray) : (rlL s).length ≤ 64 := by
  unfold rlL
  split
  · simp
  · split
    · next h1 h2 =>
      unfold rlOk at h2
      rw [show isNone s = false by simpa using h1] at h2
      simp only [Bool.false_or, Bool.and_eq_true, decide_eq_true_eq] at h2
      simpa using h2.1
    · simp
end Go.Proofs.YtbgldggaiefhoaaDoor
