/- A text cut at a mark of one byte: the parts, what they are at the first mark, and what the last part tells. No program stands in this text. -/
import Derived.Lib.SplitLaws
import Derived.Lib.IndexMore
import Derived.Lib.CutLaws
namespace Go.Proofs.YtncjkhdnpioinaaDoor
open Go
set_option linter.unusedVariables false

abbrev mkZ (c : UInt8) : ByteArray := ⟨#[c]⟩
/-- the parts of a text between marks -/
def cutZ (c : UInt8) (s : ByteArray) : List ByteArray := Lib.splitB (mkZ c) 0 (Lib.countB s (mkZ c)) s

theorem occ_one (s : List UInt8) (c : UInt8) (i : Nat) : Lib.occAt s [c] i = (s[i]? == some c) := by
  unfold Lib.occAt
  cases h : s.drop i with
  | nil =>
    have : s[i]? = none := by rw [List.getElem?_eq_none]; exact List.drop_eq_nil_iff.1 h
    rw [this]; rfl
  | cons a t =>
    have : s[i]? = some a := by
      have := congrArg (·[0]?) h
      simpa [List.getElem?_drop] using this
    rw [this]
    simp only [List.isPrefixOf, Bool.and_true]
    simp [BEq.comm]
theorem idx_none {s : ByteArray} {c : UInt8} (h : ∀ j, j < s.size → s.data.toList[j]? ≠ some c) : Lib.indexB s (mkZ c) = -1 := by
  refine Lib.index_none (fun j hj => ?_)
  show Lib.occAt s.data.toList [c] j = false
  rw [occ_one]
  by_cases hlt : j < s.size
  · simpa using h j hlt
  · have : s.data.toList[j]? = none := by rw [List.getElem?_eq_none]; have e := Lib.size_eq s; omega
    rw [this]; rfl
theorem idx_at {s : ByteArray} {c : UInt8} {i : Nat} (h : ∀ j, j < i → s.data.toList[j]? ≠ some c) (hi : s.data.toList[i]? = some c) : Lib.indexB s (mkZ c) = i := by
  have hlt : i < s.data.toList.length := by
    by_cases hx : i < s.data.toList.length
    · exact hx
    · rw [List.getElem?_eq_none (Nat.le_of_not_lt hx)] at hi; cases hi
  refine Lib.index_first (Nat.le_of_lt hlt) ?_ (fun j hj => ?_)
  · show Lib.occAt s.data.toList [c] i = true
    rw [occ_one, hi]; simp
  · show Lib.occAt s.data.toList [c] j = false
    rw [occ_one]; simpa using h j hj
theorem cutZ_none {s : ByteArray} {c : UInt8} (h : ∀ j, j < s.size → s.data.toList[j]? ≠ some c) : cutZ c s = [s] := by
  unfold cutZ
  rw [Lib.countB_miss _ _ (idx_none h)]
  rfl
theorem cutZ_at {s : ByteArray} {c : UInt8} {i : Nat} (h : ∀ j, j < i → s.data.toList[j]? ≠ some c) (hi : s.data.toList[i]? = some c) : cutZ c s = s.extract 0 i :: cutZ c (s.extract (i + 1) s.size) := by
  have e := idx_at h hi
  unfold cutZ
  rw [Lib.countB_hit s (mkZ c) i (Nat.le_refl 1) e, Nat.add_comm 1, Lib.splitB_hit _ _ _ _ _ e]
  rfl
theorem ex_ex (s : ByteArray) (a b c d : Nat) (hb : a + d ≤ b) : (s.extract a b).extract c d = s.extract (a + c) (a + d) := by
  apply ByteArray.ext
  apply Array.ext'
  show ((s.extract a b).extract c d).data.toList = (s.extract (a + c) (a + d)).data.toList
  rw [Lib.extract_data, Lib.extract_data, Lib.extract_data, List.drop_take, List.drop_drop, List.take_take]
  congr 1
  omega
theorem at_ex (s : ByteArray) (a j : Nat) : (s.extract a s.size).data.toList[j]? = s.data.toList[a + j]? := by
  rw [Lib.extract_to_end, List.getElem?_drop]
theorem size_ex (s : ByteArray) (a : Nat) : (s.extract a s.size).size = s.size - a := by
  rw [Lib.size_eq, Lib.extract_to_end, List.length_drop, ← Lib.size_eq]

/-- a loop that has come to i, the part that is open from f: what is there, and what is to come -/
structure CutAt (c : UInt8) (s : ByteArray) (i f : Nat) (done : List ByteArray) : Prop where
  fi : f ≤ i
  ile : i ≤ s.size
  none : ∀ j, f ≤ j → j < i → s.data.toList[j]? ≠ some c
  all : cutZ c s = done ++ cutZ c (s.extract f s.size)
theorem CutAt.start (c : UInt8) (s : ByteArray) : CutAt c s 0 0 [] :=
  ⟨Nat.le_refl _, Nat.zero_le _, fun j _ h => absurd h (Nat.not_lt_zero _), by
    have : s.extract 0 s.size = s := by
      apply ByteArray.ext; apply Array.ext'
      show (s.extract 0 s.size).data.toList = _
      rw [Lib.extract_to_end]; rfl
    rw [this]; rfl⟩
theorem CutAt.miss {c : UInt8} {s : ByteArray} {i f : Nat} {done : List ByteArray} (h : CutAt c s i f done) (hi : i < s.size) (hc : s.data.toList[i]? ≠ some c) : CutAt c s (i + 1) f done :=
  ⟨Nat.le_succ_of_le h.fi, hi, fun j h1 h2 => by
    by_cases e : j = i
    · subst e; exact hc
    · exact h.none j h1 (by omega), h.all⟩
theorem CutAt.hit {c : UInt8} {s : ByteArray} {i f : Nat} {done : List ByteArray} (h : CutAt c s i f done) (hi : i < s.size) (hc : s.data.toList[i]? = some c) : CutAt c s (i + 1) (i + 1) (done ++ [s.extract f i]) := by
  refine ⟨Nat.le_refl _, hi, fun j h1 h2 => by omega, ?_⟩
  have hfi := h.fi
  rw [h.all, cutZ_at (s := s.extract f s.size) (i := i - f) (fun j hj => by rw [at_ex]; exact h.none _ (by omega) (by omega)) (by rw [at_ex, show f + (i - f) = i from by omega]; exact hc),
    size_ex, ex_ex _ _ _ _ _ (by omega), ex_ex _ _ _ _ _ (by omega), show f + 0 = f from rfl, show f + (i - f) = i from by omega, show f + (i - f + 1) = i + 1 from by omega, show f + (s.size - f) = s.size from by omega]
  simp
theorem CutAt.last {c : UInt8} {s : ByteArray} {f : Nat} {done : List ByteArray} (h : CutAt c s s.size f done) : cutZ c s = done ++ [s.extract f s.size] := by
  rw [h.all, cutZ_none (fun j hj => by rw [size_ex] at hj; rw [at_ex]; exact h.none _ (by omega) (by omega))]

theorem cutZ_length (c : UInt8) (s : ByteArray) : (cutZ c s).length = Lib.countB s (mkZ c) + 1 := Lib.splitB_all (mkZ c) (Nat.le_refl 1) 0 _ s rfl
theorem cutZ_le (c : UInt8) (s : ByteArray) : (cutZ c s).length ≤ s.size + 1 := by
  rw [cutZ_length]
  have := Lib.countB_le (mkZ c) (Nat.le_refl 1) s.size s (Nat.le_refl _)
  omega

theorem getLast_cons_ne {α : Type} (a : α) (l : List α) (d : α) (h : l ≠ []) : (a :: l).getLastD d = l.getLastD d := by
  cases l with
  | nil => exact absurd rfl h
  | cons b t => rfl
/-- the first mark, or none -/
theorem first_mark (c : UInt8) : ∀ (l : List UInt8), (∀ j : Nat, j < l.length → l[j]? ≠ some c) ∨ ∃ i : Nat, (∀ j : Nat, j < i → l[j]? ≠ some c) ∧ l[i]? = some c
  | [] => .inl (fun j h => absurd h (Nat.not_lt_zero _))
  | a :: t => by
    by_cases e : a = c
    · exact .inr ⟨0, fun j h => absurd h (Nat.not_lt_zero _), by simp [e]⟩
    · rcases first_mark c t with h | ⟨i, h, hi⟩
      · refine .inl (fun j hj => ?_)
        cases j with
        | zero => simpa using e
        | succ j => simpa using h j (by simpa using hj)
      · refine .inr ⟨i + 1, fun j hj => ?_, by simpa using hi⟩
        cases j with
        | zero => simpa using e
        | succ j => simpa using h j (by omega)
theorem getLast_at (l : List UInt8) : l.getLast? = l[l.length - 1]? := List.getLast?_eq_getElem?
theorem lt_of_at {l : List UInt8} {i : Nat} {c : UInt8} (h : l[i]? = some c) : i < l.length := by
  by_cases hx : i < l.length
  · exact hx
  · rw [List.getElem?_eq_none (Nat.le_of_not_lt hx)] at h; cases h
/-- the last part is empty where the text is, or ends with a mark -/
theorem cutZ_last (c : UInt8) : ∀ (n : Nat) (s : ByteArray), s.size ≤ n → (((cutZ c s).getLastD ⟨#[]⟩).size = 0 ↔ (s.size = 0 ∨ s.data.toList.getLast? = some c)) := by
  intro n
  induction n with
  | zero =>
    intro s hs
    have h0 : s.size = 0 := by omega
    rw [cutZ_none (fun j hj => by omega)]
    simp [h0]
  | succ n ih =>
    intro s hs
    have hsz := Lib.size_eq s
    rcases first_mark c s.data.toList with h | ⟨i, h, hi⟩
    · rw [cutZ_none (fun j hj => h j (by omega))]
      constructor
      · intro e; exact .inl (by simpa using e)
      · rintro (e | e)
        · simpa using e
        · rw [getLast_at] at e
          have := lt_of_at e
          exact absurd e (h _ (by omega))
    · have hlt := lt_of_at hi
      rw [cutZ_at h hi, getLast_cons_ne _ _ _ (by intro e; have := cutZ_length c (s.extract (i + 1) s.size); rw [e] at this; simp at this)]
      rw [ih (s.extract (i + 1) s.size) (by rw [size_ex]; omega), size_ex, getLast_at, getLast_at, at_ex, Lib.extract_to_end, List.length_drop]
      by_cases e : i + 1 = s.size
      · constructor
        · intro _; refine .inr ?_; rw [show s.data.toList.length - 1 = i from by omega]; exact hi
        · intro _; exact .inl (by omega)
      · rw [show i + 1 + (s.data.toList.length - (i + 1) - 1) = s.data.toList.length - 1 from by omega]
        constructor
        · rintro (x | x)
          · omega
          · exact .inr x
        · rintro (x | x)
          · omega
          · exact .inr x
end Go.Proofs.YtncjkhdnpioinaaDoor
