/- Journals: what they are, and the program's side. -/
import Derived.Test.YtncjkhdnpioinaaDoorEnt
import Derived.Test.YtncjkhdnpioinaaDoorWs
import Derived.Test.YtncjkhdnpioinaaDoorAppZ
import Derived.Lib.IndexLaws
namespace Go.Proofs.YtncjkhdnpioinaaDoor
open Go.RowKit
set_option linter.unusedVariables false

abbrev zAt (zs : List ByteArray) (k : Nat) : ByteArray := zs.getD k ⟨#[]⟩
/-- the check number behind the first lines, and their journal -/
def cks (zs : List ByteArray) : Nat → Int
  | 0 => 0
  | k + 1 => chkTo (zAt zs k) (cks zs k) (zAt zs k).size
def jrn (zs : List ByteArray) : Nat → ByteArray
  | 0 => ⟨#[]⟩
  | k + 1 => jrn zs k ++ entZ (cks zs (k + 1)) (zAt zs k)
theorem cks_bd (zs : List ByteArray) : ∀ k, 0 ≤ cks zs k ∧ cks zs k < 65003
  | 0 => ⟨Int.le_refl _, by show (0 : Int) < 65003; omega⟩
  | k + 1 => chkTo_bd _ _ (cks_bd zs k).1 (cks_bd zs k).2 _
theorem jrn_le (zs : List ByteArray) : ∀ {a b : Nat}, a ≤ b → (jrn zs a).size ≤ (jrn zs b).size
  | a, 0, h => by rw [Nat.le_zero.1 h]; exact Nat.le_refl _
  | a, b + 1, h => by
    by_cases e : a = b + 1
    · subst e; exact Nat.le_refl _
    · have h1 := jrn_le zs (a := a) (b := b) (by omega)
      show _ ≤ (jrn zs b ++ _).size
      rw [ByteArray.size_append]; omega
/-- whether a line holds a newline -/
def nlIn (z : ByteArray) : Bool := decide (0 ≤ Lib.indexByte z.data.toList 10)
/-- whether lines have a journal -/
def joOk (zs : List ByteArray) : Bool := decide ((jrn zs zs.length).size ≤ 16000) && zs.all fun z => !nlIn z
def JoB (zs : List ByteArray) (w : World) (e : Ending) (w' : World) : Prop := e = .returned (.tuple #[.string (if joOk zs then jrn zs zs.length else ⟨#[]⟩), .bool (joOk zs)]) ∧ Below w.heap.size w w'
theorem JoB_no {zs : List ByteArray} {w : World} (h : joOk zs = false) : JoB zs w = fun e w' => e = .returned (.tuple #[.string ⟨#[]⟩, .bool false]) ∧ Below w.heap.size w w' := by
  unfold JoB; rw [h]; rfl
theorem JoB_yes {zs : List ByteArray} {w : World} (h : joOk zs = true) : JoB zs w = fun e w' => e = .returned (.tuple #[.string (jrn zs zs.length), .bool true]) ∧ Below w.heap.size w w' := by
  unfold JoB; rw [h]; rfl
theorem jo_long {zs : List ByteArray} {k : Nat} (hk : k ≤ zs.length) (h : 16000 < (jrn zs k).size) : joOk zs = false := by
  have := jrn_le zs hk
  unfold joOk
  rw [decide_eq_false (by omega)]; rfl
theorem jo_nl {zs : List ByteArray} {k : Nat} (hk : k < zs.length) (h : nlIn (zAt zs k) = true) : joOk zs = false := by
  unfold joOk
  have : (zs.all fun z => !nlIn z) = false := by
    rw [List.all_eq_false]
    refine ⟨_, List.getElem_mem hk, ?_⟩
    unfold zAt at h
    rw [List.getD_eq_getElem?_getD, List.getElem?_eq_getElem hk] at h
    simpa using h
  rw [this, Bool.and_false]
theorem jo_ok {zs : List ByteArray} (h : (jrn zs zs.length).size ≤ 16000) (ha : ∀ k, k < zs.length → nlIn (zAt zs k) = false) : joOk zs = true := by
  unfold joOk
  have : (zs.all fun z => !nlIn z) = true := by
    rw [List.all_eq_true]
    intro x hx
    obtain ⟨k, hk, rfl⟩ := List.getElem_of_mem hx
    have := ha k hk
    unfold zAt at this
    rw [List.getD_eq_getElem?_getD, List.getElem?_eq_getElem hk] at this
    simpa using this
  rw [this, decide_eq_true h]; rfl
theorem builder_kept {T e B b : Nat} {bs : List Value} {w w' : World} (h : Lib.IsBuilder T e B b bs w) (hb : Below w.heap.size w w') : Lib.IsBuilder T e B b bs w' := by
  have go (p : Value) (h : Lib.BuilderAt T e B b p bs w) : Lib.BuilderAt T e B b p bs w' := by
    obtain ⟨hB, v, hk, ⟨h1, h2⟩, hne⟩ := h
    refine ⟨hB, v, (hb.block b (Array.getElem?_eq_some_iff.1 hk).1).trans hk, ⟨h1, ?_⟩, hne⟩
    rcases h2 with h2 | ⟨g, cap, cur, e', hg, hc, h3⟩
    · exact .inl h2
    · exact .inr ⟨g, cap, cur, e', hg, (hb.block g (Array.getElem?_eq_some_iff.1 hc).1).trans hc, h3⟩
  exact h.imp (go _) (go _)
theorem str_cells (a b : ByteArray) : Lib.byteCells a.data.toList ++ Lib.strCells b = Lib.byteCells (a ++ b).data.toList := by
  rw [Lib.strCells_eq]
  unfold Lib.byteCells
  rw [← List.map_append]
  congr 1
theorem byteCells_len (a : ByteArray) : (Lib.byteCells a.data.toList).length = a.size := by rw [Lib.byteCells_length]; exact Array.length_toList

end Go.Proofs.YtncjkhdnpioinaaDoor
