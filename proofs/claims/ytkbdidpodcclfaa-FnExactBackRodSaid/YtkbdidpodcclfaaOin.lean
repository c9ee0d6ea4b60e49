/- Lists of numbers of a call's own, each in a range of blocks; the laws' marks from any number on. -/
import Derived.Test.YtkbdidpodcclfaaMarkO
namespace Go.Proofs.Ytkbdidpodcclfaa
open Go.RowKit
set_option linter.unusedVariables false

/-- the value v is a slice that reads as zs: empty, or in a block from lo to below hi -/
def OIn (lo hi : Nat) (w : World) (v : Value) (zs : List Nat) : Prop :=
  ((∃ a c, v = .slice a 0 c) ∧ zs = []) ∨ ∃ g o c, v = .slice (some ⟨g, o, none⟩) zs.length c ∧ lo ≤ g ∧ g < hi ∧ RowF w g o zs
abbrev Rg (lo hi : Nat) : Nat → Prop := fun j => lo ≤ j ∧ j < hi
theorem OIn.of {lo : Nat} {w : World} {v : Value} {zs : List Nat} (H : ORow lo w v zs) : OIn lo w.heap.size w v zs := by
  rcases H with H | ⟨g, o, c, rfl, hg, hr⟩
  · exact .inl H
  · exact .inr ⟨g, o, c, rfl, hg, hr.lt, hr⟩
theorem OIn.tur {lo hi : Nat} {S : Nat → Prop} {w w' : World} {v : Value} {zs : List Nat} (H : OIn lo hi w v zs) (t : Tur S w w') (hS : ∀ j, lo ≤ j → j < hi → ¬ S j) : OIn lo hi w' v zs := by
  rcases H with H | ⟨g, o, c, rfl, hg, hh, hr⟩
  · exact .inl H
  · exact .inr ⟨g, o, c, rfl, hg, hh, hr.of_block (t.block g hr.lt (hS g hg hh))⟩
theorem OIn.kept {lo hi : Nat} {w w' : World} {v : Value} {zs : List Nat} (H : OIn lo hi w v zs) (hb : Below w.heap.size w w') : OIn lo hi w' v zs :=
  H.tur (S := fun _ => False) (Tur.of_below hb) (fun _ _ _ h => h)
theorem OIn.frow {lo hi : Nat} {w : World} {v : Value} {zs : List Nat} (H : OIn lo hi w v zs) (hm : zs.length ≤ maxLen) : FRow w v zs := by
  rcases H with H | ⟨g, o, c, rfl, _, _, hr⟩
  · exact .inl H
  · exact .inr ⟨g, o, c, rfl, hm, fun i hi => hr.cell hi⟩
theorem OIn.shape {lo hi : Nat} {w : World} {v : Value} {zs : List Nat} (H : OIn lo hi w v zs) : ∃ a cap, v = .slice a zs.length cap := by
  rcases H with ⟨⟨a, c, rfl⟩, rfl⟩ | ⟨g, o, c, rfl, _⟩
  · exact ⟨_, _, rfl⟩
  · exact ⟨_, _, rfl⟩
/-- the marks k, k + 1 and so on -/
def mksK (k n : Nat) : List Nat := (List.range n).map fun i => fb (k + i)
theorem mksK_length (k n : Nat) : (mksK k n).length = n := by simp [mksK]
theorem mksK_getD (k n i : Nat) (hi : i < n) : (mksK k n).getD i 0 = fb (k + i) := by simp [mksK, hi, List.getD_eq_getElem?_getD]
theorem mksK_of {k n : Nat} {ys : List Nat} (hl : ys.length = n) (h : ∀ i, i < n → ys.getD i 0 = fb (k + i)) : ys = mksK k n := by
  refine List.ext_getElem (by rw [hl, mksK_length]) fun i h1 h2 => ?_
  have := h i (by omega)
  simp only [mksK, List.getElem_map, List.getElem_range]
  rw [← this]
  simp [List.getD_eq_getElem?_getD, h1]
theorem markIn {lo hi k : Nat} {v : Value} {zs : List Nat} {w : World} (H : OIn lo hi w v zs) (hl : zs.length ≤ 400) (hk : k ≤ 400) :
    Calls Try.prog 26 #[v, .int .i64 k] w fun e w' => e = .returned (.int .i64 ((k + zs.length : Nat) : Int)) ∧ OIn lo hi w' v (mksK k zs.length) ∧ Tur (Rg lo hi) w w' := by
  rcases H with ⟨⟨a, c, rfl⟩, rfl⟩ | ⟨g, o, c, rfl, hg, hh, hr⟩
  · refine (mark_mt a c k w hk).mono ?_
    rintro e w' ⟨rfl, rfl⟩
    exact ⟨rfl, .inl ⟨⟨_, _, rfl⟩, rfl⟩, Tur.of_below (Below.refl _ _)⟩
  · refine (markL_any g o zs.length k c zs w hr rfl (by omega) (by omega)).mono ?_
    rintro e w' ⟨rfl, ⟨ys, hy, hf, hr'⟩, hon⟩
    rw [mksK_of hy hf] at hr'
    exact ⟨rfl, .inr ⟨g, o, c, by rw [mksK_length], hg, hh, hr'⟩, Tur.of_onl hon ⟨hg, hh⟩⟩
theorem heldIn {lo hi k n : Nat} {v : Value} {w : World} (H : OIn lo hi w v (mksK k n)) (hl : k + n ≤ 400) :
    Calls Try.prog 30 #[v, .int .i64 k] w fun e w' => e = .returned (.int .i64 ((k + n : Nat) : Int)) ∧ w = w' := by
  rcases H with ⟨⟨a, c, rfl⟩, hz⟩ | ⟨g, o, c, rfl, hg, hh, hr⟩
  · have : n = 0 := by have := congrArg List.length hz; rw [mksK_length] at this; simpa using this
    subst this
    exact held_mt a c k w (by omega)
  · rw [mksK_length]
    exact heldL_any g o n k c (mksK k n) w hr (mksK_length k n) (by omega) (fun i hi => mksK_getD _ _ _ hi)
end Go.Proofs.Ytkbdidpodcclfaa
