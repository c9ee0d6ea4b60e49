/- What lies between, medians, a list of one's own that is written into. -/
import Derived.Test.YtabdinmodopadaaRdsC
import Derived.Test.YtabdinmodopadaaLst
import Derived.Test.YtabdinmodopadaaCloF
namespace Go.Proofs.Ytabdinmodopadaa
open Go.RowKit
set_option linter.unusedVariables false

def mgE (x y : Nat) : Bool := FloatKind.f32.format.order x y == some .gt || FloatKind.f32.format.order x y == some .eq
def mlE (x y : Nat) : Bool := FloatKind.f32.format.order x y == some .lt || FloatKind.f32.format.order x y == some .eq
def mbt (x a b : Nat) : Bool := (mgE x a && mlE x b) || (mlE x a && mgE x b)
def med (a b c : Nat) : Nat := if mbt b a c then b else if mbt a b c then a else c
/-- the medians, the first k of them set -/
def medU (zs : List Nat) : Nat → List Nat
  | 0 => zs
  | k + 1 => (medU zs k).set (k + 1) (med (zs.getD k 0) (zs.getD (k + 1) 0) (zs.getD (k + 2) 0))
theorem medU_len (zs : List Nat) : ∀ k, (medU zs k).length = zs.length
  | 0 => rfl
  | k + 1 => by rw [medU, List.length_set, medU_len zs k]
def medS (zs : List Nat) : List Nat := bif rds zs then (medU zs (zs.length - 2)).map (cn .f32) else []
theorem medS_len (zs : List Nat) : (medS zs).length ≤ 400 := by
  cases h : rds zs
  · unfold medS; rw [h]; simp
  · unfold medS; rw [h]; simp only [cond_true, List.length_map, medU_len]; have := (rds_len h).2; omega
theorem med_no {zs : List Nat} {w w' : World} (h : rds zs = false) (hb : Below w.heap.size w w') : LstO (medS zs) false w (.returned (.tuple #[.slice none 0 0, .bool false])) w' := by
  unfold medS; rw [h]; exact LstO.no hb
theorem med_yes {v : Value} {zs : List Nat} {w w' : World} (h : rds zs = true) (ho : Own w' w.heap.size v (medU zs (zs.length - 2))) (hb : Below w.heap.size w w') : LstO (medS zs) true w (.returned (.tuple #[v, .bool true])) w' := by
  unfold medS; rw [h]; exact ⟨v, _, rfl, ho.orow, rfl, hb⟩
/-- a list of one's own, opened -/
theorem Own.openS {w : World} {base : Nat} {v : Value} {zs : List Nat} (h : Own w base v zs) (hn : 1 ≤ zs.length) : ∃ g cap, v = .slice (some ⟨g, 0, none⟩) zs.length cap := by
  obtain ⟨h1, h2⟩ := h
  rcases h2 with ⟨_, h2⟩ | ⟨g, cap, cur, e, _⟩
  · omega
  · exact ⟨g, cap, e⟩
theorem Own.rowf {w : World} {base g n cap : Nat} {zs : List Nat} (h : Own w base (.slice (some ⟨g, 0, none⟩) n cap) zs) : base ≤ g ∧ RowF w g 0 zs := by
  obtain ⟨h1, h2⟩ := h
  rcases h2 with ⟨h2, _⟩ | ⟨g', cap', cur, e, hg, hc, h3, h4, hs, h6⟩
  · cases h2
  · cases e
    refine ⟨hg, cur, hc, fun i hi => ?_⟩
    have : (fl zs)[i]? = some (.float .f32 (zs.getD i 0)) := by simp [fl, hi, List.getD_eq_getElem?_getD]
    rw [← h6, List.getElem?_take, if_pos (by omega)] at this
    rw [Nat.zero_add]
    simpa using this
theorem Own.setAt {w : World} {base g n cap : Nat} {zs : List Nat} (h : Own w base (.slice (some ⟨g, 0, none⟩) n cap) zs) (j x : Nat) : Own (w.setCell ⟨g, j, none⟩ (.float .f32 x)) base (.slice (some ⟨g, 0, none⟩) n cap) (zs.set j x) := by
  obtain ⟨h1, h2⟩ := h
  rcases h2 with ⟨h2, _⟩ | ⟨g', cap', cur, e, hg, hc, h3, h4, hs, h6⟩
  · cases h2
  · cases e
    have ef : fl (zs.set j x) = (fl zs).set j (.float .f32 x) := by simp [fl, List.map_set]
    unfold Own
    rw [List.length_set]
    refine ⟨by rw [ef, List.length_set]; exact h1, .inr ⟨g, cap, cur.setIfInBounds j (.float .f32 x), rfl, hg, by simp [World.setCell, Array.getElem?_modify, hc], h3, h4, by simpa using hs, ?_⟩⟩
    rw [ef, Array.toList_setIfInBounds, List.take_set, h6]

theorem Own.lower {w : World} {base b : Nat} {v : Value} {zs : List Nat} (h : Own w base v zs) (hb : b ≤ base) : Own w b v zs := by
  obtain ⟨h1, h2⟩ := h
  refine ⟨h1, ?_⟩
  rcases h2 with h2 | ⟨g, cap, cur, e, hg, h3⟩
  · exact .inl h2
  · exact .inr ⟨g, cap, cur, e, Nat.le_trans hb hg, h3⟩

theorem specBt_any (x a b : Nat) (w : World) : Calls Try.prog 72 #[.float .f32 x, .float .f32 a, .float .f32 b] w fun e w' => e = .returned (.bool (mbt x a b)) ∧ w' = w := by
  cases g0 : mgE x a
  · skip
    cases g1 : mlE x b
    · skip
      cases g2 : mlE x a
      · skip
        cases g3 : mgE x b
        · skip
          have o0 : (FloatKind.f32.format.order x a == some .gt || FloatKind.f32.format.order x a == some .eq) = false := g0
          have o1 : (FloatKind.f32.format.order x b == some .lt || FloatKind.f32.format.order x b == some .eq) = false := g1
          have o2 : (FloatKind.f32.format.order x a == some .lt || FloatKind.f32.format.order x a == some .eq) = false := g2
          have o3 : (FloatKind.f32.format.order x b == some .gt || FloatKind.f32.format.order x b == some .eq) = false := g3
          have E := Lib.hid (show mbt x a b = false by unfold mbt; rw [g0, g1, g2, g3]; rfl)
          clear g0 g1 g2 g3
          go_enter Try.func72, Try.ntmps72
          go_wp2
          go_ret
          exact ⟨ret_b E.out, rfl⟩
        · skip
          have o0 : (FloatKind.f32.format.order x a == some .gt || FloatKind.f32.format.order x a == some .eq) = false := g0
          have o1 : (FloatKind.f32.format.order x b == some .lt || FloatKind.f32.format.order x b == some .eq) = false := g1
          have o2 : (FloatKind.f32.format.order x a == some .lt || FloatKind.f32.format.order x a == some .eq) = false := g2
          have o3 : (FloatKind.f32.format.order x b == some .gt || FloatKind.f32.format.order x b == some .eq) = true := g3
          have E := Lib.hid (show mbt x a b = false by unfold mbt; rw [g0, g1, g2, g3]; rfl)
          clear g0 g1 g2 g3
          go_enter Try.func72, Try.ntmps72
          go_wp2
          go_ret
          exact ⟨ret_b E.out, rfl⟩
      · skip
        cases g3 : mgE x b
        · skip
          have o0 : (FloatKind.f32.format.order x a == some .gt || FloatKind.f32.format.order x a == some .eq) = false := g0
          have o1 : (FloatKind.f32.format.order x b == some .lt || FloatKind.f32.format.order x b == some .eq) = false := g1
          have o2 : (FloatKind.f32.format.order x a == some .lt || FloatKind.f32.format.order x a == some .eq) = true := g2
          have o3 : (FloatKind.f32.format.order x b == some .gt || FloatKind.f32.format.order x b == some .eq) = false := g3
          have E := Lib.hid (show mbt x a b = false by unfold mbt; rw [g0, g1, g2, g3]; rfl)
          clear g0 g1 g2 g3
          go_enter Try.func72, Try.ntmps72
          go_wp2
          go_ret
          exact ⟨ret_b E.out, rfl⟩
        · skip
          have o0 : (FloatKind.f32.format.order x a == some .gt || FloatKind.f32.format.order x a == some .eq) = false := g0
          have o1 : (FloatKind.f32.format.order x b == some .lt || FloatKind.f32.format.order x b == some .eq) = false := g1
          have o2 : (FloatKind.f32.format.order x a == some .lt || FloatKind.f32.format.order x a == some .eq) = true := g2
          have o3 : (FloatKind.f32.format.order x b == some .gt || FloatKind.f32.format.order x b == some .eq) = true := g3
          have E := Lib.hid (show mbt x a b = true by unfold mbt; rw [g0, g1, g2, g3]; rfl)
          clear g0 g1 g2 g3
          go_enter Try.func72, Try.ntmps72
          go_wp2
          go_ret
          exact ⟨ret_b E.out, rfl⟩
    · skip
      cases g2 : mlE x a
      · skip
        cases g3 : mgE x b
        · skip
          have o0 : (FloatKind.f32.format.order x a == some .gt || FloatKind.f32.format.order x a == some .eq) = false := g0
          have o1 : (FloatKind.f32.format.order x b == some .lt || FloatKind.f32.format.order x b == some .eq) = true := g1
          have o2 : (FloatKind.f32.format.order x a == some .lt || FloatKind.f32.format.order x a == some .eq) = false := g2
          have o3 : (FloatKind.f32.format.order x b == some .gt || FloatKind.f32.format.order x b == some .eq) = false := g3
          have E := Lib.hid (show mbt x a b = false by unfold mbt; rw [g0, g1, g2, g3]; rfl)
          clear g0 g1 g2 g3
          go_enter Try.func72, Try.ntmps72
          go_wp2
          go_ret
          exact ⟨ret_b E.out, rfl⟩
        · skip
          have o0 : (FloatKind.f32.format.order x a == some .gt || FloatKind.f32.format.order x a == some .eq) = false := g0
          have o1 : (FloatKind.f32.format.order x b == some .lt || FloatKind.f32.format.order x b == some .eq) = true := g1
          have o2 : (FloatKind.f32.format.order x a == some .lt || FloatKind.f32.format.order x a == some .eq) = false := g2
          have o3 : (FloatKind.f32.format.order x b == some .gt || FloatKind.f32.format.order x b == some .eq) = true := g3
          have E := Lib.hid (show mbt x a b = false by unfold mbt; rw [g0, g1, g2, g3]; rfl)
          clear g0 g1 g2 g3
          go_enter Try.func72, Try.ntmps72
          go_wp2
          go_ret
          exact ⟨ret_b E.out, rfl⟩
      · skip
        cases g3 : mgE x b
        · skip
          have o0 : (FloatKind.f32.format.order x a == some .gt || FloatKind.f32.format.order x a == some .eq) = false := g0
          have o1 : (FloatKind.f32.format.order x b == some .lt || FloatKind.f32.format.order x b == some .eq) = true := g1
          have o2 : (FloatKind.f32.format.order x a == some .lt || FloatKind.f32.format.order x a == some .eq) = true := g2
          have o3 : (FloatKind.f32.format.order x b == some .gt || FloatKind.f32.format.order x b == some .eq) = false := g3
          have E := Lib.hid (show mbt x a b = false by unfold mbt; rw [g0, g1, g2, g3]; rfl)
          clear g0 g1 g2 g3
          go_enter Try.func72, Try.ntmps72
          go_wp2
          go_ret
          exact ⟨ret_b E.out, rfl⟩
        · skip
          have o0 : (FloatKind.f32.format.order x a == some .gt || FloatKind.f32.format.order x a == some .eq) = false := g0
          have o1 : (FloatKind.f32.format.order x b == some .lt || FloatKind.f32.format.order x b == some .eq) = true := g1
          have o2 : (FloatKind.f32.format.order x a == some .lt || FloatKind.f32.format.order x a == some .eq) = true := g2
          have o3 : (FloatKind.f32.format.order x b == some .gt || FloatKind.f32.format.order x b == some .eq) = true := g3
          have E := Lib.hid (show mbt x a b = true by unfold mbt; rw [g0, g1, g2, g3]; rfl)
          clear g0 g1 g2 g3
          go_enter Try.func72, Try.ntmps72
          go_wp2
          go_ret
          exact ⟨ret_b E.out, rfl⟩
  · skip
    cases g1 : mlE x b
    · skip
      cases g2 : mlE x a
      · skip
        cases g3 : mgE x b
        · skip
          have o0 : (FloatKind.f32.format.order x a == some .gt || FloatKind.f32.format.order x a == some .eq) = true := g0
          have o1 : (FloatKind.f32.format.order x b == some .lt || FloatKind.f32.format.order x b == some .eq) = false := g1
          have o2 : (FloatKind.f32.format.order x a == some .lt || FloatKind.f32.format.order x a == some .eq) = false := g2
          have o3 : (FloatKind.f32.format.order x b == some .gt || FloatKind.f32.format.order x b == some .eq) = false := g3
          have E := Lib.hid (show mbt x a b = false by unfold mbt; rw [g0, g1, g2, g3]; rfl)
          clear g0 g1 g2 g3
          go_enter Try.func72, Try.ntmps72
          go_wp2
          go_ret
          exact ⟨ret_b E.out, rfl⟩
        · skip
          have o0 : (FloatKind.f32.format.order x a == some .gt || FloatKind.f32.format.order x a == some .eq) = true := g0
          have o1 : (FloatKind.f32.format.order x b == some .lt || FloatKind.f32.format.order x b == some .eq) = false := g1
          have o2 : (FloatKind.f32.format.order x a == some .lt || FloatKind.f32.format.order x a == some .eq) = false := g2
          have o3 : (FloatKind.f32.format.order x b == some .gt || FloatKind.f32.format.order x b == some .eq) = true := g3
          have E := Lib.hid (show mbt x a b = false by unfold mbt; rw [g0, g1, g2, g3]; rfl)
          clear g0 g1 g2 g3
          go_enter Try.func72, Try.ntmps72
          go_wp2
          go_ret
          exact ⟨ret_b E.out, rfl⟩
      · skip
        cases g3 : mgE x b
        · skip
          have o0 : (FloatKind.f32.format.order x a == some .gt || FloatKind.f32.format.order x a == some .eq) = true := g0
          have o1 : (FloatKind.f32.format.order x b == some .lt || FloatKind.f32.format.order x b == some .eq) = false := g1
          have o2 : (FloatKind.f32.format.order x a == some .lt || FloatKind.f32.format.order x a == some .eq) = true := g2
          have o3 : (FloatKind.f32.format.order x b == some .gt || FloatKind.f32.format.order x b == some .eq) = false := g3
          have E := Lib.hid (show mbt x a b = false by unfold mbt; rw [g0, g1, g2, g3]; rfl)
          clear g0 g1 g2 g3
          go_enter Try.func72, Try.ntmps72
          go_wp2
          go_ret
          exact ⟨ret_b E.out, rfl⟩
        · skip
          have o0 : (FloatKind.f32.format.order x a == some .gt || FloatKind.f32.format.order x a == some .eq) = true := g0
          have o1 : (FloatKind.f32.format.order x b == some .lt || FloatKind.f32.format.order x b == some .eq) = false := g1
          have o2 : (FloatKind.f32.format.order x a == some .lt || FloatKind.f32.format.order x a == some .eq) = true := g2
          have o3 : (FloatKind.f32.format.order x b == some .gt || FloatKind.f32.format.order x b == some .eq) = true := g3
          have E := Lib.hid (show mbt x a b = true by unfold mbt; rw [g0, g1, g2, g3]; rfl)
          clear g0 g1 g2 g3
          go_enter Try.func72, Try.ntmps72
          go_wp2
          go_ret
          exact ⟨ret_b E.out, rfl⟩
    · skip
      cases g2 : mlE x a
      · skip
        cases g3 : mgE x b
        · skip
          have o0 : (FloatKind.f32.format.order x a == some .gt || FloatKind.f32.format.order x a == some .eq) = true := g0
          have o1 : (FloatKind.f32.format.order x b == some .lt || FloatKind.f32.format.order x b == some .eq) = true := g1
          have o2 : (FloatKind.f32.format.order x a == some .lt || FloatKind.f32.format.order x a == some .eq) = false := g2
          have o3 : (FloatKind.f32.format.order x b == some .gt || FloatKind.f32.format.order x b == some .eq) = false := g3
          have E := Lib.hid (show mbt x a b = true by unfold mbt; rw [g0, g1, g2, g3]; rfl)
          clear g0 g1 g2 g3
          go_enter Try.func72, Try.ntmps72
          go_wp2
          go_ret
          exact ⟨ret_b E.out, rfl⟩
        · skip
          have o0 : (FloatKind.f32.format.order x a == some .gt || FloatKind.f32.format.order x a == some .eq) = true := g0
          have o1 : (FloatKind.f32.format.order x b == some .lt || FloatKind.f32.format.order x b == some .eq) = true := g1
          have o2 : (FloatKind.f32.format.order x a == some .lt || FloatKind.f32.format.order x a == some .eq) = false := g2
          have o3 : (FloatKind.f32.format.order x b == some .gt || FloatKind.f32.format.order x b == some .eq) = true := g3
          have E := Lib.hid (show mbt x a b = true by unfold mbt; rw [g0, g1, g2, g3]; rfl)
          clear g0 g1 g2 g3
          go_enter Try.func72, Try.ntmps72
          go_wp2
          go_ret
          exact ⟨ret_b E.out, rfl⟩
      · skip
        cases g3 : mgE x b
        · skip
          have o0 : (FloatKind.f32.format.order x a == some .gt || FloatKind.f32.format.order x a == some .eq) = true := g0
          have o1 : (FloatKind.f32.format.order x b == some .lt || FloatKind.f32.format.order x b == some .eq) = true := g1
          have o2 : (FloatKind.f32.format.order x a == some .lt || FloatKind.f32.format.order x a == some .eq) = true := g2
          have o3 : (FloatKind.f32.format.order x b == some .gt || FloatKind.f32.format.order x b == some .eq) = false := g3
          have E := Lib.hid (show mbt x a b = true by unfold mbt; rw [g0, g1, g2, g3]; rfl)
          clear g0 g1 g2 g3
          go_enter Try.func72, Try.ntmps72
          go_wp2
          go_ret
          exact ⟨ret_b E.out, rfl⟩
        · skip
          have o0 : (FloatKind.f32.format.order x a == some .gt || FloatKind.f32.format.order x a == some .eq) = true := g0
          have o1 : (FloatKind.f32.format.order x b == some .lt || FloatKind.f32.format.order x b == some .eq) = true := g1
          have o2 : (FloatKind.f32.format.order x a == some .lt || FloatKind.f32.format.order x a == some .eq) = true := g2
          have o3 : (FloatKind.f32.format.order x b == some .gt || FloatKind.f32.format.order x b == some .eq) = true := g3
          have E := Lib.hid (show mbt x a b = true by unfold mbt; rw [g0, g1, g2, g3]; rfl)
          clear g0 g1 g2 g3
          go_enter Try.func72, Try.ntmps72
          go_wp2
          go_ret
          exact ⟨ret_b E.out, rfl⟩

theorem implBt_any (x a b : Nat) (w : World) : Calls Try.prog 75 #[.float .f32 x, .float .f32 a, .float .f32 b] w fun e w' => e = .returned (.bool (mbt x a b)) ∧ w' = w := by
  cases g0 : mgE x a
  · skip
    cases g1 : mlE x b
    · skip
      cases g2 : mlE x a
      · skip
        cases g3 : mgE x b
        · skip
          have o0 : (FloatKind.f32.format.order x a == some .gt || FloatKind.f32.format.order x a == some .eq) = false := g0
          have o1 : (FloatKind.f32.format.order x b == some .lt || FloatKind.f32.format.order x b == some .eq) = false := g1
          have o2 : (FloatKind.f32.format.order x a == some .lt || FloatKind.f32.format.order x a == some .eq) = false := g2
          have o3 : (FloatKind.f32.format.order x b == some .gt || FloatKind.f32.format.order x b == some .eq) = false := g3
          have E := Lib.hid (show mbt x a b = false by unfold mbt; rw [g0, g1, g2, g3]; rfl)
          clear g0 g1 g2 g3
          go_enter Try.func75, Try.ntmps75
          go_wp2
          go_ret
          exact ⟨ret_b E.out, rfl⟩
        · skip
          have o0 : (FloatKind.f32.format.order x a == some .gt || FloatKind.f32.format.order x a == some .eq) = false := g0
          have o1 : (FloatKind.f32.format.order x b == some .lt || FloatKind.f32.format.order x b == some .eq) = false := g1
          have o2 : (FloatKind.f32.format.order x a == some .lt || FloatKind.f32.format.order x a == some .eq) = false := g2
          have o3 : (FloatKind.f32.format.order x b == some .gt || FloatKind.f32.format.order x b == some .eq) = true := g3
          have E := Lib.hid (show mbt x a b = false by unfold mbt; rw [g0, g1, g2, g3]; rfl)
          clear g0 g1 g2 g3
          go_enter Try.func75, Try.ntmps75
          go_wp2
          go_ret
          exact ⟨ret_b E.out, rfl⟩
      · skip
        cases g3 : mgE x b
        · skip
          have o0 : (FloatKind.f32.format.order x a == some .gt || FloatKind.f32.format.order x a == some .eq) = false := g0
          have o1 : (FloatKind.f32.format.order x b == some .lt || FloatKind.f32.format.order x b == some .eq) = false := g1
          have o2 : (FloatKind.f32.format.order x a == some .lt || FloatKind.f32.format.order x a == some .eq) = true := g2
          have o3 : (FloatKind.f32.format.order x b == some .gt || FloatKind.f32.format.order x b == some .eq) = false := g3
          have E := Lib.hid (show mbt x a b = false by unfold mbt; rw [g0, g1, g2, g3]; rfl)
          clear g0 g1 g2 g3
          go_enter Try.func75, Try.ntmps75
          go_wp2
          go_ret
          exact ⟨ret_b E.out, rfl⟩
        · skip
          have o0 : (FloatKind.f32.format.order x a == some .gt || FloatKind.f32.format.order x a == some .eq) = false := g0
          have o1 : (FloatKind.f32.format.order x b == some .lt || FloatKind.f32.format.order x b == some .eq) = false := g1
          have o2 : (FloatKind.f32.format.order x a == some .lt || FloatKind.f32.format.order x a == some .eq) = true := g2
          have o3 : (FloatKind.f32.format.order x b == some .gt || FloatKind.f32.format.order x b == some .eq) = true := g3
          have E := Lib.hid (show mbt x a b = true by unfold mbt; rw [g0, g1, g2, g3]; rfl)
          clear g0 g1 g2 g3
          go_enter Try.func75, Try.ntmps75
          go_wp2
          go_ret
          exact ⟨ret_b E.out, rfl⟩
    · skip
      cases g2 : mlE x a
      · skip
        cases g3 : mgE x b
        · skip
          have o0 : (FloatKind.f32.format.order x a == some .gt || FloatKind.f32.format.order x a == some .eq) = false := g0
          have o1 : (FloatKind.f32.format.order x b == some .lt || FloatKind.f32.format.order x b == some .eq) = true := g1
          have o2 : (FloatKind.f32.format.order x a == some .lt || FloatKind.f32.format.order x a == some .eq) = false := g2
          have o3 : (FloatKind.f32.format.order x b == some .gt || FloatKind.f32.format.order x b == some .eq) = false := g3
          have E := Lib.hid (show mbt x a b = false by unfold mbt; rw [g0, g1, g2, g3]; rfl)
          clear g0 g1 g2 g3
          go_enter Try.func75, Try.ntmps75
          go_wp2
          go_ret
          exact ⟨ret_b E.out, rfl⟩
        · skip
          have o0 : (FloatKind.f32.format.order x a == some .gt || FloatKind.f32.format.order x a == some .eq) = false := g0
          have o1 : (FloatKind.f32.format.order x b == some .lt || FloatKind.f32.format.order x b == some .eq) = true := g1
          have o2 : (FloatKind.f32.format.order x a == some .lt || FloatKind.f32.format.order x a == some .eq) = false := g2
          have o3 : (FloatKind.f32.format.order x b == some .gt || FloatKind.f32.format.order x b == some .eq) = true := g3
          have E := Lib.hid (show mbt x a b = false by unfold mbt; rw [g0, g1, g2, g3]; rfl)
          clear g0 g1 g2 g3
          go_enter Try.func75, Try.ntmps75
          go_wp2
          go_ret
          exact ⟨ret_b E.out, rfl⟩
      · skip
        cases g3 : mgE x b
        · skip
          have o0 : (FloatKind.f32.format.order x a == some .gt || FloatKind.f32.format.order x a == some .eq) = false := g0
          have o1 : (FloatKind.f32.format.order x b == some .lt || FloatKind.f32.format.order x b == some .eq) = true := g1
          have o2 : (FloatKind.f32.format.order x a == some .lt || FloatKind.f32.format.order x a == some .eq) = true := g2
          have o3 : (FloatKind.f32.format.order x b == some .gt || FloatKind.f32.format.order x b == some .eq) = false := g3
          have E := Lib.hid (show mbt x a b = false by unfold mbt; rw [g0, g1, g2, g3]; rfl)
          clear g0 g1 g2 g3
          go_enter Try.func75, Try.ntmps75
          go_wp2
          go_ret
          exact ⟨ret_b E.out, rfl⟩
        · skip
          have o0 : (FloatKind.f32.format.order x a == some .gt || FloatKind.f32.format.order x a == some .eq) = false := g0
          have o1 : (FloatKind.f32.format.order x b == some .lt || FloatKind.f32.format.order x b == some .eq) = true := g1
          have o2 : (FloatKind.f32.format.order x a == some .lt || FloatKind.f32.format.order x a == some .eq) = true := g2
          have o3 : (FloatKind.f32.format.order x b == some .gt || FloatKind.f32.format.order x b == some .eq) = true := g3
          have E := Lib.hid (show mbt x a b = true by unfold mbt; rw [g0, g1, g2, g3]; rfl)
          clear g0 g1 g2 g3
          go_enter Try.func75, Try.ntmps75
          go_wp2
          go_ret
          exact ⟨ret_b E.out, rfl⟩
  · skip
    cases g1 : mlE x b
    · skip
      cases g2 : mlE x a
      · skip
        cases g3 : mgE x b
        · skip
          have o0 : (FloatKind.f32.format.order x a == some .gt || FloatKind.f32.format.order x a == some .eq) = true := g0
          have o1 : (FloatKind.f32.format.order x b == some .lt || FloatKind.f32.format.order x b == some .eq) = false := g1
          have o2 : (FloatKind.f32.format.order x a == some .lt || FloatKind.f32.format.order x a == some .eq) = false := g2
          have o3 : (FloatKind.f32.format.order x b == some .gt || FloatKind.f32.format.order x b == some .eq) = false := g3
          have E := Lib.hid (show mbt x a b = false by unfold mbt; rw [g0, g1, g2, g3]; rfl)
          clear g0 g1 g2 g3
          go_enter Try.func75, Try.ntmps75
          go_wp2
          go_ret
          exact ⟨ret_b E.out, rfl⟩
        · skip
          have o0 : (FloatKind.f32.format.order x a == some .gt || FloatKind.f32.format.order x a == some .eq) = true := g0
          have o1 : (FloatKind.f32.format.order x b == some .lt || FloatKind.f32.format.order x b == some .eq) = false := g1
          have o2 : (FloatKind.f32.format.order x a == some .lt || FloatKind.f32.format.order x a == some .eq) = false := g2
          have o3 : (FloatKind.f32.format.order x b == some .gt || FloatKind.f32.format.order x b == some .eq) = true := g3
          have E := Lib.hid (show mbt x a b = false by unfold mbt; rw [g0, g1, g2, g3]; rfl)
          clear g0 g1 g2 g3
          go_enter Try.func75, Try.ntmps75
          go_wp2
          go_ret
          exact ⟨ret_b E.out, rfl⟩
      · skip
        cases g3 : mgE x b
        · skip
          have o0 : (FloatKind.f32.format.order x a == some .gt || FloatKind.f32.format.order x a == some .eq) = true := g0
          have o1 : (FloatKind.f32.format.order x b == some .lt || FloatKind.f32.format.order x b == some .eq) = false := g1
          have o2 : (FloatKind.f32.format.order x a == some .lt || FloatKind.f32.format.order x a == some .eq) = true := g2
          have o3 : (FloatKind.f32.format.order x b == some .gt || FloatKind.f32.format.order x b == some .eq) = false := g3
          have E := Lib.hid (show mbt x a b = false by unfold mbt; rw [g0, g1, g2, g3]; rfl)
          clear g0 g1 g2 g3
          go_enter Try.func75, Try.ntmps75
          go_wp2
          go_ret
          exact ⟨ret_b E.out, rfl⟩
        · skip
          have o0 : (FloatKind.f32.format.order x a == some .gt || FloatKind.f32.format.order x a == some .eq) = true := g0
          have o1 : (FloatKind.f32.format.order x b == some .lt || FloatKind.f32.format.order x b == some .eq) = false := g1
          have o2 : (FloatKind.f32.format.order x a == some .lt || FloatKind.f32.format.order x a == some .eq) = true := g2
          have o3 : (FloatKind.f32.format.order x b == some .gt || FloatKind.f32.format.order x b == some .eq) = true := g3
          have E := Lib.hid (show mbt x a b = true by unfold mbt; rw [g0, g1, g2, g3]; rfl)
          clear g0 g1 g2 g3
          go_enter Try.func75, Try.ntmps75
          go_wp2
          go_ret
          exact ⟨ret_b E.out, rfl⟩
    · skip
      cases g2 : mlE x a
      · skip
        cases g3 : mgE x b
        · skip
          have o0 : (FloatKind.f32.format.order x a == some .gt || FloatKind.f32.format.order x a == some .eq) = true := g0
          have o1 : (FloatKind.f32.format.order x b == some .lt || FloatKind.f32.format.order x b == some .eq) = true := g1
          have o2 : (FloatKind.f32.format.order x a == some .lt || FloatKind.f32.format.order x a == some .eq) = false := g2
          have o3 : (FloatKind.f32.format.order x b == some .gt || FloatKind.f32.format.order x b == some .eq) = false := g3
          have E := Lib.hid (show mbt x a b = true by unfold mbt; rw [g0, g1, g2, g3]; rfl)
          clear g0 g1 g2 g3
          go_enter Try.func75, Try.ntmps75
          go_wp2
          go_ret
          exact ⟨ret_b E.out, rfl⟩
        · skip
          have o0 : (FloatKind.f32.format.order x a == some .gt || FloatKind.f32.format.order x a == some .eq) = true := g0
          have o1 : (FloatKind.f32.format.order x b == some .lt || FloatKind.f32.format.order x b == some .eq) = true := g1
          have o2 : (FloatKind.f32.format.order x a == some .lt || FloatKind.f32.format.order x a == some .eq) = false := g2
          have o3 : (FloatKind.f32.format.order x b == some .gt || FloatKind.f32.format.order x b == some .eq) = true := g3
          have E := Lib.hid (show mbt x a b = true by unfold mbt; rw [g0, g1, g2, g3]; rfl)
          clear g0 g1 g2 g3
          go_enter Try.func75, Try.ntmps75
          go_wp2
          go_ret
          exact ⟨ret_b E.out, rfl⟩
      · skip
        cases g3 : mgE x b
        · skip
          have o0 : (FloatKind.f32.format.order x a == some .gt || FloatKind.f32.format.order x a == some .eq) = true := g0
          have o1 : (FloatKind.f32.format.order x b == some .lt || FloatKind.f32.format.order x b == some .eq) = true := g1
          have o2 : (FloatKind.f32.format.order x a == some .lt || FloatKind.f32.format.order x a == some .eq) = true := g2
          have o3 : (FloatKind.f32.format.order x b == some .gt || FloatKind.f32.format.order x b == some .eq) = false := g3
          have E := Lib.hid (show mbt x a b = true by unfold mbt; rw [g0, g1, g2, g3]; rfl)
          clear g0 g1 g2 g3
          go_enter Try.func75, Try.ntmps75
          go_wp2
          go_ret
          exact ⟨ret_b E.out, rfl⟩
        · skip
          have o0 : (FloatKind.f32.format.order x a == some .gt || FloatKind.f32.format.order x a == some .eq) = true := g0
          have o1 : (FloatKind.f32.format.order x b == some .lt || FloatKind.f32.format.order x b == some .eq) = true := g1
          have o2 : (FloatKind.f32.format.order x a == some .lt || FloatKind.f32.format.order x a == some .eq) = true := g2
          have o3 : (FloatKind.f32.format.order x b == some .gt || FloatKind.f32.format.order x b == some .eq) = true := g3
          have E := Lib.hid (show mbt x a b = true by unfold mbt; rw [g0, g1, g2, g3]; rfl)
          clear g0 g1 g2 g3
          go_enter Try.func75, Try.ntmps75
          go_wp2
          go_ret
          exact ⟨ret_b E.out, rfl⟩

theorem implMed_any (a b c : Nat) (w : World) : Calls Try.prog 50 #[.float .f32 a, .float .f32 b, .float .f32 c] w fun e w' => e = .returned (.float .f32 (med a b c)) ∧ w' = w := by
  cases g0 : mbt b a c
  · cases g1 : mbt a b c
    · skip
      have E := Lib.hid (show med a b c = c by unfold med; rw [g0, g1]; rfl)
      have H0 := Lib.hid g0
      have H1 := Lib.hid g1
      clear g0 g1
      go_enter Try.func50, Try.ntmps50
      go_wp2_with fail
      refine (implBt_any b a c _).mono ?_
      rw [H0.out]
      rintro e w' ⟨rfl, rfl⟩
      go_wp2_with fail
      refine (implBt_any a b c _).mono ?_
      rw [H1.out]
      rintro e w' ⟨rfl, rfl⟩
      go_wp2
      go_ret
      exact ⟨by rw [E.out]; rfl, rfl⟩
    · skip
      have E := Lib.hid (show med a b c = a by unfold med; rw [g0, g1]; rfl)
      have H0 := Lib.hid g0
      have H1 := Lib.hid g1
      clear g0 g1
      go_enter Try.func50, Try.ntmps50
      go_wp2_with fail
      refine (implBt_any b a c _).mono ?_
      rw [H0.out]
      rintro e w' ⟨rfl, rfl⟩
      go_wp2_with fail
      refine (implBt_any a b c _).mono ?_
      rw [H1.out]
      rintro e w' ⟨rfl, rfl⟩
      go_wp2
      go_ret
      exact ⟨by rw [E.out]; rfl, rfl⟩
  · skip
    have E := Lib.hid (show med a b c = b by unfold med; rw [g0]; rfl)
    have H0 := Lib.hid g0
    clear g0
    go_enter Try.func50, Try.ntmps50
    go_wp2_with fail
    refine (implBt_any b a c _).mono ?_
    rw [H0.out]
    rintro e w' ⟨rfl, rfl⟩
    go_wp2
    go_ret
    exact ⟨by rw [E.out]; rfl, rfl⟩

end Go.Proofs.Ytabdinmodopadaa
