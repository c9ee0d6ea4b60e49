/- The laws' marks on lists of any length, and lists that a call made: a part of a block of its own. -/
import Derived.Test.YtkbdidpodcclfaaOnl
import Derived.Test.YtkbdidpodcclfaaSl
import Derived.Test.YtkbdidpodcclfaaAppB
namespace Go.Proofs.Ytkbdidpodcclfaa
open Go.RowKit
set_option linter.unusedVariables false

/-- from cell o on, block g holds the numbers zs, and may be written -/
def RowF (w : World) (g o : Nat) (zs : List Nat) : Prop := ∃ c : Array Value, w.heap[g]? = some (.cells c 22 (0, 0)) ∧ ∀ i, i < zs.length → c[o + i]? = some (.float .f32 (zs.getD i 0))
theorem RowF.cell {w : World} {g o i : Nat} {zs : List Nat} (h : RowF w g o zs) (hi : i < zs.length) : w.cell? ⟨g, o + i, none⟩ = some (.float .f32 (zs.getD i 0)) := by
  obtain ⟨c, hb, hc⟩ := h
  simp [World.cell?, hb, hc i hi]
theorem RowF.frozen {w : World} {g o : Nat} {zs : List Nat} (h : RowF w g o zs) (i : Nat) : w.frozen? ⟨g, i, none⟩ = false := by
  obtain ⟨c, hb, _⟩ := h
  simp [World.frozen?, hb]
theorem RowF.lt {w : World} {g o : Nat} {zs : List Nat} (h : RowF w g o zs) : g < w.heap.size := by
  obtain ⟨c, hb, _⟩ := h
  exact (Array.getElem?_eq_some_iff.1 hb).1
theorem RowF.of_block {w w' : World} {g o : Nat} {zs : List Nat} (h : RowF w g o zs) (e : w'.heap[g]? = w.heap[g]?) : RowF w' g o zs := by
  obtain ⟨c, hb, hc⟩ := h
  exact ⟨c, e.trans hb, hc⟩
theorem RowF.set {w : World} {g o : Nat} {zs : List Nat} (h : RowF w g o zs) (j x : Nat) (hj : j < zs.length) : RowF (w.setCell ⟨g, o + j, none⟩ (.float .f32 x)) g o (zs.set j x) := by
  obtain ⟨c, hb, hc⟩ := h
  refine ⟨c.setIfInBounds (o + j) (.float .f32 x), by simp [World.setCell, Array.getElem?_modify, hb], fun i hi => ?_⟩
  have hi' : i < zs.length := by simpa using hi
  rw [Array.getElem?_setIfInBounds]
  by_cases e : i = j
  · subst e
    have hlt : o + i < c.size := (Array.getElem?_eq_some_iff.1 (hc i hi')).1
    simp [hlt, hj, List.getD_eq_getElem?_getD]
  · rw [if_neg (by omega), hc i hi']
    simp [List.getD_eq_getElem?_getD, List.getElem?_set_ne (Ne.symm e)]
theorem RowF.of_row {w : World} {g o N : Nat} {f : Nat → Nat} {zs : List Nat} (h : w.rowIs g 22 N (fun i => .float .f32 (f i))) (ho : o + zs.length ≤ N) (hf : ∀ i, i < zs.length → f (o + i) = zs.getD i 0) : RowF w g o zs := by
  obtain ⟨c, hb, hn, hc⟩ := h
  exact ⟨c, hb, fun i hi => by simpa only [hf i hi] using hc (o + i) (by omega)⟩

theorem markL_any (g o n k c : Nat) (zs : List Nat) (w : World) (hr : RowF w g o zs) (hz : zs.length = n) (hn : n ≤ 1048576) (hk : k ≤ 1048576) :
    Calls Try.prog 26 #[.slice (some ⟨g, o, none⟩) n c, .int .i64 k] w fun e w' => e = .returned (.int .i64 ((k + n : Nat) : Int)) ∧ (∃ ys : List Nat, ys.length = n ∧ (∀ i, i < n → ys.getD i 0 = fb (k + i)) ∧ RowF w' g o ys) ∧ Onl g w w' := by
  have HR : Hid (∃ ys : List Nat, ys.length = n ∧ (∀ i, i < 0 → ys.getD i 0 = fb (k + i)) ∧ RowF w g o ys) := Lib.hid ⟨zs, hz, fun i hi => absurd hi (by omega), hr⟩
  clear hr hz
  go_enter Try.func26, Try.ntmps26
  go_wp2
  go_loopw [1, 5] (fun q i wr => ∃ j : Nat, j ≤ n ∧ i = .int .i64 j ∧ q = .int .i64 ((k + j : Nat) : Int) ∧ Hid (∃ ys : List Nat, ys.length = n ∧ (∀ i, i < j → ys.getD i 0 = fb (k + i)) ∧ RowF wr g o ys) ∧ Hid (Onl g w wr)) (fun _ i _ => n - (intOf i).toNat)
  case atStart => exact ⟨0, Nat.zero_le _, rfl, rfl, HR, Lib.hid (Onl.refl g w)⟩
  case round =>
    obtain ⟨j, hj, rfl, rfl, hrow, hon⟩ := hrel
    by_cases hlt : j < n
    · obtain ⟨ys, hy, hm, C⟩ := hrow.out
      have e3 : wr.cell? ⟨g, o + j, none⟩ = some (.float .f32 (ys.getD j 0)) := C.cell (by omega)
      have e4 : wr.frozen? ⟨g, o + j, none⟩ = false := C.frozen _
      have C := Lib.hid C
      have HY := Lib.hid hy
      have HM := Lib.hid hm
      clear hrow hy hm
      generalize ys.getD j 0 = old at *
      have hi : (0 : Int) ≤ (j : Int) := by omega
      have hi' : (j : Int) < (n : Int) := by omega
      go_wp2
      go_roundw
      case rel =>
        refine ⟨j + 1, by omega, by go_num, by go_num, Lib.hid ⟨ys.set j (fb (k + j)), by simpa using HY.out, fun i hi => ?_, ?_⟩, Lib.hid (Onl.setCell hon.out _ _)⟩
        · by_cases e : i = j
          · subst e
            have := HY.out
            simp [List.getD_eq_getElem?_getD, show i < ys.length by omega]
          · have := HM.out i (by omega)
            rw [← this]
            simp [List.getD_eq_getElem?_getD, List.getElem?_set_ne (Ne.symm e)]
        · have := C.out.set j (fb (k + j)) (by have := HY.out; omega)
          unfold fb at this ⊢
          simpa using this
      case measure => simp [intOf]; omega
    · have e := Lib.hid (show j = n by omega)
      go_wp2
      go_ret
      have := e.out
      subst this
      exact ⟨rfl, hrow.out, hon.out⟩

theorem heldL_any (g o n k c : Nat) (zs : List Nat) (w : World) (hr : RowF w g o zs) (hz : zs.length = n) (hk : k + n ≤ 499) (hf : ∀ i, i < n → zs.getD i 0 = fb (k + i)) :
    Calls Try.prog 30 #[.slice (some ⟨g, o, none⟩) n c, .int .i64 k] w fun e w' => e = .returned (.int .i64 ((k + n : Nat) : Int)) ∧ w = w' := by
  have HC : Hid (∀ i, i < n → w.cell? ⟨g, o + i, none⟩ = some (.float .f32 (fb (k + i)))) := Lib.hid (fun i hi => by rw [hr.cell (by omega), hf i hi])
  clear hr hz hf
  go_enter Try.func30, Try.ntmps30
  go_wp2
  go_loop [1, 5] (fun q i => ∃ j : Nat, j ≤ n ∧ i = .int .i64 j ∧ q = .int .i64 ((k + j : Nat) : Int)) (fun _ i => n - (intOf i).toNat)
  case atStart => exact ⟨0, Nat.zero_le _, rfl, rfl⟩
  case round =>
    obtain ⟨j, hj, rfl, rfl⟩ := hrel
    by_cases hlt : j < n
    · have z0 := HC.out j hlt
      have es := fb_self (k + j) (by omega)
      have en : (FloatKind.f32.format.order (fb (k + j)) (fb (k + j)) != some .eq) = false := by simpa using es
      unfold fb at z0 es en
      rw [Int.natCast_add] at z0 es en
      have hi : (0 : Int) ≤ (j : Int) := by omega
      have hi' : (j : Int) < (n : Int) := by omega
      go_wp2
      go_round
      case rel => exact ⟨j + 1, by omega, by go_num, by go_num⟩
      case measure => simp [intOf]; omega
    · have e := Lib.hid (show j = n by omega)
      go_wp2
      go_ret
      have := e.out
      subst this
      exact ⟨rfl, rfl⟩

theorem mark_mt (a : Option Addr) (c k : Nat) (w : World) (hk : k ≤ 400) : Calls Try.prog 26 #[.slice a 0 c, .int .i64 k] w fun e w' => e = .returned (.int .i64 k) ∧ w = w' := by
  go_enter Try.func26, Try.ntmps26
  go_wp2
  go_loop [1, 5] (fun q i => i = .int .i64 0 ∧ q = .int .i64 k) (fun _ _ => 0)
  case atStart => exact ⟨rfl, rfl⟩
  case round =>
    obtain ⟨rfl, rfl⟩ := hrel
    go_wp2
    go_ret
    exact ⟨rfl, rfl⟩
theorem held_mt (a : Option Addr) (c k : Nat) (w : World) (hk : k ≤ 400) : Calls Try.prog 30 #[.slice a 0 c, .int .i64 k] w fun e w' => e = .returned (.int .i64 k) ∧ w = w' := by
  go_enter Try.func30, Try.ntmps30
  go_wp2
  go_loop [1, 5] (fun q i => i = .int .i64 0 ∧ q = .int .i64 k) (fun _ _ => 0)
  case atStart => exact ⟨rfl, rfl⟩
  case round =>
    obtain ⟨rfl, rfl⟩ := hrel
    go_wp2
    go_ret
    exact ⟨rfl, rfl⟩

/-- the value v is a slice that reads as zs and lies in a block made since h: empty, or a part of such a block -/
def ORow (h : Nat) (w : World) (v : Value) (zs : List Nat) : Prop :=
  ((∃ a c, v = .slice a 0 c) ∧ zs = []) ∨ ∃ g o c, v = .slice (some ⟨g, o, none⟩) zs.length c ∧ h ≤ g ∧ RowF w g o zs

theorem ORow.frow {h : Nat} {w : World} {v : Value} {zs : List Nat} (H : ORow h w v zs) (hm : zs.length ≤ maxLen) : FRow w v zs := by
  rcases H with H | ⟨g, o, c, rfl, _, hr⟩
  · exact .inl H
  · exact .inr ⟨g, o, c, rfl, hm, fun i hi => hr.cell hi⟩
theorem ORow.shape {h : Nat} {w : World} {v : Value} {zs : List Nat} (H : ORow h w v zs) : ∃ a cap, v = .slice a zs.length cap := by
  rcases H with ⟨⟨a, c, rfl⟩, rfl⟩ | ⟨g, o, c, rfl, _⟩
  · exact ⟨_, _, rfl⟩
  · exact ⟨_, _, rfl⟩
theorem ORow.kept {h : Nat} {w w' : World} {v : Value} {zs : List Nat} (H : ORow h w v zs) (hb : Below w.heap.size w w') : ORow h w' v zs := by
  rcases H with H | ⟨g, o, c, rfl, hg, hr⟩
  · exact .inl H
  · exact .inr ⟨g, o, c, rfl, hg, hr.of_block (hb.block g hr.lt)⟩
theorem ORow.far {h p : Nat} {w w' : World} {v : Value} {zs : List Nat} (H : ORow h w v zs) (hb : Onl p w w') (hp : p < h) : ORow h w' v zs := by
  rcases H with H | ⟨g, o, c, rfl, hg, hr⟩
  · exact .inl H
  · exact .inr ⟨g, o, c, rfl, hg, hr.of_block (hb.block g (by omega))⟩
theorem ORow.mono {h h' : Nat} {w : World} {v : Value} {zs : List Nat} (H : ORow h w v zs) (hh : h' ≤ h) : ORow h' w v zs := by
  rcases H with H | ⟨g, o, c, rfl, hg, hr⟩
  · exact .inl H
  · exact .inr ⟨g, o, c, rfl, Nat.le_trans hh hg, hr⟩
theorem ORow.nil {h : Nat} {w : World} : ORow h w (.slice none 0 0) [] := .inl ⟨⟨_, _, rfl⟩, rfl⟩
theorem Own.orow {w : World} {base : Nat} {v : Value} {zs : List Nat} (h : Own w base v zs) : ORow base w v zs := by
  obtain ⟨h1, h2⟩ := h
  rcases h2 with ⟨rfl, hn⟩ | ⟨g, cap, cur, e, hg, hc, _, _, hs, h3⟩
  · have : zs = [] := List.length_eq_zero_iff.1 hn
    subst this
    exact .nil
  · refine .inr ⟨g, 0, cap, e, hg, cur, hc, fun i hi => ?_⟩
    have : (fl zs)[i]? = some (.float .f32 (zs.getD i 0)) := by simp [fl, hi, List.getD_eq_getElem?_getD]
    rw [← h3, List.getElem?_take, if_pos (by omega)] at this
    rw [Nat.zero_add]
    simpa using this

/-- the marks 1, 2 and so on -/
def mks (n : Nat) : List Nat := (List.range n).map fun i => fb (1 + i)
theorem mks_length (n : Nat) : (mks n).length = n := by simp [mks]
theorem mks_getD (n i : Nat) (hi : i < n) : (mks n).getD i 0 = fb (1 + i) := by simp [mks, hi, List.getD_eq_getElem?_getD]
theorem mks_of {n : Nat} {ys : List Nat} (hl : ys.length = n) (h : ∀ i, i < n → ys.getD i 0 = fb (1 + i)) : ys = mks n := by
  refine List.ext_getElem (by rw [hl, mks_length]) fun i h1 h2 => ?_
  have := h i (by omega)
  simp only [mks, List.getElem_map, List.getElem_range]
  rw [← this]
  simp [List.getD_eq_getElem?_getD, h1]

theorem markO {h : Nat} {v : Value} {zs : List Nat} {w : World} (H : ORow h w v zs) (hl : zs.length ≤ 400) :
    Calls Try.prog 26 #[v, .int .i64 1] w fun e w' => e = .returned (.int .i64 ((1 + zs.length : Nat) : Int)) ∧ ORow h w' v (mks zs.length) ∧ (h ≤ w.heap.size → Below h w w') := by
  rcases H with ⟨⟨a, c, rfl⟩, rfl⟩ | ⟨g, o, c, rfl, hg, hr⟩
  · refine (mark_mt a c 1 w (by omega)).mono ?_
    rintro e w' ⟨rfl, rfl⟩
    exact ⟨rfl, .inl ⟨⟨_, _, rfl⟩, rfl⟩, fun _ => Below.refl _ _⟩
  · refine (markL_any g o zs.length 1 c zs w hr rfl (by omega) (by omega)).mono ?_
    rintro e w' ⟨rfl, ⟨ys, hy, hf, hr'⟩, hon⟩
    rw [mks_of hy hf] at hr'
    exact ⟨rfl, .inr ⟨g, o, c, by rw [mks_length], hg, hr'⟩, fun _ => hon.below hg⟩

theorem heldO {h n : Nat} {v : Value} {w : World} (H : ORow h w v (mks n)) (hl : n ≤ 400) :
    Calls Try.prog 30 #[v, .int .i64 1] w fun e w' => e = .returned (.int .i64 ((1 + n : Nat) : Int)) ∧ w = w' := by
  rcases H with ⟨⟨a, c, rfl⟩, hz⟩ | ⟨g, o, c, rfl, hg, hr⟩
  · have : n = 0 := by have := congrArg List.length hz; rw [mks_length] at this; simpa using this
    subst this
    exact held_mt a c 1 w (by omega)
  · rw [mks_length]
    exact heldL_any g o n 1 c (mks n) w hr (mks_length n) (by omega) (fun i hi => mks_getD _ _ hi)

/-- marks over a copy of an argument: only its block turns -/
theorem markX (p : Nat) (zs : List Nat) (w : World) (H : Cells w p (fl zs)) (hl : zs.length ≤ 1048576) :
    Calls Try.prog 26 #[sl p zs, .int .i64 1] w fun e w' => e = .returned (.int .i64 ((1 + zs.length : Nat) : Int)) ∧ Onl p w w' := by
  have HC : Hid (∃ ys : List Nat, ys.length = zs.length ∧ Cells w p (fl ys)) := Lib.hid ⟨zs, rfl, H⟩
  clear H
  unfold sl
  generalize zs.length = n at *
  go_enter Try.func26, Try.ntmps26
  go_wp2
  go_loopw [1, 5] (fun q i wr => ∃ j : Nat, j ≤ n ∧ i = .int .i64 j ∧ q = .int .i64 ((1 + j : Nat) : Int) ∧ Hid (∃ ys : List Nat, ys.length = n ∧ Cells wr p (fl ys)) ∧ Hid (Onl p w wr)) (fun _ i _ => n - (intOf i).toNat)
  case atStart => exact ⟨0, Nat.zero_le _, rfl, rfl, HC, Lib.hid (Onl.refl p w)⟩
  case round =>
    obtain ⟨j, hj, rfl, rfl, hrow, hon⟩ := hrel
    by_cases hlt : j < n
    · obtain ⟨ys, hy, C⟩ := hrow.out
      have hjy : j < ys.length := by omega
      have e3 : wr.cell? ⟨p, j, none⟩ = some (.float .f32 (ys.getD j 0)) := C.at j (by simp [fl, hjy, List.getD_eq_getElem?_getD])
      have e4 : wr.frozen? ⟨p, j, none⟩ = false := C.fz j
      have C := Lib.hid C
      have HY := Lib.hid hy
      clear hrow hy
      generalize ys.getD j 0 = old at *
      have hi : (0 : Int) ≤ (j : Int) := by omega
      have hi' : (j : Int) < (n : Int) := by omega
      go_wp2
      go_roundw
      case rel =>
        refine ⟨j + 1, by omega, by go_num, by go_num, Lib.hid ⟨ys.set j (floatOfInt .f32 ((1 + j : Nat) : Int)), by simpa using HY.out, ?_⟩, Lib.hid (Onl.setCell hon.out _ _)⟩
        have := C.out.set j (by simpa [fl] using hjy) (.float .f32 (floatOfInt .f32 ((1 + j : Nat) : Int)))
        rw [show fl (ys.set j (floatOfInt .f32 ((1 + j : Nat) : Int))) = (fl ys).set j (.float .f32 (floatOfInt .f32 ((1 + j : Nat) : Int))) from by simp [fl, List.map_set]]
        simpa using this
      case measure => simp [intOf]; omega
    · have e := Lib.hid (show j = n by omega)
      go_wp2
      go_ret
      have := e.out
      subst this
      exact ⟨rfl, hon.out⟩
end Go.Proofs.Ytkbdidpodcclfaa
